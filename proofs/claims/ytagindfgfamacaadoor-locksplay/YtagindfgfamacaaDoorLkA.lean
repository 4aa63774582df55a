/- Locks, plainly: who is at odds with whom, who is held and who waits; what is asked and freed. -/
import Derived.Test.YtagindfgfamacaaDoorGen
namespace Go.Proofs.YtagindfgfamacaaDoor
/-- a lock -/
structure Lk where
  who : Int
  fr : Int
  to : Int
  al : Bool
/-- two are at odds -/
def odd (a b : Lk) : Bool := (a.al || b.al) && (decide (a.fr < b.to) && decide (b.fr < a.to))
theorem odd_comm (a b : Lk) : odd a b = odd b a := by
  unfold odd
  rw [Bool.or_comm, Bool.and_comm (decide (a.fr < b.to))]
/-- at odds with one of some -/
def oddL (l : List Lk) (x : Lk) : Bool := l.any (fun y => odd y x)
theorem oddL_true {l : List Lk} {x : Lk} : oddL l x = true ↔ ∃ y, y ∈ l ∧ odd y x = true := by simp [oddL]
theorem oddL_false {l : List Lk} {x : Lk} : oddL l x = false ↔ ∀ y, y ∈ l → odd y x = false := by simp [oddL]
/-- one of a Who among them -/
def hasW (l : List Lk) (w : Int) : Bool := l.any (fun y => decide (y.who = w))
theorem hasW_true {l : List Lk} {w : Int} : hasW l w = true ↔ ∃ y, y ∈ l ∧ y.who = w := by simp [hasW]
theorem hasW_false {l : List Lk} {w : Int} : hasW l w = false ↔ ∀ y, y ∈ l → y.who ≠ w := by simp [hasW]
structure Lks where
  h : List Lk
  w : List Lk
namespace Lks
def bad (x : Lk) : Bool := decide (x.who < 1) || (decide (1000 < x.who) || (decide (x.fr < 0) || (decide (x.to ≤ x.fr) || decide (40 < x.to))))
def askE (t : Lks) (x : Lk) : Nat := if bad x = true then 1 else if (hasW t.h x.who || hasW t.w x.who) = true then 7 else if 30 ≤ t.h.length + t.w.length then 4 else 0
/-- nothing is at odds with it -/
def free' (t : Lks) (x : Lk) : Bool := !oddL t.h x && !oddL t.w x
/-- it is held, or it waits, behind all -/
def add (t : Lks) (x : Lk) : Lks := if t.free' x = true then ⟨t.h ++ [x], t.w⟩ else ⟨t.h, t.w ++ [x]⟩
def ask (t : Lks) (x : Lk) : Lks := if t.askE x = 0 then t.add x else t
def askB (t : Lks) (x : Lk) : Bool := decide (t.askE x = 0) && t.free' x
def drop (l : List Lk) (w : Int) : List Lk := l.filter (fun y => decide (y.who ≠ w))
def freeE (t : Lks) (w : Int) : Nat := if (hasW t.h w || hasW t.w w) = true then 0 else 5
/-- one by one, in order -/
def go : Lks → List Lk → Lks
  | t, [] => t
  | t, x :: l => go (t.add x) l
def goW : Lks → List Lk → List Int
  | _, [] => []
  | t, x :: l => (if t.free' x = true then [x.who] else []) ++ goW (t.add x) l
def free (t : Lks) (w : Int) : Lks := if t.freeE w = 0 then go ⟨drop t.h w, []⟩ (drop t.w w) else t
def freeW (t : Lks) (w : Int) : List Int := if t.freeE w = 0 then goW ⟨drop t.h w, []⟩ (drop t.w w) else []
def none : Lks := ⟨[], []⟩
def many (t : Lks) : Nat := t.h.length + t.w.length
/-- no two that are held are at odds, and who waits has a reason -/
structure fair (t : Lks) : Prop where
  held : ∀ i (hi : i < t.h.length) j (hj : j < i), odd (t.h[i]) (t.h[j]'(by omega)) = false
  waits : ∀ i (hi : i < t.w.length), (∃ y, y ∈ t.h ∧ odd y (t.w[i]) = true) ∨ ∃ j, ∃ hj : j < i, odd (t.w[j]'(by omega)) (t.w[i]) = true
theorem fair_none : none.fair := ⟨fun _ hi => absurd hi (Nat.not_lt_zero _), fun _ hi => absurd hi (Nat.not_lt_zero _)⟩
theorem add_many (t : Lks) (x : Lk) : (t.add x).many = t.many + 1 := by
  unfold add many
  split <;> simp <;> omega
theorem fair.add {t : Lks} (h : t.fair) (x : Lk) : (t.add x).fair := by
  unfold Lks.add
  split
  · rename_i hf
    unfold free' at hf
    rw [Bool.and_eq_true, Bool.not_eq_true', Bool.not_eq_true'] at hf
    refine ⟨fun i hi j hj => ?_, fun i hi => ?_⟩
    · simp only [List.length_append, List.length_cons, List.length_nil] at hi
      have ej : (t.h ++ [x])[j]'(by simp; omega) = t.h[j]'(by omega) := List.getElem_append_left (by omega)
      show odd ((t.h ++ [x])[i]) ((t.h ++ [x])[j]'(by simp; omega)) = false
      rw [ej]
      by_cases e : i = t.h.length
      · subst e
        rw [List.getElem_concat_length rfl, odd_comm]
        exact oddL_false.1 hf.1 _ (List.getElem_mem _)
      · rw [List.getElem_append_left (by omega)]
        exact h.held i (by omega) j hj
    · rcases h.waits i hi with ⟨y, hy, q⟩ | q
      · exact .inl ⟨y, List.mem_append_left _ hy, q⟩
      · exact .inr q
  · rename_i hf
    refine ⟨h.held, fun i hi => ?_⟩
    simp only [List.length_append, List.length_cons, List.length_nil] at hi
    by_cases e : i = t.w.length
    · subst e
      have ex : (t.w ++ [x])[t.w.length]'(by simp) = x := List.getElem_concat_length rfl _
      show (∃ y, y ∈ t.h ∧ odd y ((t.w ++ [x])[t.w.length]'(by simp)) = true) ∨ ∃ j, ∃ hj : j < t.w.length, odd ((t.w ++ [x])[j]'(by simp; omega)) ((t.w ++ [x])[t.w.length]'(by simp)) = true
      rw [ex]
      unfold free' at hf
      by_cases q : oddL t.h x = true
      · exact .inl (oddL_true.1 q)
      · have q2 : oddL t.w x = true := by
          cases hw : oddL t.w x
          · exfalso
            apply hf
            rw [hw]
            simp at q
            rw [q]
            rfl
          · rfl
        obtain ⟨y, hy, q3⟩ := oddL_true.1 q2
        obtain ⟨j, hj, rfl⟩ := List.getElem_of_mem hy
        exact .inr ⟨j, hj, by rw [List.getElem_append_left hj]; exact q3⟩
    · have ei : (t.w ++ [x])[i]'(by simp; omega) = t.w[i]'(by omega) := List.getElem_append_left (by omega)
      show (∃ y, y ∈ t.h ∧ odd y ((t.w ++ [x])[i]'(by simp; omega)) = true) ∨ ∃ j, ∃ hj : j < i, odd ((t.w ++ [x])[j]'(by simp; omega)) ((t.w ++ [x])[i]'(by simp; omega)) = true
      rw [ei]
      rcases h.waits i (by omega) with q | ⟨j, hj, q⟩
      · exact .inl q
      · exact .inr ⟨j, hj, by rw [List.getElem_append_left (by omega)]; exact q⟩
theorem fair.go {l : List Lk} : ∀ {t : Lks}, t.fair → (Lks.go t l).fair := by
  induction l with
  | nil => exact fun h => h
  | cons x l ih => exact fun h => ih (h.add x)
theorem go_many : ∀ (l : List Lk) (t : Lks), (go t l).many = t.many + l.length
  | [], t => rfl
  | x :: l, t => by
    show (go (t.add x) l).many = _
    rw [go_many l, add_many, List.length_cons]
    omega
theorem fair.ask {t : Lks} (h : t.fair) (x : Lk) : (t.ask x).fair := by
  unfold Lks.ask
  split
  · exact h.add x
  · exact h
/-- those of a row of which no two are at odds, without some -/
theorem held_drop : ∀ {l : List Lk}, l.Pairwise (fun a b => odd b a = false) → ∀ w, (drop l w).Pairwise (fun a b => odd b a = false) := fun h _ => h.filter _
theorem fair.pair {t : Lks} (h : t.fair) : t.h.Pairwise (fun a b => odd b a = false) := List.pairwise_iff_getElem.2 (fun i j _ hj hij => h.held j hj i hij)
theorem fair.free {t : Lks} (h : t.fair) (w : Int) : (t.free w).fair := by
  unfold Lks.free
  split
  · refine fair.go ⟨fun i hi j hj => ?_, fun i hi => absurd hi (Nat.not_lt_zero _)⟩
    exact List.pairwise_iff_getElem.1 (held_drop h.pair w) j i (by show j < (Lks.drop t.h w).length; have : i < (Lks.drop t.h w).length := hi; omega) hi hj
  · exact h
/-- nobody waits, if none is held -/
theorem fair.last {t : Lks} (h : t.fair) (h0 : t.h = []) : t.w = [] := by
  cases hw : t.w with
  | nil => rfl
  | cons x l =>
    exfalso
    rcases h.waits 0 (by rw [hw]; simp) with ⟨y, hy, _⟩ | ⟨j, hj, _⟩
    · rw [h0] at hy; simp at hy
    · omega
theorem drop_le (l : List Lk) (w : Int) : (drop l w).length ≤ l.length := List.length_filter_le _ _
theorem drop_lt {l : List Lk} {w : Int} (h : hasW l w = true) : (drop l w).length < l.length := by
  obtain ⟨y, hy, e⟩ := hasW_true.1 h
  unfold drop
  exact List.length_filter_lt_length_iff_exists.2 ⟨y, hy, by simp [e]⟩
theorem free_many (t : Lks) (w : Int) : (t.free w).many ≤ t.many := by
  unfold free
  split
  · rw [go_many]
    show (drop t.h w).length + 0 + (drop t.w w).length ≤ t.h.length + t.w.length
    have := drop_le t.h w
    have := drop_le t.w w
    omega
  · exact Nat.le_refl _
theorem free_fewer {t : Lks} {w : Int} (h : t.freeE w = 0) : (t.free w).many < t.many := by
  have h2 := h
  unfold freeE at h2
  unfold free
  rw [if_pos h, go_many]
  show (drop t.h w).length + 0 + (drop t.w w).length < t.h.length + t.w.length
  have := drop_le t.h w
  have := drop_le t.w w
  by_cases q : (hasW t.h w || hasW t.w w) = true
  · rw [Bool.or_eq_true] at q
    rcases q with q | q
    · have := drop_lt q; omega
    · have := drop_lt q; omega
  · rw [if_neg q] at h2; omega
theorem ask_many (t : Lks) (x : Lk) (h : t.many ≤ 30) : (t.ask x).many ≤ 30 := by
  unfold ask
  split
  · rename_i he
    unfold askE at he
    rw [add_many]
    by_cases q : 30 ≤ t.h.length + t.w.length
    · split at he
      · omega
      · split at he
        · omega
        · omega
    · unfold many; omega
  · exact h
end Lks
end Go.Proofs.YtagindfgfamacaaDoor
