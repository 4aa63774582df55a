/- A row as bytes, plainly: bytes that end with their sum; with one byte another one they are none; what is packed, how long it is, and that it is of one row alone. -/
import Derived.Test.YtdbanimlnjhhlaaDoorWrA
namespace Go.Proofs.YtdbanimlnjhhlaaDoor
def wb (k : Nat) : El := Fin.ofNat 256 k
theorem wb_val {k : Nat} (h : k < 256) : (wb k).val = k := by show k % 256 = k; omega
/-- a sum as two bytes -/
def wtl (s : Nat) : List El := [wb (s / 256), wb (s % 256)]
theorem wtl_inj {s t : Nat} (hs : s < 65536) (ht : t < 65536) (h : wtl s = wtl t) : s = t := by
  unfold wtl at h
  simp only [List.cons.injEq, and_true] at h
  have h1 := congrArg Fin.val h.1
  have h2 := congrArg Fin.val h.2
  rw [wb_val (by omega), wb_val (by omega)] at h1 h2
  omega
/-- bytes that end with their sum -/
def Pkd (t : List El) : Prop := 2 ≤ t.length ∧ t.drop (t.length - 2) = wtl (wsum (t.take (t.length - 2)))
theorem pkd_of (s : List El) : Pkd (s ++ wtl (wsum s)) := by
  have hl : (s ++ wtl (wsum s)).length - 2 = s.length := by simp [wtl]
  refine ⟨by simp [wtl], ?_⟩
  rw [hl, List.drop_left, List.take_left]
/-- of one byte that is not known there is one alone -/
theorem pkd_one {a b : List El} {y z : El} (hy : Pkd (a ++ y :: b)) (hz : Pkd (a ++ z :: b)) : y = z := by
  obtain ⟨h2, hy⟩ := hy
  obtain ⟨_, hz⟩ := hz
  have hl : ∀ u : El, (a ++ u :: b).length - 2 = a.length + b.length + 1 - 2 := fun u => by rw [List.length_append, List.length_cons]; omega
  rw [hl] at hy hz
  have h2' : 2 ≤ a.length + b.length + 1 := by rw [List.length_append, List.length_cons] at h2; omega
  by_cases q : 2 ≤ b.length
  · have ed : ∀ u : El, (a ++ u :: b).drop (a.length + b.length + 1 - 2) = b.drop (b.length - 2) := fun u => by
      rw [show a.length + b.length + 1 - 2 = a.length + (1 + (b.length - 2)) by omega, ← List.drop_drop, List.drop_left, Nat.add_comm 1, List.drop_succ_cons]
    have et : ∀ u : El, (a ++ u :: b).take (a.length + b.length + 1 - 2) = a ++ u :: b.take (b.length - 2) := fun u => by
      rw [show a.length + b.length + 1 - 2 = a.length + (b.length - 2 + 1) by omega, List.take_length_add_append, List.take_succ_cons]
    rw [ed, et] at hy hz
    rw [hy] at hz
    exact wsum_inj (wtl_inj (by have := wsum_lt (a ++ y :: b.take (b.length - 2)); omega) (by have := wsum_lt (a ++ z :: b.take (b.length - 2)); omega) hz)
  · have et : ∀ u : El, (a ++ u :: b).take (a.length + b.length + 1 - 2) = a.take (a.length + b.length + 1 - 2) := fun u => List.take_append_of_le_length (by omega)
    rw [et] at hy hz
    rw [← hz] at hy
    have h3 := congrArg (fun l => (a.take (a.length + b.length + 1 - 2)) ++ l) hy
    rw [← et y, List.take_append_drop, et y, ← et z, List.take_append_drop] at h3
    have h4 := List.append_cancel_left h3
    simp only [List.cons.injEq, and_true] at h4
    exact h4
/-- parts one behind the other -/
def wfl (f : Nat → List El) (k : Nat) : List El := (List.range k).flatMap f
theorem wfl_succ (f : Nat → List El) (k : Nat) : wfl f (k + 1) = wfl f k ++ f k := by
  unfold wfl
  rw [List.range_succ, List.flatMap_append]
  simp
theorem wfl_len {f : Nat → List El} {z : Nat} : ∀ {k}, (∀ i, i < k → (f i).length = z) → (wfl f k).length = k * z
  | 0, _ => by simp [wfl]
  | k + 1, h => by
    rw [wfl_succ, List.length_append, wfl_len (fun i hi => h i (by omega)), h k (by omega), Nat.add_mul, Nat.one_mul]
theorem wfl_inj {f g : Nat → List El} {z : Nat} : ∀ {k}, (∀ i, i < k → (f i).length = z) → (∀ i, i < k → (g i).length = z) → wfl f k = wfl g k → ∀ i, i < k → f i = g i
  | 0, _, _, _, _, hi => absurd hi (Nat.not_lt_zero _)
  | k + 1, hf, hg, h, i, hi => by
    rw [wfl_succ, wfl_succ] at h
    have hl : (wfl f k).length = (wfl g k).length := by rw [wfl_len (fun i hi => hf i (by omega)), wfl_len (fun i hi => hg i (by omega))]
    obtain ⟨h1, h2⟩ := List.append_inj h hl
    by_cases e : i = k
    · rw [e]; exact h2
    · exact wfl_inj (fun i hi => hf i (by omega)) (fun i hi => hg i (by omega)) h1 i (by omega)
/-- how long each part is -/
def wsz (f : Nat → List El) (k : Nat) : Nat := if k = 0 then 0 else (f 0).length
/-- a row that is right -/
structure WOk (row k : Nat) (f : Nat → List El) : Prop where
  row : row < 20
  many : k ≤ 12
  one : ∀ i, i < k → (f i).length = wsz f k
  short : wsz f k ≤ 16
def wbody (row k : Nat) (f : Nat → List El) : List El := wb row :: wb k :: wb (wsz f k) :: wfl f k
def wpack (row k : Nat) (f : Nat → List El) : List El := wbody row k f ++ wtl (wsum (wbody row k f))
theorem wpack_len {row k : Nat} {f : Nat → List El} (h : WOk row k f) : (wpack row k f).length = 5 + k * wsz f k := by
  unfold wpack wbody
  rw [List.length_append]
  simp only [List.length_cons]
  rw [wfl_len h.one]
  show k * wsz f k + 1 + 1 + 1 + 2 = _
  omega
theorem wpack_pkd (row k : Nat) (f : Nat → List El) : Pkd (wpack row k f) := pkd_of _
/-- it is of one row alone -/
theorem wpack_inj {row k row' k' : Nat} {f f' : Nat → List El} (h : WOk row k f) (h' : WOk row' k' f') (e : wpack row k f = wpack row' k' f') : row = row' ∧ k = k' ∧ wsz f k = wsz f' k' ∧ ∀ i, i < k → f i = f' i := by
  unfold wpack wbody at e
  simp only [List.cons_append, List.cons.injEq] at e
  obtain ⟨e1, e2, e3, e4⟩ := e
  have r1 := congrArg Fin.val e1
  have r2 := congrArg Fin.val e2
  have r3 := congrArg Fin.val e3
  have := h.row
  have := h'.row
  have := h.many
  have := h'.many
  have := h.short
  have := h'.short
  rw [wb_val (by omega), wb_val (by omega)] at r1 r2 r3
  subst r2
  have hl : (wfl f k).length = (wfl f' k).length := by rw [wfl_len h.one, wfl_len h'.one, r3]
  exact ⟨r1, rfl, r3, wfl_inj h.one (by rw [r3]; exact h'.one) (List.append_inj e4 hl).1⟩
end Go.Proofs.YtdbanimlnjhhlaaDoor
