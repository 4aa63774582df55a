/- Stripes that are handed in: what is wrong with some, and who is in one: plain. -/
import Derived.Test.YtdbanimlnjhhlaaDoorPcB
namespace Go.Proofs.YtdbanimlnjhhlaaDoor
/-- a number is among the first l -/
def isIn (l : Nat) (f : Nat → Int) (z : Int) : Bool := anyB (fun j => decide (f j = z)) l
theorem isIn_true {l : Nat} {f : Nat → Int} {z : Int} : isIn l f z = true ↔ ∃ j, j < l ∧ f j = z := by
  unfold isIn
  rw [anyB_true]
  constructor
  · rintro ⟨j, hj, e⟩; exact ⟨j, hj, of_decide_eq_true e⟩
  · rintro ⟨j, hj, e⟩; exact ⟨j, hj, decide_eq_true e⟩
theorem isIn_false {l : Nat} {f : Nat → Int} {z : Int} : isIn l f z = false ↔ ∀ j, j < l → f j ≠ z := by
  unfold isIn
  rw [anyB_false]
  constructor
  · intro h j hj; exact of_decide_eq_false (h j hj)
  · intro h j hj; exact decide_eq_false (h j hj)
theorem isIn_congr {l : Nat} {f g : Nat → Int} (h : ∀ j, j < l → f j = g j) (z : Int) : isIn l f z = isIn l g z := by
  rw [Bool.eq_iff_iff, isIn_true, isIn_true]
  constructor
  · rintro ⟨j, hj, e⟩; exact ⟨j, hj, by rw [← h j hj]; exact e⟩
  · rintro ⟨j, hj, e⟩; exact ⟨j, hj, by rw [h j hj]; exact e⟩
theorem isIn_succ (k : Nat) (f : Nat → Int) (z : Int) : isIn (k + 1) f z = (isIn k f z || decide (f k = z)) := by
  rw [Bool.eq_iff_iff, Bool.or_eq_true, isIn_true, isIn_true, decide_eq_true_iff]
  constructor
  · rintro ⟨j, hj, e⟩
    by_cases q : j = k
    · rw [q] at e; exact .inr e
    · exact .inl ⟨j, by omega, e⟩
  · rintro (⟨j, hj, e⟩ | e)
    · exact ⟨j, by omega, e⟩
    · exact ⟨k, by omega, e⟩
/-- one has a disk that is none of n; one has a disk twice -/
def noDk (n z : Int) : Bool := decide (z < 0) || decide (n ≤ z)
def badR (n : Int) (l : Nat) (f : Nat → Int) : Bool := anyB (fun j => noDk n (f j)) l
def badT (l : Nat) (f : Nat → Int) : Bool := anyB (fun k => isIn k f (f k)) l
def rowE (n : Int) (l : Nat) (f : Nat → Int) : Nat := if badR n l f = true then 1 else if badT l f = true then 7 else 0
theorem noDk_false {n z : Int} : noDk n z = false ↔ 0 ≤ z ∧ z < n := by
  unfold noDk
  rw [Bool.or_eq_false_iff, decide_eq_false_iff_not, decide_eq_false_iff_not]
  omega
theorem noDk_true {n z : Int} : noDk n z = true ↔ z < 0 ∨ n ≤ z := by
  unfold noDk
  rw [Bool.or_eq_true, decide_eq_true_iff, decide_eq_true_iff]
theorem badR_false {n : Int} {l : Nat} {f : Nat → Int} : badR n l f = false ↔ ∀ j, j < l → 0 ≤ f j ∧ f j < n := by
  unfold badR
  rw [anyB_false]
  constructor
  · intro h j hj; exact noDk_false.1 (h j hj)
  · intro h j hj; exact noDk_false.2 (h j hj)
theorem badT_false {l : Nat} {f : Nat → Int} : badT l f = false ↔ ∀ k, k < l → ∀ j, j < k → f j ≠ f k := by
  unfold badT
  rw [anyB_false]
  constructor
  · intro h j hj; exact isIn_false.1 (h j hj)
  · intro h j hj; exact isIn_false.2 (h j hj)
/-- the row is right -/
structure RowOk (n : Int) (l : Nat) (f : Nat → Int) : Prop where
  lo : ∀ j, j < l → 0 ≤ f j
  hi : ∀ j, j < l → f j < n
  one : ∀ k, k < l → ∀ j, j < k → f j ≠ f k
theorem rowE_zero {n : Int} {l : Nat} {f : Nat → Int} : rowE n l f = 0 ↔ RowOk n l f := by
  unfold rowE
  constructor
  · intro h
    by_cases h1 : badR n l f = true
    · rw [if_pos h1] at h; omega
    · rw [if_neg h1] at h
      by_cases h2 : badT l f = true
      · rw [if_pos h2] at h; omega
      · have h1' : badR n l f = false := by simpa using h1
        have h2' : badT l f = false := by simpa using h2
        exact ⟨fun j hj => (badR_false.1 h1' j hj).1, fun j hj => (badR_false.1 h1' j hj).2, badT_false.1 h2'⟩
  · intro h
    rw [badR_false.2 (fun j hj => ⟨h.lo j hj, h.hi j hj⟩), badT_false.2 h.one, if_neg Bool.false_ne_true, if_neg Bool.false_ne_true]
theorem rowE_range {n : Int} {l : Nat} {f : Nat → Int} (h : badR n l f = true) : rowE n l f = 1 := if_pos h
theorem rowE_clash {n : Int} {l : Nat} {f : Nat → Int} (h : badR n l f = false) (k : badT l f = true) : rowE n l f = 7 := by
  unfold rowE
  rw [h, if_neg Bool.false_ne_true, if_pos k]
/-- the first fault -/
def fstE (g : Nat → Nat) : Nat → Nat
  | 0 => 0
  | m + 1 => if fstE g m = 0 then g m else fstE g m
theorem fstE_zero {g : Nat → Nat} : ∀ {m}, fstE g m = 0 ↔ ∀ i, i < m → g i = 0
  | 0 => ⟨fun _ i hi => absurd hi (Nat.not_lt_zero _), fun _ => rfl⟩
  | m + 1 => by
    have ih := fstE_zero (g := g) (m := m)
    show (if fstE g m = 0 then g m else fstE g m) = 0 ↔ _
    constructor
    · intro h i hi
      by_cases e : fstE g m = 0
      · rw [if_pos e] at h
        by_cases q : i = m
        · rw [q]; exact h
        · exact ih.1 e i (by omega)
      · rw [if_neg e] at h; exact absurd h e
    · intro h
      rw [if_pos (ih.2 (fun i hi => h i (by omega)))]
      exact h m (by omega)
theorem fstE_at {g : Nat → Nat} {k : Nat} (h1 : ∀ i, i < k → g i = 0) (h2 : g k ≠ 0) : ∀ m, k < m → fstE g m = g k
  | 0, h => absurd h (Nat.not_lt_zero _)
  | m + 1, h => by
    show (if fstE g m = 0 then g m else fstE g m) = g k
    by_cases e : k = m
    · rw [if_pos (fstE_zero.2 (by rw [← e]; exact h1)), e]
    · have := fstE_at h1 h2 m (by omega)
      rw [if_neg (by rw [this]; exact h2), this]
/-- what is wrong with m stripes on n disks -/
def stE (n : Int) (m : Nat) (L : Nat → Nat) (F : Nat → Nat → Int) : Nat :=
  if n < 1 ∨ 10 < n then 1 else if 40 < m then 4 else fstE (fun i => rowE n (L i) (F i)) m
structure StOk (n : Int) (m : Nat) (L : Nat → Nat) (F : Nat → Nat → Int) : Prop where
  n1 : 1 ≤ n
  n2 : n ≤ 10
  m1 : m ≤ 40
  row : ∀ i, i < m → RowOk n (L i) (F i)
theorem stE_zero {n : Int} {m : Nat} {L : Nat → Nat} {F : Nat → Nat → Int} : stE n m L F = 0 ↔ StOk n m L F := by
  unfold stE
  constructor
  · intro h
    by_cases h1 : n < 1 ∨ 10 < n
    · rw [if_pos h1] at h; omega
    · rw [if_neg h1] at h
      by_cases h2 : 40 < m
      · rw [if_pos h2] at h; omega
      · rw [if_neg h2, fstE_zero] at h
        exact ⟨by omega, by omega, by omega, fun i hi => rowE_zero.1 (h i hi)⟩
  · intro h
    have := h.n1
    have := h.n2
    have := h.m1
    rw [if_neg (by omega), if_neg (by omega), fstE_zero]
    exact fun i hi => rowE_zero.2 (h.row i hi)
/-- who is in which stripe -/
def hsI (L : Nat → Nat) (F : Nat → Nat → Int) (i d : Nat) : Bool := isIn (L i) (F i) (d : Int)
/-- one stripe more counted, its first k -/
def ctd (f : Nat → Nat) (k : Nat) (g : Nat → Int) (d : Nat) : Nat := f d + if isIn k g (d : Int) = true then 1 else 0
theorem ctd_zero (f : Nat → Nat) (g : Nat → Int) (d : Nat) : ctd f 0 g d = f d := by
  unfold ctd
  rw [isIn_false.2 (fun j hj => absurd hj (Nat.not_lt_zero _)), if_neg Bool.false_ne_true, Nat.add_zero]
theorem ctd_succ {f : Nat → Nat} {k l e : Nat} {g : Nat → Int} {n : Int} (h : RowOk n l g) (hk : k < l) (he : g k = (e : Int)) (d : Nat) : ctd f (k + 1) g d = up (ctd f k g) e (ctd f k g e + 1) d := by
  unfold up
  by_cases q : d = e
  · rw [if_pos q, q]
    unfold ctd
    rw [isIn_true.2 ⟨k, by omega, he⟩, isIn_false.2 (fun j hj => by rw [← he]; exact h.one k hk j hj), if_pos rfl, if_neg Bool.false_ne_true]
  · rw [if_neg q]
    unfold ctd
    have : isIn (k + 1) g (d : Int) = isIn k g (d : Int) := by
      rw [Bool.eq_iff_iff, isIn_true, isIn_true]
      constructor
      · rintro ⟨j, hj, ej⟩
        by_cases z : j = k
        · rw [z, he] at ej; omega
        · exact ⟨j, by omega, ej⟩
      · rintro ⟨j, hj, ej⟩
        exact ⟨j, by omega, ej⟩
    rw [this]
theorem ctd_le (f : Nat → Nat) (k : Nat) (g : Nat → Int) (d : Nat) : ctd f k g d ≤ f d + 1 := by
  unfold ctd
  split <;> omega
/-- counted stripe by stripe -/
theorem lds_zero (has : Nat → Nat → Bool) (d : Nat) : lds has 0 d = 0 := rfl
theorem lds_succ (L : Nat → Nat) (F : Nat → Nat → Int) (m d : Nat) : lds (hsI L F) (m + 1) d = ctd (lds (hsI L F) m) (L m) (F m) d := rfl
/-- counted where the disk d is too -/
def bth (has : Nat → Nat → Bool) (m d e : Nat) : Nat := cn (fun i => has i d && has i e) m
theorem bth_yes {L : Nat → Nat} {F : Nat → Nat → Int} {m d : Nat} (h : hsI L F m d = true) (e : Nat) : bth (hsI L F) (m + 1) d e = ctd (bth (hsI L F) m d) (L m) (F m) e := by
  show cn _ m + (if (hsI L F m d && hsI L F m e) = true then 1 else 0) = _
  rw [h, Bool.true_and]
  rfl
theorem bth_no {L : Nat → Nat} {F : Nat → Nat → Int} {m d : Nat} (h : hsI L F m d = false) (e : Nat) : bth (hsI L F) (m + 1) d e = bth (hsI L F) m d e := by
  show cn _ m + (if (hsI L F m d && hsI L F m e) = true then 1 else 0) = _
  rw [h, Bool.false_and, if_neg Bool.false_ne_true]
  rfl
theorem prs_up (has : Nat → Nat → Bool) (m d e : Nat) : up (bth has m d) d 0 e = prs has m d e := rfl
theorem bth_le (has : Nat → Nat → Bool) (m d e : Nat) : bth has m d e ≤ m := cn_le _ _
theorem lds_le (has : Nat → Nat → Bool) (m d : Nat) : lds has m d ≤ m := cn_le _ _
theorem prs_le (has : Nat → Nat → Bool) (m d e : Nat) : prs has m d e ≤ m := by
  unfold prs
  split
  · omega
  · exact cn_le _ _
/-- who is hurt -/
def hrt (has : Nat → Nat → Bool) (m d : Nat) : List Nat := (List.range m).filter (fun i => has i d)
theorem hrt_succ (has : Nat → Nat → Bool) (m d : Nat) : hrt has (m + 1) d = hrt has m d ++ if has m d = true then [m] else [] := by
  unfold hrt
  rw [List.range_succ, List.filter_append]
  congr 1
  by_cases e : has m d = true
  · simp [e]
  · simp [e]
theorem hrt_len (has : Nat → Nat → Bool) (m d : Nat) : (hrt has m d).length = lds has m d := cn_filter _ _
/-- numbers that rise, and the same ones -/
theorem rise_same : ∀ {a b : List Nat}, a.Pairwise (· < ·) → b.Pairwise (· < ·) → (∀ x, x ∈ a ↔ x ∈ b) → a = b
  | [], [], _, _, _ => rfl
  | [], y :: b, _, _, h => by have := (h y).2 (by simp); simp at this
  | x :: a, [], _, _, h => by have := (h x).1 (by simp); simp at this
  | x :: a, y :: b, ha, hb, h => by
    rw [List.pairwise_cons] at ha hb
    have hxy : x = y := by
      have h1 := (h x).1 (by simp)
      have h2 := (h y).2 (by simp)
      rw [List.mem_cons] at h1 h2
      rcases h1 with h1 | h1
      · exact h1
      · rcases h2 with h2 | h2
        · exact h2.symm
        · have := ha.1 _ h2
          have := hb.1 _ h1
          omega
    subst hxy
    rw [rise_same ha.2 hb.2 (fun z => ?_)]
    constructor
    · intro hz
      have h1 := (h z).1 (by simp [hz])
      rw [List.mem_cons] at h1
      rcases h1 with h1 | h1
      · have := ha.1 _ hz; omega
      · exact h1
    · intro hz
      have h1 := (h z).2 (by simp [hz])
      rw [List.mem_cons] at h1
      rcases h1 with h1 | h1
      · have := hb.1 _ hz; omega
      · exact h1
theorem rise_range : ∀ n, (List.range n).Pairwise (· < ·)
  | 0 => List.Pairwise.nil
  | n + 1 => by
    rw [List.range_succ, List.pairwise_append]
    refine ⟨rise_range n, List.pairwise_singleton _ _, fun a ha b hb => ?_⟩
    have h1 := List.mem_range.1 ha
    have h2 : b = n := by simpa using hb
    omega
theorem rise_map {g : Nat → Nat} : ∀ n, (∀ p q, p < q → q < n → g p < g q) → ((List.range n).map g).Pairwise (· < ·)
  | 0, _ => List.Pairwise.nil
  | n + 1, h => by
    rw [List.range_succ, List.map_append, List.pairwise_append]
    refine ⟨rise_map n (fun p q h1 h2 => h p q h1 (by omega)), List.pairwise_singleton _ _, fun a ha b hb => ?_⟩
    obtain ⟨i, hi, rfl⟩ := List.mem_map.1 ha
    have h2 : b = g n := by simpa using hb
    rw [h2]
    exact h i n (List.mem_range.1 hi) (by omega)
theorem rise_strp (n w s : Nat) : (strp n w s).Pairwise (· < ·) := (rise_range n).filter _
/-- stripes that were placed are right, and who is in them -/
theorem getD_mem {l : List Nat} {j : Nat} (h : j < l.length) : l.getD j 0 ∈ l := by
  rw [List.getD_eq_getElem?_getD, List.getElem?_eq_getElem h]
  exact List.getElem_mem h
theorem rise_getD {l : List Nat} (h : l.Pairwise (· < ·)) {j k : Nat} (hj : j < k) (hk : k < l.length) : l.getD j 0 < l.getD k 0 := by
  rw [List.getD_eq_getElem?_getD, List.getD_eq_getElem?_getD, List.getElem?_eq_getElem hk, List.getElem?_eq_getElem (by omega)]
  exact List.pairwise_iff_getElem.1 h j k (by omega) hk hj
/-- the stripes that were placed, as rows -/
def plF (n w i j : Nat) : Int := (((strp n w i).getD j 0 : Nat) : Int)
theorem placed_row {n w i : Nat} (hw : w ≤ n) {N : Int} (hN : (n : Int) ≤ N) : RowOk N w (plF n w i) := by
  have hl := strp_len hw i
  refine ⟨fun j _ => by unfold plF; omega, fun j hj => ?_, fun k hk j hj => ?_⟩
  · have := (strp_mem.1 (getD_mem (l := strp n w i) (j := j) (by omega))).1
    unfold plF
    omega
  · have := rise_getD (rise_strp n w i) hj (by omega)
    unfold plF
    omega
theorem placed_has {n w : Nat} (hw : w ≤ n) (i d : Nat) : hsI (fun _ => w) (plF n w) i d = (decide (d < n) && tkn (ld n w i) n w d) := by
  have hl := strp_len hw i
  show isIn w (plF n w i) (d : Int) = _
  rw [Bool.eq_iff_iff, isIn_true, Bool.and_eq_true, decide_eq_true_iff, ← strp_mem]
  constructor
  · rintro ⟨j, hj, e⟩
    have := getD_mem (l := strp n w i) (j := j) (by omega)
    unfold plF at e
    rw [show (strp n w i).getD j 0 = d by omega] at this
    exact this
  · intro h
    obtain ⟨j, hj, e⟩ := List.getElem_of_mem h
    refine ⟨j, by omega, ?_⟩
    unfold plF
    rw [List.getD_eq_getElem?_getD, List.getElem?_eq_getElem hj]
    show ((strp n w i)[j] : Int) = _
    rw [e]
theorem placed_ok {n w m : Nat} (h1 : 1 ≤ n) (h2 : n ≤ 10) (hw : w ≤ n) (hm : m ≤ 40) {N : Int} (hN : (n : Int) ≤ N) (hN2 : N ≤ 10) : StOk N m (fun _ => w) (plF n w) :=
  ⟨by omega, hN2, hm, fun _ _ => placed_row hw hN⟩
end Go.Proofs.YtdbanimlnjhhlaaDoor
