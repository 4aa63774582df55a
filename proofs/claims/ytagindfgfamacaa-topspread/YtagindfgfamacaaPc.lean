/- Texts of plain mathematics, of memory and of walks, in one. -/
import Derived.Test.YtagindfgfamacaaGe
/- On which disks: so many of a list, and in which order: plain. -/
namespace Go.Proofs.Ytagindfgfamacaa
/-- how many of n are so -/
def cn (p : Nat → Bool) : Nat → Nat
  | 0 => 0
  | n + 1 => cn p n + if p n = true then 1 else 0
theorem cn_le (p : Nat → Bool) : ∀ n, cn p n ≤ n
  | 0 => Nat.le_refl _
  | n + 1 => by
    have := cn_le p n
    unfold cn
    split <;> omega
theorem cn_congr {p q : Nat → Bool} : ∀ {n}, (∀ i, i < n → p i = q i) → cn p n = cn q n
  | 0, _ => rfl
  | n + 1, h => by
    unfold cn
    rw [cn_congr (fun i hi => h i (by omega)), h n (by omega)]
theorem cn_mono {p q : Nat → Bool} : ∀ {n}, (∀ i, i < n → p i = true → q i = true) → cn p n ≤ cn q n
  | 0, _ => Nat.le_refl _
  | n + 1, h => by
    have := cn_mono (fun i hi => h i (by omega) : ∀ i, i < n → p i = true → q i = true)
    have h2 := h n (by omega)
    unfold cn
    by_cases e : p n = true
    · rw [if_pos e, if_pos (h2 e)]; omega
    · rw [if_neg e]; omega
theorem cn_lt {p q : Nat → Bool} {b : Nat} : ∀ {n}, (∀ i, i < n → p i = true → q i = true) → b < n → p b = false → q b = true → cn p n < cn q n
  | 0, _, hb, _, _ => absurd hb (Nat.not_lt_zero _)
  | n + 1, h, hb, e1, e2 => by
    have h2 := h n (by omega)
    by_cases e : b = n
    · have := cn_mono (fun i hi => h i (by omega) : ∀ i, i < n → p i = true → q i = true)
      unfold cn
      rw [← e, e1, e2, if_neg Bool.false_ne_true, if_pos rfl]
      rw [← e] at this
      omega
    · have := cn_lt (fun i hi => h i (by omega) : ∀ i, i < n → p i = true → q i = true) (show b < n by omega) e1 e2
      unfold cn
      by_cases z : p n = true
      · rw [if_pos z, if_pos (h2 z)]; omega
      · rw [if_neg z]; omega
/-- one more -/
theorem cn_one {p q : Nat → Bool} {b : Nat} : ∀ {n}, b < n → (∀ i, i < n → i ≠ b → q i = p i) → p b = false → q b = true → cn q n = cn p n + 1
  | 0, hb, _, _, _ => absurd hb (Nat.not_lt_zero _)
  | n + 1, hb, h, e1, e2 => by
    unfold cn
    by_cases e : b = n
    · subst e
      rw [cn_congr (fun i hi => h i (by omega) (by omega)), e1, e2, if_pos rfl, if_neg Bool.false_ne_true]
    · rw [cn_one (show b < n by omega) (fun i hi hne => h i (by omega) hne) e1 e2, h n (by omega) (fun z => e z.symm)]
      omega
theorem cn_ex {p : Nat → Bool} : ∀ {n}, cn p n < n → ∃ i, i < n ∧ p i = false
  | 0, h => absurd h (Nat.not_lt_zero _)
  | n + 1, h => by
    unfold cn at h
    by_cases e : p n = true
    · rw [if_pos e] at h
      obtain ⟨i, hi, e2⟩ := cn_ex (p := p) (n := n) (by omega)
      exact ⟨i, by omega, e2⟩
    · exact ⟨n, by omega, by simpa using e⟩
theorem cn_zero {p : Nat → Bool} : ∀ {n}, (∀ i, i < n → p i = false) → cn p n = 0
  | 0, _ => rfl
  | n + 1, h => by
    unfold cn
    rw [cn_zero (fun i hi => h i (by omega)), h n (by omega), if_neg Bool.false_ne_true]
theorem cn_filter (p : Nat → Bool) : ∀ n, ((List.range n).filter p).length = cn p n
  | 0 => rfl
  | n + 1 => by
    rw [List.range_succ, List.filter_append, List.length_append, cn_filter p n]
    show _ = cn p n + if p n = true then 1 else 0
    by_cases e : p n = true
    · simp [e]
    · simp [e]
/-- a has fewer than b, or as many and the lesser number -/
def ls (f : Nat → Nat) (a b : Nat) : Prop := f a < f b ∨ (f a = f b ∧ a < b)
instance (f : Nat → Nat) (a b : Nat) : Decidable (ls f a b) := inferInstanceAs (Decidable (_ ∨ _))
theorem ls_trans {f : Nat → Nat} {a b c : Nat} (h : ls f a b) (k : ls f b c) : ls f a c := by unfold ls at *; omega
theorem ls_not {f : Nat → Nat} {a b : Nat} (h : ls f a b) : ¬ ls f b a := by unfold ls at *; omega
theorem ls_ne {f : Nat → Nat} {a b : Nat} (h : ls f a b) : a ≠ b := fun e => by subst e; unfold ls at h; omega
theorem ls_total {f : Nat → Nat} {a b : Nat} (h : a ≠ b) : ls f a b ∨ ls f b a := by unfold ls; omega
/-- how many come ahead of d -/
def rnk (f : Nat → Nat) (n d : Nat) : Nat := cn (fun e => decide (ls f e d)) n
theorem rnk_lt {f : Nat → Nat} {n a b : Nat} (ha : a < n) (h : ls f a b) : rnk f n a < rnk f n b :=
  cn_lt (b := a) (fun _ _ e => decide_eq_true (ls_trans (of_decide_eq_true e) h)) ha (decide_eq_false (fun q => ls_ne q rfl)) (decide_eq_true h)
theorem rnk_inj {f : Nat → Nat} {n a b : Nat} (ha : a < n) (hb : b < n) (h : rnk f n a = rnk f n b) : a = b := by
  by_cases e : a = b
  · exact e
  · rcases ls_total (f := f) e with q | q
    · have := rnk_lt ha q; omega
    · have := rnk_lt hb q; omega
/-- of those that are so one comes first -/
theorem first_ex {f : Nat → Nat} {p : Nat → Bool} : ∀ {n}, (∃ i, i < n ∧ p i = true) → ∃ b, b < n ∧ p b = true ∧ ∀ e, e < n → p e = true → e ≠ b → ls f b e
  | 0, h => by obtain ⟨i, hi, _⟩ := h; omega
  | n + 1, h => by
    by_cases q : ∃ i, i < n ∧ p i = true
    · obtain ⟨b, hb, e1, e2⟩ := first_ex (f := f) q
      by_cases z : p n = true ∧ ls f n b
      · refine ⟨n, by omega, z.1, fun e he hp hne => ?_⟩
        by_cases y : e = b
        · rw [y]; exact z.2
        · exact ls_trans z.2 (e2 e (by omega) hp y)
      · refine ⟨b, by omega, e1, fun e he hp hne => ?_⟩
        by_cases y : e = n
        · subst y
          rcases ls_total (f := f) hne with k | k
          · exact absurd ⟨hp, k⟩ z
          · exact k
        · exact e2 e (by omega) hp hne
    · obtain ⟨i, hi, e⟩ := h
      have : i = n := by
        by_cases y : i = n
        · exact y
        · exact absurd ⟨i, by omega, e⟩ q
      subst this
      refine ⟨i, by omega, e, fun e' he hp hne => absurd ⟨e', by omega, hp⟩ q⟩
/-- of k that come first: as many as k; and the next one -/
theorem rnk_next {f : Nat → Nat} {n k : Nat} (hk : k < n) (h : cn (fun d => decide (rnk f n d < k)) n = k) : ∃ b, b < n ∧ rnk f n b = k := by
  obtain ⟨i, hi, e⟩ := cn_ex (p := fun d => decide (rnk f n d < k)) (n := n) (by omega)
  obtain ⟨b, hb, e1, e2⟩ := first_ex (f := f) (p := fun d => !decide (rnk f n d < k)) (n := n) ⟨i, hi, by simp [e]⟩
  refine ⟨b, hb, ?_⟩
  rw [← h]
  refine cn_congr (fun i hi => ?_)
  by_cases z : rnk f n i < k
  · rw [decide_eq_true z]
    have hb' : ¬ rnk f n b < k := by simpa using e1
    by_cases y : i = b
    · rw [y] at z; exact absurd z hb'
    · rcases ls_total (f := f) y with q | q
      · exact decide_eq_true q
      · have := rnk_lt hb q; omega
  · rw [decide_eq_false z]
    by_cases y : i = b
    · rw [y]; exact decide_eq_false (fun q => ls_ne q rfl)
    · exact decide_eq_false (ls_not (e2 i hi (by simpa using z) y))
theorem rnk_cn (f : Nat → Nat) (n : Nat) : ∀ k, k ≤ n → cn (fun d => decide (rnk f n d < k)) n = k
  | 0, _ => cn_zero (fun _ _ => decide_eq_false (Nat.not_lt_zero _))
  | k + 1, hk => by
    have ih := rnk_cn f n k (by omega)
    obtain ⟨b, hb, e⟩ := rnk_next (by omega) ih
    rw [cn_one (p := fun d => decide (rnk f n d < k)) (b := b) hb (fun i hi hne => ?_) (decide_eq_false (by omega)) (decide_eq_true (by omega)), ih]
    refine decide_eq_decide.2 ?_
    have : rnk f n i ≠ k := fun z => hne (rnk_inj (f := f) hi hb (by omega))
    omega
theorem rnk_at {f : Nat → Nat} {n k : Nat} (hk : k < n) : ∃ b, b < n ∧ rnk f n b = k := rnk_next hk (rnk_cn f n k (by omega))
theorem rnk_hi {f : Nat → Nat} {n d : Nat} (hd : d < n) : rnk f n d < n := by
  have h := rnk_cn f n n (Nat.le_refl _)
  by_cases e : rnk f n d < n
  · exact e
  · have := cn_lt (p := fun d => decide (rnk f n d < n)) (q := fun _ => true) (b := d) (n := n) (fun _ _ _ => rfl) hd (decide_eq_false e) rfl
    have h2 := cn_le (fun _ => true) n
    omega
/-- the sum of n numbers -/
def sm (f : Nat → Nat) : Nat → Nat
  | 0 => 0
  | n + 1 => sm f n + f n
theorem sm_congr {f g : Nat → Nat} : ∀ {n}, (∀ i, i < n → f i = g i) → sm f n = sm g n
  | 0, _ => rfl
  | n + 1, h => by
    unfold sm
    rw [sm_congr (fun i hi => h i (by omega)), h n (by omega)]
theorem sm_add (f g : Nat → Nat) : ∀ n, sm (fun i => f i + g i) n = sm f n + sm g n
  | 0 => rfl
  | n + 1 => by
    unfold sm
    rw [sm_add f g n]
    omega
theorem sm_cn (p : Nat → Bool) : ∀ n, sm (fun i => if p i = true then 1 else 0) n = cn p n
  | 0 => rfl
  | n + 1 => by
    unfold sm cn
    rw [sm_cn p n]
theorem sm_zero : ∀ n, sm (fun _ => 0) n = 0
  | 0 => rfl
  | n + 1 => by
    unfold sm
    rw [sm_zero n]
/-- who is taken: the w that come first; and how many blocks each has behind s stripes -/
def tkn (f : Nat → Nat) (n w d : Nat) : Bool := decide (rnk f n d < w)
def ld (n w : Nat) : Nat → Nat → Nat
  | 0 => fun _ => 0
  | s + 1 => fun d => ld n w s d + if tkn (ld n w s) n w d = true then 1 else 0
theorem tkn_cn {f : Nat → Nat} {n w : Nat} (hw : w ≤ n) : cn (tkn f n w) n = w := rnk_cn f n w hw
/-- the stripe s -/
def strp (n w s : Nat) : List Nat := (List.range n).filter (tkn (ld n w s) n w)
theorem strp_len {n w : Nat} (hw : w ≤ n) (s : Nat) : (strp n w s).length = w := by
  unfold strp
  rw [cn_filter, tkn_cn hw]
theorem strp_mem {n w s d : Nat} : d ∈ strp n w s ↔ d < n ∧ tkn (ld n w s) n w d = true := by
  unfold strp
  rw [List.mem_filter, List.mem_range]
theorem ld_sum {n w : Nat} (hw : w ≤ n) : ∀ s, sm (ld n w s) n = s * w
  | 0 => by rw [Nat.zero_mul]; exact sm_zero n
  | s + 1 => by
    have e : ld n w (s + 1) = fun d => ld n w s d + if tkn (ld n w s) n w d = true then 1 else 0 := rfl
    rw [e, sm_add, ld_sum hw s, sm_cn, tkn_cn hw, Nat.succ_mul]
/-- nobody has two more -/
theorem ld_even {n w : Nat} : ∀ s i k, i < n → k < n → ld n w s i ≤ ld n w s k + 1
  | 0, _, _, _, _ => Nat.zero_le _
  | s + 1, i, k, hi, hk => by
    have h1 := ld_even (w := w) s i k hi hk
    have e : ∀ d, ld n w (s + 1) d = ld n w s d + if tkn (ld n w s) n w d = true then 1 else 0 := fun _ => rfl
    rw [e, e]
    by_cases z : tkn (ld n w s) n w i = true
    · by_cases z2 : tkn (ld n w s) n w k = true
      · rw [if_pos z, if_pos z2]; omega
      · rw [if_pos z, if_neg z2]
        have q1 : rnk (ld n w s) n i < w := of_decide_eq_true z
        have q2 : ¬ rnk (ld n w s) n k < w := fun q => z2 (decide_eq_true q)
        have : ¬ ls (ld n w s) k i := fun q => by have := rnk_lt hk q; omega
        unfold ls at this
        omega
    · rw [if_neg z]
      omega
/-- how many of the first s stripes have the disk d -/
theorem ld_cn (n w d : Nat) : ∀ s, ld n w s d = cn (fun i => tkn (ld n w i) n w d) s
  | 0 => rfl
  | s + 1 => by
    have e : ld n w (s + 1) d = ld n w s d + if tkn (ld n w s) n w d = true then 1 else 0 := rfl
    rw [e, ld_cn n w d s]
    rfl
end Go.Proofs.Ytagindfgfamacaa

/- On which disks: what a disk has together with others: plain. -/
namespace Go.Proofs.Ytagindfgfamacaa
/-- of m stripes: how many have the disk d; how many have d and e, which is another one -/
def lds (has : Nat → Nat → Bool) (m d : Nat) : Nat := cn (fun i => has i d) m
def prs (has : Nat → Nat → Bool) (m d e : Nat) : Nat := if e = d then 0 else cn (fun i => has i d && has i e) m
theorem cn_if (b : Bool) (p : Nat → Bool) (n : Nat) : cn (fun i => b && p i) n = if b = true then cn p n else 0 := by
  cases b with
  | true => rw [if_pos rfl]; exact cn_congr (fun i _ => Bool.true_and _)
  | false => rw [if_neg Bool.false_ne_true]; exact cn_zero (fun i _ => Bool.false_and _)
/-- counted by rows or by columns -/
theorem sm_swap (q : Nat → Nat → Bool) (n : Nat) : ∀ m, sm (fun e => cn (fun i => q i e) m) n = sm (fun i => cn (q i) n) m
  | 0 => sm_zero n
  | m + 1 => by
    have e : (fun e => cn (fun i => q i e) (m + 1)) = fun e => cn (fun i => q i e) m + if q m e = true then 1 else 0 := rfl
    rw [e, sm_add, sm_swap q n m, sm_cn (q m)]
    rfl
theorem sm_times (b : Nat → Bool) (k : Nat) : ∀ m, sm (fun i => if b i = true then k else 0) m = cn b m * k
  | 0 => by rw [show cn b 0 = 0 from rfl, Nat.zero_mul]; rfl
  | m + 1 => by
    show sm (fun i => if b i = true then k else 0) m + (if b m = true then k else 0) = (cn b m + if b m = true then 1 else 0) * k
    rw [sm_times b k m]
    split
    · rw [Nat.succ_mul]
    · rw [Nat.add_zero, Nat.add_zero]
/-- what a disk has together with others is what its stripes have without it -/
theorem prs_sum {has : Nat → Nat → Bool} {m n w d : Nat} (hd : d < n) (hw : ∀ i, i < m → cn (has i) n = w) : sm (prs has m d) n = lds has m d * (w - 1) := by
  have e1 : ∀ e, e < n → prs has m d e = cn (fun i => has i d && (has i e && decide (e ≠ d))) m := fun e _ => by
    unfold prs
    by_cases z : e = d
    · rw [if_pos z]
      exact (cn_zero (fun i _ => by rw [decide_eq_false (fun q => q z), Bool.and_false, Bool.and_false])).symm
    · rw [if_neg z]
      exact cn_congr (fun i _ => by rw [decide_eq_true z, Bool.and_true])
  rw [sm_congr e1, sm_swap (fun i e => has i d && (has i e && decide (e ≠ d))) n m]
  have e2 : ∀ i, i < m → cn (fun e => has i d && (has i e && decide (e ≠ d))) n = if has i d = true then w - 1 else 0 := fun i hi => by
    rw [cn_if]
    by_cases z : has i d = true
    · rw [if_pos z, if_pos z, ← hw i hi]
      have := cn_one (p := fun e => has i e && decide (e ≠ d)) (q := has i) (b := d) (n := n) hd (fun e _ hne => by rw [decide_eq_true hne, Bool.and_true]) (by rw [decide_eq_false (fun q => q rfl), Bool.and_false]) z
      omega
    · rw [if_neg z, if_neg z]
  rw [sm_congr e2, sm_times (fun i => has i d)]
  rfl
/-- of stripes that were placed -/
theorem placed_lds (n w d m : Nat) : lds (fun i => tkn (ld n w i) n w) m d = ld n w m d := (ld_cn n w d m).symm
theorem placed_prs {n w d : Nat} (hw : w ≤ n) (hd : d < n) (m : Nat) : sm (prs (fun i => tkn (ld n w i) n w) m d) n = ld n w m d * (w - 1) := by
  rw [prs_sum hd (fun i _ => tkn_cn hw), placed_lds]
end Go.Proofs.Ytagindfgfamacaa

/- Stripes that are handed in: what is wrong with some, and who is in one: plain. -/
namespace Go.Proofs.Ytagindfgfamacaa
/-- a number is among the first l -/
def isIn (l : Nat) (f : Nat → Int) (z : Int) : Bool := anyB (fun j => decide (f j = z)) l
theorem isIn_true {l : Nat} {f : Nat → Int} {z : Int} : isIn l f z = true ↔ ∃ j, j < l ∧ f j = z := by
  unfold isIn
  rw [anyB_true]
  constructor
  · rintro ⟨j, hj, e⟩; exact ⟨j, hj, of_decide_eq_true e⟩
  · rintro ⟨j, hj, e⟩; exact ⟨j, hj, decide_eq_true e⟩
theorem isIn_false {l : Nat} {f : Nat → Int} {z : Int} : isIn l f z = false ↔ ∀ j, j < l → f j ≠ z := by
  unfold isIn
  rw [anyB_false]
  constructor
  · intro h j hj; exact of_decide_eq_false (h j hj)
  · intro h j hj; exact decide_eq_false (h j hj)
theorem isIn_congr {l : Nat} {f g : Nat → Int} (h : ∀ j, j < l → f j = g j) (z : Int) : isIn l f z = isIn l g z := by
  rw [Bool.eq_iff_iff, isIn_true, isIn_true]
  constructor
  · rintro ⟨j, hj, e⟩; exact ⟨j, hj, by rw [← h j hj]; exact e⟩
  · rintro ⟨j, hj, e⟩; exact ⟨j, hj, by rw [h j hj]; exact e⟩
theorem isIn_succ (k : Nat) (f : Nat → Int) (z : Int) : isIn (k + 1) f z = (isIn k f z || decide (f k = z)) := by
  rw [Bool.eq_iff_iff, Bool.or_eq_true, isIn_true, isIn_true, decide_eq_true_iff]
  constructor
  · rintro ⟨j, hj, e⟩
    by_cases q : j = k
    · rw [q] at e; exact .inr e
    · exact .inl ⟨j, by omega, e⟩
  · rintro (⟨j, hj, e⟩ | e)
    · exact ⟨j, by omega, e⟩
    · exact ⟨k, by omega, e⟩
/-- one has a disk that is none of n; one has a disk twice -/
def noDk (n z : Int) : Bool := decide (z < 0) || decide (n ≤ z)
def badR (n : Int) (l : Nat) (f : Nat → Int) : Bool := anyB (fun j => noDk n (f j)) l
def badT (l : Nat) (f : Nat → Int) : Bool := anyB (fun k => isIn k f (f k)) l
def rowE (n : Int) (l : Nat) (f : Nat → Int) : Nat := if badR n l f = true then 1 else if badT l f = true then 7 else 0
theorem noDk_false {n z : Int} : noDk n z = false ↔ 0 ≤ z ∧ z < n := by
  unfold noDk
  rw [Bool.or_eq_false_iff, decide_eq_false_iff_not, decide_eq_false_iff_not]
  omega
theorem noDk_true {n z : Int} : noDk n z = true ↔ z < 0 ∨ n ≤ z := by
  unfold noDk
  rw [Bool.or_eq_true, decide_eq_true_iff, decide_eq_true_iff]
theorem badR_false {n : Int} {l : Nat} {f : Nat → Int} : badR n l f = false ↔ ∀ j, j < l → 0 ≤ f j ∧ f j < n := by
  unfold badR
  rw [anyB_false]
  constructor
  · intro h j hj; exact noDk_false.1 (h j hj)
  · intro h j hj; exact noDk_false.2 (h j hj)
theorem badT_false {l : Nat} {f : Nat → Int} : badT l f = false ↔ ∀ k, k < l → ∀ j, j < k → f j ≠ f k := by
  unfold badT
  rw [anyB_false]
  constructor
  · intro h j hj; exact isIn_false.1 (h j hj)
  · intro h j hj; exact isIn_false.2 (h j hj)
/-- the row is right -/
structure RowOk (n : Int) (l : Nat) (f : Nat → Int) : Prop where
  lo : ∀ j, j < l → 0 ≤ f j
  hi : ∀ j, j < l → f j < n
  one : ∀ k, k < l → ∀ j, j < k → f j ≠ f k
theorem rowE_zero {n : Int} {l : Nat} {f : Nat → Int} : rowE n l f = 0 ↔ RowOk n l f := by
  unfold rowE
  constructor
  · intro h
    by_cases h1 : badR n l f = true
    · rw [if_pos h1] at h; omega
    · rw [if_neg h1] at h
      by_cases h2 : badT l f = true
      · rw [if_pos h2] at h; omega
      · have h1' : badR n l f = false := by simpa using h1
        have h2' : badT l f = false := by simpa using h2
        exact ⟨fun j hj => (badR_false.1 h1' j hj).1, fun j hj => (badR_false.1 h1' j hj).2, badT_false.1 h2'⟩
  · intro h
    rw [badR_false.2 (fun j hj => ⟨h.lo j hj, h.hi j hj⟩), badT_false.2 h.one, if_neg Bool.false_ne_true, if_neg Bool.false_ne_true]
theorem rowE_range {n : Int} {l : Nat} {f : Nat → Int} (h : badR n l f = true) : rowE n l f = 1 := if_pos h
theorem rowE_clash {n : Int} {l : Nat} {f : Nat → Int} (h : badR n l f = false) (k : badT l f = true) : rowE n l f = 7 := by
  unfold rowE
  rw [h, if_neg Bool.false_ne_true, if_pos k]
/-- the first fault -/
def fstE (g : Nat → Nat) : Nat → Nat
  | 0 => 0
  | m + 1 => if fstE g m = 0 then g m else fstE g m
theorem fstE_zero {g : Nat → Nat} : ∀ {m}, fstE g m = 0 ↔ ∀ i, i < m → g i = 0
  | 0 => ⟨fun _ i hi => absurd hi (Nat.not_lt_zero _), fun _ => rfl⟩
  | m + 1 => by
    have ih := fstE_zero (g := g) (m := m)
    show (if fstE g m = 0 then g m else fstE g m) = 0 ↔ _
    constructor
    · intro h i hi
      by_cases e : fstE g m = 0
      · rw [if_pos e] at h
        by_cases q : i = m
        · rw [q]; exact h
        · exact ih.1 e i (by omega)
      · rw [if_neg e] at h; exact absurd h e
    · intro h
      rw [if_pos (ih.2 (fun i hi => h i (by omega)))]
      exact h m (by omega)
theorem fstE_at {g : Nat → Nat} {k : Nat} (h1 : ∀ i, i < k → g i = 0) (h2 : g k ≠ 0) : ∀ m, k < m → fstE g m = g k
  | 0, h => absurd h (Nat.not_lt_zero _)
  | m + 1, h => by
    show (if fstE g m = 0 then g m else fstE g m) = g k
    by_cases e : k = m
    · rw [if_pos (fstE_zero.2 (by rw [← e]; exact h1)), e]
    · have := fstE_at h1 h2 m (by omega)
      rw [if_neg (by rw [this]; exact h2), this]
/-- what is wrong with m stripes on n disks -/
def stE (n : Int) (m : Nat) (L : Nat → Nat) (F : Nat → Nat → Int) : Nat :=
  if n < 1 ∨ 10 < n then 1 else if 40 < m then 4 else fstE (fun i => rowE n (L i) (F i)) m
structure StOk (n : Int) (m : Nat) (L : Nat → Nat) (F : Nat → Nat → Int) : Prop where
  n1 : 1 ≤ n
  n2 : n ≤ 10
  m1 : m ≤ 40
  row : ∀ i, i < m → RowOk n (L i) (F i)
theorem stE_zero {n : Int} {m : Nat} {L : Nat → Nat} {F : Nat → Nat → Int} : stE n m L F = 0 ↔ StOk n m L F := by
  unfold stE
  constructor
  · intro h
    by_cases h1 : n < 1 ∨ 10 < n
    · rw [if_pos h1] at h; omega
    · rw [if_neg h1] at h
      by_cases h2 : 40 < m
      · rw [if_pos h2] at h; omega
      · rw [if_neg h2, fstE_zero] at h
        exact ⟨by omega, by omega, by omega, fun i hi => rowE_zero.1 (h i hi)⟩
  · intro h
    have := h.n1
    have := h.n2
    have := h.m1
    rw [if_neg (by omega), if_neg (by omega), fstE_zero]
    exact fun i hi => rowE_zero.2 (h.row i hi)
/-- who is in which stripe -/
def hsI (L : Nat → Nat) (F : Nat → Nat → Int) (i d : Nat) : Bool := isIn (L i) (F i) (d : Int)
/-- one stripe more counted, its first k -/
def ctd (f : Nat → Nat) (k : Nat) (g : Nat → Int) (d : Nat) : Nat := f d + if isIn k g (d : Int) = true then 1 else 0
theorem ctd_zero (f : Nat → Nat) (g : Nat → Int) (d : Nat) : ctd f 0 g d = f d := by
  unfold ctd
  rw [isIn_false.2 (fun j hj => absurd hj (Nat.not_lt_zero _)), if_neg Bool.false_ne_true, Nat.add_zero]
theorem ctd_succ {f : Nat → Nat} {k l e : Nat} {g : Nat → Int} {n : Int} (h : RowOk n l g) (hk : k < l) (he : g k = (e : Int)) (d : Nat) : ctd f (k + 1) g d = up (ctd f k g) e (ctd f k g e + 1) d := by
  unfold up
  by_cases q : d = e
  · rw [if_pos q, q]
    unfold ctd
    rw [isIn_true.2 ⟨k, by omega, he⟩, isIn_false.2 (fun j hj => by rw [← he]; exact h.one k hk j hj), if_pos rfl, if_neg Bool.false_ne_true]
  · rw [if_neg q]
    unfold ctd
    have : isIn (k + 1) g (d : Int) = isIn k g (d : Int) := by
      rw [Bool.eq_iff_iff, isIn_true, isIn_true]
      constructor
      · rintro ⟨j, hj, ej⟩
        by_cases z : j = k
        · rw [z, he] at ej; omega
        · exact ⟨j, by omega, ej⟩
      · rintro ⟨j, hj, ej⟩
        exact ⟨j, by omega, ej⟩
    rw [this]
theorem ctd_le (f : Nat → Nat) (k : Nat) (g : Nat → Int) (d : Nat) : ctd f k g d ≤ f d + 1 := by
  unfold ctd
  split <;> omega
/-- counted stripe by stripe -/
theorem lds_zero (has : Nat → Nat → Bool) (d : Nat) : lds has 0 d = 0 := rfl
theorem lds_succ (L : Nat → Nat) (F : Nat → Nat → Int) (m d : Nat) : lds (hsI L F) (m + 1) d = ctd (lds (hsI L F) m) (L m) (F m) d := rfl
/-- counted where the disk d is too -/
def bth (has : Nat → Nat → Bool) (m d e : Nat) : Nat := cn (fun i => has i d && has i e) m
theorem bth_yes {L : Nat → Nat} {F : Nat → Nat → Int} {m d : Nat} (h : hsI L F m d = true) (e : Nat) : bth (hsI L F) (m + 1) d e = ctd (bth (hsI L F) m d) (L m) (F m) e := by
  show cn _ m + (if (hsI L F m d && hsI L F m e) = true then 1 else 0) = _
  rw [h, Bool.true_and]
  rfl
theorem bth_no {L : Nat → Nat} {F : Nat → Nat → Int} {m d : Nat} (h : hsI L F m d = false) (e : Nat) : bth (hsI L F) (m + 1) d e = bth (hsI L F) m d e := by
  show cn _ m + (if (hsI L F m d && hsI L F m e) = true then 1 else 0) = _
  rw [h, Bool.false_and, if_neg Bool.false_ne_true]
  rfl
theorem prs_up (has : Nat → Nat → Bool) (m d e : Nat) : up (bth has m d) d 0 e = prs has m d e := rfl
theorem bth_le (has : Nat → Nat → Bool) (m d e : Nat) : bth has m d e ≤ m := cn_le _ _
theorem lds_le (has : Nat → Nat → Bool) (m d : Nat) : lds has m d ≤ m := cn_le _ _
theorem prs_le (has : Nat → Nat → Bool) (m d e : Nat) : prs has m d e ≤ m := by
  unfold prs
  split
  · omega
  · exact cn_le _ _
/-- who is hurt -/
def hrt (has : Nat → Nat → Bool) (m d : Nat) : List Nat := (List.range m).filter (fun i => has i d)
theorem hrt_succ (has : Nat → Nat → Bool) (m d : Nat) : hrt has (m + 1) d = hrt has m d ++ if has m d = true then [m] else [] := by
  unfold hrt
  rw [List.range_succ, List.filter_append]
  congr 1
  by_cases e : has m d = true
  · simp [e]
  · simp [e]
theorem hrt_len (has : Nat → Nat → Bool) (m d : Nat) : (hrt has m d).length = lds has m d := cn_filter _ _
/-- numbers that rise, and the same ones -/
theorem rise_same : ∀ {a b : List Nat}, a.Pairwise (· < ·) → b.Pairwise (· < ·) → (∀ x, x ∈ a ↔ x ∈ b) → a = b
  | [], [], _, _, _ => rfl
  | [], y :: b, _, _, h => by have := (h y).2 (by simp); simp at this
  | x :: a, [], _, _, h => by have := (h x).1 (by simp); simp at this
  | x :: a, y :: b, ha, hb, h => by
    rw [List.pairwise_cons] at ha hb
    have hxy : x = y := by
      have h1 := (h x).1 (by simp)
      have h2 := (h y).2 (by simp)
      rw [List.mem_cons] at h1 h2
      rcases h1 with h1 | h1
      · exact h1
      · rcases h2 with h2 | h2
        · exact h2.symm
        · have := ha.1 _ h2
          have := hb.1 _ h1
          omega
    subst hxy
    rw [rise_same ha.2 hb.2 (fun z => ?_)]
    constructor
    · intro hz
      have h1 := (h z).1 (by simp [hz])
      rw [List.mem_cons] at h1
      rcases h1 with h1 | h1
      · have := ha.1 _ hz; omega
      · exact h1
    · intro hz
      have h1 := (h z).2 (by simp [hz])
      rw [List.mem_cons] at h1
      rcases h1 with h1 | h1
      · have := hb.1 _ hz; omega
      · exact h1
theorem rise_range : ∀ n, (List.range n).Pairwise (· < ·)
  | 0 => List.Pairwise.nil
  | n + 1 => by
    rw [List.range_succ, List.pairwise_append]
    refine ⟨rise_range n, List.pairwise_singleton _ _, fun a ha b hb => ?_⟩
    have h1 := List.mem_range.1 ha
    have h2 : b = n := by simpa using hb
    omega
theorem rise_map {g : Nat → Nat} : ∀ n, (∀ p q, p < q → q < n → g p < g q) → ((List.range n).map g).Pairwise (· < ·)
  | 0, _ => List.Pairwise.nil
  | n + 1, h => by
    rw [List.range_succ, List.map_append, List.pairwise_append]
    refine ⟨rise_map n (fun p q h1 h2 => h p q h1 (by omega)), List.pairwise_singleton _ _, fun a ha b hb => ?_⟩
    obtain ⟨i, hi, rfl⟩ := List.mem_map.1 ha
    have h2 : b = g n := by simpa using hb
    rw [h2]
    exact h i n (List.mem_range.1 hi) (by omega)
theorem rise_strp (n w s : Nat) : (strp n w s).Pairwise (· < ·) := (rise_range n).filter _
/-- stripes that were placed are right, and who is in them -/
theorem getD_mem {l : List Nat} {j : Nat} (h : j < l.length) : l.getD j 0 ∈ l := by
  rw [List.getD_eq_getElem?_getD, List.getElem?_eq_getElem h]
  exact List.getElem_mem h
theorem rise_getD {l : List Nat} (h : l.Pairwise (· < ·)) {j k : Nat} (hj : j < k) (hk : k < l.length) : l.getD j 0 < l.getD k 0 := by
  rw [List.getD_eq_getElem?_getD, List.getD_eq_getElem?_getD, List.getElem?_eq_getElem hk, List.getElem?_eq_getElem (by omega)]
  exact List.pairwise_iff_getElem.1 h j k (by omega) hk hj
/-- the stripes that were placed, as rows -/
def plF (n w i j : Nat) : Int := (((strp n w i).getD j 0 : Nat) : Int)
theorem placed_row {n w i : Nat} (hw : w ≤ n) {N : Int} (hN : (n : Int) ≤ N) : RowOk N w (plF n w i) := by
  have hl := strp_len hw i
  refine ⟨fun j _ => by unfold plF; omega, fun j hj => ?_, fun k hk j hj => ?_⟩
  · have := (strp_mem.1 (getD_mem (l := strp n w i) (j := j) (by omega))).1
    unfold plF
    omega
  · have := rise_getD (rise_strp n w i) hj (by omega)
    unfold plF
    omega
theorem placed_has {n w : Nat} (hw : w ≤ n) (i d : Nat) : hsI (fun _ => w) (plF n w) i d = (decide (d < n) && tkn (ld n w i) n w d) := by
  have hl := strp_len hw i
  show isIn w (plF n w i) (d : Int) = _
  rw [Bool.eq_iff_iff, isIn_true, Bool.and_eq_true, decide_eq_true_iff, ← strp_mem]
  constructor
  · rintro ⟨j, hj, e⟩
    have := getD_mem (l := strp n w i) (j := j) (by omega)
    unfold plF at e
    rw [show (strp n w i).getD j 0 = d by omega] at this
    exact this
  · intro h
    obtain ⟨j, hj, e⟩ := List.getElem_of_mem h
    refine ⟨j, by omega, ?_⟩
    unfold plF
    rw [List.getD_eq_getElem?_getD, List.getElem?_eq_getElem hj]
    show ((strp n w i)[j] : Int) = _
    rw [e]
theorem placed_ok {n w m : Nat} (h1 : 1 ≤ n) (h2 : n ≤ 10) (hw : w ≤ n) (hm : m ≤ 40) {N : Int} (hN : (n : Int) ≤ N) (hN2 : N ≤ 10) : StOk N m (fun _ => w) (plF n w) :=
  ⟨by omega, hN2, hm, fun _ _ => placed_row hw hN⟩
end Go.Proofs.Ytagindfgfamacaa

/- In how many ways, plainly: so many of n; sets of disks as numbers; in how many of them a stripe loses too much. -/
namespace Go.Proofs.Ytagindfgfamacaa
/-- in how many ways k of n can be taken -/
def chs : Nat → Nat → Nat
  | _, 0 => 1
  | 0, _ + 1 => 0
  | n + 1, k + 1 => chs n k + chs n (k + 1)
theorem chs_zero (n : Nat) : chs n 0 = 1 := by cases n <;> rfl
theorem chs_succ (n k : Nat) : chs (n + 1) (k + 1) = chs n k + chs n (k + 1) := rfl
theorem chs_none : ∀ {n k : Nat}, n < k → chs n k = 0
  | 0, k + 1, _ => rfl
  | n + 1, k + 1, h => by rw [chs_succ, chs_none (by omega), chs_none (by omega)]
theorem chs_self : ∀ n, chs n n = 1
  | 0 => rfl
  | n + 1 => by rw [chs_succ, chs_self n, chs_none (by omega)]
theorem chs_le : ∀ n k, chs n k ≤ 2 ^ n
  | n, 0 => by rw [chs_zero]; exact Nat.one_le_two_pow
  | 0, k + 1 => by show 0 ≤ _; omega
  | n + 1, k + 1 => by
    rw [chs_succ, Nat.pow_succ]
    have := chs_le n k
    have := chs_le n (k + 1)
    omega
theorem chs_pos : ∀ {n k : Nat}, k ≤ n → 0 < chs n k
  | n, 0, _ => by rw [chs_zero]; omega
  | n + 1, k + 1, h => by
    rw [chs_succ]
    have := chs_pos (n := n) (k := k) (by omega)
    omega
/-- how many of a and of b more -/
theorem cn_add (p : Nat → Bool) (a : Nat) : ∀ b, cn p (a + b) = cn p a + cn (fun i => p (a + i)) b
  | 0 => rfl
  | b + 1 => by
    show cn p (a + b) + (if p (a + b) = true then 1 else 0) = cn p a + (cn (fun i => p (a + i)) b + if p (a + b) = true then 1 else 0)
    rw [cn_add p a b]
    omega
theorem cn_succ (p : Nat → Bool) (n : Nat) : cn p (n + 1) = cn p n + if p n = true then 1 else 0 := rfl
theorem cn_all {p : Nat → Bool} : ∀ {n}, (∀ i, i < n → p i = true) → cn p n = n
  | 0, _ => rfl
  | n + 1, h => by rw [cn_succ, cn_all (fun i hi => h i (by omega)), if_pos (h n (by omega))]
theorem cn_pos {p : Nat → Bool} {i : Nat} : ∀ {n}, i < n → p i = true → 0 < cn p n
  | n + 1, hi, hp => by
    rw [cn_succ]
    by_cases e : i = n
    · rw [← e, if_pos hp]; omega
    · have := cn_pos (n := n) (by omega) hp
      omega
theorem cn_some {p : Nat → Bool} : ∀ {n}, 0 < cn p n → ∃ i, i < n ∧ p i = true
  | 0, h => absurd h (Nat.lt_irrefl _)
  | n + 1, h => by
    rw [cn_succ] at h
    by_cases hp : p n = true
    · exact ⟨n, by omega, hp⟩
    · rw [if_neg hp] at h
      obtain ⟨i, hi, q⟩ := cn_some (n := n) (by omega)
      exact ⟨i, by omega, q⟩
/-- is disk d in the set s? -/
def bts (s d : Nat) : Bool := Nat.testBit s d
/-- how many of n are -/
def szs (n s : Nat) : Nat := cn (bts s) n
theorem bts_low {n s d : Nat} (hd : d < n) : bts (2 ^ n + s) d = bts s d := Nat.testBit_two_pow_add_gt hd s
theorem bts_top {n s : Nat} (hs : s < 2 ^ n) : bts (2 ^ n + s) n = true := by
  unfold bts
  rw [Nat.testBit_two_pow_add_eq, Nat.testBit_lt_two_pow hs]
  rfl
theorem bts_out {n s : Nat} (hs : s < 2 ^ n) : bts s n = false := Nat.testBit_lt_two_pow hs
theorem bts_div (s d : Nat) : bts s d = decide (s / 2 ^ d % 2 = 1) := Nat.testBit_eq_decide_div_mod_eq
theorem szs_out {n s : Nat} (hs : s < 2 ^ n) : szs (n + 1) s = szs n s := by
  unfold szs
  rw [cn_succ, bts_out hs, if_neg (by simp)]
  omega
theorem szs_top {n s : Nat} (hs : s < 2 ^ n) : szs (n + 1) (2 ^ n + s) = szs n s + 1 := by
  unfold szs
  rw [cn_succ, bts_top hs, if_pos rfl, cn_congr (fun d hd => bts_low hd)]
/-- of n there are as many sets of k as there are ways -/
theorem sets_chs : ∀ n k, cn (fun s => decide (szs n s = k)) (2 ^ n) = chs n k
  | 0, 0 => rfl
  | 0, k + 1 => rfl
  | n + 1, k => by
    rw [Nat.pow_succ, Nat.mul_two, cn_add]
    have e1 : cn (fun s => decide (szs (n + 1) s = k)) (2 ^ n) = cn (fun s => decide (szs n s = k)) (2 ^ n) := cn_congr (fun s hs => by rw [szs_out hs])
    rw [e1, sets_chs n k]
    cases k with
    | zero =>
      rw [chs_zero, chs_zero, cn_zero (fun s hs => by rw [szs_top hs]; simp)]
    | succ k =>
      have e2 : cn (fun s => decide (szs (n + 1) (2 ^ n + s) = k + 1)) (2 ^ n) = cn (fun s => decide (szs n s = k)) (2 ^ n) := cn_congr (fun s hs => by
        rw [szs_top hs]
        by_cases q : szs n s = k
        · simp [q]
        · simp [q])
      rw [e2, sets_chs n k, chs_succ]
      omega
/-- any disks are a set -/
theorem set_of (p : Nat → Bool) : ∀ n, ∃ s, s < 2 ^ n ∧ ∀ d, d < n → bts s d = p d
  | 0 => ⟨0, by decide, fun d hd => absurd hd (Nat.not_lt_zero _)⟩
  | n + 1 => by
    obtain ⟨s, hs, h⟩ := set_of p n
    by_cases q : p n = true
    · refine ⟨2 ^ n + s, by rw [Nat.pow_succ]; omega, fun d hd => ?_⟩
      by_cases e : d = n
      · rw [e, bts_top hs, q]
      · rw [bts_low (by omega)]; exact h d (by omega)
    · refine ⟨s, by rw [Nat.pow_succ]; omega, fun d hd => ?_⟩
      by_cases e : d = n
      · rw [e, bts_out hs]; simpa using q
      · exact h d (by omega)
/-- how many a stripe loses that has some disks -/
def lst (has : Nat → Bool) (n s : Nat) : Nat := cn (fun d => has d && bts s d) n
theorem lst_le (has : Nat → Bool) (n s : Nat) : lst has n s ≤ szs n s := cn_mono (fun d _ h => by simp at h; exact h.2)
theorem lst_all {has : Nat → Bool} {n : Nat} (h : ∀ d, d < n → has d = true) (s : Nat) : lst has n s = szs n s := cn_congr (fun d hd => by rw [h d hd]; rfl)
/-- a stripe loses too much -/
def ftl (has : Nat → Nat → Bool) (m n par s : Nat) : Bool := anyB (fun i => decide (par < lst (has i) n s)) m
def ftn (has : Nat → Nat → Bool) (m n f par : Nat) : Nat := cn (fun s => decide (szs n s = f) && ftl has m n par s) (2 ^ n)
theorem ftn_le (has : Nat → Nat → Bool) (m n f par : Nat) : ftn has m n f par ≤ chs n f := by
  rw [← sets_chs]
  exact cn_mono (fun s _ h => by simp at h; simp [h.1])
theorem ftn_par (has : Nat → Nat → Bool) (m n f par : Nat) : ftn has m n f (par + 1) ≤ ftn has m n f par :=
  cn_mono (fun s _ h => by
    rw [Bool.and_eq_true] at h ⊢
    refine ⟨h.1, ?_⟩
    obtain ⟨i, hi, q⟩ := anyB_true.1 h.2
    exact anyB_true.2 ⟨i, hi, by have := of_decide_eq_true q; exact decide_eq_true (by omega)⟩)
theorem ftn_few (has : Nat → Nat → Bool) {m n f par : Nat} (h : f ≤ par) : ftn has m n f par = 0 :=
  cn_zero (fun s _ => by
    rw [Bool.and_eq_false_iff]
    by_cases q : szs n s = f
    · refine .inr (anyB_false.2 (fun i _ => decide_eq_false ?_))
      have := lst_le (has i) n s
      omega
    · exact .inl (decide_eq_false q))
theorem ftn_none (has : Nat → Nat → Bool) (n f par : Nat) : ftn has 0 n f par = 0 := cn_zero (fun s _ => by rw [Bool.and_eq_false_iff]; exact .inr rfl)
/-- stripes on all disks -/
theorem ftn_all {has : Nat → Nat → Bool} {m n f par : Nat} (hm : 0 < m) (h : ∀ i, i < m → ∀ d, d < n → has i d = true) (hf : par < f) : ftn has m n f par = chs n f := by
  rw [← sets_chs]
  refine cn_congr (fun s _ => ?_)
  by_cases q : szs n s = f
  · rw [decide_eq_true q, Bool.true_and]
    exact anyB_true.2 ⟨0, hm, decide_eq_true (by rw [lst_all (h 0 hm)]; omega)⟩
  · rw [decide_eq_false q, Bool.false_and]
/-- a stripe that is wider than parity is lost somehow -/
theorem ftn_some {has : Nat → Nat → Bool} {m n par i : Nat} (hi : i < m) (hw : par < cn (has i) n) : ∃ f, f ≤ n ∧ 0 < ftn has m n f par := by
  obtain ⟨s, hs, h⟩ := set_of (has i) n
  refine ⟨szs n s, cn_le _ _, cn_pos (i := s) hs ?_⟩
  rw [Bool.and_eq_true]
  refine ⟨decide_eq_true rfl, anyB_true.2 ⟨i, hi, decide_eq_true ?_⟩⟩
  have : lst (has i) n s = cn (has i) n := cn_congr (fun d hd => by rw [h d hd, Bool.and_self])
  omega
/-- a stripe that is no wider than parity is never lost -/
theorem ftn_thin {has : Nat → Nat → Bool} {m n f par : Nat} (hw : ∀ i, i < m → cn (has i) n ≤ par) : ftn has m n f par = 0 :=
  cn_zero (fun s _ => by
    rw [Bool.and_eq_false_iff]
    refine .inr (anyB_false.2 (fun i hi => decide_eq_false ?_))
    have h1 : lst (has i) n s ≤ cn (has i) n := cn_mono (fun d _ h => by simp at h; exact h.1)
    have := hw i hi
    omega)
/-- what a stripe's list says is what its disks say -/
theorem row_lst {n : Int} {N : Nat} (hN : n = (N : Int)) {f : Nat → Int} (p : Nat → Bool) : ∀ {l : Nat}, RowOk n l f → cn (fun j => p (f j).toNat) l = cn (fun d => isIn l f (d : Int) && p d) N
  | 0, _ => by rw [cn_zero (p := fun d => isIn 0 f (d : Int) && p d) (fun d _ => by rw [Bool.and_eq_false_iff]; exact .inl rfl)]; rfl
  | l + 1, h => by
    have h0 : RowOk n l f := ⟨fun j hj => h.1 j (by omega), fun j hj => h.2 j (by omega), fun k hk j hj => h.3 k (by omega) j hj⟩
    have hr := h.1 l (by omega)
    have hr2 := h.2 l (by omega)
    rw [cn_succ, row_lst hN p h0]
    obtain ⟨e, he⟩ : ∃ e : Nat, f l = (e : Int) := ⟨(f l).toNat, by omega⟩
    have hne : isIn l f (e : Int) = false := isIn_false.2 (fun j hj => by rw [← he]; exact h.3 l (by omega) j hj)
    rw [he, Int.toNat_natCast]
    by_cases q : p e = true
    · rw [if_pos q]
      refine (cn_one (b := e) (by omega) (fun d _ hd => ?_) (by rw [hne]; rfl) ?_).symm
      · rw [isIn_succ, he, decide_eq_false (fun x => hd (by omega)), Bool.or_false]
      · rw [isIn_succ, he, decide_eq_true rfl, Bool.or_true, q]; rfl
    · rw [if_neg q, Nat.add_zero]
      refine cn_congr (fun d _ => ?_)
      by_cases hd : d = e
      · rw [hd]; simp at q; rw [q, Bool.and_false, Bool.and_false]
      · rw [isIn_succ, he, decide_eq_false (fun x => hd (by omega)), Bool.or_false]
end Go.Proofs.Ytagindfgfamacaa

/- The least number of disks that may be too many, plainly. -/
namespace Go.Proofs.Ytagindfgfamacaa
/-- the first of n that is so; -1: none -/
def fsz (p : Nat → Bool) : Nat → Int
  | 0 => -1
  | n + 1 => if 0 ≤ fsz p n then fsz p n else if p n = true then (n : Int) else -1
theorem fsz_ways (p : Nat → Bool) : ∀ n, (fsz p n = -1 ∧ ∀ i, i < n → p i = false) ∨ ∃ i : Nat, i < n ∧ fsz p n = (i : Int) ∧ p i = true ∧ ∀ j, j < i → p j = false
  | 0 => .inl ⟨rfl, fun i hi => absurd hi (Nat.not_lt_zero _)⟩
  | n + 1 => by
    rcases fsz_ways p n with ⟨e, h⟩ | ⟨i, hi, e, h1, h2⟩
    · by_cases q : p n = true
      · refine .inr ⟨n, by omega, ?_, q, h⟩
        show (if 0 ≤ fsz p n then _ else _) = _
        rw [e, if_neg (by omega), if_pos q]
      · refine .inl ⟨?_, fun i hi => ?_⟩
        · show (if 0 ≤ fsz p n then _ else _) = _
          rw [e, if_neg (by omega), if_neg q]
        · by_cases ei : i = n
          · rw [ei]; simpa using q
          · exact h i (by omega)
    · refine .inr ⟨i, by omega, ?_, h1, h2⟩
      show (if 0 ≤ fsz p n then _ else _) = _
      rw [e, if_pos (by omega)]
/-- how few are too many -/
def wst (has : Nat → Nat → Bool) (m n par : Nat) : Int := fsz (fun f => decide (0 < ftn has m n f par)) (n + 1)
theorem wst_ways (has : Nat → Nat → Bool) (m n par : Nat) : (wst has m n par = -1 ∧ ∀ f, f ≤ n → ftn has m n f par = 0) ∨ ∃ f : Nat, f ≤ n ∧ wst has m n par = (f : Int) ∧ 0 < ftn has m n f par ∧ ∀ j, j < f → ftn has m n j par = 0 := by
  rcases fsz_ways (fun f => decide (0 < ftn has m n f par)) (n + 1) with ⟨e, h⟩ | ⟨i, hi, e, h1, h2⟩
  · exact .inl ⟨e, fun f hf => by have := of_decide_eq_false (h f (by omega)); omega⟩
  · exact .inr ⟨i, by omega, e, of_decide_eq_true h1, fun j hj => by have := of_decide_eq_false (h2 j hj); omega⟩
/-- fewer than the worst number are never fatal -/
theorem wst_below {has : Nat → Nat → Bool} {m n f par : Nat} (hf : f ≤ n) : (wst has m n par = -1 → ftn has m n f par = 0) ∧ (wst has m n par ≠ -1 → wst has m n par ≤ (f : Int) ∨ ftn has m n f par = 0) := by
  rcases wst_ways has m n par with ⟨e, h⟩ | ⟨i, _, e, _, h2⟩
  · exact ⟨fun _ => h f hf, fun q => absurd e q⟩
  · refine ⟨fun q => by omega, fun _ => ?_⟩
    by_cases q : f < i
    · exact .inr (h2 f q)
    · exact .inl (by omega)
/-- with so much parity so many are never too many -/
theorem wst_more {has : Nat → Nat → Bool} {m n par : Nat} (h : 0 ≤ wst has m n par) : (par : Int) < wst has m n par := by
  rcases wst_ways has m n par with ⟨e, _⟩ | ⟨i, _, e, h1, _⟩
  · omega
  · by_cases q : i ≤ par
    · rw [ftn_few has q] at h1; omega
    · omega
/-- of stripes that are as wide -/
theorem wst_wide {has : Nat → Nat → Bool} {m n par wd : Nat} (hw : ∀ i, i < m → cn (has i) n = wd) : wst has m n par < 0 ↔ wd ≤ par ∨ m = 0 := by
  rcases wst_ways has m n par with ⟨e, h⟩ | ⟨i, hi, e, h1, _⟩
  · refine ⟨fun _ => ?_, fun _ => by omega⟩
    by_cases q : wd ≤ par ∨ m = 0
    · exact q
    · obtain ⟨f, hf, hp⟩ := ftn_some (has := has) (m := m) (n := n) (par := par) (i := 0) (by omega) (by rw [hw 0 (by omega)]; omega)
      rw [h f hf] at hp
      omega
  · refine ⟨fun q => by omega, fun q => ?_⟩
    exfalso
    rcases q with q | q
    · rw [ftn_thin (fun i hi => by rw [hw i hi]; exact q)] at h1; omega
    · rw [q, ftn_none] at h1; omega
theorem placed_cn {n w : Nat} (hw : w ≤ n) (i : Nat) : cn (hsI (fun _ => w) (plF n w) i) n = w := by
  rw [cn_congr (q := tkn (ld n w i) n w) (fun d hd => by rw [placed_has hw, decide_eq_true hd, Bool.true_and])]
  exact tkn_cn hw
end Go.Proofs.Ytagindfgfamacaa

/- In how many ways, one behind the other; a stripe as a set; which number is the worst: plain. -/
namespace Go.Proofs.Ytagindfgfamacaa
/-- one more is taken: so many times as many, of which each came so often -/
theorem chs_turn : ∀ n k, (k + 1) * chs n (k + 1) + k * chs n k = n * chs n k
  | 0, 0 => rfl
  | 0, k + 1 => by rw [chs_none (by omega), chs_none (by omega)]; simp
  | n + 1, 0 => by
    have h := chs_turn n 0
    rw [chs_zero] at h
    rw [chs_succ, chs_zero, chs_zero]
    omega
  | n + 1, k + 1 => by
    have h1 := chs_turn n k
    have h2 := chs_turn n (k + 1)
    rw [chs_succ n (k + 1), chs_succ n k]
    generalize chs n k = a at *
    generalize chs n (k + 1) = b at *
    generalize chs n (k + 1 + 1) = c at *
    simp only [Nat.add_mul, Nat.mul_add, Nat.one_mul] at *
    omega
theorem chs_next (n k : Nat) : chs n k * (n - k) / (k + 1) = chs n (k + 1) := by
  have h := chs_turn n k
  have e : chs n k * (n - k) = (k + 1) * chs n (k + 1) := by
    rw [Nat.mul_sub, Nat.mul_comm (chs n k) n, Nat.mul_comm (chs n k) k]
    omega
  rw [e, Nat.mul_div_cancel_left _ (by omega)]
/-- a number where there is no fault -/
def cntN (e n : Nat) : Nat := if e = 0 then n else 0
/-- the fault of so many of so many, and the answer -/
def chE (n k : Int) : Nat := if n < 0 ∨ 30 < n ∨ k < 0 ∨ n < k then 1 else 0
def chV (n k : Int) : Nat := cntN (chE n k) (chs n.toNat k.toNat)
theorem chE_bad {n k : Int} (h : n < 0 ∨ 30 < n ∨ k < 0 ∨ n < k) : chE n k = 1 := if_pos h
theorem chE_ok {n k : Nat} (hn : n ≤ 30) (hk : k ≤ n) : chE (n : Int) (k : Int) = 0 := if_neg (by omega)
theorem chE_zero {n k : Int} (h : chE n k = 0) : ∃ a b : Nat, n = (a : Int) ∧ k = (b : Int) ∧ a ≤ 30 ∧ b ≤ a := by
  unfold chE at h
  by_cases q : n < 0 ∨ 30 < n ∨ k < 0 ∨ n < k
  · rw [if_pos q] at h; omega
  · exact ⟨n.toNat, k.toNat, by omega, by omega, by omega, by omega⟩
theorem chV_ok {n k : Nat} (hn : n ≤ 30) (hk : k ≤ n) : chV (n : Int) (k : Int) = chs n k := by
  unfold chV cntN
  rw [chE_ok hn hk, if_pos rfl, Int.toNat_natCast, Int.toNat_natCast]
theorem chV_bad {n k : Int} (h : chE n k ≠ 0) : chV n k = 0 := if_neg h
theorem chs_small {n k : Nat} (hn : n ≤ 30) : chs n k ≤ 1073741824 := Nat.le_trans (chs_le n k) (Nat.pow_le_pow_right (by omega) hn)
/-- so many of a list as a set -/
def stb (f : Nat → Int) : Nat → Nat
  | 0 => 0
  | l + 1 => stb f l ||| 1 <<< (f l).toNat
theorem bts_or (a b d : Nat) : bts (a ||| b) d = (bts a d || bts b d) := Nat.testBit_or a b d
theorem bts_and (a b d : Nat) : bts (a &&& b) d = (bts a d && bts b d) := Nat.testBit_and a b d
theorem bts_one (k d : Nat) : bts (1 <<< k) d = decide (k = d) := by
  unfold bts
  rw [Nat.one_shiftLeft, Nat.testBit_two_pow]
theorem bts_stb {f : Nat → Int} (d : Nat) : ∀ {l : Nat}, (∀ j, j < l → 0 ≤ f j) → bts (stb f l) d = isIn l f (d : Int)
  | 0, _ => by
    show Nat.testBit 0 d = _
    rw [Nat.zero_testBit, isIn_false.2 (fun j hj => absurd hj (Nat.not_lt_zero _))]
  | l + 1, h => by
    show bts (stb f l ||| 1 <<< (f l).toNat) d = _
    rw [bts_or, bts_stb d (fun j hj => h j (by omega)), bts_one, isIn_succ]
    have h0 := h l (by omega)
    congr 1
    exact decide_eq_decide.2 (by omega)
theorem stb_lt {f : Nat → Int} : ∀ {l : Nat}, (∀ j, j < l → 0 ≤ f j ∧ f j < 10) → stb f l < 1024
  | 0, _ => by show 0 < _; omega
  | l + 1, h => by
    show stb f l ||| 1 <<< (f l).toNat < 2 ^ 10
    refine Nat.or_lt_two_pow (stb_lt (fun j hj => h j (by omega))) ?_
    rw [Nat.one_shiftLeft]
    have h0 := h l (by omega)
    exact Nat.pow_lt_pow_right (by omega) (by omega)
theorem szs_more {n s : Nat} (hs : s < 2 ^ n) : ∀ k, szs (n + k) s = szs n s
  | 0 => rfl
  | k + 1 => by
    rw [show n + (k + 1) = (n + k) + 1 from rfl, szs_out (Nat.lt_of_lt_of_le hs (Nat.pow_le_pow_right (by omega) (by omega))), szs_more hs k]
theorem szs_ten {n s : Nat} (hn : n ≤ 10) (hs : s < 2 ^ n) : szs 10 s = szs n s := by
  obtain ⟨k, e⟩ : ∃ k, 10 = n + k := ⟨10 - n, by omega⟩
  rw [e, szs_more hs]
theorem and_lt {a b : Nat} (ha : a < 1024) : a &&& b < 1024 := Nat.lt_of_le_of_lt Nat.and_le_left ha
/-- what a stripe loses, of its set -/
theorem lst_stb {n : Nat} {L : Nat → Nat} {F : Nat → Nat → Int} {i s : Nat} (hn : n ≤ 10) (h : RowOk (n : Int) (L i) (F i)) : szs 10 (stb (F i) (L i) &&& s) = lst (hsI L F i) n s := by
  have e0 : szs 10 (stb (F i) (L i) &&& s) = cn (fun d => hsI L F i d && bts s d) 10 := cn_congr (fun d _ => by rw [bts_and, bts_stb d h.lo]; rfl)
  rw [e0]
  obtain ⟨k, e⟩ : ∃ k, 10 = n + k := ⟨10 - n, by omega⟩
  rw [e, cn_add, cn_zero (p := fun d => hsI L F i (n + d) && bts s (n + d)) (fun d _ => by
    rw [Bool.and_eq_false_iff]
    refine .inl (isIn_false.2 (fun j hj => ?_))
    have := h.hi j hj
    omega)]
  rfl
/-- of some as many as are wanted -/
theorem some_of (p : Nat → Bool) : ∀ n k, k ≤ cn p n → ∃ q : Nat → Bool, (∀ d, q d = true → p d = true) ∧ cn q n = k
  | 0, k, h => ⟨fun _ => false, fun _ h => by simp at h, by have : cn p 0 = 0 := rfl; have : cn (fun _ => false) 0 = 0 := rfl; omega⟩
  | n + 1, k, h => by
    by_cases e : k ≤ cn p n
    · obtain ⟨q, h1, h2⟩ := some_of p n k e
      refine ⟨fun d => decide (d < n) && q d, fun d hd => ?_, ?_⟩
      · simp at hd; exact h1 d hd.2
      · rw [cn_succ, if_neg (by simp), Nat.add_zero, ← h2]
        exact cn_congr (fun d hd => by rw [decide_eq_true hd, Bool.true_and])
    · refine ⟨p, fun _ h => h, ?_⟩
      rw [cn_succ] at h ⊢
      by_cases hp : p n = true
      · rw [if_pos hp] at h ⊢; omega
      · rw [if_neg hp] at h ⊢; omega
/-- one more than parity is too many where a stripe is wider -/
theorem ftn_one {has : Nat → Nat → Bool} {m n par i : Nat} (hi : i < m) (hw : par < cn (has i) n) : 0 < ftn has m n (par + 1) par := by
  obtain ⟨q, h1, h2⟩ := some_of (has i) n (par + 1) hw
  obtain ⟨s, hs, h⟩ := set_of q n
  refine cn_pos (i := s) hs ?_
  have hz : szs n s = par + 1 := by rw [← h2]; exact cn_congr h
  have hl : lst (has i) n s = par + 1 := by
    rw [← h2]
    refine cn_congr (fun d hd => ?_)
    rw [h d hd]
    by_cases e : q d = true
    · rw [h1 d e, e]; rfl
    · simp at e; rw [e, Bool.and_false]
  rw [Bool.and_eq_true]
  exact ⟨decide_eq_true hz, anyB_true.2 ⟨i, hi, decide_eq_true (by rw [hl]; omega)⟩⟩
theorem ftn_past {has : Nat → Nat → Bool} {m n f par : Nat} (hf : n < f) : ftn has m n f par = 0 :=
  cn_zero (fun s _ => by
    rw [Bool.and_eq_false_iff]
    have := cn_le (bts s) n
    exact .inl (decide_eq_false (fun e => by unfold szs at e; omega)))
theorem wst_is (has : Nat → Nat → Bool) (m n par : Nat) : wst has m n par = if anyB (fun i => decide (par < cn (has i) n)) m = true then ((par + 1 : Nat) : Int) else -1 := by
  cases hq : anyB (fun i => decide (par < cn (has i) n)) m with
  | true =>
    rw [if_pos rfl]
    obtain ⟨i, hi, hw⟩ := anyB_true.1 hq
    have hp := ftn_one hi (of_decide_eq_true hw)
    rcases wst_ways has m n par with ⟨_, h⟩ | ⟨f, hf, e, h1, h2⟩
    · by_cases q : par + 1 ≤ n
      · rw [h _ q] at hp; omega
      · rw [ftn_past (by omega)] at hp; omega
    · rw [e]
      have a1 : ¬ par + 1 < f := fun q => by rw [h2 _ q] at hp; omega
      have a2 : ¬ f ≤ par := fun q => by rw [ftn_few has q] at h1; omega
      omega
  | false =>
    rw [if_neg (by simp)]
    have hz : ∀ f, ftn has m n f par = 0 := fun f => ftn_thin (fun i hi => by have := of_decide_eq_false (anyB_false.1 hq i hi); omega)
    rcases wst_ways has m n par with ⟨e, _⟩ | ⟨f, _, _, h1, _⟩
    · exact e
    · rw [hz f] at h1; omega
/-- how wide a stripe is -/
theorem row_wide {n : Nat} {L : Nat → Nat} {F : Nat → Nat → Int} {i : Nat} (h : RowOk (n : Int) (L i) (F i)) : cn (hsI L F i) n = L i := by
  have e := row_lst (N := n) rfl (fun _ => true) h
  rw [cn_all (fun j _ => rfl)] at e
  rw [e]
  exact cn_congr (fun d _ => (Bool.and_true _).symm)
/-- what is wrong with stripes and how many fail, how much parity there is -/
def parE (par : Int) : Nat := if par < 0 ∨ 10 < par then 1 else 0
def ftE (n : Int) (m : Nat) (L : Nat → Nat) (F : Nat → Nat → Int) (f par : Int) : Nat := if stE n m L F = 0 then (if f < 0 ∨ n < f ∨ par < 0 ∨ 10 < par then 1 else 0) else stE n m L F
def ftV (n : Int) (m : Nat) (L : Nat → Nat) (F : Nat → Nat → Int) (f par : Int) : Nat := cntN (ftE n m L F f par) (ftn (hsI L F) m n.toNat f.toNat par.toNat)
def wsE (n : Int) (m : Nat) (L : Nat → Nat) (F : Nat → Nat → Int) (par : Int) : Nat := if stE n m L F = 0 then parE par else stE n m L F
def wsV (n : Int) (m : Nat) (L : Nat → Nat) (F : Nat → Nat → Int) (par : Int) : Int := if wsE n m L F par = 0 then wst (hsI L F) m n.toNat par.toNat else 0
section
variable {n : Int} {m : Nat} {L : Nat → Nat} {F : Nat → Nat → Int} {f par : Int}
theorem ftE_st (h : stE n m L F ≠ 0) : ftE n m L F f par = stE n m L F := if_neg h
theorem wsE_st (h : stE n m L F ≠ 0) : wsE n m L F par = stE n m L F := if_neg h
theorem ftE_bad (h : StOk n m L F) (q : f < 0 ∨ n < f ∨ par < 0 ∨ 10 < par) : ftE n m L F f par = 1 := by unfold ftE; rw [stE_zero.2 h, if_pos rfl, if_pos q]
theorem ftE_ok (h : StOk n m L F) (q : ¬ (f < 0 ∨ n < f ∨ par < 0 ∨ 10 < par)) : ftE n m L F f par = 0 := by unfold ftE; rw [stE_zero.2 h, if_pos rfl, if_neg q]
theorem wsE_bad (h : StOk n m L F) (q : par < 0 ∨ 10 < par) : wsE n m L F par = 1 := by unfold wsE parE; rw [stE_zero.2 h, if_pos rfl, if_pos q]
theorem wsE_ok (h : StOk n m L F) (q : ¬ (par < 0 ∨ 10 < par)) : wsE n m L F par = 0 := by unfold wsE parE; rw [stE_zero.2 h, if_pos rfl, if_neg q]
theorem ftV_bad (h : ftE n m L F f par ≠ 0) : ftV n m L F f par = 0 := if_neg h
theorem wsV_bad (h : wsE n m L F par ≠ 0) : wsV n m L F par = 0 := if_neg h
theorem ftV_ok (h : ftE n m L F f par = 0) : ftV n m L F f par = ftn (hsI L F) m n.toNat f.toNat par.toNat := if_pos h
theorem wsV_ok (h : wsE n m L F par = 0) : wsV n m L F par = wst (hsI L F) m n.toNat par.toNat := if_pos h
theorem ftE_zero (h : ftE n m L F f par = 0) : StOk n m L F ∧ 0 ≤ f ∧ f ≤ n ∧ 0 ≤ par ∧ par ≤ 10 := by
  unfold ftE at h
  by_cases a : stE n m L F = 0
  · rw [if_pos a] at h
    by_cases q : f < 0 ∨ n < f ∨ par < 0 ∨ 10 < par
    · rw [if_pos q] at h; omega
    · exact ⟨stE_zero.1 a, by omega, by omega, by omega, by omega⟩
  · rw [if_neg a] at h; exact absurd h a
theorem wsE_zero (h : wsE n m L F par = 0) : StOk n m L F ∧ 0 ≤ par ∧ par ≤ 10 := by
  unfold wsE parE at h
  by_cases a : stE n m L F = 0
  · rw [if_pos a] at h
    by_cases q : par < 0 ∨ 10 < par
    · rw [if_pos q] at h; omega
    · exact ⟨stE_zero.1 a, by omega, by omega⟩
  · rw [if_neg a] at h; exact absurd h a
end
/-- the program's way to the worst number -/
theorem wst_prog {n m par : Nat} {L : Nat → Nat} {F : Nat → Nat → Int} (h : StOk (n : Int) m L F) : wst (hsI L F) m n par = if anyB (fun i => decide (par < L i)) m = true then ((par + 1 : Nat) : Int) else -1 := by
  rw [wst_is]
  have e : anyB (fun i => decide (par < cn (hsI L F i) n)) m = anyB (fun i => decide (par < L i)) m := by
    rw [Bool.eq_iff_iff, anyB_true, anyB_true]
    constructor
    · rintro ⟨i, hi, q⟩; exact ⟨i, hi, by rw [row_wide (h.row i hi)] at q; exact q⟩
    · rintro ⟨i, hi, q⟩; exact ⟨i, hi, by rw [row_wide (h.row i hi)]; exact q⟩
  rw [e]
end Go.Proofs.Ytagindfgfamacaa

/- On which disks: the next one, found by looking through all; those that come first, by sorting: plain. -/
namespace Go.Proofs.Ytagindfgfamacaa
theorem tkn_of {f : Nat → Nat} {n k d : Nat} (h : rnk f n d < k) : tkn f n k d = true := decide_eq_true h
theorem tkn_not {f : Nat → Nat} {n k d : Nat} (h : ¬ rnk f n d < k) : tkn f n k d = false := decide_eq_false h
theorem tkn_zero (f : Nat → Nat) (n d : Nat) : tkn f n 0 d = false := decide_eq_false (Nat.not_lt_zero _)
theorem tkn_succ {f : Nat → Nat} {n k b : Nat} (hb : b < n) (h : rnk f n b = k) {d : Nat} (hd : d < n) : tkn f n (k + 1) d = if d = b then true else tkn f n k d := by
  by_cases e : d = b
  · rw [if_pos e, e]; exact tkn_of (by omega)
  · rw [if_neg e]
    have : rnk f n d ≠ k := fun z => e (rnk_inj (f := f) hd hb (by omega))
    exact decide_eq_decide.2 (by omega)
/-- of the first j disks that are not among the k the one that comes first is z (-1: there is none) -/
def Bst (f : Nat → Nat) (n k j : Nat) (z : Int) : Prop := (z = -1 ∧ ∀ i, i < j → tkn f n k i = true) ∨ ∃ b : Nat, b < j ∧ z = (b : Int) ∧ tkn f n k b = false ∧ ∀ e, e < j → tkn f n k e = false → e ≠ b → ls f b e
section
variable {f : Nat → Nat} {n k j : Nat} {z : Int}
theorem Bst.zero (f : Nat → Nat) (n k : Nat) : Bst f n k 0 (-1) := .inl ⟨rfl, fun _ h => absurd h (Nat.not_lt_zero _)⟩
theorem Bst.skip (h : Bst f n k j z) (e : tkn f n k j = true) : Bst f n k (j + 1) z := by
  rcases h with ⟨h1, h2⟩ | ⟨b, h1, h2, h3, h4⟩
  · refine .inl ⟨h1, fun i hi => ?_⟩
    by_cases q : i = j
    · rw [q]; exact e
    · exact h2 i (by omega)
  · refine .inr ⟨b, by omega, h2, h3, fun i hi q1 q2 => ?_⟩
    by_cases q : i = j
    · rw [q, e] at q1; exact absurd q1.symm Bool.false_ne_true
    · exact h4 i (by omega) q1 q2
theorem Bst.first (h : Bst f n k j (-1)) (e : tkn f n k j = false) : Bst f n k (j + 1) (j : Int) := by
  rcases h with ⟨_, h2⟩ | ⟨b, _, h2, _⟩
  · refine .inr ⟨j, by omega, rfl, e, fun i hi q1 q2 => ?_⟩
    rw [h2 i (by omega)] at q1
    exact absurd q1.symm Bool.false_ne_true
  · omega
theorem Bst.fewer {b : Nat} (h : Bst f n k j (b : Int)) (e : tkn f n k j = false) (hf : f j < f b) : Bst f n k (j + 1) (j : Int) := by
  rcases h with ⟨h1, _⟩ | ⟨c, h1, h2, h3, h4⟩
  · omega
  · obtain rfl : c = b := by omega
    refine .inr ⟨j, by omega, rfl, e, fun i hi q1 q2 => ?_⟩
    by_cases q : i = c
    · rw [q]; exact .inl hf
    · exact ls_trans (.inl hf) (h4 i (by omega) q1 q)
theorem Bst.keep {b : Nat} (h : Bst f n k j (b : Int)) (hf : ¬ f j < f b) : Bst f n k (j + 1) (b : Int) := by
  rcases h with ⟨h1, _⟩ | ⟨c, h1, h2, h3, h4⟩
  · omega
  · obtain rfl : c = b := by omega
    refine .inr ⟨c, by omega, rfl, h3, fun i hi q1 q2 => ?_⟩
    by_cases q : i = j
    · subst q; unfold ls; omega
    · exact h4 i (by omega) q1 q2
theorem Bst.end (h : Bst f n k n z) (hk : k < n) : ∃ b : Nat, b < n ∧ z = (b : Int) ∧ rnk f n b = k := by
  obtain ⟨b, hb, e⟩ := rnk_at (f := f) hk
  rcases h with ⟨_, h2⟩ | ⟨c, h1, h2, h3, h4⟩
  · have := of_decide_eq_true (h2 b hb)
    omega
  · have hc : ¬ rnk f n c < k := of_decide_eq_false h3
    refine ⟨c, h1, h2, ?_⟩
    by_cases q : b = c
    · rw [← q]; exact e
    · have := rnk_lt h1 (h4 b hb (tkn_not (by omega)) q)
      omega
end
/-- sorted, each stands where it comes -/
theorem rnk_sorted {f s : Nat → Nat} {n : Nat} (h1 : ∀ i, i < n → s i < n) (h2 : ∀ i j, i < j → j < n → ls f (s i) (s j)) {i : Nat} (hi : i < n) : rnk f n (s i) = i := by
  have up : ∀ i, i < n → i ≤ rnk f n (s i) := fun i => by
    induction i with
    | zero => intro _; exact Nat.zero_le _
    | succ i ih =>
      intro hi
      have := rnk_lt (h1 i (by omega)) (h2 i (i + 1) (by omega) hi)
      have := ih (by omega)
      omega
  have dn : ∀ d i, i + d < n → rnk f n (s i) + d ≤ rnk f n (s (i + d)) := fun d => by
    induction d with
    | zero => intro i _; exact Nat.le_refl _
    | succ d ih =>
      intro i hi
      have a := ih i (by omega)
      have b := rnk_lt (h1 (i + d) (by omega)) (h2 (i + d) (i + (d + 1)) (by omega) hi)
      omega
  have a := up i hi
  have b := dn (n - 1 - i) i (by omega)
  have c := rnk_hi (f := f) (h1 (i + (n - 1 - i)) (by omega))
  omega
/-- who is among the first w of those that were sorted -/
theorem tkn_sorted {f s : Nat → Nat} {n w : Nat} (h1 : ∀ i, i < n → s i < n) (h2 : ∀ i j, i < j → j < n → ls f (s i) (s j)) (hw : w ≤ n) {d : Nat} (hd : d < n) : tkn f n w d = true ↔ ∃ i, i < w ∧ s i = d := by
  constructor
  · intro h
    have h3 := of_decide_eq_true h
    have h4 := rnk_hi (f := f) hd
    refine ⟨rnk f n d, h3, rnk_inj (f := f) (h1 _ h4) hd ?_⟩
    exact rnk_sorted h1 h2 h4
  · rintro ⟨i, hi, rfl⟩
    exact tkn_of (by rw [rnk_sorted h1 h2 (by omega)]; exact hi)
end Go.Proofs.Ytagindfgfamacaa
