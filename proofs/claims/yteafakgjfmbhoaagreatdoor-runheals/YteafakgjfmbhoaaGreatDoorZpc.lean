/- Texts of plain mathematics, of memory and of walks, in one. -/
import Derived.Test.YteafakgjfmbhoaaGreatDoorGe
/- On which disks: so many of a list, and in which order: plain. -/
namespace Go.Proofs.YteafakgjfmbhoaaGreatDoor
/-- how many of n are so -/
def cn (p : Nat → Bool) : Nat → Nat
  | 0 => 0
  | n + 1 => cn p n + if p n = true then 1 else 0
theorem cn_le (p : Nat → Bool) : ∀ n, cn p n ≤ n
  | 0 => Nat.le_refl _
  | n + 1 => by
    have := cn_le p n
    unfold cn
    split <;> omega
theorem cn_congr {p q : Nat → Bool} : ∀ {n}, (∀ i, i < n → p i = q i) → cn p n = cn q n
  | 0, _ => rfl
  | n + 1, h => by
    unfold cn
    rw [cn_congr (fun i hi => h i (by omega)), h n (by omega)]
theorem cn_mono {p q : Nat → Bool} : ∀ {n}, (∀ i, i < n → p i = true → q i = true) → cn p n ≤ cn q n
  | 0, _ => Nat.le_refl _
  | n + 1, h => by
    have := cn_mono (fun i hi => h i (by omega) : ∀ i, i < n → p i = true → q i = true)
    have h2 := h n (by omega)
    unfold cn
    by_cases e : p n = true
    · rw [if_pos e, if_pos (h2 e)]; omega
    · rw [if_neg e]; omega
theorem cn_lt {p q : Nat → Bool} {b : Nat} : ∀ {n}, (∀ i, i < n → p i = true → q i = true) → b < n → p b = false → q b = true → cn p n < cn q n
  | 0, _, hb, _, _ => absurd hb (Nat.not_lt_zero _)
  | n + 1, h, hb, e1, e2 => by
    have h2 := h n (by omega)
    by_cases e : b = n
    · have := cn_mono (fun i hi => h i (by omega) : ∀ i, i < n → p i = true → q i = true)
      unfold cn
      rw [← e, e1, e2, if_neg Bool.false_ne_true, if_pos rfl]
      rw [← e] at this
      omega
    · have := cn_lt (fun i hi => h i (by omega) : ∀ i, i < n → p i = true → q i = true) (show b < n by omega) e1 e2
      unfold cn
      by_cases z : p n = true
      · rw [if_pos z, if_pos (h2 z)]; omega
      · rw [if_neg z]; omega
/-- one more -/
theorem cn_one {p q : Nat → Bool} {b : Nat} : ∀ {n}, b < n → (∀ i, i < n → i ≠ b → q i = p i) → p b = false → q b = true → cn q n = cn p n + 1
  | 0, hb, _, _, _ => absurd hb (Nat.not_lt_zero _)
  | n + 1, hb, h, e1, e2 => by
    unfold cn
    by_cases e : b = n
    · subst e
      rw [cn_congr (fun i hi => h i (by omega) (by omega)), e1, e2, if_pos rfl, if_neg Bool.false_ne_true]
    · rw [cn_one (show b < n by omega) (fun i hi hne => h i (by omega) hne) e1 e2, h n (by omega) (fun z => e z.symm)]
      omega
theorem cn_ex {p : Nat → Bool} : ∀ {n}, cn p n < n → ∃ i, i < n ∧ p i = false
  | 0, h => absurd h (Nat.not_lt_zero _)
  | n + 1, h => by
    unfold cn at h
    by_cases e : p n = true
    · rw [if_pos e] at h
      obtain ⟨i, hi, e2⟩ := cn_ex (p := p) (n := n) (by omega)
      exact ⟨i, by omega, e2⟩
    · exact ⟨n, by omega, by simpa using e⟩
theorem cn_zero {p : Nat → Bool} : ∀ {n}, (∀ i, i < n → p i = false) → cn p n = 0
  | 0, _ => rfl
  | n + 1, h => by
    unfold cn
    rw [cn_zero (fun i hi => h i (by omega)), h n (by omega), if_neg Bool.false_ne_true]
theorem cn_filter (p : Nat → Bool) : ∀ n, ((List.range n).filter p).length = cn p n
  | 0 => rfl
  | n + 1 => by
    rw [List.range_succ, List.filter_append, List.length_append, cn_filter p n]
    show _ = cn p n + if p n = true then 1 else 0
    by_cases e : p n = true
    · simp [e]
    · simp [e]
/-- a has fewer than b, or as many and the lesser number -/
def ls (f : Nat → Nat) (a b : Nat) : Prop := f a < f b ∨ (f a = f b ∧ a < b)
instance (f : Nat → Nat) (a b : Nat) : Decidable (ls f a b) := inferInstanceAs (Decidable (_ ∨ _))
theorem ls_trans {f : Nat → Nat} {a b c : Nat} (h : ls f a b) (k : ls f b c) : ls f a c := by unfold ls at *; omega
theorem ls_not {f : Nat → Nat} {a b : Nat} (h : ls f a b) : ¬ ls f b a := by unfold ls at *; omega
theorem ls_ne {f : Nat → Nat} {a b : Nat} (h : ls f a b) : a ≠ b := fun e => by subst e; unfold ls at h; omega
theorem ls_total {f : Nat → Nat} {a b : Nat} (h : a ≠ b) : ls f a b ∨ ls f b a := by unfold ls; omega
/-- how many come ahead of d -/
def rnk (f : Nat → Nat) (n d : Nat) : Nat := cn (fun e => decide (ls f e d)) n
theorem rnk_lt {f : Nat → Nat} {n a b : Nat} (ha : a < n) (h : ls f a b) : rnk f n a < rnk f n b :=
  cn_lt (b := a) (fun _ _ e => decide_eq_true (ls_trans (of_decide_eq_true e) h)) ha (decide_eq_false (fun q => ls_ne q rfl)) (decide_eq_true h)
theorem rnk_inj {f : Nat → Nat} {n a b : Nat} (ha : a < n) (hb : b < n) (h : rnk f n a = rnk f n b) : a = b := by
  by_cases e : a = b
  · exact e
  · rcases ls_total (f := f) e with q | q
    · have := rnk_lt ha q; omega
    · have := rnk_lt hb q; omega
/-- of those that are so one comes first -/
theorem first_ex {f : Nat → Nat} {p : Nat → Bool} : ∀ {n}, (∃ i, i < n ∧ p i = true) → ∃ b, b < n ∧ p b = true ∧ ∀ e, e < n → p e = true → e ≠ b → ls f b e
  | 0, h => by obtain ⟨i, hi, _⟩ := h; omega
  | n + 1, h => by
    by_cases q : ∃ i, i < n ∧ p i = true
    · obtain ⟨b, hb, e1, e2⟩ := first_ex (f := f) q
      by_cases z : p n = true ∧ ls f n b
      · refine ⟨n, by omega, z.1, fun e he hp hne => ?_⟩
        by_cases y : e = b
        · rw [y]; exact z.2
        · exact ls_trans z.2 (e2 e (by omega) hp y)
      · refine ⟨b, by omega, e1, fun e he hp hne => ?_⟩
        by_cases y : e = n
        · subst y
          rcases ls_total (f := f) hne with k | k
          · exact absurd ⟨hp, k⟩ z
          · exact k
        · exact e2 e (by omega) hp hne
    · obtain ⟨i, hi, e⟩ := h
      have : i = n := by
        by_cases y : i = n
        · exact y
        · exact absurd ⟨i, by omega, e⟩ q
      subst this
      refine ⟨i, by omega, e, fun e' he hp hne => absurd ⟨e', by omega, hp⟩ q⟩
/-- of k that come first: as many as k; and the next one -/
theorem rnk_next {f : Nat → Nat} {n k : Nat} (hk : k < n) (h : cn (fun d => decide (rnk f n d < k)) n = k) : ∃ b, b < n ∧ rnk f n b = k := by
  obtain ⟨i, hi, e⟩ := cn_ex (p := fun d => decide (rnk f n d < k)) (n := n) (by omega)
  obtain ⟨b, hb, e1, e2⟩ := first_ex (f := f) (p := fun d => !decide (rnk f n d < k)) (n := n) ⟨i, hi, by simp [e]⟩
  refine ⟨b, hb, ?_⟩
  rw [← h]
  refine cn_congr (fun i hi => ?_)
  by_cases z : rnk f n i < k
  · rw [decide_eq_true z]
    have hb' : ¬ rnk f n b < k := by simpa using e1
    by_cases y : i = b
    · rw [y] at z; exact absurd z hb'
    · rcases ls_total (f := f) y with q | q
      · exact decide_eq_true q
      · have := rnk_lt hb q; omega
  · rw [decide_eq_false z]
    by_cases y : i = b
    · rw [y]; exact decide_eq_false (fun q => ls_ne q rfl)
    · exact decide_eq_false (ls_not (e2 i hi (by simpa using z) y))
theorem rnk_cn (f : Nat → Nat) (n : Nat) : ∀ k, k ≤ n → cn (fun d => decide (rnk f n d < k)) n = k
  | 0, _ => cn_zero (fun _ _ => decide_eq_false (Nat.not_lt_zero _))
  | k + 1, hk => by
    have ih := rnk_cn f n k (by omega)
    obtain ⟨b, hb, e⟩ := rnk_next (by omega) ih
    rw [cn_one (p := fun d => decide (rnk f n d < k)) (b := b) hb (fun i hi hne => ?_) (decide_eq_false (by omega)) (decide_eq_true (by omega)), ih]
    refine decide_eq_decide.2 ?_
    have : rnk f n i ≠ k := fun z => hne (rnk_inj (f := f) hi hb (by omega))
    omega
theorem rnk_at {f : Nat → Nat} {n k : Nat} (hk : k < n) : ∃ b, b < n ∧ rnk f n b = k := rnk_next hk (rnk_cn f n k (by omega))
theorem rnk_hi {f : Nat → Nat} {n d : Nat} (hd : d < n) : rnk f n d < n := by
  have h := rnk_cn f n n (Nat.le_refl _)
  by_cases e : rnk f n d < n
  · exact e
  · have := cn_lt (p := fun d => decide (rnk f n d < n)) (q := fun _ => true) (b := d) (n := n) (fun _ _ _ => rfl) hd (decide_eq_false e) rfl
    have h2 := cn_le (fun _ => true) n
    omega
/-- the sum of n numbers -/
def sm (f : Nat → Nat) : Nat → Nat
  | 0 => 0
  | n + 1 => sm f n + f n
theorem sm_congr {f g : Nat → Nat} : ∀ {n}, (∀ i, i < n → f i = g i) → sm f n = sm g n
  | 0, _ => rfl
  | n + 1, h => by
    unfold sm
    rw [sm_congr (fun i hi => h i (by omega)), h n (by omega)]
theorem sm_add (f g : Nat → Nat) : ∀ n, sm (fun i => f i + g i) n = sm f n + sm g n
  | 0 => rfl
  | n + 1 => by
    unfold sm
    rw [sm_add f g n]
    omega
theorem sm_cn (p : Nat → Bool) : ∀ n, sm (fun i => if p i = true then 1 else 0) n = cn p n
  | 0 => rfl
  | n + 1 => by
    unfold sm cn
    rw [sm_cn p n]
theorem sm_zero : ∀ n, sm (fun _ => 0) n = 0
  | 0 => rfl
  | n + 1 => by
    unfold sm
    rw [sm_zero n]
/-- who is taken: the w that come first; and how many blocks each has behind s stripes -/
def tkn (f : Nat → Nat) (n w d : Nat) : Bool := decide (rnk f n d < w)
def ld (n w : Nat) : Nat → Nat → Nat
  | 0 => fun _ => 0
  | s + 1 => fun d => ld n w s d + if tkn (ld n w s) n w d = true then 1 else 0
theorem tkn_cn {f : Nat → Nat} {n w : Nat} (hw : w ≤ n) : cn (tkn f n w) n = w := rnk_cn f n w hw
/-- the stripe s -/
def strp (n w s : Nat) : List Nat := (List.range n).filter (tkn (ld n w s) n w)
theorem strp_len {n w : Nat} (hw : w ≤ n) (s : Nat) : (strp n w s).length = w := by
  unfold strp
  rw [cn_filter, tkn_cn hw]
theorem strp_mem {n w s d : Nat} : d ∈ strp n w s ↔ d < n ∧ tkn (ld n w s) n w d = true := by
  unfold strp
  rw [List.mem_filter, List.mem_range]
theorem ld_sum {n w : Nat} (hw : w ≤ n) : ∀ s, sm (ld n w s) n = s * w
  | 0 => by rw [Nat.zero_mul]; exact sm_zero n
  | s + 1 => by
    have e : ld n w (s + 1) = fun d => ld n w s d + if tkn (ld n w s) n w d = true then 1 else 0 := rfl
    rw [e, sm_add, ld_sum hw s, sm_cn, tkn_cn hw, Nat.succ_mul]
/-- nobody has two more -/
theorem ld_even {n w : Nat} : ∀ s i k, i < n → k < n → ld n w s i ≤ ld n w s k + 1
  | 0, _, _, _, _ => Nat.zero_le _
  | s + 1, i, k, hi, hk => by
    have h1 := ld_even (w := w) s i k hi hk
    have e : ∀ d, ld n w (s + 1) d = ld n w s d + if tkn (ld n w s) n w d = true then 1 else 0 := fun _ => rfl
    rw [e, e]
    by_cases z : tkn (ld n w s) n w i = true
    · by_cases z2 : tkn (ld n w s) n w k = true
      · rw [if_pos z, if_pos z2]; omega
      · rw [if_pos z, if_neg z2]
        have q1 : rnk (ld n w s) n i < w := of_decide_eq_true z
        have q2 : ¬ rnk (ld n w s) n k < w := fun q => z2 (decide_eq_true q)
        have : ¬ ls (ld n w s) k i := fun q => by have := rnk_lt hk q; omega
        unfold ls at this
        omega
    · rw [if_neg z]
      omega
/-- how many of the first s stripes have the disk d -/
theorem ld_cn (n w d : Nat) : ∀ s, ld n w s d = cn (fun i => tkn (ld n w i) n w d) s
  | 0 => rfl
  | s + 1 => by
    have e : ld n w (s + 1) d = ld n w s d + if tkn (ld n w s) n w d = true then 1 else 0 := rfl
    rw [e, ld_cn n w d s]
    rfl
end Go.Proofs.YteafakgjfmbhoaaGreatDoor

/- On which disks: what a disk has together with others: plain. -/
namespace Go.Proofs.YteafakgjfmbhoaaGreatDoor
/-- of m stripes: how many have the disk d; how many have d and e, which is another one -/
def lds (has : Nat → Nat → Bool) (m d : Nat) : Nat := cn (fun i => has i d) m
def prs (has : Nat → Nat → Bool) (m d e : Nat) : Nat := if e = d then 0 else cn (fun i => has i d && has i e) m
theorem cn_if (b : Bool) (p : Nat → Bool) (n : Nat) : cn (fun i => b && p i) n = if b = true then cn p n else 0 := by
  cases b with
  | true => rw [if_pos rfl]; exact cn_congr (fun i _ => Bool.true_and _)
  | false => rw [if_neg Bool.false_ne_true]; exact cn_zero (fun i _ => Bool.false_and _)
/-- counted by rows or by columns -/
theorem sm_swap (q : Nat → Nat → Bool) (n : Nat) : ∀ m, sm (fun e => cn (fun i => q i e) m) n = sm (fun i => cn (q i) n) m
  | 0 => sm_zero n
  | m + 1 => by
    have e : (fun e => cn (fun i => q i e) (m + 1)) = fun e => cn (fun i => q i e) m + if q m e = true then 1 else 0 := rfl
    rw [e, sm_add, sm_swap q n m, sm_cn (q m)]
    rfl
theorem sm_times (b : Nat → Bool) (k : Nat) : ∀ m, sm (fun i => if b i = true then k else 0) m = cn b m * k
  | 0 => by rw [show cn b 0 = 0 from rfl, Nat.zero_mul]; rfl
  | m + 1 => by
    show sm (fun i => if b i = true then k else 0) m + (if b m = true then k else 0) = (cn b m + if b m = true then 1 else 0) * k
    rw [sm_times b k m]
    split
    · rw [Nat.succ_mul]
    · rw [Nat.add_zero, Nat.add_zero]
/-- what a disk has together with others is what its stripes have without it -/
theorem prs_sum {has : Nat → Nat → Bool} {m n w d : Nat} (hd : d < n) (hw : ∀ i, i < m → cn (has i) n = w) : sm (prs has m d) n = lds has m d * (w - 1) := by
  have e1 : ∀ e, e < n → prs has m d e = cn (fun i => has i d && (has i e && decide (e ≠ d))) m := fun e _ => by
    unfold prs
    by_cases z : e = d
    · rw [if_pos z]
      exact (cn_zero (fun i _ => by rw [decide_eq_false (fun q => q z), Bool.and_false, Bool.and_false])).symm
    · rw [if_neg z]
      exact cn_congr (fun i _ => by rw [decide_eq_true z, Bool.and_true])
  rw [sm_congr e1, sm_swap (fun i e => has i d && (has i e && decide (e ≠ d))) n m]
  have e2 : ∀ i, i < m → cn (fun e => has i d && (has i e && decide (e ≠ d))) n = if has i d = true then w - 1 else 0 := fun i hi => by
    rw [cn_if]
    by_cases z : has i d = true
    · rw [if_pos z, if_pos z, ← hw i hi]
      have := cn_one (p := fun e => has i e && decide (e ≠ d)) (q := has i) (b := d) (n := n) hd (fun e _ hne => by rw [decide_eq_true hne, Bool.and_true]) (by rw [decide_eq_false (fun q => q rfl), Bool.and_false]) z
      omega
    · rw [if_neg z, if_neg z]
  rw [sm_congr e2, sm_times (fun i => has i d)]
  rfl
/-- of stripes that were placed -/
theorem placed_lds (n w d m : Nat) : lds (fun i => tkn (ld n w i) n w) m d = ld n w m d := (ld_cn n w d m).symm
theorem placed_prs {n w d : Nat} (hw : w ≤ n) (hd : d < n) (m : Nat) : sm (prs (fun i => tkn (ld n w i) n w) m d) n = ld n w m d * (w - 1) := by
  rw [prs_sum hd (fun i _ => tkn_cn hw), placed_lds]
end Go.Proofs.YteafakgjfmbhoaaGreatDoor

/- Stripes that are handed in: what is wrong with some, and who is in one: plain. -/
namespace Go.Proofs.YteafakgjfmbhoaaGreatDoor
/-- a number is among the first l -/
def isIn (l : Nat) (f : Nat → Int) (z : Int) : Bool := anyB (fun j => decide (f j = z)) l
theorem isIn_true {l : Nat} {f : Nat → Int} {z : Int} : isIn l f z = true ↔ ∃ j, j < l ∧ f j = z := by
  unfold isIn
  rw [anyB_true]
  constructor
  · rintro ⟨j, hj, e⟩; exact ⟨j, hj, of_decide_eq_true e⟩
  · rintro ⟨j, hj, e⟩; exact ⟨j, hj, decide_eq_true e⟩
theorem isIn_false {l : Nat} {f : Nat → Int} {z : Int} : isIn l f z = false ↔ ∀ j, j < l → f j ≠ z := by
  unfold isIn
  rw [anyB_false]
  constructor
  · intro h j hj; exact of_decide_eq_false (h j hj)
  · intro h j hj; exact decide_eq_false (h j hj)
theorem isIn_congr {l : Nat} {f g : Nat → Int} (h : ∀ j, j < l → f j = g j) (z : Int) : isIn l f z = isIn l g z := by
  rw [Bool.eq_iff_iff, isIn_true, isIn_true]
  constructor
  · rintro ⟨j, hj, e⟩; exact ⟨j, hj, by rw [← h j hj]; exact e⟩
  · rintro ⟨j, hj, e⟩; exact ⟨j, hj, by rw [h j hj]; exact e⟩
theorem isIn_succ (k : Nat) (f : Nat → Int) (z : Int) : isIn (k + 1) f z = (isIn k f z || decide (f k = z)) := by
  rw [Bool.eq_iff_iff, Bool.or_eq_true, isIn_true, isIn_true, decide_eq_true_iff]
  constructor
  · rintro ⟨j, hj, e⟩
    by_cases q : j = k
    · rw [q] at e; exact .inr e
    · exact .inl ⟨j, by omega, e⟩
  · rintro (⟨j, hj, e⟩ | e)
    · exact ⟨j, by omega, e⟩
    · exact ⟨k, by omega, e⟩
/-- one has a disk that is none of n; one has a disk twice -/
def noDk (n z : Int) : Bool := decide (z < 0) || decide (n ≤ z)
def badR (n : Int) (l : Nat) (f : Nat → Int) : Bool := anyB (fun j => noDk n (f j)) l
def badT (l : Nat) (f : Nat → Int) : Bool := anyB (fun k => isIn k f (f k)) l
def rowE (n : Int) (l : Nat) (f : Nat → Int) : Nat := if badR n l f = true then 1 else if badT l f = true then 7 else 0
theorem noDk_false {n z : Int} : noDk n z = false ↔ 0 ≤ z ∧ z < n := by
  unfold noDk
  rw [Bool.or_eq_false_iff, decide_eq_false_iff_not, decide_eq_false_iff_not]
  omega
theorem noDk_true {n z : Int} : noDk n z = true ↔ z < 0 ∨ n ≤ z := by
  unfold noDk
  rw [Bool.or_eq_true, decide_eq_true_iff, decide_eq_true_iff]
theorem badR_false {n : Int} {l : Nat} {f : Nat → Int} : badR n l f = false ↔ ∀ j, j < l → 0 ≤ f j ∧ f j < n := by
  unfold badR
  rw [anyB_false]
  constructor
  · intro h j hj; exact noDk_false.1 (h j hj)
  · intro h j hj; exact noDk_false.2 (h j hj)
theorem badT_false {l : Nat} {f : Nat → Int} : badT l f = false ↔ ∀ k, k < l → ∀ j, j < k → f j ≠ f k := by
  unfold badT
  rw [anyB_false]
  constructor
  · intro h j hj; exact isIn_false.1 (h j hj)
  · intro h j hj; exact isIn_false.2 (h j hj)
/-- the row is right -/
structure RowOk (n : Int) (l : Nat) (f : Nat → Int) : Prop where
  lo : ∀ j, j < l → 0 ≤ f j
  hi : ∀ j, j < l → f j < n
  one : ∀ k, k < l → ∀ j, j < k → f j ≠ f k
theorem rowE_zero {n : Int} {l : Nat} {f : Nat → Int} : rowE n l f = 0 ↔ RowOk n l f := by
  unfold rowE
  constructor
  · intro h
    by_cases h1 : badR n l f = true
    · rw [if_pos h1] at h; omega
    · rw [if_neg h1] at h
      by_cases h2 : badT l f = true
      · rw [if_pos h2] at h; omega
      · have h1' : badR n l f = false := by simpa using h1
        have h2' : badT l f = false := by simpa using h2
        exact ⟨fun j hj => (badR_false.1 h1' j hj).1, fun j hj => (badR_false.1 h1' j hj).2, badT_false.1 h2'⟩
  · intro h
    rw [badR_false.2 (fun j hj => ⟨h.lo j hj, h.hi j hj⟩), badT_false.2 h.one, if_neg Bool.false_ne_true, if_neg Bool.false_ne_true]
theorem rowE_range {n : Int} {l : Nat} {f : Nat → Int} (h : badR n l f = true) : rowE n l f = 1 := if_pos h
theorem rowE_clash {n : Int} {l : Nat} {f : Nat → Int} (h : badR n l f = false) (k : badT l f = true) : rowE n l f = 7 := by
  unfold rowE
  rw [h, if_neg Bool.false_ne_true, if_pos k]
/-- the first fault -/
def fstE (g : Nat → Nat) : Nat → Nat
  | 0 => 0
  | m + 1 => if fstE g m = 0 then g m else fstE g m
theorem fstE_zero {g : Nat → Nat} : ∀ {m}, fstE g m = 0 ↔ ∀ i, i < m → g i = 0
  | 0 => ⟨fun _ i hi => absurd hi (Nat.not_lt_zero _), fun _ => rfl⟩
  | m + 1 => by
    have ih := fstE_zero (g := g) (m := m)
    show (if fstE g m = 0 then g m else fstE g m) = 0 ↔ _
    constructor
    · intro h i hi
      by_cases e : fstE g m = 0
      · rw [if_pos e] at h
        by_cases q : i = m
        · rw [q]; exact h
        · exact ih.1 e i (by omega)
      · rw [if_neg e] at h; exact absurd h e
    · intro h
      rw [if_pos (ih.2 (fun i hi => h i (by omega)))]
      exact h m (by omega)
theorem fstE_at {g : Nat → Nat} {k : Nat} (h1 : ∀ i, i < k → g i = 0) (h2 : g k ≠ 0) : ∀ m, k < m → fstE g m = g k
  | 0, h => absurd h (Nat.not_lt_zero _)
  | m + 1, h => by
    show (if fstE g m = 0 then g m else fstE g m) = g k
    by_cases e : k = m
    · rw [if_pos (fstE_zero.2 (by rw [← e]; exact h1)), e]
    · have := fstE_at h1 h2 m (by omega)
      rw [if_neg (by rw [this]; exact h2), this]
/-- what is wrong with m stripes on n disks -/
def stE (n : Int) (m : Nat) (L : Nat → Nat) (F : Nat → Nat → Int) : Nat :=
  if n < 1 ∨ 10 < n then 1 else if 40 < m then 4 else fstE (fun i => rowE n (L i) (F i)) m
structure StOk (n : Int) (m : Nat) (L : Nat → Nat) (F : Nat → Nat → Int) : Prop where
  n1 : 1 ≤ n
  n2 : n ≤ 10
  m1 : m ≤ 40
  row : ∀ i, i < m → RowOk n (L i) (F i)
theorem stE_zero {n : Int} {m : Nat} {L : Nat → Nat} {F : Nat → Nat → Int} : stE n m L F = 0 ↔ StOk n m L F := by
  unfold stE
  constructor
  · intro h
    by_cases h1 : n < 1 ∨ 10 < n
    · rw [if_pos h1] at h; omega
    · rw [if_neg h1] at h
      by_cases h2 : 40 < m
      · rw [if_pos h2] at h; omega
      · rw [if_neg h2, fstE_zero] at h
        exact ⟨by omega, by omega, by omega, fun i hi => rowE_zero.1 (h i hi)⟩
  · intro h
    have := h.n1
    have := h.n2
    have := h.m1
    rw [if_neg (by omega), if_neg (by omega), fstE_zero]
    exact fun i hi => rowE_zero.2 (h.row i hi)
/-- who is in which stripe -/
def hsI (L : Nat → Nat) (F : Nat → Nat → Int) (i d : Nat) : Bool := isIn (L i) (F i) (d : Int)
/-- one stripe more counted, its first k -/
def ctd (f : Nat → Nat) (k : Nat) (g : Nat → Int) (d : Nat) : Nat := f d + if isIn k g (d : Int) = true then 1 else 0
theorem ctd_zero (f : Nat → Nat) (g : Nat → Int) (d : Nat) : ctd f 0 g d = f d := by
  unfold ctd
  rw [isIn_false.2 (fun j hj => absurd hj (Nat.not_lt_zero _)), if_neg Bool.false_ne_true, Nat.add_zero]
theorem ctd_succ {f : Nat → Nat} {k l e : Nat} {g : Nat → Int} {n : Int} (h : RowOk n l g) (hk : k < l) (he : g k = (e : Int)) (d : Nat) : ctd f (k + 1) g d = up (ctd f k g) e (ctd f k g e + 1) d := by
  unfold up
  by_cases q : d = e
  · rw [if_pos q, q]
    unfold ctd
    rw [isIn_true.2 ⟨k, by omega, he⟩, isIn_false.2 (fun j hj => by rw [← he]; exact h.one k hk j hj), if_pos rfl, if_neg Bool.false_ne_true]
  · rw [if_neg q]
    unfold ctd
    have : isIn (k + 1) g (d : Int) = isIn k g (d : Int) := by
      rw [Bool.eq_iff_iff, isIn_true, isIn_true]
      constructor
      · rintro ⟨j, hj, ej⟩
        by_cases z : j = k
        · rw [z, he] at ej; omega
        · exact ⟨j, by omega, ej⟩
      · rintro ⟨j, hj, ej⟩
        exact ⟨j, by omega, ej⟩
    rw [this]
theorem ctd_le (f : Nat → Nat) (k : Nat) (g : Nat → Int) (d : Nat) : ctd f k g d ≤ f d + 1 := by
  unfold ctd
  split <;> omega
/-- counted stripe by stripe -/
theorem lds_zero (has : Nat → Nat → Bool) (d : Nat) : lds has 0 d = 0 := rfl
theorem lds_succ (L : Nat → Nat) (F : Nat → Nat → Int) (m d : Nat) : lds (hsI L F) (m + 1) d = ctd (lds (hsI L F) m) (L m) (F m) d := rfl
/-- counted where the disk d is too -/
def bth (has : Nat → Nat → Bool) (m d e : Nat) : Nat := cn (fun i => has i d && has i e) m
theorem bth_yes {L : Nat → Nat} {F : Nat → Nat → Int} {m d : Nat} (h : hsI L F m d = true) (e : Nat) : bth (hsI L F) (m + 1) d e = ctd (bth (hsI L F) m d) (L m) (F m) e := by
  show cn _ m + (if (hsI L F m d && hsI L F m e) = true then 1 else 0) = _
  rw [h, Bool.true_and]
  rfl
theorem bth_no {L : Nat → Nat} {F : Nat → Nat → Int} {m d : Nat} (h : hsI L F m d = false) (e : Nat) : bth (hsI L F) (m + 1) d e = bth (hsI L F) m d e := by
  show cn _ m + (if (hsI L F m d && hsI L F m e) = true then 1 else 0) = _
  rw [h, Bool.false_and, if_neg Bool.false_ne_true]
  rfl
theorem prs_up (has : Nat → Nat → Bool) (m d e : Nat) : up (bth has m d) d 0 e = prs has m d e := rfl
theorem bth_le (has : Nat → Nat → Bool) (m d e : Nat) : bth has m d e ≤ m := cn_le _ _
theorem lds_le (has : Nat → Nat → Bool) (m d : Nat) : lds has m d ≤ m := cn_le _ _
theorem prs_le (has : Nat → Nat → Bool) (m d e : Nat) : prs has m d e ≤ m := by
  unfold prs
  split
  · omega
  · exact cn_le _ _
/-- who is hurt -/
def hrt (has : Nat → Nat → Bool) (m d : Nat) : List Nat := (List.range m).filter (fun i => has i d)
theorem hrt_succ (has : Nat → Nat → Bool) (m d : Nat) : hrt has (m + 1) d = hrt has m d ++ if has m d = true then [m] else [] := by
  unfold hrt
  rw [List.range_succ, List.filter_append]
  congr 1
  by_cases e : has m d = true
  · simp [e]
  · simp [e]
theorem hrt_len (has : Nat → Nat → Bool) (m d : Nat) : (hrt has m d).length = lds has m d := cn_filter _ _
/-- numbers that rise, and the same ones -/
theorem rise_same : ∀ {a b : List Nat}, a.Pairwise (· < ·) → b.Pairwise (· < ·) → (∀ x, x ∈ a ↔ x ∈ b) → a = b
  | [], [], _, _, _ => rfl
  | [], y :: b, _, _, h => by have := (h y).2 (by simp); simp at this
  | x :: a, [], _, _, h => by have := (h x).1 (by simp); simp at this
  | x :: a, y :: b, ha, hb, h => by
    rw [List.pairwise_cons] at ha hb
    have hxy : x = y := by
      have h1 := (h x).1 (by simp)
      have h2 := (h y).2 (by simp)
      rw [List.mem_cons] at h1 h2
      rcases h1 with h1 | h1
      · exact h1
      · rcases h2 with h2 | h2
        · exact h2.symm
        · have := ha.1 _ h2
          have := hb.1 _ h1
          omega
    subst hxy
    rw [rise_same ha.2 hb.2 (fun z => ?_)]
    constructor
    · intro hz
      have h1 := (h z).1 (by simp [hz])
      rw [List.mem_cons] at h1
      rcases h1 with h1 | h1
      · have := ha.1 _ hz; omega
      · exact h1
    · intro hz
      have h1 := (h z).2 (by simp [hz])
      rw [List.mem_cons] at h1
      rcases h1 with h1 | h1
      · have := hb.1 _ hz; omega
      · exact h1
theorem rise_range : ∀ n, (List.range n).Pairwise (· < ·)
  | 0 => List.Pairwise.nil
  | n + 1 => by
    rw [List.range_succ, List.pairwise_append]
    refine ⟨rise_range n, List.pairwise_singleton _ _, fun a ha b hb => ?_⟩
    have h1 := List.mem_range.1 ha
    have h2 : b = n := by simpa using hb
    omega
theorem rise_map {g : Nat → Nat} : ∀ n, (∀ p q, p < q → q < n → g p < g q) → ((List.range n).map g).Pairwise (· < ·)
  | 0, _ => List.Pairwise.nil
  | n + 1, h => by
    rw [List.range_succ, List.map_append, List.pairwise_append]
    refine ⟨rise_map n (fun p q h1 h2 => h p q h1 (by omega)), List.pairwise_singleton _ _, fun a ha b hb => ?_⟩
    obtain ⟨i, hi, rfl⟩ := List.mem_map.1 ha
    have h2 : b = g n := by simpa using hb
    rw [h2]
    exact h i n (List.mem_range.1 hi) (by omega)
theorem rise_strp (n w s : Nat) : (strp n w s).Pairwise (· < ·) := (rise_range n).filter _
/-- stripes that were placed are right, and who is in them -/
theorem getD_mem {l : List Nat} {j : Nat} (h : j < l.length) : l.getD j 0 ∈ l := by
  rw [List.getD_eq_getElem?_getD, List.getElem?_eq_getElem h]
  exact List.getElem_mem h
theorem rise_getD {l : List Nat} (h : l.Pairwise (· < ·)) {j k : Nat} (hj : j < k) (hk : k < l.length) : l.getD j 0 < l.getD k 0 := by
  rw [List.getD_eq_getElem?_getD, List.getD_eq_getElem?_getD, List.getElem?_eq_getElem hk, List.getElem?_eq_getElem (by omega)]
  exact List.pairwise_iff_getElem.1 h j k (by omega) hk hj
/-- the stripes that were placed, as rows -/
def plF (n w i j : Nat) : Int := (((strp n w i).getD j 0 : Nat) : Int)
theorem placed_row {n w i : Nat} (hw : w ≤ n) {N : Int} (hN : (n : Int) ≤ N) : RowOk N w (plF n w i) := by
  have hl := strp_len hw i
  refine ⟨fun j _ => by unfold plF; omega, fun j hj => ?_, fun k hk j hj => ?_⟩
  · have := (strp_mem.1 (getD_mem (l := strp n w i) (j := j) (by omega))).1
    unfold plF
    omega
  · have := rise_getD (rise_strp n w i) hj (by omega)
    unfold plF
    omega
theorem placed_has {n w : Nat} (hw : w ≤ n) (i d : Nat) : hsI (fun _ => w) (plF n w) i d = (decide (d < n) && tkn (ld n w i) n w d) := by
  have hl := strp_len hw i
  show isIn w (plF n w i) (d : Int) = _
  rw [Bool.eq_iff_iff, isIn_true, Bool.and_eq_true, decide_eq_true_iff, ← strp_mem]
  constructor
  · rintro ⟨j, hj, e⟩
    have := getD_mem (l := strp n w i) (j := j) (by omega)
    unfold plF at e
    rw [show (strp n w i).getD j 0 = d by omega] at this
    exact this
  · intro h
    obtain ⟨j, hj, e⟩ := List.getElem_of_mem h
    refine ⟨j, by omega, ?_⟩
    unfold plF
    rw [List.getD_eq_getElem?_getD, List.getElem?_eq_getElem hj]
    show ((strp n w i)[j] : Int) = _
    rw [e]
theorem placed_ok {n w m : Nat} (h1 : 1 ≤ n) (h2 : n ≤ 10) (hw : w ≤ n) (hm : m ≤ 40) {N : Int} (hN : (n : Int) ≤ N) (hN2 : N ≤ 10) : StOk N m (fun _ => w) (plF n w) :=
  ⟨by omega, hN2, hm, fun _ _ => placed_row hw hN⟩
end Go.Proofs.YteafakgjfmbhoaaGreatDoor
