/- On which disks: so many of a list, and in which order: plain. -/
import Derived.Test.YtdbanimlnjhhlaaDoorGen
namespace Go.Proofs.YtdbanimlnjhhlaaDoor
/-- how many of n are so -/
def cn (p : Nat → Bool) : Nat → Nat
  | 0 => 0
  | n + 1 => cn p n + if p n = true then 1 else 0
theorem cn_le (p : Nat → Bool) : ∀ n, cn p n ≤ n
  | 0 => Nat.le_refl _
  | n + 1 => by
    have := cn_le p n
    unfold cn
    split <;> omega
theorem cn_congr {p q : Nat → Bool} : ∀ {n}, (∀ i, i < n → p i = q i) → cn p n = cn q n
  | 0, _ => rfl
  | n + 1, h => by
    unfold cn
    rw [cn_congr (fun i hi => h i (by omega)), h n (by omega)]
theorem cn_mono {p q : Nat → Bool} : ∀ {n}, (∀ i, i < n → p i = true → q i = true) → cn p n ≤ cn q n
  | 0, _ => Nat.le_refl _
  | n + 1, h => by
    have := cn_mono (fun i hi => h i (by omega) : ∀ i, i < n → p i = true → q i = true)
    have h2 := h n (by omega)
    unfold cn
    by_cases e : p n = true
    · rw [if_pos e, if_pos (h2 e)]; omega
    · rw [if_neg e]; omega
theorem cn_lt {p q : Nat → Bool} {b : Nat} : ∀ {n}, (∀ i, i < n → p i = true → q i = true) → b < n → p b = false → q b = true → cn p n < cn q n
  | 0, _, hb, _, _ => absurd hb (Nat.not_lt_zero _)
  | n + 1, h, hb, e1, e2 => by
    have h2 := h n (by omega)
    by_cases e : b = n
    · have := cn_mono (fun i hi => h i (by omega) : ∀ i, i < n → p i = true → q i = true)
      unfold cn
      rw [← e, e1, e2, if_neg Bool.false_ne_true, if_pos rfl]
      rw [← e] at this
      omega
    · have := cn_lt (fun i hi => h i (by omega) : ∀ i, i < n → p i = true → q i = true) (show b < n by omega) e1 e2
      unfold cn
      by_cases z : p n = true
      · rw [if_pos z, if_pos (h2 z)]; omega
      · rw [if_neg z]; omega
/-- one more -/
theorem cn_one {p q : Nat → Bool} {b : Nat} : ∀ {n}, b < n → (∀ i, i < n → i ≠ b → q i = p i) → p b = false → q b = true → cn q n = cn p n + 1
  | 0, hb, _, _, _ => absurd hb (Nat.not_lt_zero _)
  | n + 1, hb, h, e1, e2 => by
    unfold cn
    by_cases e : b = n
    · subst e
      rw [cn_congr (fun i hi => h i (by omega) (by omega)), e1, e2, if_pos rfl, if_neg Bool.false_ne_true]
    · rw [cn_one (show b < n by omega) (fun i hi hne => h i (by omega) hne) e1 e2, h n (by omega) (fun z => e z.symm)]
      omega
theorem cn_ex {p : Nat → Bool} : ∀ {n}, cn p n < n → ∃ i, i < n ∧ p i = false
  | 0, h => absurd h (Nat.not_lt_zero _)
  | n + 1, h => by
    unfold cn at h
    by_cases e : p n = true
    · rw [if_pos e] at h
      obtain ⟨i, hi, e2⟩ := cn_ex (p := p) (n := n) (by omega)
      exact ⟨i, by omega, e2⟩
    · exact ⟨n, by omega, by simpa using e⟩
theorem cn_zero {p : Nat → Bool} : ∀ {n}, (∀ i, i < n → p i = false) → cn p n = 0
  | 0, _ => rfl
  | n + 1, h => by
    unfold cn
    rw [cn_zero (fun i hi => h i (by omega)), h n (by omega), if_neg Bool.false_ne_true]
theorem cn_filter (p : Nat → Bool) : ∀ n, ((List.range n).filter p).length = cn p n
  | 0 => rfl
  | n + 1 => by
    rw [List.range_succ, List.filter_append, List.length_append, cn_filter p n]
    show _ = cn p n + if p n = true then 1 else 0
    by_cases e : p n = true
    · simp [e]
    · simp [e]
/-- a has fewer than b, or as many and the lesser number -/
def ls (f : Nat → Nat) (a b : Nat) : Prop := f a < f b ∨ (f a = f b ∧ a < b)
instance (f : Nat → Nat) (a b : Nat) : Decidable (ls f a b) := inferInstanceAs (Decidable (_ ∨ _))
theorem ls_trans {f : Nat → Nat} {a b c : Nat} (h : ls f a b) (k : ls f b c) : ls f a c := by unfold ls at *; omega
theorem ls_not {f : Nat → Nat} {a b : Nat} (h : ls f a b) : ¬ ls f b a := by unfold ls at *; omega
theorem ls_ne {f : Nat → Nat} {a b : Nat} (h : ls f a b) : a ≠ b := fun e => by subst e; unfold ls at h; omega
theorem ls_total {f : Nat → Nat} {a b : Nat} (h : a ≠ b) : ls f a b ∨ ls f b a := by unfold ls; omega
/-- how many come ahead of d -/
def rnk (f : Nat → Nat) (n d : Nat) : Nat := cn (fun e => decide (ls f e d)) n
theorem rnk_lt {f : Nat → Nat} {n a b : Nat} (ha : a < n) (h : ls f a b) : rnk f n a < rnk f n b :=
  cn_lt (b := a) (fun _ _ e => decide_eq_true (ls_trans (of_decide_eq_true e) h)) ha (decide_eq_false (fun q => ls_ne q rfl)) (decide_eq_true h)
theorem rnk_inj {f : Nat → Nat} {n a b : Nat} (ha : a < n) (hb : b < n) (h : rnk f n a = rnk f n b) : a = b := by
  by_cases e : a = b
  · exact e
  · rcases ls_total (f := f) e with q | q
    · have := rnk_lt ha q; omega
    · have := rnk_lt hb q; omega
/-- of those that are so one comes first -/
theorem first_ex {f : Nat → Nat} {p : Nat → Bool} : ∀ {n}, (∃ i, i < n ∧ p i = true) → ∃ b, b < n ∧ p b = true ∧ ∀ e, e < n → p e = true → e ≠ b → ls f b e
  | 0, h => by obtain ⟨i, hi, _⟩ := h; omega
  | n + 1, h => by
    by_cases q : ∃ i, i < n ∧ p i = true
    · obtain ⟨b, hb, e1, e2⟩ := first_ex (f := f) q
      by_cases z : p n = true ∧ ls f n b
      · refine ⟨n, by omega, z.1, fun e he hp hne => ?_⟩
        by_cases y : e = b
        · rw [y]; exact z.2
        · exact ls_trans z.2 (e2 e (by omega) hp y)
      · refine ⟨b, by omega, e1, fun e he hp hne => ?_⟩
        by_cases y : e = n
        · subst y
          rcases ls_total (f := f) hne with k | k
          · exact absurd ⟨hp, k⟩ z
          · exact k
        · exact e2 e (by omega) hp hne
    · obtain ⟨i, hi, e⟩ := h
      have : i = n := by
        by_cases y : i = n
        · exact y
        · exact absurd ⟨i, by omega, e⟩ q
      subst this
      refine ⟨i, by omega, e, fun e' he hp hne => absurd ⟨e', by omega, hp⟩ q⟩
/-- of k that come first: as many as k; and the next one -/
theorem rnk_next {f : Nat → Nat} {n k : Nat} (hk : k < n) (h : cn (fun d => decide (rnk f n d < k)) n = k) : ∃ b, b < n ∧ rnk f n b = k := by
  obtain ⟨i, hi, e⟩ := cn_ex (p := fun d => decide (rnk f n d < k)) (n := n) (by omega)
  obtain ⟨b, hb, e1, e2⟩ := first_ex (f := f) (p := fun d => !decide (rnk f n d < k)) (n := n) ⟨i, hi, by simp [e]⟩
  refine ⟨b, hb, ?_⟩
  rw [← h]
  refine cn_congr (fun i hi => ?_)
  by_cases z : rnk f n i < k
  · rw [decide_eq_true z]
    have hb' : ¬ rnk f n b < k := by simpa using e1
    by_cases y : i = b
    · rw [y] at z; exact absurd z hb'
    · rcases ls_total (f := f) y with q | q
      · exact decide_eq_true q
      · have := rnk_lt hb q; omega
  · rw [decide_eq_false z]
    by_cases y : i = b
    · rw [y]; exact decide_eq_false (fun q => ls_ne q rfl)
    · exact decide_eq_false (ls_not (e2 i hi (by simpa using z) y))
theorem rnk_cn (f : Nat → Nat) (n : Nat) : ∀ k, k ≤ n → cn (fun d => decide (rnk f n d < k)) n = k
  | 0, _ => cn_zero (fun _ _ => decide_eq_false (Nat.not_lt_zero _))
  | k + 1, hk => by
    have ih := rnk_cn f n k (by omega)
    obtain ⟨b, hb, e⟩ := rnk_next (by omega) ih
    rw [cn_one (p := fun d => decide (rnk f n d < k)) (b := b) hb (fun i hi hne => ?_) (decide_eq_false (by omega)) (decide_eq_true (by omega)), ih]
    refine decide_eq_decide.2 ?_
    have : rnk f n i ≠ k := fun z => hne (rnk_inj (f := f) hi hb (by omega))
    omega
theorem rnk_at {f : Nat → Nat} {n k : Nat} (hk : k < n) : ∃ b, b < n ∧ rnk f n b = k := rnk_next hk (rnk_cn f n k (by omega))
theorem rnk_hi {f : Nat → Nat} {n d : Nat} (hd : d < n) : rnk f n d < n := by
  have h := rnk_cn f n n (Nat.le_refl _)
  by_cases e : rnk f n d < n
  · exact e
  · have := cn_lt (p := fun d => decide (rnk f n d < n)) (q := fun _ => true) (b := d) (n := n) (fun _ _ _ => rfl) hd (decide_eq_false e) rfl
    have h2 := cn_le (fun _ => true) n
    omega
/-- the sum of n numbers -/
def sm (f : Nat → Nat) : Nat → Nat
  | 0 => 0
  | n + 1 => sm f n + f n
theorem sm_congr {f g : Nat → Nat} : ∀ {n}, (∀ i, i < n → f i = g i) → sm f n = sm g n
  | 0, _ => rfl
  | n + 1, h => by
    unfold sm
    rw [sm_congr (fun i hi => h i (by omega)), h n (by omega)]
theorem sm_add (f g : Nat → Nat) : ∀ n, sm (fun i => f i + g i) n = sm f n + sm g n
  | 0 => rfl
  | n + 1 => by
    unfold sm
    rw [sm_add f g n]
    omega
theorem sm_cn (p : Nat → Bool) : ∀ n, sm (fun i => if p i = true then 1 else 0) n = cn p n
  | 0 => rfl
  | n + 1 => by
    unfold sm cn
    rw [sm_cn p n]
theorem sm_zero : ∀ n, sm (fun _ => 0) n = 0
  | 0 => rfl
  | n + 1 => by
    unfold sm
    rw [sm_zero n]
/-- who is taken: the w that come first; and how many blocks each has behind s stripes -/
def tkn (f : Nat → Nat) (n w d : Nat) : Bool := decide (rnk f n d < w)
def ld (n w : Nat) : Nat → Nat → Nat
  | 0 => fun _ => 0
  | s + 1 => fun d => ld n w s d + if tkn (ld n w s) n w d = true then 1 else 0
theorem tkn_cn {f : Nat → Nat} {n w : Nat} (hw : w ≤ n) : cn (tkn f n w) n = w := rnk_cn f n w hw
/-- the stripe s -/
def strp (n w s : Nat) : List Nat := (List.range n).filter (tkn (ld n w s) n w)
theorem strp_len {n w : Nat} (hw : w ≤ n) (s : Nat) : (strp n w s).length = w := by
  unfold strp
  rw [cn_filter, tkn_cn hw]
theorem strp_mem {n w s d : Nat} : d ∈ strp n w s ↔ d < n ∧ tkn (ld n w s) n w d = true := by
  unfold strp
  rw [List.mem_filter, List.mem_range]
theorem ld_sum {n w : Nat} (hw : w ≤ n) : ∀ s, sm (ld n w s) n = s * w
  | 0 => by rw [Nat.zero_mul]; exact sm_zero n
  | s + 1 => by
    have e : ld n w (s + 1) = fun d => ld n w s d + if tkn (ld n w s) n w d = true then 1 else 0 := rfl
    rw [e, sm_add, ld_sum hw s, sm_cn, tkn_cn hw, Nat.succ_mul]
/-- nobody has two more -/
theorem ld_even {n w : Nat} : ∀ s i k, i < n → k < n → ld n w s i ≤ ld n w s k + 1
  | 0, _, _, _, _ => Nat.zero_le _
  | s + 1, i, k, hi, hk => by
    have h1 := ld_even (w := w) s i k hi hk
    have e : ∀ d, ld n w (s + 1) d = ld n w s d + if tkn (ld n w s) n w d = true then 1 else 0 := fun _ => rfl
    rw [e, e]
    by_cases z : tkn (ld n w s) n w i = true
    · by_cases z2 : tkn (ld n w s) n w k = true
      · rw [if_pos z, if_pos z2]; omega
      · rw [if_pos z, if_neg z2]
        have q1 : rnk (ld n w s) n i < w := of_decide_eq_true z
        have q2 : ¬ rnk (ld n w s) n k < w := fun q => z2 (decide_eq_true q)
        have : ¬ ls (ld n w s) k i := fun q => by have := rnk_lt hk q; omega
        unfold ls at this
        omega
    · rw [if_neg z]
      omega
/-- how many of the first s stripes have the disk d -/
theorem ld_cn (n w d : Nat) : ∀ s, ld n w s d = cn (fun i => tkn (ld n w i) n w d) s
  | 0 => rfl
  | s + 1 => by
    have e : ld n w (s + 1) d = ld n w s d + if tkn (ld n w s) n w d = true then 1 else 0 := rfl
    rw [e, ld_cn n w d s]
    rfl
end Go.Proofs.YtdbanimlnjhhlaaDoor
