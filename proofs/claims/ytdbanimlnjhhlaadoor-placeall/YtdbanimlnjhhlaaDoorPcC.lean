/- On which disks: the next one, found by looking through all; those that come first, by sorting: plain. -/
import Derived.Test.YtdbanimlnjhhlaaDoorPcA
namespace Go.Proofs.YtdbanimlnjhhlaaDoor
theorem tkn_of {f : Nat → Nat} {n k d : Nat} (h : rnk f n d < k) : tkn f n k d = true := decide_eq_true h
theorem tkn_not {f : Nat → Nat} {n k d : Nat} (h : ¬ rnk f n d < k) : tkn f n k d = false := decide_eq_false h
theorem tkn_zero (f : Nat → Nat) (n d : Nat) : tkn f n 0 d = false := decide_eq_false (Nat.not_lt_zero _)
theorem tkn_succ {f : Nat → Nat} {n k b : Nat} (hb : b < n) (h : rnk f n b = k) {d : Nat} (hd : d < n) : tkn f n (k + 1) d = if d = b then true else tkn f n k d := by
  by_cases e : d = b
  · rw [if_pos e, e]; exact tkn_of (by omega)
  · rw [if_neg e]
    have : rnk f n d ≠ k := fun z => e (rnk_inj (f := f) hd hb (by omega))
    exact decide_eq_decide.2 (by omega)
/-- of the first j disks that are not among the k the one that comes first is z (-1: there is none) -/
def Bst (f : Nat → Nat) (n k j : Nat) (z : Int) : Prop := (z = -1 ∧ ∀ i, i < j → tkn f n k i = true) ∨ ∃ b : Nat, b < j ∧ z = (b : Int) ∧ tkn f n k b = false ∧ ∀ e, e < j → tkn f n k e = false → e ≠ b → ls f b e
section
variable {f : Nat → Nat} {n k j : Nat} {z : Int}
theorem Bst.zero (f : Nat → Nat) (n k : Nat) : Bst f n k 0 (-1) := .inl ⟨rfl, fun _ h => absurd h (Nat.not_lt_zero _)⟩
theorem Bst.skip (h : Bst f n k j z) (e : tkn f n k j = true) : Bst f n k (j + 1) z := by
  rcases h with ⟨h1, h2⟩ | ⟨b, h1, h2, h3, h4⟩
  · refine .inl ⟨h1, fun i hi => ?_⟩
    by_cases q : i = j
    · rw [q]; exact e
    · exact h2 i (by omega)
  · refine .inr ⟨b, by omega, h2, h3, fun i hi q1 q2 => ?_⟩
    by_cases q : i = j
    · rw [q, e] at q1; exact absurd q1.symm Bool.false_ne_true
    · exact h4 i (by omega) q1 q2
theorem Bst.first (h : Bst f n k j (-1)) (e : tkn f n k j = false) : Bst f n k (j + 1) (j : Int) := by
  rcases h with ⟨_, h2⟩ | ⟨b, _, h2, _⟩
  · refine .inr ⟨j, by omega, rfl, e, fun i hi q1 q2 => ?_⟩
    rw [h2 i (by omega)] at q1
    exact absurd q1.symm Bool.false_ne_true
  · omega
theorem Bst.fewer {b : Nat} (h : Bst f n k j (b : Int)) (e : tkn f n k j = false) (hf : f j < f b) : Bst f n k (j + 1) (j : Int) := by
  rcases h with ⟨h1, _⟩ | ⟨c, h1, h2, h3, h4⟩
  · omega
  · obtain rfl : c = b := by omega
    refine .inr ⟨j, by omega, rfl, e, fun i hi q1 q2 => ?_⟩
    by_cases q : i = c
    · rw [q]; exact .inl hf
    · exact ls_trans (.inl hf) (h4 i (by omega) q1 q)
theorem Bst.keep {b : Nat} (h : Bst f n k j (b : Int)) (hf : ¬ f j < f b) : Bst f n k (j + 1) (b : Int) := by
  rcases h with ⟨h1, _⟩ | ⟨c, h1, h2, h3, h4⟩
  · omega
  · obtain rfl : c = b := by omega
    refine .inr ⟨c, by omega, rfl, h3, fun i hi q1 q2 => ?_⟩
    by_cases q : i = j
    · subst q; unfold ls; omega
    · exact h4 i (by omega) q1 q2
theorem Bst.end (h : Bst f n k n z) (hk : k < n) : ∃ b : Nat, b < n ∧ z = (b : Int) ∧ rnk f n b = k := by
  obtain ⟨b, hb, e⟩ := rnk_at (f := f) hk
  rcases h with ⟨_, h2⟩ | ⟨c, h1, h2, h3, h4⟩
  · have := of_decide_eq_true (h2 b hb)
    omega
  · have hc : ¬ rnk f n c < k := of_decide_eq_false h3
    refine ⟨c, h1, h2, ?_⟩
    by_cases q : b = c
    · rw [← q]; exact e
    · have := rnk_lt h1 (h4 b hb (tkn_not (by omega)) q)
      omega
end
/-- sorted, each stands where it comes -/
theorem rnk_sorted {f s : Nat → Nat} {n : Nat} (h1 : ∀ i, i < n → s i < n) (h2 : ∀ i j, i < j → j < n → ls f (s i) (s j)) {i : Nat} (hi : i < n) : rnk f n (s i) = i := by
  have up : ∀ i, i < n → i ≤ rnk f n (s i) := fun i => by
    induction i with
    | zero => intro _; exact Nat.zero_le _
    | succ i ih =>
      intro hi
      have := rnk_lt (h1 i (by omega)) (h2 i (i + 1) (by omega) hi)
      have := ih (by omega)
      omega
  have dn : ∀ d i, i + d < n → rnk f n (s i) + d ≤ rnk f n (s (i + d)) := fun d => by
    induction d with
    | zero => intro i _; exact Nat.le_refl _
    | succ d ih =>
      intro i hi
      have a := ih i (by omega)
      have b := rnk_lt (h1 (i + d) (by omega)) (h2 (i + d) (i + (d + 1)) (by omega) hi)
      omega
  have a := up i hi
  have b := dn (n - 1 - i) i (by omega)
  have c := rnk_hi (f := f) (h1 (i + (n - 1 - i)) (by omega))
  omega
/-- who is among the first w of those that were sorted -/
theorem tkn_sorted {f s : Nat → Nat} {n w : Nat} (h1 : ∀ i, i < n → s i < n) (h2 : ∀ i j, i < j → j < n → ls f (s i) (s j)) (hw : w ≤ n) {d : Nat} (hd : d < n) : tkn f n w d = true ↔ ∃ i, i < w ∧ s i = d := by
  constructor
  · intro h
    have h3 := of_decide_eq_true h
    have h4 := rnk_hi (f := f) hd
    refine ⟨rnk f n d, h3, rnk_inj (f := f) (h1 _ h4) hd ?_⟩
    exact rnk_sorted h1 h2 h4
  · rintro ⟨i, hi, rfl⟩
    exact tkn_of (by rw [rnk_sorted h1 h2 (by omega)]; exact hi)
end Go.Proofs.YtdbanimlnjhhlaaDoor
