/- The least number of disks that may be too many, plainly. -/
import Derived.Test.YtfnbpljgmchhbaaOdA
namespace Go.Proofs.Ytfnbpljgmchhbaa
/-- the first of n that is so; -1: none -/
def fsz (p : Nat → Bool) : Nat → Int
  | 0 => -1
  | n + 1 => if 0 ≤ fsz p n then fsz p n else if p n = true then (n : Int) else -1
theorem fsz_ways (p : Nat → Bool) : ∀ n, (fsz p n = -1 ∧ ∀ i, i < n → p i = false) ∨ ∃ i : Nat, i < n ∧ fsz p n = (i : Int) ∧ p i = true ∧ ∀ j, j < i → p j = false
  | 0 => .inl ⟨rfl, fun i hi => absurd hi (Nat.not_lt_zero _)⟩
  | n + 1 => by
    rcases fsz_ways p n with ⟨e, h⟩ | ⟨i, hi, e, h1, h2⟩
    · by_cases q : p n = true
      · refine .inr ⟨n, by omega, ?_, q, h⟩
        show (if 0 ≤ fsz p n then _ else _) = _
        rw [e, if_neg (by omega), if_pos q]
      · refine .inl ⟨?_, fun i hi => ?_⟩
        · show (if 0 ≤ fsz p n then _ else _) = _
          rw [e, if_neg (by omega), if_neg q]
        · by_cases ei : i = n
          · rw [ei]; simpa using q
          · exact h i (by omega)
    · refine .inr ⟨i, by omega, ?_, h1, h2⟩
      show (if 0 ≤ fsz p n then _ else _) = _
      rw [e, if_pos (by omega)]
/-- how few are too many -/
def wst (has : Nat → Nat → Bool) (m n par : Nat) : Int := fsz (fun f => decide (0 < ftn has m n f par)) (n + 1)
theorem wst_ways (has : Nat → Nat → Bool) (m n par : Nat) : (wst has m n par = -1 ∧ ∀ f, f ≤ n → ftn has m n f par = 0) ∨ ∃ f : Nat, f ≤ n ∧ wst has m n par = (f : Int) ∧ 0 < ftn has m n f par ∧ ∀ j, j < f → ftn has m n j par = 0 := by
  rcases fsz_ways (fun f => decide (0 < ftn has m n f par)) (n + 1) with ⟨e, h⟩ | ⟨i, hi, e, h1, h2⟩
  · exact .inl ⟨e, fun f hf => by have := of_decide_eq_false (h f (by omega)); omega⟩
  · exact .inr ⟨i, by omega, e, of_decide_eq_true h1, fun j hj => by have := of_decide_eq_false (h2 j hj); omega⟩
/-- fewer than the worst number are never fatal -/
theorem wst_below {has : Nat → Nat → Bool} {m n f par : Nat} (hf : f ≤ n) : (wst has m n par = -1 → ftn has m n f par = 0) ∧ (wst has m n par ≠ -1 → wst has m n par ≤ (f : Int) ∨ ftn has m n f par = 0) := by
  rcases wst_ways has m n par with ⟨e, h⟩ | ⟨i, _, e, _, h2⟩
  · exact ⟨fun _ => h f hf, fun q => absurd e q⟩
  · refine ⟨fun q => by omega, fun _ => ?_⟩
    by_cases q : f < i
    · exact .inr (h2 f q)
    · exact .inl (by omega)
/-- with so much parity so many are never too many -/
theorem wst_more {has : Nat → Nat → Bool} {m n par : Nat} (h : 0 ≤ wst has m n par) : (par : Int) < wst has m n par := by
  rcases wst_ways has m n par with ⟨e, _⟩ | ⟨i, _, e, h1, _⟩
  · omega
  · by_cases q : i ≤ par
    · rw [ftn_few has q] at h1; omega
    · omega
/-- of stripes that are as wide -/
theorem wst_wide {has : Nat → Nat → Bool} {m n par wd : Nat} (hw : ∀ i, i < m → cn (has i) n = wd) : wst has m n par < 0 ↔ wd ≤ par ∨ m = 0 := by
  rcases wst_ways has m n par with ⟨e, h⟩ | ⟨i, hi, e, h1, _⟩
  · refine ⟨fun _ => ?_, fun _ => by omega⟩
    by_cases q : wd ≤ par ∨ m = 0
    · exact q
    · obtain ⟨f, hf, hp⟩ := ftn_some (has := has) (m := m) (n := n) (par := par) (i := 0) (by omega) (by rw [hw 0 (by omega)]; omega)
      rw [h f hf] at hp
      omega
  · refine ⟨fun q => by omega, fun q => ?_⟩
    exfalso
    rcases q with q | q
    · rw [ftn_thin (fun i hi => by rw [hw i hi]; exact q)] at h1; omega
    · rw [q, ftn_none] at h1; omega
theorem placed_cn {n w : Nat} (hw : w ≤ n) (i : Nat) : cn (hsI (fun _ => w) (plF n w) i) n = w := by
  rw [cn_congr (q := tkn (ld n w i) n w) (fun d hd => by rw [placed_has hw, decide_eq_true hd, Bool.true_and])]
  exact tkn_cn hw
end Go.Proofs.Ytfnbpljgmchhbaa
