/- Cauchy's matrices turn nothing into nought, but nought. -/
import Derived.Test.YtcjokofebnfkkaaMatB
import Derived.Test.YtcjokofebnfkkaaPolyDiv
namespace Go.Proofs.Ytcjokofebnfkkaa
namespace Mx
open El Pol
/-- the product of the first n -/
def pr : Nat → (Nat → El) → El
  | 0, _ => 1
  | n + 1, f => ti (pr n f) (f n)
theorem pr_congr (n : Nat) {f g : Nat → El} (h : ∀ i, i < n → f i = g i) : pr n f = pr n g := by
  induction n with
  | zero => rfl
  | succ n ih => rw [pr, pr, ih (fun i hi => h i (by omega)), h n (by omega)]
theorem pr_ne_zero (n : Nat) {f : Nat → El} (h : ∀ i, i < n → f i ≠ 0) : pr n f ≠ 0 := by
  induction n with
  | zero => show (1 : El) ≠ 0; decide
  | succ n ih => exact ti_ne_zero (ih (fun i hi => h i (by omega))) (h n (by omega))
theorem pr_zero (n : Nat) {f : Nat → El} (j : Nat) (hj : j < n) (h : f j = 0) : pr n f = 0 := by
  induction n with
  | zero => omega
  | succ n ih =>
    rw [pr]
    by_cases e : j = n
    · rw [← e, h, ti_zero]
    · rw [ih (by omega), zero_ti]
/-- all but the p-th, and the p-th -/
theorem pr_skip (f : Nat → El) (p : Nat) : ∀ m, p < m + 1 → pr (m + 1) f = ti (pr m (fun i => f (skip p i))) (f p)
  | 0, h => by rw [show p = 0 by omega]; rfl
  | m + 1, h => by
    by_cases e : p = m + 1
    · rw [pr, e]
      congr 1
      exact pr_congr _ (fun i hi => by unfold skip; rw [if_pos hi])
    · rw [pr, pr_skip f p m (by omega), pr, show skip p m = m + 1 from by unfold skip; rw [if_neg (by omega)], ti_assoc, ti_comm (f p), ← ti_assoc]
/-- 0 at so many elements -/
def rootsOf : Nat → (Nat → El) → List El
  | 0, _ => [1]
  | n + 1, f => Pol.mul (rootsOf n f) [f n, 1]
theorem ev_rootsOf (f : Nat → El) (x : El) : ∀ n, ev (rootsOf n f) x = pr n (fun i => pl (f i) x)
  | 0 => by show pl 1 (ti x 0) = 1; rw [ti_zero, pl_zero]
  | n + 1 => by rw [rootsOf, ev_mul, ev_rootsOf f x n, two_ev]; rfl
theorem rootsOf_beyond (f : Nat → El) : ∀ n i, n < i → co (rootsOf n f) i = 0
  | 0, i, h => co_beyond _ _ (by show 1 ≤ i; omega)
  | n + 1, i, h => by
    rw [rootsOf]
    exact co_mul_beyond _ _ n 1 (fun j hj => rootsOf_beyond f n j hj) (fun j hj => co_beyond _ _ (by show 2 ≤ j; omega)) i (by omega)
/-- sums of multiples -/
def sums : Nat → (Nat → El) → (Nat → List El) → List El
  | 0, _, _ => []
  | n + 1, v, q => Pol.add (sums n v q) (scale (v n) (q n))
theorem ev_sums (v : Nat → El) (q : Nat → List El) (x : El) : ∀ n, ev (sums n v q) x = sm n (fun k => ti (v k) (ev (q k) x))
  | 0 => rfl
  | n + 1 => by rw [sums, ev_add, ev_scale, ev_sums v q x n]; rfl
theorem sums_beyond (v : Nat → El) (q : Nat → List El) (m : Nat) (h : ∀ k i, m ≤ i → co (q k) i = 0) : ∀ n i, m ≤ i → co (sums n v q) i = 0
  | 0, i, _ => co_nil i
  | n + 1, i, hi => by rw [sums, co_add, co_scale, sums_beyond v q m h n i hi, h n i hi, ti_zero, pl_self]
def cauchy (x y : Nat → El) : M := fun i k => iv (pl (x i) (y k))
theorem cauchy_not {n : Nat} {x y : Nat → El} (hx : ∀ i j, i < j → j < n → x i ≠ x j) (hy : ∀ i j, i < j → j < n → y i ≠ y j) (hxy : ∀ i k, i < n → k < n → x i ≠ y k) : ¬ Sing n (cauchy x y) := by
  rintro ⟨v, ⟨j, hj, hvj⟩, hz⟩
  obtain ⟨m, rfl⟩ : ∃ m, n = m + 1 := ⟨n - 1, by omega⟩
  let q : Nat → List El := fun k => rootsOf m (fun i => y (skip k i))
  have hlen : ∀ k i, m + 1 ≤ i → co (q k) i = 0 := fun k i hi => rootsOf_beyond _ m i (by omega)
  have hroot : ∀ i, i < m + 1 → ev (sums (m + 1) v q) (x i) = 0 := by
    intro i hi
    have hne : ∀ k, k < m + 1 → pl (y k) (x i) ≠ 0 := fun k hk e => hxy i k hi hk (pl_eq_zero e).symm
    rw [ev_sums, sm_congr (m + 1) (g := fun k => ti (pr (m + 1) (fun l => pl (y l) (x i))) (ti (cauchy x y i k) (v k))) (fun k hk => by
      rw [ev_rootsOf, pr_skip _ k m hk]
      unfold cauchy
      rw [pl_comm (x i) (y k), ti_comm (iv _) (v k), ti_assoc, ti_left_comm (pl (y k) (x i)), ti_iv (hne k hk), ti_one, ti_comm]), sm_ti, hz i hi, ti_zero]
  have hall := zero_of_roots ((List.range (m + 1)).map x) (sums (m + 1) v q) (nodup_of x (m + 1) hx) (fun i hi => sums_beyond v q (m + 1) hlen (m + 1) i (by simpa using hi)) (fun z hz => by
    obtain ⟨i, hi, rfl⟩ := List.mem_map.1 hz
    exact hroot i (List.mem_range.1 hi))
  have hev := ev_zero _ hall (y j)
  rw [ev_sums, sm_one (m + 1) j hj (fun k hk hkj => by
    rw [ev_rootsOf]
    have : pr m (fun i => pl (y (skip k i)) (y j)) = 0 := pr_zero m (unskip k j) (back_lt hj hk (Ne.symm hkj)) (by show pl (y (skip k (unskip k j))) (y j) = 0; rw [skip_back (Ne.symm hkj), pl_self])
    rw [this, ti_zero]), ev_rootsOf] at hev
  rcases ti_eq_zero hev with e | e
  · exact hvj e
  · refine pr_ne_zero m (fun i hi => ?_) e
    intro e2
    have hs := skip_lt (p := j) hi
    have hne := skip_ne j i
    have e3 := pl_eq_zero e2
    rcases Nat.lt_or_ge (skip j i) j with h | h
    · exact hy _ _ h hj e3
    · exact hy _ _ (by omega) hs e3.symm
end Mx
end Go.Proofs.Ytcjokofebnfkkaa
