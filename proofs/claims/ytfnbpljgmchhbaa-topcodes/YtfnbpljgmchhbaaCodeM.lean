/- What was made by the rows of a code comes back. -/
import Derived.Test.YtfnbpljgmchhbaaPw
import Derived.Test.YtfnbpljgmchhbaaMt
namespace Go.Proofs.Ytfnbpljgmchhbaa
open Go.RowKit El Pol Mx
theorem decode_back {k L : Nat} {T D : M} {s : Nat → Nat} {lf : Nat → List El} (h : Inv k (fun i j => gen k (s i) j) T) (hl : ∀ i, i < k → lf i = row (mm k (gen k) D (s i)) L) (i : Nat) (hi : i < k) :
    row (mm k T (mx lf) i) L = row (D i) L := by
  refine row_congr (fun j hj => ?_)
  have e : Eqm k L (mx lf) (mm k (fun i j => gen k (s i) j) D) := fun a b ha hb => by
    show co (lf a) b = _
    rw [hl a ha, co_row_lt _ hb]
    rfl
  rw [mm_congr (Eqm.refl k k T) e i j hi hj]
  exact mm_back h i j hi hj
theorem gen_data {k : Nat} {D : M} {i j : Nat} (hi : i < k) : mm k (gen k) D i j = D i j := by
  rw [← one_mm k D i j hi]
  exact sm_congr k (fun l _ => by unfold gen; rw [if_pos hi])
theorem gen_parity {k : Nat} {D : M} (i j : Nat) : mm k (gen k) D (k + i) j = mm k (par k) D i j := sm_congr k (fun l _ => by rw [gen_par])
end Go.Proofs.Ytfnbpljgmchhbaa
