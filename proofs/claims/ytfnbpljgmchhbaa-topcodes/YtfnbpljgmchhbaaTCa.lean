/- Two codes, one of data: parts of either, of which two are lost, and that they come back. -/
import Derived.Test.YtfnbpljgmchhbaaPHealP
import Derived.Test.YtfnbpljgmchhbaaCodeJ
import Derived.Test.YtfnbpljgmchhbaaCodeM
import Derived.Test.YtfnbpljgmchhbaaOne
import Derived.Test.YtfnbpljgmchhbaaPw
import Derived.Test.YtfnbpljgmchhbaaWq
import Derived.Test.YtfnbpljgmchhbaaGe
import Derived.Test.YtfnbpljgmchhbaaVw
namespace Go.Proofs.Ytfnbpljgmchhbaa
open Go.ChangeShapes Go.WideShapes Go.ChangeAt Go.RowKit El Pol Mx
theorem infoBo : (Try.prog.info? 4).map (fun i => (i.zero, i.size, i.bytes)) = some (some (.bool false), 1, 1) := by kernel_rfl
theorem row_self {n L : Nat} {a : Nat → List El} (hl : ∀ i, i < n → (a i).length = L) {i : Nat} (hi : i < n) : row (mx a i) L = a i := by
  show row (co (a i)) L = a i
  rw [← hl i hi, row_co]
/-- data, then the parity of a code -/
abbrev xp (n L : Nat) (a : Nat → List El) : Nat → List El := fun x => row (mm n (gen n) (mx a) x) L
theorem xp_data {n L : Nat} {a : Nat → List El} (hl : ∀ i, i < n → (a i).length = L) {i : Nat} (hi : i < n) : xp n L a i = a i := by
  rw [← row_self hl hi]
  exact row_congr (fun j _ => gen_data hi)
theorem xp_all {n L : Nat} {a : Nat → List El} (hl : ∀ i, i < n → (a i).length = L) : (List.range n).map (fun i => st (a i)) ++ (List.range 2).map (fun i => st (row (mm n (par n) (mx a) i) L)) = (List.range (n + 2)).map (fun i => st (xp n L a i)) := by
  rw [rep_texts]
  refine List.map_congr_left (fun i hi => ?_)
  have hi := List.mem_range.1 hi
  by_cases h : i < n
  · rw [if_pos h, xp_data hl h]
  · rw [if_neg h]
    congr 2
    have e : i = n + (i - n) := by omega
    funext j
    have e2 : mm n (gen n) (mx a) i j = mm n (gen n) (mx a) (n + (i - n)) j := by rw [← e]
    rw [e2]
    exact (gen_parity (i - n) j).symm
/-- two of them nothing -/
abbrev trx (n L : Nat) (a : Nat → List El) (i k : Nat) : Nat → List El := up (up (xp n L a) i []) k []
theorem trx_at {n L : Nat} {a : Nat → List El} {i k x : Nat} (h : lost2 i k x = false) : trx n L a i k x = xp n L a x := by
  have : x ≠ i ∧ x ≠ k := by
    unfold lost2 at h
    have := of_decide_eq_false h
    omega
  unfold trx
  rw [up_ne _ _ this.2, up_ne _ _ this.1]
theorem trx_len {n L : Nat} {a : Nat → List El} {i k : Nat} : ∀ j, j < (ix (lost2 i k) (n + 2)).length → (trx n L a i k (at' (lost2 i k) (n + 2) j)).length = L := fun j hj => by
  rw [trx_at (at_mem hj).2, row_length]
theorem trx_back {n L : Nat} {a : Nat → List El} (hl : ∀ i, i < n → (a i).length = L) {i k : Nat} {T : M} (h : Inv n (fun i' j => gen n (at' (lost2 i k) (n + 2) i') j) T) : sameL n n (fun x => row (mm n T (mx (fun j => trx n L a i k (at' (lost2 i k) (n + 2) j))) x) L) a = true :=
  sameL_iff.2 ⟨rfl, fun x hx => by
    rw [decode_back (D := mx a) (L := L) h (fun j hj => trx_at (at_mem (by have := ix_lost2 i k n; omega)).2) x hx]
    exact row_self hl hx⟩
theorem trn_data {n L : Nat} {a : Nat → List El} (hl : ∀ i, i < n → (a i).length = L) {E : M} (h : sameL (n + 2) (n + 2) (fun x => row (pqp n E x) L) (prts n L (mx a)) = true) : sameL n n (fun x => row (pqp n E x) L) a = true :=
  sameL_iff.2 ⟨rfl, fun x hx => by rw [(sameL_iff.1 h).2 x (by omega)]; exact (prts_data hl x hx).symm⟩
theorem trn_other {n L : Nat} {a : Nat → List El} {E : M} (h : sameL (n + 2) (n + 2) (fun x => row (pqp n E x) L) (prts n L (mx a)) = true) : sameL (n + 2) (n + 2) (prts n L (mx a)) (fun x => row (pqp n E x) L) = true :=
  sameL_iff.2 ⟨rfl, fun x hx => ((sameL_iff.1 h).2 x hx).symm⟩
theorem prts_ok {n L : Nat} {a : Nat → List El} (h1 : 1 ≤ n) (h2 : n ≤ 10) (hL : L ≤ 16) {r : Nat} (hr : r < 20) : WOk r (n + 2) (prts n L (mx a)) := by
  have e : wsz (prts n L (mx a)) (n + 2) = L := by
    unfold wsz
    rw [if_neg (by omega)]
    exact row_length _ _
  exact ⟨hr, by omega, fun i _ => by rw [e]; exact row_length _ _, by rw [e]; exact hL⟩
/-- what was packed is read as it was -/
theorem unpack_pk {r n : Nat} {f : Nat → List El} (ho : WOk r n f) (w : World) :
    Calls Try.prog 8 #[st (wpack r n f)] w fun e w' => ∃ u, e = .returned (.tuple #[.int .i64 (r : Int), u, .nilIface]) ∧ OwT w.heap.size w' u n f ∧ Below w.heap.size w w' := by
  obtain ⟨h1, h2, h3, h4⟩ := pack_wun ho
  have hl := wun_short h1
  have := unpack_any (wpack r n f) w (by omega)
  rw [wUE_ok h1, h2, h3] at this
  exact this.mono fun e w' ⟨u, q1, q2, q3⟩ => ⟨u, q1, OwT.congr q2 h4, q3⟩
end Go.Proofs.Ytfnbpljgmchhbaa
