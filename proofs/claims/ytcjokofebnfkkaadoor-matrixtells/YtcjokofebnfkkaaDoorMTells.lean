/- What is wrong with any matrix, products, inverses, ranks, identities and Cauchy's are the document's: the call answers true, whatever it is given. -/
import Derived.Test.YtcjokofebnfkkaaDoorMT2
namespace Go.Proofs.YtcjokofebnfkkaaDoor
open Go.ChangeShapes Go.WideShapes Go.ChangeAt Go.RowKit El Pol Mx
set_option linter.unusedVariables false in
set_option maxRecDepth 1000000 in
set_option maxHeartbeats 4000000 in
theorem mtells (a0 : Option Addr) (n0 c0 : Nat) (R0 : Nat → List El) (a1 : Option Addr) (n1 c1 : Nat) (R1 : Nat → List El) (i2 : Int) (hi2 : -9223372036854775808 ≤ i2 ∧ i2 ≤ 9223372036854775807)
    (a3 : Option Addr) (n3 c3 : Nat) (xs : List El) (a4 : Option Addr) (n4 c4 : Nat) (ys : List El) (w : World) (hg : Handle w) (r0 : RdM w (.slice a0 n0 c0) n0 R0) (z0 : n0 ≤ 5864062014634) (r1 : RdM w (.slice a1 n1 c1) n1 R1) (z1 : n1 ≤ 5864062014634)
    (r3 : Rd w (.slice a3 n3 c3) xs) (l3 : n3 = xs.length) (z3 : n3 ≤ 140737488351232) (r4 : Rd w (.slice a4 n4 c4) ys) (l4 : n4 = ys.length) (z4 : n4 ≤ 140737488351232) :
    Calls Tryd.prog 3 #[.slice a0 n0 c0, .slice a1 n1 c1, .int .i64 i2, .slice a3 n3 c3, .slice a4 n4 c4] w fun e w' => e = .returned (.bool true) ∧ Below w.heap.size w w' := by
  have HG : Hid (Handle w) := hg
  have HA : Hid (RdM w (.slice a0 n0 c0) n0 R0) := r0
  have HB : Hid (RdM w (.slice a1 n1 c1) n1 R1) := r1
  have HX : Hid (Rd w (.slice a3 n3 c3) xs) := r3
  have HY : Hid (Rd w (.slice a4 n4 c4) ys) := r4
  have HLX : Hid (n3 = xs.length) := l3
  have HLY : Hid (n4 = ys.length) := l4
  clear hg r0 r1 r3 r4 l3 l4
  obtain ⟨ea, hea⟩ : ∃ e, e = bad n0 R0 := ⟨_, rfl⟩
  have HEA : Hid (ea = bad n0 R0) := hea
  have hea4 : ea ≤ 4 := by rcases bad_ne (n := n0) (R := R0) with q | q | q <;> omega
  clear hea
  go_enter Tryd.func3, Tryd.ntmps3
  go_wp2_with fail
  refine (rmatrix_any _ n0 R0 _ HA.out).mono ?_
  rintro e w1 ⟨rfl, hW⟩
  rw [← HEA.out]
  go_upto_region 2 with fail
  go_cut [12] from 12 to 12 (fun sx wx => sx = .bool true ∧ Below w.heap.size w wx)
  case first =>
    go_wp2_with fail
    refine (check_any _ n0 R0 _ (HA.out.old hW)).mono ?_
    rintro e w2 ⟨rfl, hB⟩
    rw [← HEA.out]
    replace hW := hW.trans (hB.mono hW.size)
    clear hB
    go_wp2_with fail
    refine (err_V ea _ (HG.out.old hW)).mono ?_
    rintro e w3 ⟨rfl, hB⟩
    replace hW := hW.trans (hB.mono hW.size)
    clear hB
    go_wp2
    go_meet
    case rel => exact ⟨rfl, hW⟩
  case rest =>
    clear hW
    obtain ⟨rfl, hW⟩ := hcut
    rename ∀ (a : Act) (w : World), Code.wp _ _ _ a w → _ => hK
    refine hK _ _ ?_
    exact mt2 a0 n0 c0 R0 a1 n1 c1 R1 i2 hi2 a3 n3 c3 xs a4 n4 c4 ys w HG HA z0 HB z1 HX HLX z3 HY HLY z4 ea HEA hea4 _ _ _ _ _ _ _ _ _ _ _ _ _ _ _ _ _ _ _ _ _ _ _ _ _ _ _ _ _ _ _ _ _ _ _ _ _ _ _ _ _ _ _ _ _ _ _ _ _ _ _ _ _ _ _ _ _ _ _ _ _ _ _ _ _ _ _ _ _ _ _ _ _ _ _ _ _ _ _ _ _ _ _ _ _ _ _ _ _ _ _ _ _ _ _ _ _ _ _ _ _ _ _ _ _ _ _ _ _ _ _ _ _ _ _ _ _ _ _ _ _ _ _ _ _ _ _ _ _ _ _ _ _ _ _ _ _ _ _ _ _ _ _ _ _ _ _ _ _ _ _ _ _ _ _ _ _ _ _ _ _ _ _ _ _ _ _ _ _ _ _ _ _ _ _ _ _ _ _ _ _ _ _ _ _ _ _ _ _ _ _ _ _ _ _ _ _ _ _ _ _ _ _ _ _ _ _ _ _ _ _ _ _ _ _ _ _ _ _ _ _ _ _ _ _ _ _ _ _ _ _ _ _ _ _ _ _ _ _ _ _ _ _ _ _ _ _ _ _ _ _ _ _ _ _ _ _ _ _ _ _ _ _ hW 
end Go.Proofs.YtcjokofebnfkkaaDoor
