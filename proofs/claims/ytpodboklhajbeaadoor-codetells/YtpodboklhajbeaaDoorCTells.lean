/- Of any code the parity of any data, the data by any parts, and whether parity is right are the document's: the call answers true, whatever it is given. -/
import Derived.Test.YtpodboklhajbeaaDoorCT2
namespace Go.Proofs.YtpodboklhajbeaaDoor
open Go.ChangeShapes Go.WideShapes Go.ChangeAt Go.RowKit El Pol Mx
set_option linter.unusedVariables false in
set_option maxRecDepth 1000000 in
set_option maxHeartbeats 4000000 in
theorem ctells (k m : Int) (hk : I64 k) (hm : I64 m) (a2 : Option Addr) (n2 c2 : Nat) (S2 : Nat → List El) (a3 : Option Addr) (n3 c3 : Nat) (S3 : Nat → List El) (a4 : Option Addr) (n4 c4 : Nat) (b4 : Nat → Bool) (w : World) (hg : Handle w)
    (r2 : RdF w (.slice a2 n2 c2) n2 (fun i => st (S2 i))) (z2 : n2 ≤ 8796093021952) (r3 : RdF w (.slice a3 n3 c3) n3 (fun i => st (S3 i))) (z3 : n3 ≤ 8796093021952) (r4 : RdF w (.slice a4 n4 c4) n4 (fun i => .bool (b4 i))) (z4 : n4 ≤ 140737488351232) :
    Calls Tryd.prog 4 #[.int .i64 k, .int .i64 m, .slice a2 n2 c2, .slice a3 n3 c3, .slice a4 n4 c4] w fun e w' => e = .returned (.bool true) ∧ Below w.heap.size w w' := by
  have HG : Hid (Handle w) := hg
  have H2 : Hid (RdF w (.slice a2 n2 c2) n2 (fun i => st (S2 i))) := r2
  have H3 : Hid (RdF w (.slice a3 n3 c3) n3 (fun i => st (S3 i))) := r3
  have H4 : Hid (RdF w (.slice a4 n4 c4) n4 (fun i => .bool (b4 i))) := r4
  clear hg r2 r3 r4
  obtain ⟨e, he⟩ : ∃ e, e = cbad k m := ⟨_, rfl⟩
  have HE : Hid (e = cbad k m) := he
  have he1 : e ≤ 1 := by rw [he]; exact cbad_le k m
  have C0 := rcode_any k m w
  have C1 := ccheck_any k m hk hm w
  rw [← he] at C0 C1
  have hW : Below w.heap.size w w := Below.refl _ _
  clear he
  go_enter Tryd.func4, Tryd.ntmps4
  go_wp2_with fail
  refine C0.mono ?_
  rintro e1 w1 ⟨rfl, hw⟩
  obtain rfl := hw.symm
  clear C0
  go_upto_region 2 with fail
  go_cut [12] from 12 to 12 (fun sx wx => sx = .bool true ∧ Below w.heap.size w wx)
  case first =>
    go_wp2_with fail
    refine C1.mono ?_
    rintro e2 w2 ⟨rfl, hw⟩
    obtain rfl := hw.symm
    go_wp2_with fail
    refine (err_V e _ (HG.out.old hW)).mono ?_
    rintro e3 w3 ⟨rfl, hB⟩
    replace hW := hW.trans (hB.mono hW.size)
    clear hB
    clear C1
    go_wp2
    go_meet
    case rel => exact ⟨rfl, hW⟩
  case rest =>
    clear hW
    obtain ⟨rfl, hW⟩ := hcut
    rename ∀ (a : Act) (w : World), Code.wp _ _ _ a w → _ => hK
    refine hK _ _ ?_
    exact ct2 k m hk hm a2 n2 c2 S2 a3 n3 c3 S3 a4 n4 c4 b4 w HG H2 z2 H3 z3 H4 z4 e HE he1 _ _ _ _ _ _ _ _ _ _ _ _ _ _ _ _ _ _ _ _ _ _ _ _ _ _ _ _ _ _ _ _ _ _ _ _ _ _ _ _ _ _ _ _ _ _ _ _ _ _ _ _ _ _ _ _ _ _ _ _ _ _ _ _ _ _ _ _ _ _ _ _ _ _ _ _ _ _ _ _ _ _ _ _ _ _ _ _ _ _ _ _ _ _ _ _ _ _ _ _ _ _ _ _ _ _ _ _ _ _ _ _ _ _ _ _ _ _ _ _ _ _ _ _ _ _ _ _ _ _ _ _ _ _ _ _ _ _ _ _ _ _ _ _ _ _ _ _ _ _ _ _ _ _ _ hW 
end Go.Proofs.YtpodboklhajbeaaDoor
