/- Data that come back by a code of two of parity come back by P and Q, too, whichever two are lost; and packed as bytes they are read as they were: for every row, all data and every two places, with no condition. -/
import Derived.Test.YtfnbpljgmchhbaaRows
import Derived.Test.YtfnbpljgmchhbaaTCodes
import Derived.Test.YtfnbpljgmchhbaaVw
import Derived.WalkKit
import Derived.ProofKit
import Derived.OpenShut
import Derived.SizedLaws
import Derived.Carry
namespace Go.Proofs.Ytfnbpljgmchhbaa.topCodes
open Go.ChangeShapes Go.WideShapes Go.ChangeAt Go.RowKit El Pol
set_option linter.unusedVariables false
theorem own : ownKnob Try.prog.godebug = none := by kernel_rfl
theorem laidOut : laidOutB Try.prog = true := by kernel_rfl
theorem walk (w : World) (i0 : Int) (w0 : (Lit.int .i64 i0).wf = true) (a1 : Option Addr) (n1 c1 : Nat) (S1 : Nat → List El) (r1 : RdF w (.slice a1 n1 c1) n1 (fun i => st (S1 i))) (q1 : ∀ i, i < n1 → (S1 i).length ≤ 9223372036854775807) (z1 : n1 ≤ 8796093021952) (i2 : Int) (w2 : (Lit.int .i64 i2).wf = true) (i3 : Int) (w3 : (Lit.int .i64 i3).wf = true) :
    Calls Try.prog 5 #[.int .i64 i0, .slice a1 n1 c1, .int .i64 i2, .int .i64 i3] w fun e w' => e = .returned (.bool true) ∧ Below w.heap.size w w' := by
  exact tcodes_any i0 i2 i3 n1 c1 a1 S1 w r1 z1
set_option maxRecDepth 100000 in
theorem lifted (os : Os) (started : os.Started) (H : Type) (enc : TypeId × Value → H) :
    ReturnsInHanded {} Try.checked os 5 .any (Rows.topCodesSpec.pre6 enc Try.prog Try.f5 Rows.topCodesRow.domain false) (Rows.topCodesSpec.post enc Try.prog Try.f5 false true false false) := by
  refine returnsInHanded_of_change_sized (C := Try.checked) own started (by kernel_rfl) Try.func5
    (ChangeSpec.witness6 (enc := enc) (C := Try.checked) false ⟨#[], #[.int .i64 0, .slice none 0 0, .int .i64 0, .int .i64 0], []⟩ 8 (by kernel_rfl) (by kernel_rfl) (by kernel_rfl) (by kernel_rfl)) ?_
  intro W base args ds gs before hval0 hW _ hsz0 _
  have hsz : (DataW.weightsEach Try.prog (Try.f5.params.toList ++ Rows.topCodesSpec.plain.varTypes Try.prog) (ds ++ gs)).all (· ≤ reachBytes) = true := hsz0
  clear hsz0
  have hval : ∀ (j : Nat) t v, Try.f5.params[j]? = some t → args[j]? = some v → Value.okWide Try.prog W .any base t v := hval0
  have hW' := hW
  obtain ⟨p, q, hA0, hV, rfl, _, _⟩ := hW
  have hA : DataW.TrodAll enc Try.prog W 0 (fun _ => true) true Try.f5.params.toList args.toList ds p := hA0
  rw [Try.params5] at hA hval hsz
  obtain ⟨v0, vs0, d0, ds0, p0, q0, hargs, rfl, rfl, h0, s0⟩ := trodAll_cons hA
  obtain ⟨v1, vs1, d1, ds1, p1, q1, rfl, rfl, rfl, h1, s1⟩ := trodAll_cons s0
  obtain ⟨v2, vs2, d2, ds2, p2, q2, rfl, rfl, rfl, h2, s2⟩ := trodAll_cons s1
  obtain ⟨v3, vs3, d3, ds3, p3, q3, rfl, rfl, rfl, h3, s3⟩ := trodAll_cons s2
  obtain ⟨rfl, rfl, rfl⟩ := trodAll_nil s3
  obtain rfl : args = #[v0, v1, v2, v3] := by cases args; simp_all
  obtain ⟨rfl, rfl⟩ := trodVars_none hV
  have k0 := h0
  obtain ⟨i0, rfl, rfl, rfl, w0⟩ := open_int Try.underlying3 (hval 0 3 v0 rfl rfl) h0
  have k1 := h1
  obtain ⟨fu1, hf1⟩ := h1
  obtain ⟨a1, n1, c1, S1, rfl, r1, e1, m1⟩ := viewSS hf1 (okWide_slice Try.underlying22 (hval 1 22 v1 rfl rfl))
  have z1 := sizeSS hsz (j := 1) rfl rfl m1
  have k2 := h2
  obtain ⟨i2, rfl, rfl, rfl, w2⟩ := open_int Try.underlying3 (hval 2 3 v2 rfl rfl) h2
  have k3 := h3
  obtain ⟨i3, rfl, rfl, rfl, w3⟩ := open_int Try.underlying3 (hval 3 3 v3 rfl rfl) h3
  clear hA0 hval0
  refine (walk W i0 w0 a1 n1 c1 S1 r1 e1 z1 i2 w2 i3 w3).mono fun e W' ⟨he, hnx⟩ => ?_
  subst he
  have hlt : ∀ x : MemPlace, x ∈ ([] ++ (p1 ++ ([] ++ ([] ++ [])))) → x.block < W.heap.size := fun x hx => hW'.lt x (List.mem_append_left _ hx)
  exact ⟨_, rfl, _, _, _, [] ++ [], ([] ++ (p1 ++ ([] ++ ([] ++ [])))), [], hW', trodAll_cons_mk (shut_bool Try.underlying4 _) trodAll_mk0, (trodAll_cons_mk (Below.trod laidOut (by kernel_rfl) (of_decide_eq_true (by kernel_rfl)) k0 hnx (fun x hx => by cases hx)) (trodAll_cons_mk (Below.trod laidOut (by kernel_rfl) (of_decide_eq_true (by kernel_rfl)) k1 hnx (fun x hx => hlt x (by simp [hx]))) (trodAll_cons_mk (Below.trod laidOut (by kernel_rfl) (of_decide_eq_true (by kernel_rfl)) k2 hnx (fun x hx => by cases hx)) (trodAll_cons_mk (Below.trod laidOut (by kernel_rfl) (of_decide_eq_true (by kernel_rfl)) k3 hnx (fun x hx => by cases hx)) trodAll_mk0)))), rfl, hnx.frame _, fun h => by cases h⟩

theorem over : Rows.topCodesRow.holds Try.pinned (OpenSpec.ofChange Rows.topCodesSpec) :=
  OpenClaim.holds_of_wide 5 Try.f5 rfl rfl rfl rfl rfl rfl rfl ⟨rfl, rfl, rfl, rfl, rfl⟩ rfl rfl rfl rfl rfl (by kernel_rfl) Try.func5 (by kernel_rfl)
    (of_decide_eq_true (by kernel_rfl)) (by unfold Func.isWrapper; first | (rw [if_pos (by decide +kernel)]; kernel_rfl) | (rw [if_neg (by decide +kernel)]; exact ⟨rfl, rfl⟩))
    (fun os started H enc _ => lifted os started H enc)

theorem proved : Rows.TopCodesSaid :=
  over
#print axioms proved
end Go.Proofs.Ytfnbpljgmchhbaa.topCodes
