/- Disks of an array fail, the pool tells who takes their place, they are built anew; as long as no third one is lost, all is read as it was written: for every number of disks, rows and spares, and all lists of writes and of disks that fail, with no condition. -/
import Derived.Test.YticgapgggoklfaaRows
import Derived.Test.YticgapgggoklfaaTPool
import Derived.Test.YticgapgggoklfaaVw
import Derived.WalkKit
import Derived.ProofKit
import Derived.OpenShut
import Derived.SizedLaws
import Derived.Carry
namespace Go.Proofs.Yticgapgggoklfaa.topPool
open Go.ChangeShapes Go.WideShapes Go.ChangeAt Go.RowKit
set_option linter.unusedVariables false
theorem own : ownKnob Try.prog.godebug = none := by kernel_rfl
theorem laidOut : laidOutB Try.prog = true := by kernel_rfl
theorem walk (w : World) (i0 : Int) (w0 : (Lit.int .i64 i0).wf = true) (i1 : Int) (w1 : (Lit.int .i64 i1).wf = true) (i2 : Int) (w2 : (Lit.int .i64 i2).wf = true) (a3 : Option Addr) (n3 c3 : Nat) (f3 : Nat → Int) (r3 : RdF w (.slice a3 n3 c3) n3 (fun i => .int .i64 (f3 i))) (q3 : ∀ i, i < n3 → (Lit.int .i64 (f3 i)).wf = true) (z3 : n3 ≤ 17592186044416) (a4 : Option Addr) (n4 c4 : Nat) (f4 : Nat → Int) (r4 : RdF w (.slice a4 n4 c4) n4 (fun i => .int .i64 (f4 i))) (q4 : ∀ i, i < n4 → (Lit.int .i64 (f4 i)).wf = true) (z4 : n4 ≤ 17592186044416) :
    Calls Try.prog 5 #[.int .i64 i0, .int .i64 i1, .int .i64 i2, .slice a3 n3 c3, .slice a4 n4 c4] w fun e w' => e = .returned (.bool true) ∧ Below w.heap.size w w' := by
  exact tpool_any i0 i1 i2 a3 a4 n3 c3 n4 c4 f3 f4 w r3 q3 z3 r4
set_option maxRecDepth 100000 in
theorem lifted (os : Os) (started : os.Started) (H : Type) (enc : TypeId × Value → H) :
    ReturnsInHanded {} Try.checked os 5 .any (Rows.topPoolSpec.pre6 enc Try.prog Try.f5 Rows.topPoolRow.domain false) (Rows.topPoolSpec.post enc Try.prog Try.f5 false true false false) := by
  refine returnsInHanded_of_change_sized (C := Try.checked) own started (by kernel_rfl) Try.func5
    (ChangeSpec.witness6 (enc := enc) (C := Try.checked) false ⟨#[], #[.int .i64 0, .int .i64 0, .int .i64 0, .slice none 0 0, .slice none 0 0], []⟩ 8 (by kernel_rfl) (by kernel_rfl) (by kernel_rfl) (by kernel_rfl)) ?_
  intro W base args ds gs before hval0 hW _ hsz0 _
  have hsz : (DataW.weightsEach Try.prog (Try.f5.params.toList ++ Rows.topPoolSpec.plain.varTypes Try.prog) (ds ++ gs)).all (· ≤ reachBytes) = true := hsz0
  clear hsz0
  have hval : ∀ (j : Nat) t v, Try.f5.params[j]? = some t → args[j]? = some v → Value.okWide Try.prog W .any base t v := hval0
  have hW' := hW
  obtain ⟨p, q, hA0, hV, rfl, _, _⟩ := hW
  have hA : DataW.TrodAll enc Try.prog W 0 (fun _ => true) true Try.f5.params.toList args.toList ds p := hA0
  rw [Try.params5] at hA hval hsz
  obtain ⟨v0, vs0, d0, ds0, p0, q0, hargs, rfl, rfl, h0, s0⟩ := trodAll_cons hA
  obtain ⟨v1, vs1, d1, ds1, p1, q1, rfl, rfl, rfl, h1, s1⟩ := trodAll_cons s0
  obtain ⟨v2, vs2, d2, ds2, p2, q2, rfl, rfl, rfl, h2, s2⟩ := trodAll_cons s1
  obtain ⟨v3, vs3, d3, ds3, p3, q3, rfl, rfl, rfl, h3, s3⟩ := trodAll_cons s2
  obtain ⟨v4, vs4, d4, ds4, p4, q4, rfl, rfl, rfl, h4, s4⟩ := trodAll_cons s3
  obtain ⟨rfl, rfl, rfl⟩ := trodAll_nil s4
  obtain rfl : args = #[v0, v1, v2, v3, v4] := by cases args; simp_all
  obtain ⟨rfl, rfl⟩ := trodVars_none hV
  have k0 := h0
  obtain ⟨i0, rfl, rfl, rfl, w0⟩ := open_int Try.underlying3 (hval 0 3 v0 rfl rfl) h0
  have k1 := h1
  obtain ⟨i1, rfl, rfl, rfl, w1⟩ := open_int Try.underlying3 (hval 1 3 v1 rfl rfl) h1
  have k2 := h2
  obtain ⟨i2, rfl, rfl, rfl, w2⟩ := open_int Try.underlying3 (hval 2 3 v2 rfl rfl) h2
  have k3 := h3
  obtain ⟨fu3, hf3⟩ := h3
  obtain ⟨a3, n3, c3, f3, rfl, r3, e3, m3⟩ := viewI hf3 (okWide_slice Try.underlying30 (hval 3 30 v3 rfl rfl))
  have z3 := sizeI hsz (j := 3) rfl rfl m3
  have k4 := h4
  obtain ⟨fu4, hf4⟩ := h4
  obtain ⟨a4, n4, c4, f4, rfl, r4, e4, m4⟩ := viewI hf4 (okWide_slice Try.underlying30 (hval 4 30 v4 rfl rfl))
  have z4 := sizeI hsz (j := 4) rfl rfl m4
  clear hA0 hval0
  refine (walk W i0 w0 i1 w1 i2 w2 a3 n3 c3 f3 r3 e3 z3 a4 n4 c4 f4 r4 e4 z4).mono fun e W' ⟨he, hnx⟩ => ?_
  subst he
  have hlt : ∀ x : MemPlace, x ∈ ([] ++ ([] ++ ([] ++ (p3 ++ (p4 ++ []))))) → x.block < W.heap.size := fun x hx => hW'.lt x (List.mem_append_left _ hx)
  exact ⟨_, rfl, _, _, _, [] ++ [], ([] ++ ([] ++ ([] ++ (p3 ++ (p4 ++ []))))), [], hW', trodAll_cons_mk (shut_bool Try.underlying4 _) trodAll_mk0, (trodAll_cons_mk (Below.trod laidOut (by kernel_rfl) (of_decide_eq_true (by kernel_rfl)) k0 hnx (fun x hx => by cases hx)) (trodAll_cons_mk (Below.trod laidOut (by kernel_rfl) (of_decide_eq_true (by kernel_rfl)) k1 hnx (fun x hx => by cases hx)) (trodAll_cons_mk (Below.trod laidOut (by kernel_rfl) (of_decide_eq_true (by kernel_rfl)) k2 hnx (fun x hx => by cases hx)) (trodAll_cons_mk (Below.trod laidOut (by kernel_rfl) (of_decide_eq_true (by kernel_rfl)) k3 hnx (fun x hx => hlt x (by simp [hx]))) (trodAll_cons_mk (Below.trod laidOut (by kernel_rfl) (of_decide_eq_true (by kernel_rfl)) k4 hnx (fun x hx => hlt x (by simp [hx]))) trodAll_mk0))))), rfl, hnx.frame _, fun h => by cases h⟩

theorem over : Rows.topPoolRow.holds Try.pinned (OpenSpec.ofChange Rows.topPoolSpec) :=
  OpenClaim.holds_of_wide 5 Try.f5 rfl rfl rfl rfl rfl rfl rfl ⟨rfl, rfl, rfl, rfl, rfl⟩ rfl rfl rfl rfl rfl (by kernel_rfl) Try.func5 (by kernel_rfl)
    (of_decide_eq_true (by kernel_rfl)) (by unfold Func.isWrapper; first | (rw [if_pos (by decide +kernel)]; kernel_rfl) | (rw [if_neg (by decide +kernel)]; exact ⟨rfl, rfl⟩))
    (fun os started H enc _ => lifted os started H enc)

theorem proved : Rows.TopPoolSaid :=
  over
#print axioms proved
end Go.Proofs.Yticgapgggoklfaa.topPool
