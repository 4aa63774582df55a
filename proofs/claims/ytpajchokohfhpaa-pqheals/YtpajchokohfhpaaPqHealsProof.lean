/- Of data with P and Q all come back without any two, whatever stands there; with one part another one it is found; with one block changed P and Q are those that Delta says: for all data, any two places, any junk, any other block, with no condition. -/
import Derived.Test.YtpajchokohfhpaaRows
import Derived.Test.YtpajchokohfhpaaPHealC
import Derived.Test.YtpajchokohfhpaaVw
import Derived.WalkKit
import Derived.ProofKit
import Derived.OpenShut
import Derived.SizedLaws
import Derived.Carry
namespace Go.Proofs.Ytpajchokohfhpaa.pqHeals
open Go.ChangeShapes Go.WideShapes Go.ChangeAt Go.RowKit El Pol
set_option linter.unusedVariables false
theorem own : ownKnob Try.prog.godebug = none := by kernel_rfl
theorem laidOut : laidOutB Try.prog = true := by kernel_rfl
theorem walk (w : World) (a0 : Option Addr) (n0 c0 : Nat) (S0 : Nat → List El) (r0 : RdF w (.slice a0 n0 c0) n0 (fun i => st (S0 i))) (q0 : ∀ i, i < n0 → (S0 i).length ≤ 9223372036854775807) (z0 : n0 ≤ 8796093021952) (i1 : Int) (w1 : (Lit.int .i64 i1).wf = true) (i2 : Int) (w2 : (Lit.int .i64 i2).wf = true) (xs3 : List El) (z3 : xs3.length ≤ 9223372036854775807) (xs4 : List El) (z4 : xs4.length ≤ 9223372036854775807) :
    Calls Try.prog 3 #[.slice a0 n0 c0, .int .i64 i1, .int .i64 i2, st xs3, st xs4] w fun e w' => e = .returned (.bool true) ∧ Below w.heap.size w w' := by
  by_cases h : pqf n0 S0 = 0
  · obtain ⟨p1, p2, p3⟩ := pqf_ok h
    have hbl := bbad_ok p3
    by_cases ho : i1 < 0 ∨ (n0 : Int) + 2 ≤ i1 ∨ i2 < 0 ∨ (n0 : Int) + 2 ≤ i2
    · exact heals_out _ n0 (S0 0).length S0 i1 i2 _ _ w r0 p1 p2 hbl.1 hbl.2 ho
    · obtain ⟨i, rfl⟩ : ∃ i : Nat, i1 = i := ⟨i1.toNat, by omega⟩
      obtain ⟨k, rfl⟩ : ∃ k : Nat, i2 = k := ⟨i2.toNat, by omega⟩
      exact heals_ok _ n0 (S0 0).length S0 i k xs3 xs4 w r0 p1 p2 hbl.1 hbl.2 (by omega) (by omega)
  · exact heals_bad _ n0 S0 i1 i2 _ _ w r0 z0 h
set_option maxRecDepth 100000 in
theorem lifted (os : Os) (started : os.Started) (H : Type) (enc : TypeId × Value → H) :
    ReturnsInHanded {} Try.checked os 3 .any (Rows.pqHealsSpec.pre6 enc Try.prog Try.f3 Rows.pqHealsRow.domain false) (Rows.pqHealsSpec.post enc Try.prog Try.f3 false true false false) := by
  refine returnsInHanded_of_change_sized (C := Try.checked) own started (by kernel_rfl) Try.func3
    (ChangeSpec.witness6 (enc := enc) (C := Try.checked) false ⟨#[], #[.slice none 0 0, .int .i64 0, .int .i64 0, .string ⟨#[]⟩, .string ⟨#[]⟩], []⟩ 8 (by kernel_rfl) (by kernel_rfl) (by kernel_rfl) (by kernel_rfl)) ?_
  intro W base args ds gs before hval0 hW _ hsz0 _
  have hsz : (DataW.weightsEach Try.prog (Try.f3.params.toList ++ Rows.pqHealsSpec.plain.varTypes Try.prog) (ds ++ gs)).all (· ≤ reachBytes) = true := hsz0
  clear hsz0
  have hval : ∀ (j : Nat) t v, Try.f3.params[j]? = some t → args[j]? = some v → Value.okWide Try.prog W .any base t v := hval0
  have hW' := hW
  obtain ⟨p, q, hA0, hV, rfl, _, _⟩ := hW
  have hA : DataW.TrodAll enc Try.prog W 0 (fun _ => true) true Try.f3.params.toList args.toList ds p := hA0
  rw [Try.params3] at hA hval hsz
  obtain ⟨v0, vs0, d0, ds0, p0, q0, hargs, rfl, rfl, h0, s0⟩ := trodAll_cons hA
  obtain ⟨v1, vs1, d1, ds1, p1, q1, rfl, rfl, rfl, h1, s1⟩ := trodAll_cons s0
  obtain ⟨v2, vs2, d2, ds2, p2, q2, rfl, rfl, rfl, h2, s2⟩ := trodAll_cons s1
  obtain ⟨v3, vs3, d3, ds3, p3, q3, rfl, rfl, rfl, h3, s3⟩ := trodAll_cons s2
  obtain ⟨v4, vs4, d4, ds4, p4, q4, rfl, rfl, rfl, h4, s4⟩ := trodAll_cons s3
  obtain ⟨rfl, rfl, rfl⟩ := trodAll_nil s4
  obtain rfl : args = #[v0, v1, v2, v3, v4] := by cases args; simp_all
  obtain ⟨rfl, rfl⟩ := trodVars_none hV
  have k0 := h0
  obtain ⟨fu0, hf0⟩ := h0
  obtain ⟨a0, n0, c0, S0, rfl, r0, e0, m0⟩ := viewSS hf0 (okWide_slice Try.underlying22 (hval 0 22 v0 rfl rfl))
  have z0 := sizeSS hsz (j := 0) rfl rfl m0
  have k1 := h1
  obtain ⟨i1, rfl, rfl, rfl, w1⟩ := open_int Try.underlying3 (hval 1 3 v1 rfl rfl) h1
  have k2 := h2
  obtain ⟨i2, rfl, rfl, rfl, w2⟩ := open_int Try.underlying3 (hval 2 3 v2 rfl rfl) h2
  have k3 := h3
  obtain ⟨xs3, rfl, z3, rfl⟩ := viewT (hval 3 9 v3 rfl rfl) h3
  have k4 := h4
  obtain ⟨xs4, rfl, z4, rfl⟩ := viewT (hval 4 9 v4 rfl rfl) h4
  clear hA0 hval0
  refine (walk W a0 n0 c0 S0 r0 e0 z0 i1 w1 i2 w2 xs3 z3 xs4 z4).mono fun e W' ⟨he, hnx⟩ => ?_
  subst he
  have hlt : ∀ x : MemPlace, x ∈ (p0 ++ ([] ++ ([] ++ ([] ++ ([] ++ []))))) → x.block < W.heap.size := fun x hx => hW'.lt x (List.mem_append_left _ hx)
  exact ⟨_, rfl, _, _, _, [] ++ [], (p0 ++ ([] ++ ([] ++ ([] ++ ([] ++ []))))), [], hW', trodAll_cons_mk (shut_bool Try.underlying4 _) trodAll_mk0, (trodAll_cons_mk (Below.trod laidOut (by kernel_rfl) (of_decide_eq_true (by kernel_rfl)) k0 hnx (fun x hx => hlt x (by simp [hx]))) (trodAll_cons_mk (Below.trod laidOut (by kernel_rfl) (of_decide_eq_true (by kernel_rfl)) k1 hnx (fun x hx => by cases hx)) (trodAll_cons_mk (Below.trod laidOut (by kernel_rfl) (of_decide_eq_true (by kernel_rfl)) k2 hnx (fun x hx => by cases hx)) (trodAll_cons_mk (Below.trod laidOut (by kernel_rfl) (of_decide_eq_true (by kernel_rfl)) k3 hnx (fun x hx => by cases hx)) (trodAll_cons_mk (Below.trod laidOut (by kernel_rfl) (of_decide_eq_true (by kernel_rfl)) k4 hnx (fun x hx => by cases hx)) trodAll_mk0))))), rfl, hnx.frame _, fun h => by cases h⟩

theorem over : Rows.pqHealsRow.holds Try.pinned (OpenSpec.ofChange Rows.pqHealsSpec) :=
  OpenClaim.holds_of_wide 3 Try.f3 rfl rfl rfl rfl rfl rfl rfl ⟨rfl, rfl, rfl, rfl, rfl⟩ rfl rfl rfl rfl rfl (by kernel_rfl) Try.func3 (by kernel_rfl)
    (of_decide_eq_true (by kernel_rfl)) (by unfold Func.isWrapper; first | (rw [if_pos (by decide +kernel)]; kernel_rfl) | (rw [if_neg (by decide +kernel)]; exact ⟨rfl, rfl⟩))
    (fun os started H enc _ => lifted os started H enc)

theorem proved : Rows.PqHealsSaid :=
  over
#print axioms proved
end Go.Proofs.Ytpajchokohfhpaa.pqHeals
