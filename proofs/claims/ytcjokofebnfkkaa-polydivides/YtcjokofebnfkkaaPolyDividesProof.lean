/- Proved: for every two lists of bytes, every byte and every list of points the call paritylaw1.PolyDivides returns true (quotient times divisor and the rest is what was divided, and the rest is shorter; the one through points goes through them, and no shorter one; a value of a product is the product of the values); no condition. -/
import Derived.Test.YtcjokofebnfkkaaRows
import Derived.Test.YtcjokofebnfkkaaDivides
import Derived.Test.YtcjokofebnfkkaaViewP
import Derived.Test.YtcjokofebnfkkaaView
import Derived.WalkKit
import Derived.ProofKit
import Derived.OpenShut
import Derived.SizedLaws
import Derived.Carry
namespace Go.Proofs.Ytcjokofebnfkkaa.polyDivides
open Go.ChangeShapes Go.WideShapes Go.ChangeAt Go.RowKit El Pol
set_option linter.unusedVariables false
theorem own : ownKnob Try.prog.godebug = none := by kernel_rfl
theorem laidOut : laidOutB Try.prog = true := by kernel_rfl
theorem walk (w : World) (a0 : Option Addr) (n0 c0 : Nat) (xs0 : List El) (r0 : Rd w (.slice a0 n0 c0) xs0) (l0 : n0 = xs0.length) (z0 : n0 ≤ 140737488351232) (a1 : Option Addr) (n1 c1 : Nat) (xs1 : List El) (r1 : Rd w (.slice a1 n1 c1) xs1) (l1 : n1 = xs1.length) (z1 : n1 ≤ 140737488351232) (x2 : El) (a3 : Option Addr) (n3 c3 : Nat) (X3 Y3 : Nat → El) (r3 : RdP w (.slice a3 n3 c3) n3 X3 Y3) (z3 : n3 ≤ 140737488351232) :
    Calls Try.prog 3 #[.slice a0 n0 c0, .slice a1 n1 c1, .int .u8 ((x2.val : Nat) : Int), .slice a3 n3 c3] w fun e w' => e = .returned (.bool true) ∧ Below w.heap.size w w' := by
  exact divides_any a0 a1 a3 n0 c0 n1 c1 n3 c3 xs0 xs1 x2 X3 Y3 w r0 l0 r1 l1 r3 z3
set_option maxRecDepth 100000 in
theorem lifted (os : Os) (started : os.Started) (H : Type) (enc : TypeId × Value → H) :
    ReturnsInHanded {} Try.checked os 3 .any (Rows.polyDividesSpec.pre6 enc Try.prog Try.f3 Rows.polyDividesRow.domain false) (Rows.polyDividesSpec.post enc Try.prog Try.f3 false true false false) := by
  refine returnsInHanded_of_change_sized (C := Try.checked) own started (by kernel_rfl) Try.func3
    (ChangeSpec.witness6 (enc := enc) (C := Try.checked) false ⟨#[], #[.slice none 0 0, .slice none 0 0, .int .u8 0, .slice none 0 0], []⟩ 8 (by kernel_rfl) (by kernel_rfl) (by kernel_rfl) (by kernel_rfl)) ?_
  intro W base args ds gs before hval0 hW _ hsz0 _
  have hsz : (DataW.weightsEach Try.prog (Try.f3.params.toList ++ Rows.polyDividesSpec.plain.varTypes Try.prog) (ds ++ gs)).all (· ≤ reachBytes) = true := hsz0
  clear hsz0
  have hval : ∀ (j : Nat) t v, Try.f3.params[j]? = some t → args[j]? = some v → Value.okWide Try.prog W .any base t v := hval0
  have hW' := hW
  obtain ⟨p, q, hA0, hV, rfl, _, _⟩ := hW
  have hA : DataW.TrodAll enc Try.prog W 0 (fun _ => true) true Try.f3.params.toList args.toList ds p := hA0
  rw [Try.params3] at hA hval hsz
  obtain ⟨v0, vs0, d0, ds0, p0, q0, hargs, rfl, rfl, h0, s0⟩ := trodAll_cons hA
  obtain ⟨v1, vs1, d1, ds1, p1, q1, rfl, rfl, rfl, h1, s1⟩ := trodAll_cons s0
  obtain ⟨v2, vs2, d2, ds2, p2, q2, rfl, rfl, rfl, h2, s2⟩ := trodAll_cons s1
  obtain ⟨v3, vs3, d3, ds3, p3, q3, rfl, rfl, rfl, h3, s3⟩ := trodAll_cons s2
  obtain ⟨rfl, rfl, rfl⟩ := trodAll_nil s3
  obtain rfl : args = #[v0, v1, v2, v3] := by cases args; simp_all
  obtain ⟨rfl, rfl⟩ := trodVars_none hV
  have k0 := h0
  obtain ⟨fu0, hf0⟩ := h0
  obtain ⟨a0, n0, c0, xs0, rfl, r0, l0, m0⟩ := viewB hf0 (okWide_slice Try.underlying22 (hval 0 22 v0 rfl rfl))
  have z0 := sizeB hsz (j := 0) rfl rfl m0
  have k1 := h1
  obtain ⟨fu1, hf1⟩ := h1
  obtain ⟨a1, n1, c1, xs1, rfl, r1, l1, m1⟩ := viewB hf1 (okWide_slice Try.underlying22 (hval 1 22 v1 rfl rfl))
  have z1 := sizeB hsz (j := 1) rfl rfl m1
  have k2 := h2
  obtain ⟨y2, rfl, rfl, rfl, w2⟩ := open_int Try.underlying5 (hval 2 5 v2 rfl rfl) h2
  obtain ⟨x2, hx2⟩ : ∃ x2 : El, ((x2.val : Nat) : Int) = y2 := ⟨el y2, el_val w2⟩
  subst hx2
  have k3 := h3
  obtain ⟨fu3, hf3⟩ := h3
  obtain ⟨a3, n3, c3, X3, Y3, rfl, r3, m3⟩ := viewP hf3 (okWide_slice Try.underlying23 (hval 3 23 v3 rfl rfl))
  have z3 := sizeP hsz (j := 3) rfl rfl m3
  clear hA0 hval0
  refine (walk W a0 n0 c0 xs0 r0 l0 z0 a1 n1 c1 xs1 r1 l1 z1 x2 a3 n3 c3 X3 Y3 r3 z3).mono fun e W' ⟨he, hnx⟩ => ?_
  subst he
  have hlt : ∀ x : MemPlace, x ∈ (p0 ++ (p1 ++ ([] ++ (p3 ++ [])))) → x.block < W.heap.size := fun x hx => hW'.lt x (List.mem_append_left _ hx)
  exact ⟨_, rfl, _, _, _, [] ++ [], (p0 ++ (p1 ++ ([] ++ (p3 ++ [])))), [], hW', trodAll_cons_mk (shut_bool Try.underlying4 _) trodAll_mk0, (trodAll_cons_mk (Below.trod laidOut (by kernel_rfl) (of_decide_eq_true (by kernel_rfl)) k0 hnx (fun x hx => hlt x (by simp [hx]))) (trodAll_cons_mk (Below.trod laidOut (by kernel_rfl) (of_decide_eq_true (by kernel_rfl)) k1 hnx (fun x hx => hlt x (by simp [hx]))) (trodAll_cons_mk (Below.trod laidOut (by kernel_rfl) (of_decide_eq_true (by kernel_rfl)) k2 hnx (fun x hx => by cases hx)) (trodAll_cons_mk (Below.trod laidOut (by kernel_rfl) (of_decide_eq_true (by kernel_rfl)) k3 hnx (fun x hx => hlt x (by simp [hx]))) trodAll_mk0)))), rfl, hnx.frame _, fun h => by cases h⟩

theorem over : Rows.polyDividesRow.holds Try.pinned (OpenSpec.ofChange Rows.polyDividesSpec) :=
  OpenClaim.holds_of_wide 3 Try.f3 rfl rfl rfl rfl rfl rfl rfl ⟨rfl, rfl, rfl, rfl, rfl⟩ rfl rfl rfl rfl rfl (by kernel_rfl) Try.func3 (by kernel_rfl)
    (of_decide_eq_true (by kernel_rfl)) (by unfold Func.isWrapper; first | (rw [if_pos (by decide +kernel)]; kernel_rfl) | (rw [if_neg (by decide +kernel)]; exact ⟨rfl, rfl⟩))
    (fun os started H enc _ => lifted os started H enc)

theorem proved : Rows.PolyDividesSaid :=
  over
#print axioms proved
end Go.Proofs.Ytcjokofebnfkkaa.polyDivides
