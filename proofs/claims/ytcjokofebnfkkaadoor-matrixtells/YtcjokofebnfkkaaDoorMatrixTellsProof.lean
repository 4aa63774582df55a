/- What is wrong with any matrix, of any two the product, the inverse, the rank, the identity, and Cauchy's of any elements are the document's: for all lists and every number, with no condition. -/
import Derived.Test.YtcjokofebnfkkaaDoorRows
import Derived.Test.YtcjokofebnfkkaaDoorMTells
import Derived.Test.YtcjokofebnfkkaaDoorViewM
import Derived.Test.YtcjokofebnfkkaaDoorVw
import Derived.Test.YtcjokofebnfkkaaDoorCards
import Derived.Test.YtcjokofebnfkkaaDoorTie
import Derived.ChangeSame
import Derived.ChangeVars
import Derived.JoinedOf
import Derived.RowKit
import Derived.RowKitTokens
import Derived.LaidLaws
import Derived.LaidHandle
import Derived.Stop.Joined
import Derived.SevenTiedAt
import Derived.WalkKit
import Derived.ProofKit
import Derived.OpenShut
import Derived.SizedLaws
import Derived.Carry
namespace Go.Proofs.YtcjokofebnfkkaaDoor.matrixTells
open Go.ChangeShapes Go.WideShapes Go.ChangeAt Go.RowKit El Pol
set_option linter.unusedVariables false
theorem own : ownKnob Tryd.prog.godebug = none := by kernel_rfl
theorem laidOut : laidOutB Tryd.prog = true := by kernel_rfl
theorem walk (w : World) (hg : Handle w) (a0 : Option Addr) (n0 c0 : Nat) (R0 : Nat → List El) (r0 : RdM w (.slice a0 n0 c0) n0 R0) (z0 : n0 ≤ 5864062014634) (a1 : Option Addr) (n1 c1 : Nat) (R1 : Nat → List El) (r1 : RdM w (.slice a1 n1 c1) n1 R1) (z1 : n1 ≤ 5864062014634) (i2 : Int) (w2 : (Lit.int .i64 i2).wf = true) (a3 : Option Addr) (n3 c3 : Nat) (xs3 : List El) (r3 : Rd w (.slice a3 n3 c3) xs3) (l3 : n3 = xs3.length) (z3 : n3 ≤ 140737488351232) (a4 : Option Addr) (n4 c4 : Nat) (xs4 : List El) (r4 : Rd w (.slice a4 n4 c4) xs4) (l4 : n4 = xs4.length) (z4 : n4 ≤ 140737488351232) :
    Calls Tryd.prog 3 #[.slice a0 n0 c0, .slice a1 n1 c1, .int .i64 i2, .slice a3 n3 c3, .slice a4 n4 c4] w fun e w' => e = .returned (.bool true) ∧ Below w.heap.size w w' := by
  exact mtells a0 n0 c0 R0 a1 n1 c1 R1 i2 (bounds_i64 w2) a3 n3 c3 xs3 a4 n4 c4 xs4 w hg r0 z0 r1 z1 r3 l3 z3 r4 l4 z4
theorem et : Tryd.prog.globalNamed "errors.errorType" = some 0 := by kernel_rfl
theorem rt : (Tryd.prog.cutTypes.find? (·.1 == "internal/reflectlite.rtype")).map (·.2) = some 87 := by kernel_rfl
theorem oneRow : ((List.range 130).filter fun t => Tryd.prog.rowNamed t [101, 114, 114, 111, 114]) = [27] := by kernel_rfl
theorem nTypes : Tryd.prog.types.size = 130 := by kernel_rfl
def laid : List (String × DataW Unit) := [("errors.errorType", Rows.laid_errors_errorType)]
/-- what the listed variable reads as gives its one cell -/
theorem handle_of_laid {W : World} (h : laidMetH Tryd.prog laid W) : Handle W := by
  have h' : laidMet Tryd.prog [] W ∧ handlesMet Tryd.prog laid W := h
  obtain ⟨name, u, ty, e1, e2, e3, e4, e5⟩ := h'.2 _ (List.mem_singleton.2 rfl)
  have en : name = [101, 114, 114, 111, 114] := (Option.some.inj e1).symm
  subst en
  obtain rfl := Option.some.inj (rt.symm.trans e2)
  have hm : ty ∈ (List.range 130).filter fun t => Tryd.prog.rowNamed t [101, 114, 114, 111, 114] := List.mem_filter.2 ⟨List.mem_range.2 (by rw [← nTypes]; exact e3), e4⟩
  rw [oneRow] at hm
  obtain rfl := List.mem_singleton.1 hm
  have hh : typeHandle Tryd.prog 27 = .pointer (some ⟨1, 27, none⟩) := by kernel_rfl
  rw [hh] at e5
  simpa [Handle] using World.var?_cell et e5 0
theorem laidWorld_met (os : Os) (args : Array Value) : laidMetH Tryd.prog laid ((({ World.holding Tryd.prog os ⟨#[], #[], []⟩ with heap := (World.holding Tryd.prog os ⟨#[], #[], []⟩).heap.modify 0 fun | .cells _ t frozen => .cells #[.iface 87 (.agg #[.pointer (some ⟨1, 27, none⟩)])] t frozen | o => o }) : World).forCall (fun _ _ => 0) ⟨#[], args, []⟩).memory :=
  laidMetH_of_parts (laidMet_nil _ _) (by kernel_rfl)

set_option maxRecDepth 100000 in
theorem lifted (os : Os) (started : os.Started) (H : Type) (enc : TypeId × Value → H) :
    ReturnsInHanded {} Tryd.checked os 3 .any (fun w args => (Rows.matrixTellsSpec.pre enc Tryd.prog Tryd.f3 [] false w args ∧ laidMetH Tryd.prog laid w) ∧ sizedMet enc Tryd.prog Tryd.f3 (OpenSpec.ofChange Rows.matrixTellsSpec) false w args)
      (Rows.matrixTellsSpec.post enc Tryd.prog Tryd.f3 false true false false) := by
  refine returnsInHanded_of_change_and (C := Tryd.checked) (X := fun w _ => laidMetH Tryd.prog laid w) (fun _ _ _ hh h => h.of_heap hh) own started (by kernel_rfl) Tryd.func3
    (ChangeSpec.witness_at (enc := enc) (C := Tryd.checked) (os := os) (X := fun w _ => laidMetH Tryd.prog laid w) false ({ World.holding Tryd.prog os ⟨#[], #[], []⟩ with heap := (World.holding Tryd.prog os ⟨#[], #[], []⟩).heap.modify 0 fun | .cells _ t frozen => .cells #[.iface 87 (.agg #[.pointer (some ⟨1, 27, none⟩)])] t frozen | o => o }) #[.slice none 0 0, .slice none 0 0, .int .i64 0, .slice none 0 0, .slice none 0 0] 8 rfl (by kernel_rfl) (by kernel_rfl) (by kernel_rfl) (by kernel_rfl) (by kernel_rfl) (laidWorld_met os _)) ?_
  intro W base args ds gs before hval0 hW _ hsz0 hL _
  have hsz : (DataW.weightsEach Tryd.prog (Tryd.f3.params.toList ++ Rows.matrixTellsSpec.plain.varTypes Tryd.prog) (ds ++ gs)).all (· ≤ reachBytes) = true := hsz0
  clear hsz0
  have hval : ∀ (j : Nat) t v, Tryd.f3.params[j]? = some t → args[j]? = some v → Value.okWide Tryd.prog W .any base t v := hval0
  have hW' := hW
  obtain ⟨p, q, hA0, hV, rfl, _, _⟩ := hW
  have hA : DataW.TrodAll enc Tryd.prog W 0 (fun _ => true) true Tryd.f3.params.toList args.toList ds p := hA0
  rw [Tryd.params3] at hA hval hsz
  obtain ⟨v0, vs0, d0, ds0, p0, q0, hargs, rfl, rfl, h0, s0⟩ := trodAll_cons hA
  obtain ⟨v1, vs1, d1, ds1, p1, q1, rfl, rfl, rfl, h1, s1⟩ := trodAll_cons s0
  obtain ⟨v2, vs2, d2, ds2, p2, q2, rfl, rfl, rfl, h2, s2⟩ := trodAll_cons s1
  obtain ⟨v3, vs3, d3, ds3, p3, q3, rfl, rfl, rfl, h3, s3⟩ := trodAll_cons s2
  obtain ⟨v4, vs4, d4, ds4, p4, q4, rfl, rfl, rfl, h4, s4⟩ := trodAll_cons s3
  obtain ⟨rfl, rfl, rfl⟩ := trodAll_nil s4
  obtain rfl : args = #[v0, v1, v2, v3, v4] := by cases args; simp_all
  obtain ⟨rfl, rfl⟩ := trodVars_none hV
  have k0 := h0
  obtain ⟨fu0, hf0⟩ := h0
  obtain ⟨a0, n0, c0, R0, rfl, r0, m0⟩ := viewM hf0 (okWide_slice Tryd.underlying22 (hval 0 22 v0 rfl rfl))
  have z0 := sizeM hsz (j := 0) rfl rfl m0
  have k1 := h1
  obtain ⟨fu1, hf1⟩ := h1
  obtain ⟨a1, n1, c1, R1, rfl, r1, m1⟩ := viewM hf1 (okWide_slice Tryd.underlying22 (hval 1 22 v1 rfl rfl))
  have z1 := sizeM hsz (j := 1) rfl rfl m1
  have k2 := h2
  obtain ⟨i2, rfl, rfl, rfl, w2⟩ := open_int Tryd.underlying3 (hval 2 3 v2 rfl rfl) h2
  have k3 := h3
  obtain ⟨fu3, hf3⟩ := h3
  obtain ⟨a3, n3, c3, xs3, rfl, r3, l3, m3⟩ := viewB hf3 (okWide_slice Tryd.underlying23 (hval 3 23 v3 rfl rfl))
  have z3 := sizeB hsz (j := 3) rfl rfl m3
  have k4 := h4
  obtain ⟨fu4, hf4⟩ := h4
  obtain ⟨a4, n4, c4, xs4, rfl, r4, l4, m4⟩ := viewB hf4 (okWide_slice Tryd.underlying23 (hval 4 23 v4 rfl rfl))
  have z4 := sizeB hsz (j := 4) rfl rfl m4
  clear hA0 hval0
  refine (walk W (handle_of_laid hL) a0 n0 c0 R0 r0 z0 a1 n1 c1 R1 r1 z1 i2 w2 a3 n3 c3 xs3 r3 l3 z3 a4 n4 c4 xs4 r4 l4 z4).mono fun e W' ⟨he, hnx⟩ => ?_
  subst he
  have hlt : ∀ x : MemPlace, x ∈ (p0 ++ (p1 ++ ([] ++ (p3 ++ (p4 ++ []))))) → x.block < W.heap.size := fun x hx => hW'.lt x (List.mem_append_left _ hx)
  exact ⟨_, rfl, _, _, _, [] ++ [], (p0 ++ (p1 ++ ([] ++ (p3 ++ (p4 ++ []))))), [], hW', trodAll_cons_mk (shut_bool Tryd.underlying4 _) trodAll_mk0, (trodAll_cons_mk (Below.trod laidOut (by kernel_rfl) (of_decide_eq_true (by kernel_rfl)) k0 hnx (fun x hx => hlt x (by simp [hx]))) (trodAll_cons_mk (Below.trod laidOut (by kernel_rfl) (of_decide_eq_true (by kernel_rfl)) k1 hnx (fun x hx => hlt x (by simp [hx]))) (trodAll_cons_mk (Below.trod laidOut (by kernel_rfl) (of_decide_eq_true (by kernel_rfl)) k2 hnx (fun x hx => by cases hx)) (trodAll_cons_mk (Below.trod laidOut (by kernel_rfl) (of_decide_eq_true (by kernel_rfl)) k3 hnx (fun x hx => hlt x (by simp [hx]))) (trodAll_cons_mk (Below.trod laidOut (by kernel_rfl) (of_decide_eq_true (by kernel_rfl)) k4 hnx (fun x hx => hlt x (by simp [hx]))) trodAll_mk0))))), rfl, hnx.frame _, fun h => by cases h⟩

theorem over : Rows.matrixTellsRow.holds Tryd.pinned (OpenSpec.ofChange Rows.matrixTellsSpec) :=
  OpenClaim.holds_of_wide 3 Tryd.f3 rfl rfl rfl rfl rfl rfl rfl ⟨rfl, rfl, rfl, rfl, rfl⟩ rfl rfl rfl rfl rfl (by kernel_rfl) Tryd.func3 (by kernel_rfl)
    (of_decide_eq_true (by kernel_rfl)) (by unfold Func.isWrapper; first | (rw [if_pos (by decide +kernel)]; kernel_rfl) | (rw [if_neg (by decide +kernel)]; exact ⟨rfl, rfl⟩))
    (fun os started H enc _ => lifted os started H enc)

theorem row : Rows.MatrixTellsSaid := over
/-- the tied card -/
theorem proved : Rows.MatrixTellsCardSaid :=
  Claim7.holds_tied_plain_at .later [] [.handle] true (true, "5dd624093ace0621c40ac02fc2cfb7e91d88d80e5317085115ee1898346a2e46") true
    row (fun _ h => by cases h) (by kernel_rfl) (fun _ h => by cases h) matrixTells_row_tie rfl ⟨rfl, rfl⟩ (by kernel_rfl) rfl
    (fun f fn hf hfn => by
      obtain rfl : f = 3 := Option.some.inj ((show Tryd.prog.funcNamed "paritymill/paritylaw1.MatrixTells" = some 3 by kernel_rfl).symm.trans hf) |>.symm
      obtain rfl : fn = Tryd.f3 := (Option.some.inj (Tryd.func3.symm.trans hfn)).symm
      exact ⟨by kernel_rfl, fun j t ht => by
        rw [Tryd.params3] at ht
        have hm : t ∈ [22, 22, 3, 23, 23] := by
          have := List.mem_of_getElem? (l := [22, 22, 3, 23, 23]) (i := j) (a := t) (by simpa using ht)
          exact this
        have hall : ∀ t ∈ [22, 22, 3, 23, 23], Tryd.prog.wantsStandIn t = false := by
          intro t ht
          simp only [List.mem_cons, List.not_mem_nil, or_false] at ht
          rcases ht with rfl | rfl | rfl | rfl | rfl <;> kernel_rfl
        exact hall t hm⟩)
    (by kernel_rfl)
#print axioms proved
end Go.Proofs.YtcjokofebnfkkaaDoor.matrixTells
