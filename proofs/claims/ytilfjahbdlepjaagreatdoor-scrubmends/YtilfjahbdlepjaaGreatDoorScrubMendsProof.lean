/- What went wrong by itself is mended: with in each row one thing that is another one on one disk, behind a scrub all blocks are as they were written, what was wrong is told, and a second scrub finds nothing: for every number of disks and of rows, all texts, all disks and every text that goes wrong, with no condition; the row lists errors.errorType as the program's text lays it, and the card ties it. -/
import Derived.Test.YtilfjahbdlepjaaGreatDoorRows
import Derived.Test.YtilfjahbdlepjaaGreatDoorSMends
import Derived.Test.YtilfjahbdlepjaaGreatDoorVw
import Derived.Test.YtilfjahbdlepjaaGreatDoorCards
import Derived.Test.YtilfjahbdlepjaaGreatDoorTie
import Derived.ChangeSame
import Derived.ChangeVars
import Derived.JoinedOf
import Derived.RowKit
import Derived.RowKitTokens
import Derived.LaidLaws
import Derived.LaidHandle
import Derived.Stop.Joined
import Derived.SevenTiedAt
import Derived.WalkKit
import Derived.ProofKit
import Derived.OpenShut
import Derived.SizedLaws
import Derived.Carry
namespace Go.Proofs.YtilfjahbdlepjaaGreatDoor.scrubMends
open Go.ChangeShapes Go.WideShapes Go.ChangeAt Go.RowKit El Pol
set_option linter.unusedVariables false
theorem own : ownKnob Tryz.prog.godebug = none := by kernel_rfl
theorem laidOut : laidOutB Tryz.prog = true := by kernel_rfl
theorem walk (w : World) (hg : Handle w) (i0 : Int) (w0 : (Lit.int .i64 i0).wf = true) (i1 : Int) (w1 : (Lit.int .i64 i1).wf = true) (a2 : Option Addr) (n2 c2 : Nat) (S2 : Nat → List El) (r2 : RdF w (.slice a2 n2 c2) n2 (fun i => st (S2 i))) (q2 : ∀ i, i < n2 → (S2 i).length ≤ 9223372036854775807) (z2 : n2 ≤ 8796093021952) (a3 : Option Addr) (n3 c3 : Nat) (f3 : Nat → Int) (r3 : RdF w (.slice a3 n3 c3) n3 (fun i => .int .i64 (f3 i))) (q3 : ∀ i, i < n3 → (Lit.int .i64 (f3 i)).wf = true) (z3 : n3 ≤ 17592186044416) (xs4 : List El) (z4 : xs4.length ≤ 9223372036854775807) :
    Calls Tryz.prog 5 #[.int .i64 i0, .int .i64 i1, .slice a2 n2 c2, .slice a3 n3 c3, st xs4] w fun e w' => e = .returned (.bool true) ∧ Below w.heap.size w w' := by
  exact mends_any i0 i1 a2 a3 n2 c2 n3 c3 S2 f3 xs4 w r2 z2 r3 z3 hg
theorem et : Tryz.prog.globalNamed "errors.errorType" = some 0 := by kernel_rfl
theorem rt : (Tryz.prog.cutTypes.find? (·.1 == "internal/reflectlite.rtype")).map (·.2) = some 149 := by kernel_rfl
theorem oneRow : ((List.range 213).filter fun t => Tryz.prog.rowNamed t [101, 114, 114, 111, 114]) = [25] := by kernel_rfl
theorem nTypes : Tryz.prog.types.size = 213 := by kernel_rfl
def laid : List (String × DataW Unit) := [("errors.errorType", Rows.laid_errors_errorType)]
/-- what the listed variable reads as gives its one cell -/
theorem handle_of_laid {W : World} (h : laidMetH Tryz.prog laid W) : Handle W := by
  have h' : laidMet Tryz.prog [] W ∧ handlesMet Tryz.prog laid W := h
  obtain ⟨name, u, ty, e1, e2, e3, e4, e5⟩ := h'.2 _ (List.mem_singleton.2 rfl)
  have en : name = [101, 114, 114, 111, 114] := (Option.some.inj e1).symm
  subst en
  obtain rfl := Option.some.inj (rt.symm.trans e2)
  have hm : ty ∈ (List.range 213).filter fun t => Tryz.prog.rowNamed t [101, 114, 114, 111, 114] := List.mem_filter.2 ⟨List.mem_range.2 (by rw [← nTypes]; exact e3), e4⟩
  rw [oneRow] at hm
  obtain rfl := List.mem_singleton.1 hm
  have hh : typeHandle Tryz.prog 25 = .pointer (some ⟨1, 25, none⟩) := by kernel_rfl
  rw [hh] at e5
  simpa [Handle] using World.var?_cell et e5 0
theorem laidWorld_met (os : Os) (args : Array Value) : laidMetH Tryz.prog laid ((({ World.holding Tryz.prog os ⟨#[], #[], []⟩ with heap := (World.holding Tryz.prog os ⟨#[], #[], []⟩).heap.modify 0 fun | .cells _ t frozen => .cells #[.iface 149 (.agg #[.pointer (some ⟨1, 25, none⟩)])] t frozen | o => o }) : World).forCall (fun _ _ => 0) ⟨#[], args, []⟩).memory :=
  laidMetH_of_parts (laidMet_nil _ _) (by kernel_rfl)

set_option maxRecDepth 100000 in
theorem lifted (os : Os) (started : os.Started) (H : Type) (enc : TypeId × Value → H) :
    ReturnsInHanded {} Tryz.checked os 5 .any (fun w args => (Rows.scrubMendsSpec.pre enc Tryz.prog Tryz.f5 [] false w args ∧ laidMetH Tryz.prog laid w) ∧ sizedMet enc Tryz.prog Tryz.f5 (OpenSpec.ofChange Rows.scrubMendsSpec) false w args)
      (Rows.scrubMendsSpec.post enc Tryz.prog Tryz.f5 false true false false) := by
  refine returnsInHanded_of_change_and (C := Tryz.checked) (X := fun w _ => laidMetH Tryz.prog laid w) (fun _ _ _ hh h => h.of_heap hh) own started (by kernel_rfl) Tryz.func5
    (ChangeSpec.witness_at (enc := enc) (C := Tryz.checked) (os := os) (X := fun w _ => laidMetH Tryz.prog laid w) false ({ World.holding Tryz.prog os ⟨#[], #[], []⟩ with heap := (World.holding Tryz.prog os ⟨#[], #[], []⟩).heap.modify 0 fun | .cells _ t frozen => .cells #[.iface 149 (.agg #[.pointer (some ⟨1, 25, none⟩)])] t frozen | o => o }) #[.int .i64 0, .int .i64 0, .slice none 0 0, .slice none 0 0, .string ⟨#[]⟩] 8 rfl (by kernel_rfl) (by kernel_rfl) (by kernel_rfl) (by kernel_rfl) (by kernel_rfl) (laidWorld_met os _)) ?_
  intro W base args ds gs before hval0 hW _ hsz0 hL _
  have hsz : (DataW.weightsEach Tryz.prog (Tryz.f5.params.toList ++ Rows.scrubMendsSpec.plain.varTypes Tryz.prog) (ds ++ gs)).all (· ≤ reachBytes) = true := hsz0
  clear hsz0
  have hval : ∀ (j : Nat) t v, Tryz.f5.params[j]? = some t → args[j]? = some v → Value.okWide Tryz.prog W .any base t v := hval0
  have hW' := hW
  obtain ⟨p, q, hA0, hV, rfl, _, _⟩ := hW
  have hA : DataW.TrodAll enc Tryz.prog W 0 (fun _ => true) true Tryz.f5.params.toList args.toList ds p := hA0
  rw [Tryz.params5] at hA hval hsz
  obtain ⟨v0, vs0, d0, ds0, p0, q0, hargs, rfl, rfl, h0, s0⟩ := trodAll_cons hA
  obtain ⟨v1, vs1, d1, ds1, p1, q1, rfl, rfl, rfl, h1, s1⟩ := trodAll_cons s0
  obtain ⟨v2, vs2, d2, ds2, p2, q2, rfl, rfl, rfl, h2, s2⟩ := trodAll_cons s1
  obtain ⟨v3, vs3, d3, ds3, p3, q3, rfl, rfl, rfl, h3, s3⟩ := trodAll_cons s2
  obtain ⟨v4, vs4, d4, ds4, p4, q4, rfl, rfl, rfl, h4, s4⟩ := trodAll_cons s3
  obtain ⟨rfl, rfl, rfl⟩ := trodAll_nil s4
  obtain rfl : args = #[v0, v1, v2, v3, v4] := by cases args; simp_all
  obtain ⟨rfl, rfl⟩ := trodVars_none hV
  have k0 := h0
  obtain ⟨i0, rfl, rfl, rfl, w0⟩ := open_int Tryz.underlying3 (hval 0 3 v0 rfl rfl) h0
  have k1 := h1
  obtain ⟨i1, rfl, rfl, rfl, w1⟩ := open_int Tryz.underlying3 (hval 1 3 v1 rfl rfl) h1
  have k2 := h2
  obtain ⟨fu2, hf2⟩ := h2
  obtain ⟨a2, n2, c2, S2, rfl, r2, e2, m2⟩ := viewSS hf2 (okWide_slice Tryz.underlying48 (hval 2 48 v2 rfl rfl))
  have z2 := sizeSS hsz (j := 2) rfl rfl m2
  have k3 := h3
  obtain ⟨fu3, hf3⟩ := h3
  obtain ⟨a3, n3, c3, f3, rfl, r3, e3, m3⟩ := viewI hf3 (okWide_slice Tryz.underlying32 (hval 3 32 v3 rfl rfl))
  have z3 := sizeI hsz (j := 3) rfl rfl m3
  have k4 := h4
  obtain ⟨xs4, rfl, z4, rfl⟩ := viewT (hval 4 9 v4 rfl rfl) h4
  clear hA0 hval0
  refine (walk W (handle_of_laid hL) i0 w0 i1 w1 a2 n2 c2 S2 r2 e2 z2 a3 n3 c3 f3 r3 e3 z3 xs4 z4).mono fun e W' ⟨he, hnx⟩ => ?_
  subst he
  have hlt : ∀ x : MemPlace, x ∈ ([] ++ ([] ++ (p2 ++ (p3 ++ ([] ++ []))))) → x.block < W.heap.size := fun x hx => hW'.lt x (List.mem_append_left _ hx)
  exact ⟨_, rfl, _, _, _, [] ++ [], ([] ++ ([] ++ (p2 ++ (p3 ++ ([] ++ []))))), [], hW', trodAll_cons_mk (shut_bool Tryz.underlying4 _) trodAll_mk0, (trodAll_cons_mk (Below.trod laidOut (by kernel_rfl) (of_decide_eq_true (by kernel_rfl)) k0 hnx (fun x hx => by cases hx)) (trodAll_cons_mk (Below.trod laidOut (by kernel_rfl) (of_decide_eq_true (by kernel_rfl)) k1 hnx (fun x hx => by cases hx)) (trodAll_cons_mk (Below.trod laidOut (by kernel_rfl) (of_decide_eq_true (by kernel_rfl)) k2 hnx (fun x hx => hlt x (by simp [hx]))) (trodAll_cons_mk (Below.trod laidOut (by kernel_rfl) (of_decide_eq_true (by kernel_rfl)) k3 hnx (fun x hx => hlt x (by simp [hx]))) (trodAll_cons_mk (Below.trod laidOut (by kernel_rfl) (of_decide_eq_true (by kernel_rfl)) k4 hnx (fun x hx => by cases hx)) trodAll_mk0))))), rfl, hnx.frame _, fun h => by cases h⟩

theorem over : Rows.scrubMendsRow.holds Tryz.pinned (OpenSpec.ofChange Rows.scrubMendsSpec) :=
  OpenClaim.holds_of_wide 5 Tryz.f5 rfl rfl rfl rfl rfl rfl rfl ⟨rfl, rfl, rfl, rfl, rfl⟩ rfl rfl rfl rfl rfl (by kernel_rfl) Tryz.func5 (by kernel_rfl)
    (of_decide_eq_true (by kernel_rfl)) (by unfold Func.isWrapper; first | (rw [if_pos (by decide +kernel)]; kernel_rfl) | (rw [if_neg (by decide +kernel)]; exact ⟨rfl, rfl⟩))
    (fun os started H enc _ => lifted os started H enc)

theorem row : Rows.ScrubMendsSaid := over
/-- the tied card -/
theorem proved : Rows.ScrubMendsCardSaid :=
  Claim7.holds_tied_plain_at .later [] [.handle] true (true, "514a5b064d8853cdfda814be161ad8a9cea7cdb3489111822aecbc25ea8e8712") true
    row (fun _ h => by cases h) (by kernel_rfl) (fun _ h => by cases h) scrubMends_row_tie rfl ⟨rfl, rfl⟩ (by kernel_rfl) rfl
    (fun f fn hf hfn => by
      obtain rfl : f = 5 := Option.some.inj ((show Tryz.prog.funcNamed "paritymill/paritylaw1.ScrubMends" = some 5 by kernel_rfl).symm.trans hf) |>.symm
      obtain rfl : fn = Tryz.f5 := (Option.some.inj (Tryz.func5.symm.trans hfn)).symm
      exact ⟨by kernel_rfl, fun j t ht => by
        rw [Tryz.params5] at ht
        have hm : t ∈ [3, 3, 48, 32, 9] := by
          have := List.mem_of_getElem? (l := [3, 3, 48, 32, 9]) (i := j) (a := t) (by simpa using ht)
          exact this
        have hall : ∀ t ∈ [3, 3, 48, 32, 9], Tryz.prog.wantsStandIn t = false := by
          intro t ht
          simp only [List.mem_cons, List.not_mem_nil, or_false] at ht
          rcases ht with rfl | rfl | rfl | rfl | rfl <;> kernel_rfl
        exact hall t hm⟩)
    (by kernel_rfl)
#print axioms proved
end Go.Proofs.YtilfjahbdlepjaaGreatDoor.scrubMends
