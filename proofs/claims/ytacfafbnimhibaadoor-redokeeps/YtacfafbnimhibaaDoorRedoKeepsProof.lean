/- Behind a crash there are the cells of as many writes as are whole among the bytes that are left, and what stopped did nothing: for all cells, all lists of writes, and all lists of numbers (syncs, fails, keeps), with no condition; the row lists errors.errorType as the program's text lays it, and the card ties it. -/
import Derived.Test.YtacfafbnimhibaaDoorRows
import Derived.Test.YtacfafbnimhibaaDoorRKeeps
import Derived.Test.YtacfafbnimhibaaDoorVw
import Derived.Test.YtacfafbnimhibaaDoorViewW
import Derived.Test.YtacfafbnimhibaaDoorCards
import Derived.Test.YtacfafbnimhibaaDoorTie
import Derived.ChangeSame
import Derived.ChangeVars
import Derived.JoinedOf
import Derived.RowKit
import Derived.RowKitTokens
import Derived.LaidLaws
import Derived.LaidHandle
import Derived.Stop.Joined
import Derived.SevenTiedAt
import Derived.WalkKit
import Derived.ProofKit
import Derived.OpenShut
import Derived.SizedLaws
import Derived.Carry
namespace Go.Proofs.YtacfafbnimhibaaDoor.redoKeeps
open Go.ChangeShapes Go.WideShapes Go.ChangeAt Go.RowKit El Pol
set_option linter.unusedVariables false
theorem own : ownKnob Tryd.prog.godebug = none := by kernel_rfl
theorem laidOut : laidOutB Tryd.prog = true := by kernel_rfl
theorem walk (w : World) (hg : Handle w) (a0 : Option Addr) (n0 c0 : Nat) (S0 : Nat → List El) (r0 : RdF w (.slice a0 n0 c0) n0 (fun i => st (S0 i))) (q0 : ∀ i, i < n0 → (S0 i).length ≤ 9223372036854775807) (z0 : n0 ≤ 8796093021952) (a1 : Option Addr) (n1 c1 : Nat) (L1 : Nat → List Wr) (r1 : RdWW w (.slice a1 n1 c1) n1 L1) (z1 : n1 ≤ 5864062014634) (a2 : Option Addr) (n2 c2 : Nat) (f2 : Nat → Int) (r2 : RdF w (.slice a2 n2 c2) n2 (fun i => .int .i64 (f2 i))) (q2 : ∀ i, i < n2 → (Lit.int .i64 (f2 i)).wf = true) (z2 : n2 ≤ 17592186044416) (a3 : Option Addr) (n3 c3 : Nat) (f3 : Nat → Int) (r3 : RdF w (.slice a3 n3 c3) n3 (fun i => .int .i64 (f3 i))) (q3 : ∀ i, i < n3 → (Lit.int .i64 (f3 i)).wf = true) (z3 : n3 ≤ 17592186044416) (a4 : Option Addr) (n4 c4 : Nat) (f4 : Nat → Int) (r4 : RdF w (.slice a4 n4 c4) n4 (fun i => .int .i64 (f4 i))) (q4 : ∀ i, i < n4 → (Lit.int .i64 (f4 i)).wf = true) (z4 : n4 ≤ 17592186044416) :
    Calls Tryd.prog 6 #[.slice a0 n0 c0, .slice a1 n1 c1, .slice a2 n2 c2, .slice a3 n3 c3, .slice a4 n4 c4] w fun e w' => e = .returned (.bool true) ∧ Below w.heap.size w w' := by
  exact keeps_any a0 n0 c0 S0 a1 n1 c1 L1 a2 n2 c2 f2 a3 n3 c3 f3 a4 n4 c4 f4 w r0 r1 z1 r2 z2 r3 q3 z3 r4 q4 z4 hg
theorem et : Tryd.prog.globalNamed "errors.errorType" = some 0 := by kernel_rfl
theorem rt : (Tryd.prog.cutTypes.find? (·.1 == "internal/reflectlite.rtype")).map (·.2) = some 101 := by kernel_rfl
theorem oneRow : ((List.range 142).filter fun t => Tryd.prog.rowNamed t [101, 114, 114, 111, 114]) = [25] := by kernel_rfl
theorem nTypes : Tryd.prog.types.size = 142 := by kernel_rfl
def laid : List (String × DataW Unit) := [("errors.errorType", Rows.laid_errors_errorType)]
/-- what the listed variable reads as gives its one cell -/
theorem handle_of_laid {W : World} (h : laidMetH Tryd.prog laid W) : Handle W := by
  have h' : laidMet Tryd.prog [] W ∧ handlesMet Tryd.prog laid W := h
  obtain ⟨name, u, ty, e1, e2, e3, e4, e5⟩ := h'.2 _ (List.mem_singleton.2 rfl)
  have en : name = [101, 114, 114, 111, 114] := (Option.some.inj e1).symm
  subst en
  obtain rfl := Option.some.inj (rt.symm.trans e2)
  have hm : ty ∈ (List.range 142).filter fun t => Tryd.prog.rowNamed t [101, 114, 114, 111, 114] := List.mem_filter.2 ⟨List.mem_range.2 (by rw [← nTypes]; exact e3), e4⟩
  rw [oneRow] at hm
  obtain rfl := List.mem_singleton.1 hm
  have hh : typeHandle Tryd.prog 25 = .pointer (some ⟨1, 25, none⟩) := by kernel_rfl
  rw [hh] at e5
  simpa [Handle] using World.var?_cell et e5 0
theorem laidWorld_met (os : Os) (args : Array Value) : laidMetH Tryd.prog laid ((({ World.holding Tryd.prog os ⟨#[], #[], []⟩ with heap := (World.holding Tryd.prog os ⟨#[], #[], []⟩).heap.modify 0 fun | .cells _ t frozen => .cells #[.iface 101 (.agg #[.pointer (some ⟨1, 25, none⟩)])] t frozen | o => o }) : World).forCall (fun _ _ => 0) ⟨#[], args, []⟩).memory :=
  laidMetH_of_parts (laidMet_nil _ _) (by kernel_rfl)

set_option maxRecDepth 100000 in
theorem lifted (os : Os) (started : os.Started) (H : Type) (enc : TypeId × Value → H) :
    ReturnsInHanded {} Tryd.checked os 6 .any (fun w args => (Rows.redoKeepsSpec.pre enc Tryd.prog Tryd.f6 [] false w args ∧ laidMetH Tryd.prog laid w) ∧ sizedMet enc Tryd.prog Tryd.f6 (OpenSpec.ofChange Rows.redoKeepsSpec) false w args)
      (Rows.redoKeepsSpec.post enc Tryd.prog Tryd.f6 false true false false) := by
  refine returnsInHanded_of_change_and (C := Tryd.checked) (X := fun w _ => laidMetH Tryd.prog laid w) (fun _ _ _ hh h => h.of_heap hh) own started (by kernel_rfl) Tryd.func6
    (ChangeSpec.witness_at (enc := enc) (C := Tryd.checked) (os := os) (X := fun w _ => laidMetH Tryd.prog laid w) false ({ World.holding Tryd.prog os ⟨#[], #[], []⟩ with heap := (World.holding Tryd.prog os ⟨#[], #[], []⟩).heap.modify 0 fun | .cells _ t frozen => .cells #[.iface 101 (.agg #[.pointer (some ⟨1, 25, none⟩)])] t frozen | o => o }) #[.slice none 0 0, .slice none 0 0, .slice none 0 0, .slice none 0 0, .slice none 0 0] 8 rfl (by kernel_rfl) (by kernel_rfl) (by kernel_rfl) (by kernel_rfl) (by kernel_rfl) (laidWorld_met os _)) ?_
  intro W base args ds gs before hval0 hW _ hsz0 hL _
  have hsz : (DataW.weightsEach Tryd.prog (Tryd.f6.params.toList ++ Rows.redoKeepsSpec.plain.varTypes Tryd.prog) (ds ++ gs)).all (· ≤ reachBytes) = true := hsz0
  clear hsz0
  have hval : ∀ (j : Nat) t v, Tryd.f6.params[j]? = some t → args[j]? = some v → Value.okWide Tryd.prog W .any base t v := hval0
  have hW' := hW
  obtain ⟨p, q, hA0, hV, rfl, _, _⟩ := hW
  have hA : DataW.TrodAll enc Tryd.prog W 0 (fun _ => true) true Tryd.f6.params.toList args.toList ds p := hA0
  rw [Tryd.params6] at hA hval hsz
  obtain ⟨v0, vs0, d0, ds0, p0, q0, hargs, rfl, rfl, h0, s0⟩ := trodAll_cons hA
  obtain ⟨v1, vs1, d1, ds1, p1, q1, rfl, rfl, rfl, h1, s1⟩ := trodAll_cons s0
  obtain ⟨v2, vs2, d2, ds2, p2, q2, rfl, rfl, rfl, h2, s2⟩ := trodAll_cons s1
  obtain ⟨v3, vs3, d3, ds3, p3, q3, rfl, rfl, rfl, h3, s3⟩ := trodAll_cons s2
  obtain ⟨v4, vs4, d4, ds4, p4, q4, rfl, rfl, rfl, h4, s4⟩ := trodAll_cons s3
  obtain ⟨rfl, rfl, rfl⟩ := trodAll_nil s4
  obtain rfl : args = #[v0, v1, v2, v3, v4] := by cases args; simp_all
  obtain ⟨rfl, rfl⟩ := trodVars_none hV
  have k0 := h0
  obtain ⟨fu0, hf0⟩ := h0
  obtain ⟨a0, n0, c0, S0, rfl, r0, e0, m0⟩ := viewSS hf0 (okWide_slice Tryd.underlying46 (hval 0 46 v0 rfl rfl))
  have z0 := sizeSS hsz (j := 0) rfl rfl m0
  have k1 := h1
  obtain ⟨fu1, hf1⟩ := h1
  obtain ⟨a1, n1, c1, L1, rfl, r1, m1⟩ := viewWW hf1 (okWide_slice Tryd.underlying57 (hval 1 57 v1 rfl rfl))
  have z1 := sizeWW hsz (j := 1) rfl rfl m1
  have k2 := h2
  obtain ⟨fu2, hf2⟩ := h2
  obtain ⟨a2, n2, c2, f2, rfl, r2, e2, m2⟩ := viewI hf2 (okWide_slice Tryd.underlying35 (hval 2 35 v2 rfl rfl))
  have z2 := sizeI hsz (j := 2) rfl rfl m2
  have k3 := h3
  obtain ⟨fu3, hf3⟩ := h3
  obtain ⟨a3, n3, c3, f3, rfl, r3, e3, m3⟩ := viewI hf3 (okWide_slice Tryd.underlying35 (hval 3 35 v3 rfl rfl))
  have z3 := sizeI hsz (j := 3) rfl rfl m3
  have k4 := h4
  obtain ⟨fu4, hf4⟩ := h4
  obtain ⟨a4, n4, c4, f4, rfl, r4, e4, m4⟩ := viewI hf4 (okWide_slice Tryd.underlying35 (hval 4 35 v4 rfl rfl))
  have z4 := sizeI hsz (j := 4) rfl rfl m4
  clear hA0 hval0
  refine (walk W (handle_of_laid hL) a0 n0 c0 S0 r0 e0 z0 a1 n1 c1 L1 r1 z1 a2 n2 c2 f2 r2 e2 z2 a3 n3 c3 f3 r3 e3 z3 a4 n4 c4 f4 r4 e4 z4).mono fun e W' ⟨he, hnx⟩ => ?_
  subst he
  have hlt : ∀ x : MemPlace, x ∈ (p0 ++ (p1 ++ (p2 ++ (p3 ++ (p4 ++ []))))) → x.block < W.heap.size := fun x hx => hW'.lt x (List.mem_append_left _ hx)
  exact ⟨_, rfl, _, _, _, [] ++ [], (p0 ++ (p1 ++ (p2 ++ (p3 ++ (p4 ++ []))))), [], hW', trodAll_cons_mk (shut_bool Tryd.underlying4 _) trodAll_mk0, (trodAll_cons_mk (Below.trod laidOut (by kernel_rfl) (of_decide_eq_true (by kernel_rfl)) k0 hnx (fun x hx => hlt x (by simp [hx]))) (trodAll_cons_mk (Below.trod laidOut (by kernel_rfl) (of_decide_eq_true (by kernel_rfl)) k1 hnx (fun x hx => hlt x (by simp [hx]))) (trodAll_cons_mk (Below.trod laidOut (by kernel_rfl) (of_decide_eq_true (by kernel_rfl)) k2 hnx (fun x hx => hlt x (by simp [hx]))) (trodAll_cons_mk (Below.trod laidOut (by kernel_rfl) (of_decide_eq_true (by kernel_rfl)) k3 hnx (fun x hx => hlt x (by simp [hx]))) (trodAll_cons_mk (Below.trod laidOut (by kernel_rfl) (of_decide_eq_true (by kernel_rfl)) k4 hnx (fun x hx => hlt x (by simp [hx]))) trodAll_mk0))))), rfl, hnx.frame _, fun h => by cases h⟩

theorem over : Rows.redoKeepsRow.holds Tryd.pinned (OpenSpec.ofChange Rows.redoKeepsSpec) :=
  OpenClaim.holds_of_wide 6 Tryd.f6 rfl rfl rfl rfl rfl rfl rfl ⟨rfl, rfl, rfl, rfl, rfl⟩ rfl rfl rfl rfl rfl (by kernel_rfl) Tryd.func6 (by kernel_rfl)
    (of_decide_eq_true (by kernel_rfl)) (by unfold Func.isWrapper; first | (rw [if_pos (by decide +kernel)]; kernel_rfl) | (rw [if_neg (by decide +kernel)]; exact ⟨rfl, rfl⟩))
    (fun os started H enc _ => lifted os started H enc)

theorem row : Rows.RedoKeepsSaid := over
/-- the tied card -/
theorem proved : Rows.RedoKeepsCardSaid :=
  Claim7.holds_tied_plain_at .later [] [.handle] true (true, "ad93ed93c759d7b81db51e93cca0047f43a5957eee733ce7c1d4b7d63123de0e") true
    row (fun _ h => by cases h) (by kernel_rfl) (fun _ h => by cases h) redoKeeps_row_tie rfl ⟨rfl, rfl⟩ (by kernel_rfl) rfl
    (fun f fn hf hfn => by
      obtain rfl : f = 6 := Option.some.inj ((show Tryd.prog.funcNamed "paritymill/paritylaw2.RedoKeeps" = some 6 by kernel_rfl).symm.trans hf) |>.symm
      obtain rfl : fn = Tryd.f6 := (Option.some.inj (Tryd.func6.symm.trans hfn)).symm
      exact ⟨by kernel_rfl, fun j t ht => by
        rw [Tryd.params6] at ht
        have hm : t ∈ [46, 57, 35, 35, 35] := by
          have := List.mem_of_getElem? (l := [46, 57, 35, 35, 35]) (i := j) (a := t) (by simpa using ht)
          exact this
        have hall : ∀ t ∈ [46, 57, 35, 35, 35], Tryd.prog.wantsStandIn t = false := by
          intro t ht
          simp only [List.mem_cons, List.not_mem_nil, or_false] at ht
          rcases ht with rfl | rfl | rfl | rfl | rfl <;> kernel_rfl
        exact hall t hm⟩)
    (by kernel_rfl)
#print axioms proved
end Go.Proofs.YtacfafbnimhibaaDoor.redoKeeps
