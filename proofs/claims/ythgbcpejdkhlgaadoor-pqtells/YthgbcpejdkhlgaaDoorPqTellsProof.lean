/- P and Q of any data, any parts healed, with one block another one, and where something is wrong are the document's: for all data, all parts, whatever is lost, any number, any blocks, with no condition. -/
import Derived.Test.YthgbcpejdkhlgaaDoorRows
import Derived.Test.YthgbcpejdkhlgaaDoorPTel
import Derived.Test.YthgbcpejdkhlgaaDoorVw
import Derived.Test.YthgbcpejdkhlgaaDoorCards
import Derived.Test.YthgbcpejdkhlgaaDoorTie
import Derived.ChangeSame
import Derived.ChangeVars
import Derived.JoinedOf
import Derived.RowKit
import Derived.RowKitTokens
import Derived.LaidLaws
import Derived.LaidHandle
import Derived.Stop.Joined
import Derived.SevenTiedAt
import Derived.WalkKit
import Derived.ProofKit
import Derived.OpenShut
import Derived.SizedLaws
import Derived.Carry
namespace Go.Proofs.YthgbcpejdkhlgaaDoor.pqTells
open Go.ChangeShapes Go.WideShapes Go.ChangeAt Go.RowKit El Pol
set_option linter.unusedVariables false
theorem own : ownKnob Tryd.prog.godebug = none := by kernel_rfl
theorem laidOut : laidOutB Tryd.prog = true := by kernel_rfl
theorem walk (w : World) (hg : Handle w) (a0 : Option Addr) (n0 c0 : Nat) (S0 : Nat → List El) (r0 : RdF w (.slice a0 n0 c0) n0 (fun i => st (S0 i))) (q0 : ∀ i, i < n0 → (S0 i).length ≤ 9223372036854775807) (z0 : n0 ≤ 8796093021952) (a1 : Option Addr) (n1 c1 : Nat) (S1 : Nat → List El) (r1 : RdF w (.slice a1 n1 c1) n1 (fun i => st (S1 i))) (q1 : ∀ i, i < n1 → (S1 i).length ≤ 9223372036854775807) (z1 : n1 ≤ 8796093021952) (a2 : Option Addr) (n2 c2 : Nat) (b2 : Nat → Bool) (r2 : RdF w (.slice a2 n2 c2) n2 (fun i => .bool (b2 i))) (z2 : n2 ≤ 140737488351232) (i3 : Int) (w3 : (Lit.int .i64 i3).wf = true) (xs4 : List El) (z4 : xs4.length ≤ 9223372036854775807) (xs5 : List El) (z5 : xs5.length ≤ 9223372036854775807) (xs6 : List El) (z6 : xs6.length ≤ 9223372036854775807) :
    Calls Tryd.prog 5 #[.slice a0 n0 c0, .slice a1 n1 c1, .slice a2 n2 c2, .int .i64 i3, st xs4, st xs5, st xs6] w fun e w' => e = .returned (.bool true) ∧ Below w.heap.size w w' := by
  exact ptells a0 n0 c0 S0 a1 n1 c1 S1 a2 n2 c2 b2 i3 xs4 xs5 xs6 w hg r0 z0 r1 z1 r2 z2
theorem et : Tryd.prog.globalNamed "errors.errorType" = some 0 := by kernel_rfl
theorem rt : (Tryd.prog.cutTypes.find? (·.1 == "internal/reflectlite.rtype")).map (·.2) = some 114 := by kernel_rfl
theorem oneRow : ((List.range 164).filter fun t => Tryd.prog.rowNamed t [101, 114, 114, 111, 114]) = [27] := by kernel_rfl
theorem nTypes : Tryd.prog.types.size = 164 := by kernel_rfl
def laid : List (String × DataW Unit) := [("errors.errorType", Rows.laid_errors_errorType)]
/-- what the listed variable reads as gives its one cell -/
theorem handle_of_laid {W : World} (h : laidMetH Tryd.prog laid W) : Handle W := by
  have h' : laidMet Tryd.prog [] W ∧ handlesMet Tryd.prog laid W := h
  obtain ⟨name, u, ty, e1, e2, e3, e4, e5⟩ := h'.2 _ (List.mem_singleton.2 rfl)
  have en : name = [101, 114, 114, 111, 114] := (Option.some.inj e1).symm
  subst en
  obtain rfl := Option.some.inj (rt.symm.trans e2)
  have hm : ty ∈ (List.range 164).filter fun t => Tryd.prog.rowNamed t [101, 114, 114, 111, 114] := List.mem_filter.2 ⟨List.mem_range.2 (by rw [← nTypes]; exact e3), e4⟩
  rw [oneRow] at hm
  obtain rfl := List.mem_singleton.1 hm
  have hh : typeHandle Tryd.prog 27 = .pointer (some ⟨1, 27, none⟩) := by kernel_rfl
  rw [hh] at e5
  simpa [Handle] using World.var?_cell et e5 0
theorem laidWorld_met (os : Os) (args : Array Value) : laidMetH Tryd.prog laid ((({ World.holding Tryd.prog os ⟨#[], #[], []⟩ with heap := (World.holding Tryd.prog os ⟨#[], #[], []⟩).heap.modify 0 fun | .cells _ t frozen => .cells #[.iface 114 (.agg #[.pointer (some ⟨1, 27, none⟩)])] t frozen | o => o }) : World).forCall (fun _ _ => 0) ⟨#[], args, []⟩).memory :=
  laidMetH_of_parts (laidMet_nil _ _) (by kernel_rfl)

set_option maxRecDepth 100000 in
theorem lifted (os : Os) (started : os.Started) (H : Type) (enc : TypeId × Value → H) :
    ReturnsInHanded {} Tryd.checked os 5 .any (fun w args => (Rows.pqTellsSpec.pre enc Tryd.prog Tryd.f5 [] false w args ∧ laidMetH Tryd.prog laid w) ∧ sizedMet enc Tryd.prog Tryd.f5 (OpenSpec.ofChange Rows.pqTellsSpec) false w args)
      (Rows.pqTellsSpec.post enc Tryd.prog Tryd.f5 false true false false) := by
  refine returnsInHanded_of_change_and (C := Tryd.checked) (X := fun w _ => laidMetH Tryd.prog laid w) (fun _ _ _ hh h => h.of_heap hh) own started (by kernel_rfl) Tryd.func5
    (ChangeSpec.witness_at (enc := enc) (C := Tryd.checked) (os := os) (X := fun w _ => laidMetH Tryd.prog laid w) false ({ World.holding Tryd.prog os ⟨#[], #[], []⟩ with heap := (World.holding Tryd.prog os ⟨#[], #[], []⟩).heap.modify 0 fun | .cells _ t frozen => .cells #[.iface 114 (.agg #[.pointer (some ⟨1, 27, none⟩)])] t frozen | o => o }) #[.slice none 0 0, .slice none 0 0, .slice none 0 0, .int .i64 0, .string ⟨#[]⟩, .string ⟨#[]⟩, .string ⟨#[]⟩] 8 rfl (by kernel_rfl) (by kernel_rfl) (by kernel_rfl) (by kernel_rfl) (by kernel_rfl) (laidWorld_met os _)) ?_
  intro W base args ds gs before hval0 hW _ hsz0 hL _
  have hsz : (DataW.weightsEach Tryd.prog (Tryd.f5.params.toList ++ Rows.pqTellsSpec.plain.varTypes Tryd.prog) (ds ++ gs)).all (· ≤ reachBytes) = true := hsz0
  clear hsz0
  have hval : ∀ (j : Nat) t v, Tryd.f5.params[j]? = some t → args[j]? = some v → Value.okWide Tryd.prog W .any base t v := hval0
  have hW' := hW
  obtain ⟨p, q, hA0, hV, rfl, _, _⟩ := hW
  have hA : DataW.TrodAll enc Tryd.prog W 0 (fun _ => true) true Tryd.f5.params.toList args.toList ds p := hA0
  rw [Tryd.params5] at hA hval hsz
  obtain ⟨v0, vs0, d0, ds0, p0, q0, hargs, rfl, rfl, h0, s0⟩ := trodAll_cons hA
  obtain ⟨v1, vs1, d1, ds1, p1, q1, rfl, rfl, rfl, h1, s1⟩ := trodAll_cons s0
  obtain ⟨v2, vs2, d2, ds2, p2, q2, rfl, rfl, rfl, h2, s2⟩ := trodAll_cons s1
  obtain ⟨v3, vs3, d3, ds3, p3, q3, rfl, rfl, rfl, h3, s3⟩ := trodAll_cons s2
  obtain ⟨v4, vs4, d4, ds4, p4, q4, rfl, rfl, rfl, h4, s4⟩ := trodAll_cons s3
  obtain ⟨v5, vs5, d5, ds5, p5, q5, rfl, rfl, rfl, h5, s5⟩ := trodAll_cons s4
  obtain ⟨v6, vs6, d6, ds6, p6, q6, rfl, rfl, rfl, h6, s6⟩ := trodAll_cons s5
  obtain ⟨rfl, rfl, rfl⟩ := trodAll_nil s6
  obtain rfl : args = #[v0, v1, v2, v3, v4, v5, v6] := by cases args; simp_all
  obtain ⟨rfl, rfl⟩ := trodVars_none hV
  have k0 := h0
  obtain ⟨fu0, hf0⟩ := h0
  obtain ⟨a0, n0, c0, S0, rfl, r0, e0, m0⟩ := viewSS hf0 (okWide_slice Tryd.underlying22 (hval 0 22 v0 rfl rfl))
  have z0 := sizeSS hsz (j := 0) rfl rfl m0
  have k1 := h1
  obtain ⟨fu1, hf1⟩ := h1
  obtain ⟨a1, n1, c1, S1, rfl, r1, e1, m1⟩ := viewSS hf1 (okWide_slice Tryd.underlying22 (hval 1 22 v1 rfl rfl))
  have z1 := sizeSS hsz (j := 1) rfl rfl m1
  have k2 := h2
  obtain ⟨fu2, hf2⟩ := h2
  obtain ⟨a2, n2, c2, b2, rfl, r2, m2⟩ := viewQ hf2 (okWide_slice Tryd.underlying23 (hval 2 23 v2 rfl rfl))
  have z2 := sizeQ hsz (j := 2) rfl rfl m2
  have k3 := h3
  obtain ⟨i3, rfl, rfl, rfl, w3⟩ := open_int Tryd.underlying3 (hval 3 3 v3 rfl rfl) h3
  have k4 := h4
  obtain ⟨xs4, rfl, z4, rfl⟩ := viewT (hval 4 9 v4 rfl rfl) h4
  have k5 := h5
  obtain ⟨xs5, rfl, z5, rfl⟩ := viewT (hval 5 9 v5 rfl rfl) h5
  have k6 := h6
  obtain ⟨xs6, rfl, z6, rfl⟩ := viewT (hval 6 9 v6 rfl rfl) h6
  clear hA0 hval0
  refine (walk W (handle_of_laid hL) a0 n0 c0 S0 r0 e0 z0 a1 n1 c1 S1 r1 e1 z1 a2 n2 c2 b2 r2 z2 i3 w3 xs4 z4 xs5 z5 xs6 z6).mono fun e W' ⟨he, hnx⟩ => ?_
  subst he
  have hlt : ∀ x : MemPlace, x ∈ (p0 ++ (p1 ++ (p2 ++ ([] ++ ([] ++ ([] ++ ([] ++ []))))))) → x.block < W.heap.size := fun x hx => hW'.lt x (List.mem_append_left _ hx)
  exact ⟨_, rfl, _, _, _, [] ++ [], (p0 ++ (p1 ++ (p2 ++ ([] ++ ([] ++ ([] ++ ([] ++ []))))))), [], hW', trodAll_cons_mk (shut_bool Tryd.underlying4 _) trodAll_mk0, (trodAll_cons_mk (Below.trod laidOut (by kernel_rfl) (of_decide_eq_true (by kernel_rfl)) k0 hnx (fun x hx => hlt x (by simp [hx]))) (trodAll_cons_mk (Below.trod laidOut (by kernel_rfl) (of_decide_eq_true (by kernel_rfl)) k1 hnx (fun x hx => hlt x (by simp [hx]))) (trodAll_cons_mk (Below.trod laidOut (by kernel_rfl) (of_decide_eq_true (by kernel_rfl)) k2 hnx (fun x hx => hlt x (by simp [hx]))) (trodAll_cons_mk (Below.trod laidOut (by kernel_rfl) (of_decide_eq_true (by kernel_rfl)) k3 hnx (fun x hx => by cases hx)) (trodAll_cons_mk (Below.trod laidOut (by kernel_rfl) (of_decide_eq_true (by kernel_rfl)) k4 hnx (fun x hx => by cases hx)) (trodAll_cons_mk (Below.trod laidOut (by kernel_rfl) (of_decide_eq_true (by kernel_rfl)) k5 hnx (fun x hx => by cases hx)) (trodAll_cons_mk (Below.trod laidOut (by kernel_rfl) (of_decide_eq_true (by kernel_rfl)) k6 hnx (fun x hx => by cases hx)) trodAll_mk0))))))), rfl, hnx.frame _, fun h => by cases h⟩

theorem over : Rows.pqTellsRow.holds Tryd.pinned (OpenSpec.ofChange Rows.pqTellsSpec) :=
  OpenClaim.holds_of_wide 5 Tryd.f5 rfl rfl rfl rfl rfl rfl rfl ⟨rfl, rfl, rfl, rfl, rfl⟩ rfl rfl rfl rfl rfl (by kernel_rfl) Tryd.func5 (by kernel_rfl)
    (of_decide_eq_true (by kernel_rfl)) (by unfold Func.isWrapper; first | (rw [if_pos (by decide +kernel)]; kernel_rfl) | (rw [if_neg (by decide +kernel)]; exact ⟨rfl, rfl⟩))
    (fun os started H enc _ => lifted os started H enc)

theorem row : Rows.PqTellsSaid := over
/-- the tied card -/
theorem proved : Rows.PqTellsCardSaid :=
  Claim7.holds_tied_plain_at .later [] [.handle] true (true, "5e9fc8f1e66d4b8f1d62c97192221dd469f4bf7043fa5c0cc4a48d70a9d499de") true
    row (fun _ h => by cases h) (by kernel_rfl) (fun _ h => by cases h) pqTells_row_tie rfl ⟨rfl, rfl⟩ (by kernel_rfl) rfl
    (fun f fn hf hfn => by
      obtain rfl : f = 5 := Option.some.inj ((show Tryd.prog.funcNamed "paritymill/paritylaw1.PqTells" = some 5 by kernel_rfl).symm.trans hf) |>.symm
      obtain rfl : fn = Tryd.f5 := (Option.some.inj (Tryd.func5.symm.trans hfn)).symm
      exact ⟨by kernel_rfl, fun j t ht => by
        rw [Tryd.params5] at ht
        have hm : t ∈ [22, 22, 23, 3, 9, 9, 9] := by
          have := List.mem_of_getElem? (l := [22, 22, 23, 3, 9, 9, 9]) (i := j) (a := t) (by simpa using ht)
          exact this
        have hall : ∀ t ∈ [22, 22, 23, 3, 9, 9, 9], Tryd.prog.wantsStandIn t = false := by
          intro t ht
          simp only [List.mem_cons, List.not_mem_nil, or_false] at ht
          rcases ht with rfl | rfl | rfl | rfl | rfl | rfl | rfl <;> kernel_rfl
        exact hall t hm⟩)
    (by kernel_rfl)
#print axioms proved
end Go.Proofs.YthgbcpejdkhlgaaDoor.pqTells
