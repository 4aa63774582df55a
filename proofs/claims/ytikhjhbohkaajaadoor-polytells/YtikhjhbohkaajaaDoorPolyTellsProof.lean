/- Proved: for every two lists of bytes, every byte and every list of points the call paritylaw1.PolyTells returns true (Trim, sum, product, value, quotient and rest, and the one through points are the document's, with their errors); the row lists errors.errorType as the program's text lays it, and the card ties it; no other condition. -/
import Derived.Test.YtikhjhbohkaajaaDoorRows
import Derived.Test.YtikhjhbohkaajaaDoorPTells
import Derived.Test.YtikhjhbohkaajaaDoorViewP
import Derived.Test.YtikhjhbohkaajaaDoorView
import Derived.Test.YtikhjhbohkaajaaDoorCards
import Derived.Test.YtikhjhbohkaajaaDoorTie
import Derived.ChangeSame
import Derived.ChangeVars
import Derived.JoinedOf
import Derived.RowKit
import Derived.RowKitTokens
import Derived.LaidLaws
import Derived.LaidHandle
import Derived.Stop.Joined
import Derived.SevenTiedAt
import Derived.WalkKit
import Derived.ProofKit
import Derived.OpenShut
import Derived.SizedLaws
import Derived.Carry
namespace Go.Proofs.YtikhjhbohkaajaaDoor.polyTells
open Go.ChangeShapes Go.WideShapes Go.ChangeAt Go.RowKit El Pol
set_option linter.unusedVariables false
theorem own : ownKnob Tryd.prog.godebug = none := by kernel_rfl
theorem laidOut : laidOutB Tryd.prog = true := by kernel_rfl
theorem walk (w : World) (hg : Handle w) (a0 : Option Addr) (n0 c0 : Nat) (xs0 : List El) (r0 : Rd w (.slice a0 n0 c0) xs0) (l0 : n0 = xs0.length) (z0 : n0 ≤ 140737488351232) (a1 : Option Addr) (n1 c1 : Nat) (xs1 : List El) (r1 : Rd w (.slice a1 n1 c1) xs1) (l1 : n1 = xs1.length) (z1 : n1 ≤ 140737488351232) (x2 : El) (a3 : Option Addr) (n3 c3 : Nat) (X3 Y3 : Nat → El) (r3 : RdP w (.slice a3 n3 c3) n3 X3 Y3) (z3 : n3 ≤ 140737488351232) :
    Calls Tryd.prog 4 #[.slice a0 n0 c0, .slice a1 n1 c1, .int .u8 ((x2.val : Nat) : Int), .slice a3 n3 c3] w fun e w' => e = .returned (.bool true) ∧ Below w.heap.size w w' := by
  exact ptells_any a0 a1 a3 n0 c0 n1 c1 n3 c3 xs0 xs1 x2 X3 Y3 w r0 l0 z0 r1 l1 z1 r3 z3 hg
theorem et : Tryd.prog.globalNamed "errors.errorType" = some 0 := by kernel_rfl
theorem rt : (Tryd.prog.cutTypes.find? (·.1 == "internal/reflectlite.rtype")).map (·.2) = some 86 := by kernel_rfl
theorem oneRow : ((List.range 129).filter fun t => Tryd.prog.rowNamed t [101, 114, 114, 111, 114]) = [26] := by kernel_rfl
theorem nTypes : Tryd.prog.types.size = 129 := by kernel_rfl
def laid : List (String × DataW Unit) := [("errors.errorType", Rows.laid_errors_errorType)]
/-- what the listed variable reads as gives its one cell -/
theorem handle_of_laid {W : World} (h : laidMetH Tryd.prog laid W) : Handle W := by
  have h' : laidMet Tryd.prog [] W ∧ handlesMet Tryd.prog laid W := h
  obtain ⟨name, u, ty, e1, e2, e3, e4, e5⟩ := h'.2 _ (List.mem_singleton.2 rfl)
  have en : name = [101, 114, 114, 111, 114] := (Option.some.inj e1).symm
  subst en
  obtain rfl := Option.some.inj (rt.symm.trans e2)
  have hm : ty ∈ (List.range 129).filter fun t => Tryd.prog.rowNamed t [101, 114, 114, 111, 114] := List.mem_filter.2 ⟨List.mem_range.2 (by rw [← nTypes]; exact e3), e4⟩
  rw [oneRow] at hm
  obtain rfl := List.mem_singleton.1 hm
  have hh : typeHandle Tryd.prog 26 = .pointer (some ⟨1, 26, none⟩) := by kernel_rfl
  rw [hh] at e5
  simpa [Handle] using World.var?_cell et e5 0
theorem laidWorld_met (os : Os) (args : Array Value) : laidMetH Tryd.prog laid ((({ World.holding Tryd.prog os ⟨#[], #[], []⟩ with heap := (World.holding Tryd.prog os ⟨#[], #[], []⟩).heap.modify 0 fun | .cells _ t frozen => .cells #[.iface 86 (.agg #[.pointer (some ⟨1, 26, none⟩)])] t frozen | o => o }) : World).forCall (fun _ _ => 0) ⟨#[], args, []⟩).memory :=
  laidMetH_of_parts (laidMet_nil _ _) (by kernel_rfl)

set_option maxRecDepth 100000 in
theorem lifted (os : Os) (started : os.Started) (H : Type) (enc : TypeId × Value → H) :
    ReturnsInHanded {} Tryd.checked os 4 .any (fun w args => (Rows.polyTellsSpec.pre enc Tryd.prog Tryd.f4 [] false w args ∧ laidMetH Tryd.prog laid w) ∧ sizedMet enc Tryd.prog Tryd.f4 (OpenSpec.ofChange Rows.polyTellsSpec) false w args)
      (Rows.polyTellsSpec.post enc Tryd.prog Tryd.f4 false true false false) := by
  refine returnsInHanded_of_change_and (C := Tryd.checked) (X := fun w _ => laidMetH Tryd.prog laid w) (fun _ _ _ hh h => h.of_heap hh) own started (by kernel_rfl) Tryd.func4
    (ChangeSpec.witness_at (enc := enc) (C := Tryd.checked) (os := os) (X := fun w _ => laidMetH Tryd.prog laid w) false ({ World.holding Tryd.prog os ⟨#[], #[], []⟩ with heap := (World.holding Tryd.prog os ⟨#[], #[], []⟩).heap.modify 0 fun | .cells _ t frozen => .cells #[.iface 86 (.agg #[.pointer (some ⟨1, 26, none⟩)])] t frozen | o => o }) #[.slice none 0 0, .slice none 0 0, .int .u8 0, .slice none 0 0] 8 rfl (by kernel_rfl) (by kernel_rfl) (by kernel_rfl) (by kernel_rfl) (by kernel_rfl) (laidWorld_met os _)) ?_
  intro W base args ds gs before hval0 hW _ hsz0 hL _
  have hsz : (DataW.weightsEach Tryd.prog (Tryd.f4.params.toList ++ Rows.polyTellsSpec.plain.varTypes Tryd.prog) (ds ++ gs)).all (· ≤ reachBytes) = true := hsz0
  clear hsz0
  have hval : ∀ (j : Nat) t v, Tryd.f4.params[j]? = some t → args[j]? = some v → Value.okWide Tryd.prog W .any base t v := hval0
  have hW' := hW
  obtain ⟨p, q, hA0, hV, rfl, _, _⟩ := hW
  have hA : DataW.TrodAll enc Tryd.prog W 0 (fun _ => true) true Tryd.f4.params.toList args.toList ds p := hA0
  rw [Tryd.params4] at hA hval hsz
  obtain ⟨v0, vs0, d0, ds0, p0, q0, hargs, rfl, rfl, h0, s0⟩ := trodAll_cons hA
  obtain ⟨v1, vs1, d1, ds1, p1, q1, rfl, rfl, rfl, h1, s1⟩ := trodAll_cons s0
  obtain ⟨v2, vs2, d2, ds2, p2, q2, rfl, rfl, rfl, h2, s2⟩ := trodAll_cons s1
  obtain ⟨v3, vs3, d3, ds3, p3, q3, rfl, rfl, rfl, h3, s3⟩ := trodAll_cons s2
  obtain ⟨rfl, rfl, rfl⟩ := trodAll_nil s3
  obtain rfl : args = #[v0, v1, v2, v3] := by cases args; simp_all
  obtain ⟨rfl, rfl⟩ := trodVars_none hV
  have k0 := h0
  obtain ⟨fu0, hf0⟩ := h0
  obtain ⟨a0, n0, c0, xs0, rfl, r0, l0, m0⟩ := viewB hf0 (okWide_slice Tryd.underlying35 (hval 0 35 v0 rfl rfl))
  have z0 := sizeB hsz (j := 0) rfl rfl m0
  have k1 := h1
  obtain ⟨fu1, hf1⟩ := h1
  obtain ⟨a1, n1, c1, xs1, rfl, r1, l1, m1⟩ := viewB hf1 (okWide_slice Tryd.underlying35 (hval 1 35 v1 rfl rfl))
  have z1 := sizeB hsz (j := 1) rfl rfl m1
  have k2 := h2
  obtain ⟨y2, rfl, rfl, rfl, w2⟩ := open_int Tryd.underlying5 (hval 2 5 v2 rfl rfl) h2
  obtain ⟨x2, hx2⟩ : ∃ x2 : El, ((x2.val : Nat) : Int) = y2 := ⟨el y2, el_val w2⟩
  subst hx2
  have k3 := h3
  obtain ⟨fu3, hf3⟩ := h3
  obtain ⟨a3, n3, c3, X3, Y3, rfl, r3, m3⟩ := viewP hf3 (okWide_slice Tryd.underlying36 (hval 3 36 v3 rfl rfl))
  have z3 := sizeP hsz (j := 3) rfl rfl m3
  clear hA0 hval0
  refine (walk W (handle_of_laid hL) a0 n0 c0 xs0 r0 l0 z0 a1 n1 c1 xs1 r1 l1 z1 x2 a3 n3 c3 X3 Y3 r3 z3).mono fun e W' ⟨he, hnx⟩ => ?_
  subst he
  have hlt : ∀ x : MemPlace, x ∈ (p0 ++ (p1 ++ ([] ++ (p3 ++ [])))) → x.block < W.heap.size := fun x hx => hW'.lt x (List.mem_append_left _ hx)
  exact ⟨_, rfl, _, _, _, [] ++ [], (p0 ++ (p1 ++ ([] ++ (p3 ++ [])))), [], hW', trodAll_cons_mk (shut_bool Tryd.underlying4 _) trodAll_mk0, (trodAll_cons_mk (Below.trod laidOut (by kernel_rfl) (of_decide_eq_true (by kernel_rfl)) k0 hnx (fun x hx => hlt x (by simp [hx]))) (trodAll_cons_mk (Below.trod laidOut (by kernel_rfl) (of_decide_eq_true (by kernel_rfl)) k1 hnx (fun x hx => hlt x (by simp [hx]))) (trodAll_cons_mk (Below.trod laidOut (by kernel_rfl) (of_decide_eq_true (by kernel_rfl)) k2 hnx (fun x hx => by cases hx)) (trodAll_cons_mk (Below.trod laidOut (by kernel_rfl) (of_decide_eq_true (by kernel_rfl)) k3 hnx (fun x hx => hlt x (by simp [hx]))) trodAll_mk0)))), rfl, hnx.frame _, fun h => by cases h⟩

theorem over : Rows.polyTellsRow.holds Tryd.pinned (OpenSpec.ofChange Rows.polyTellsSpec) :=
  OpenClaim.holds_of_wide 4 Tryd.f4 rfl rfl rfl rfl rfl rfl rfl ⟨rfl, rfl, rfl, rfl, rfl⟩ rfl rfl rfl rfl rfl (by kernel_rfl) Tryd.func4 (by kernel_rfl)
    (of_decide_eq_true (by kernel_rfl)) (by unfold Func.isWrapper; first | (rw [if_pos (by decide +kernel)]; kernel_rfl) | (rw [if_neg (by decide +kernel)]; exact ⟨rfl, rfl⟩))
    (fun os started H enc _ => lifted os started H enc)

theorem row : Rows.PolyTellsSaid := over
/-- the tied card -/
theorem proved : Rows.PolyTellsCardSaid :=
  Claim7.holds_tied_plain_at .later [] [.handle] true (true, "f4c3b4473ed5700e4c8b02578e1f83797b2a262036750b70563be278c0ba2acb") true
    row (fun _ h => by cases h) (by kernel_rfl) (fun _ h => by cases h) polyTells_row_tie rfl ⟨rfl, rfl⟩ (by kernel_rfl) rfl
    (fun f fn hf hfn => by
      obtain rfl : f = 4 := Option.some.inj ((show Tryd.prog.funcNamed "paritymill/paritylaw1.PolyTells" = some 4 by kernel_rfl).symm.trans hf) |>.symm
      obtain rfl : fn = Tryd.f4 := (Option.some.inj (Tryd.func4.symm.trans hfn)).symm
      exact ⟨by kernel_rfl, fun j t ht => by
        rw [Tryd.params4] at ht
        have hm : t ∈ [35, 35, 5, 36] := by
          have := List.mem_of_getElem? (l := [35, 35, 5, 36]) (i := j) (a := t) (by simpa using ht)
          exact this
        have hall : ∀ t ∈ [35, 35, 5, 36], Tryd.prog.wantsStandIn t = false := by
          intro t ht
          simp only [List.mem_cons, List.not_mem_nil, or_false] at ht
          rcases ht with rfl | rfl | rfl | rfl <;> kernel_rfl
        exact hall t hm⟩)
    (by kernel_rfl)
#print axioms proved
end Go.Proofs.YtikhjhbohkaajaaDoor.polyTells
