/- PoolPlays, a piece: walks over the program. -/
import Derived.Test.YtjfhjnccjodjbaaDoorPYh
namespace Go.Proofs.YtjfhjnccjodjbaaDoor
open Go.RowKit
set_option maxRecDepth 1000000 in
set_option maxHeartbeats 4000000 in
theorem plays_bad {a b : Int} (h : Plo.bad a b) (v : Value) (w : World) (hg : Handle w) :
    Calls Tryd.prog 3 #[.int .i64 a, .int .i64 b, v] w fun e w' => e = .returned (.bool true) ∧ Below w.heap.size w w' := by
  have C := pnew_no h w
  have E : Calls Tryd.prog 6 #[errV 1, .int .i64 1] w fun e w' => e = .returned (.bool true) ∧ Below w.heap.size w w' := err_v 1 w hg
  generalize errV 1 = ev at *
  clear hg
  by_cases h1 : a < 1
  · have d1 : decide (a < 1) = true := decide_eq_true h1
    clear h
    go_enter Tryd.func3, Tryd.ntmps3
    go_wp2_with fail
    refine C.mono ?_
    rintro e w1 ⟨rfl, hw⟩
    obtain rfl := hw.symm
    clear C hw
    go_wp2_with fail
    refine E.mono ?_
    rintro e w2 ⟨rfl, hB2⟩
    have HB : Hid (Below w.heap.size w w2) := hB2
    clear E hB2
    go_wp2
    go_ret
    exact ⟨rfl, HB.out⟩
  · have d1 : decide (a < 1) = false := decide_eq_false h1
    by_cases h2 : 10 < a
    · have d2 : decide (10 < a) = true := decide_eq_true h2
      clear h
      go_enter Tryd.func3, Tryd.ntmps3
      go_wp2_with fail
      refine C.mono ?_
      rintro e w1 ⟨rfl, hw⟩
      obtain rfl := hw.symm
      clear C hw
      go_wp2_with fail
      refine E.mono ?_
      rintro e w2 ⟨rfl, hB2⟩
      have HB : Hid (Below w.heap.size w w2) := hB2
      clear E hB2
      go_wp2
      go_ret
      exact ⟨rfl, HB.out⟩
    · have d2 : decide (10 < a) = false := decide_eq_false h2
      by_cases h3 : b < 0
      · have d3 : decide (b < 0) = true := decide_eq_true h3
        clear h
        go_enter Tryd.func3, Tryd.ntmps3
        go_wp2_with fail
        refine C.mono ?_
        rintro e w1 ⟨rfl, hw⟩
        obtain rfl := hw.symm
        clear C hw
        go_wp2_with fail
        refine E.mono ?_
        rintro e w2 ⟨rfl, hB2⟩
        have HB : Hid (Below w.heap.size w w2) := hB2
        clear E hB2
        go_wp2
        go_ret
        exact ⟨rfl, HB.out⟩
      · have h4 : 10 < b := by unfold Plo.bad at h; omega
        have d3 : decide (b < 0) = false := decide_eq_false h3
        have d4 : decide (10 < b) = true := decide_eq_true h4
        clear h
        go_enter Tryd.func3, Tryd.ntmps3
        go_wp2_with fail
        refine C.mono ?_
        rintro e w1 ⟨rfl, hw⟩
        obtain rfl := hw.symm
        clear C hw
        go_wp2_with fail
        refine E.mono ?_
        rintro e w2 ⟨rfl, hB2⟩
        have HB : Hid (Below w.heap.size w w2) := hB2
        clear E hB2
        go_wp2
        go_ret
        exact ⟨rfl, HB.out⟩
set_option linter.unusedVariables false in
set_option maxRecDepth 1000000 in
set_option maxHeartbeats 8000000 in
theorem plays_ok {a b : Nat} (h1 : 1 ≤ a) (h2 : a ≤ 10) (h3 : b ≤ 10) (a1 : Option Addr) (n1 c1 : Nat) (LL : Nat → Nat) (F : Nat → Nat → Int) (w : World) (r3 : RdII w (.slice a1 n1 c1) n1 LL F) (hn3 : n1 ≤ 5864062014634) (hg : Handle w) :
    Calls Tryd.prog 3 #[.int .i64 (a : Int), .int .i64 (b : Int), .slice a1 n1 c1] w fun e w' => e = .returned (.bool true) ∧ Below w.heap.size w w' := by
  have HR3 : Hid (RdII w (.slice a1 n1 c1) n1 LL F) := r3
  have HG : Hid (Handle w) := hg
  clear r3 hg
  have d1 : decide ((a : Int) < 1) = false := decide_eq_false (by omega)
  have d2 : decide (10 < (a : Int)) = false := decide_eq_false (by omega)
  have d3 : decide ((b : Int) < 0) = false := decide_eq_false (by omega)
  have d4 : decide (10 < (b : Int)) = false := decide_eq_false (by omega)
  have N0 := pl_new h1 h2 h3 (Below.refl w.heap.size w)
  have HE : Hid (∀ (w2 : World), Below w.heap.size w w2 → Calls Tryd.prog 6 #[errV 0, .int .i64 0] w2 fun e w' => e = .returned (.bool true) ∧ Below w2.heap.size w2 w') := fun w2 h => err_v 0 w2 (HG.out.old h)
  generalize errV 0 = ev at *
  go_enter Tryd.func3, Tryd.ntmps3
  go_wp2_with fail
  refine N0.mono ?_
  rintro e w1 ⟨x, rfl, hP1, _, _⟩
  have HX1 : Hid (PL w x (Plo.fresh a b) w1) := hP1
  have E := HE.out w1 hP1.low
  clear N0 hP1 HE
  go_wp2_with fail
  refine E.mono ?_
  rintro e w2 ⟨rfl, hB2⟩
  have HX2 : Hid (PL w x (Plo.fresh a b) w2) := HX1.out.old hB2
  have N1 := dpool_ok h1 h2 h3 w2
  clear E hB2 HX1
  go_wp2_with fail
  refine N1.mono ?_
  rintro e w3 ⟨y, rfl, hI3, hF3, hB3⟩
  have HX3 : Hid (PW w x y (Plo.fresh a b) (Plo.fresh a b) w3) := ⟨HX2.out.old hB3, hI3, fun k hk => Nat.le_trans HX2.out.low.size (hF3 k hk), fun k hx hy => by have := HX2.out.isp.lt k hx; have := hF3 k hy; omega⟩
  clear N1 hI3 hF3 hB3 HX2
  go_upto_region 9 with fail
  rename ∀ (a : Act) (w : World), Code.wp _ _ _ a w → _ => hK
  have HK : Hid _ := hK
  clear hK
  go_wp2
  refine HK.out _ _ ?_
  clear HK
  refine wp_block ?_
  refine yloop n1 c1 x y a1 w _ _ _ _ _ _ _ _ _ _ _ _ _ _ _ _ _ _ _ _ _ _ _ _ _ _ _ _ _ _ _ _ _ _ _ _ _ _ _ _ LL F HG HR3.out hn3 _ 0 (Plo.fresh a b) _ _ _ _ _ _ _ _ _ _ _ _ _ _ _ _ _ _ _ _ _ _ _ _ _ _ _ _ _ _ _ _ _ _ _ _ _ _ _ _ _ _ _ _ _ _ _ _ _ _ _ _ _ _ _ _ _ _ _ _ _ _ _ _ _ _ _ _ _ _ _ _ _ _ _ _ _ _ _ _ _ _ _ _ _ _ _ _ _ _ _ _ _ _ _ _ _ _ _ _ _ _ _ _ _ _ _ _ _ _ _ ⟨Nat.zero_le _, Nat.zero_le _⟩ ⟨HX3.out, Nat.zero_le _⟩ ?_
  intro a' w' hI
  unfold yWI at hI
  obtain ⟨k, _, hI⟩ := hI
  unfold yWK at hI
  obtain ⟨u6, hI⟩ := hI
  obtain ⟨u10, hI⟩ := hI
  obtain ⟨u13, hI⟩ := hI
  obtain ⟨u14, hI⟩ := hI
  obtain ⟨u15, hI⟩ := hI
  obtain ⟨u16, hI⟩ := hI
  obtain ⟨u17, hI⟩ := hI
  obtain ⟨u18, hI⟩ := hI
  obtain ⟨u19, hI⟩ := hI
  obtain ⟨u53, hI⟩ := hI
  obtain ⟨u54, hI⟩ := hI
  obtain ⟨u55, hI⟩ := hI
  obtain ⟨u56, hI⟩ := hI
  obtain ⟨u57, hI⟩ := hI
  obtain ⟨u58, hI⟩ := hI
  obtain ⟨u59, hI⟩ := hI
  obtain ⟨u60, hI⟩ := hI
  obtain ⟨u61, hI⟩ := hI
  obtain ⟨u62, hI⟩ := hI
  obtain ⟨u63, hI⟩ := hI
  obtain ⟨u64, hI⟩ := hI
  obtain ⟨u65, hI⟩ := hI
  obtain ⟨u66, hI⟩ := hI
  obtain ⟨u67, hI⟩ := hI
  obtain ⟨u68, hI⟩ := hI
  obtain ⟨u69, hI⟩ := hI
  obtain ⟨u70, hI⟩ := hI
  obtain ⟨u71, hI⟩ := hI
  obtain ⟨u72, hI⟩ := hI
  obtain ⟨u73, hI⟩ := hI
  obtain ⟨u74, hI⟩ := hI
  obtain ⟨u75, hI⟩ := hI
  obtain ⟨u76, hI⟩ := hI
  obtain ⟨u77, hI⟩ := hI
  obtain ⟨u78, hI⟩ := hI
  obtain ⟨u79, hI⟩ := hI
  obtain ⟨u80, hI⟩ := hI
  obtain ⟨u81, hI⟩ := hI
  obtain ⟨u82, hI⟩ := hI
  obtain ⟨u83, hI⟩ := hI
  obtain ⟨u84, hI⟩ := hI
  obtain ⟨u85, hI⟩ := hI
  obtain ⟨u86, hI⟩ := hI
  obtain ⟨u87, hI⟩ := hI
  obtain ⟨u88, hI⟩ := hI
  obtain ⟨u89, hI⟩ := hI
  obtain ⟨u90, hI⟩ := hI
  obtain ⟨u91, hI⟩ := hI
  obtain ⟨u92, hI⟩ := hI
  obtain ⟨u93, hI⟩ := hI
  obtain ⟨u94, hI⟩ := hI
  obtain ⟨u95, hI⟩ := hI
  obtain ⟨u96, hI⟩ := hI
  obtain ⟨u97, hI⟩ := hI
  obtain ⟨u98, hI⟩ := hI
  obtain ⟨u99, hI⟩ := hI
  obtain ⟨u100, hI⟩ := hI
  obtain ⟨u101, hI⟩ := hI
  obtain ⟨u102, hI⟩ := hI
  obtain ⟨u103, hI⟩ := hI
  obtain ⟨u104, hI⟩ := hI
  obtain ⟨u105, hI⟩ := hI
  obtain ⟨u106, hI⟩ := hI
  obtain ⟨u107, hI⟩ := hI
  obtain ⟨u108, hI⟩ := hI
  obtain ⟨u109, hI⟩ := hI
  obtain ⟨u110, hI⟩ := hI
  obtain ⟨u111, hI⟩ := hI
  obtain ⟨u112, hI⟩ := hI
  obtain ⟨u113, hI⟩ := hI
  obtain ⟨u114, hI⟩ := hI
  obtain ⟨u115, hI⟩ := hI
  obtain ⟨u116, hI⟩ := hI
  obtain ⟨u117, hI⟩ := hI
  obtain ⟨u118, hI⟩ := hI
  obtain ⟨u119, hI⟩ := hI
  obtain ⟨u120, hI⟩ := hI
  obtain ⟨u121, hI⟩ := hI
  obtain ⟨u122, hI⟩ := hI
  obtain ⟨u123, hI⟩ := hI
  obtain ⟨u124, hI⟩ := hI
  obtain ⟨u125, hI⟩ := hI
  obtain ⟨u126, hI⟩ := hI
  obtain ⟨u127, hI⟩ := hI
  obtain ⟨u128, hI⟩ := hI
  obtain ⟨u129, hI⟩ := hI
  obtain ⟨u130, hI⟩ := hI
  obtain ⟨u131, hI⟩ := hI
  obtain ⟨u132, hI⟩ := hI
  obtain ⟨u133, hI⟩ := hI
  obtain ⟨u134, hI⟩ := hI
  obtain ⟨u135, hI⟩ := hI
  obtain ⟨u136, hI⟩ := hI
  obtain ⟨u137, hI⟩ := hI
  obtain ⟨u138, hI⟩ := hI
  obtain ⟨u139, hI⟩ := hI
  obtain ⟨u140, hI⟩ := hI
  obtain ⟨u141, hI⟩ := hI
  obtain ⟨u142, hI⟩ := hI
  obtain ⟨u143, hI⟩ := hI
  obtain ⟨u144, hI⟩ := hI
  obtain ⟨u145, hI⟩ := hI
  obtain ⟨u146, hI⟩ := hI
  obtain ⟨u147, hI⟩ := hI
  obtain ⟨u148, hI⟩ := hI
  obtain ⟨u149, hI⟩ := hI
  obtain ⟨u150, hI⟩ := hI
  obtain ⟨u151, hI⟩ := hI
  obtain ⟨u152, hI⟩ := hI
  obtain ⟨u153, hI⟩ := hI
  obtain ⟨t, ⟨hX, _⟩, rfl⟩ := hI
  have HL : Hid (Below w.heap.size w w') := hX.low
  clear hX HX3
  go_wp2
  go_ret
  exact ⟨rfl, HL.out⟩
theorem pplays_any (a b : Int) (a1 : Option Addr) (n1 c1 : Nat) (LL : Nat → Nat) (F : Nat → Nat → Int) (w : World) (r3 : RdII w (.slice a1 n1 c1) n1 LL F) (hn3 : n1 ≤ 5864062014634) (hg : Handle w) :
    Calls Tryd.prog 3 #[.int .i64 a, .int .i64 b, .slice a1 n1 c1] w fun e w' => e = .returned (.bool true) ∧ Below w.heap.size w w' := by
  by_cases h : Plo.bad a b
  · exact plays_bad h _ w hg
  · unfold Plo.bad at h
    obtain ⟨m, rfl⟩ : ∃ m : Nat, a = (m : Int) := ⟨a.toNat, by omega⟩
    obtain ⟨k, rfl⟩ : ∃ k : Nat, b = (k : Int) := ⟨b.toNat, by omega⟩
    exact plays_ok (by omega) (by omega) (by omega) a1 n1 c1 LL F w r3 hn3 hg
end Go.Proofs.YtjfhjnccjodjbaaDoor
