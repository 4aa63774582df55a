/- PoolSlots, a piece: walks over the program. -/
import Derived.Test.YticgapgggoklfaaSLh
namespace Go.Proofs.Yticgapgggoklfaa
open Go.RowKit
theorem sl_fact : (Plo.fresh 2 1).failN 0 = 2 ∧ (Plo.fresh 2 1).failE 0 = 0 ∧ ((Plo.fresh 2 1).fail 0).wk = 2 ∧ ((Plo.fresh 2 1).fail 0).sl 0 = 2 := by decide +kernel
set_option maxRecDepth 1000000 in
set_option maxHeartbeats 4000000 in
theorem slots_bad {a b : Int} (h : Plo.bad a b) (v : Value) (w : World) :
    Calls Try.prog 3 #[.int .i64 a, .int .i64 b, v] w fun e w' => e = .returned (.bool true) ∧ Below w.heap.size w w' := by
  have N0 := pl_new (a := 2) (b := 1) (by omega) (by omega) (by omega) (Below.refl w.heap.size w)
  rw [errV, if_pos rfl] at N0
  have HN : Hid (∀ W : World, Calls Try.prog 7 #[.int .i64 a, .int .i64 b] W fun e w' => e = .returned (.tuple #[.pointer none, errV 1]) ∧ w' = W) := fun W => pnew_no h W
  by_cases h1 : a < 1
  · have d1 : decide (a < 1) = true := decide_eq_true h1
    clear h
    go_enter Try.func3, Try.ntmps3
    go_wp2_with fail
    refine N0.mono ?_
    rintro e w1 ⟨x0, rfl, hP1, _, _⟩
    have HS1 : Hid (PL w x0 (Plo.fresh 2 1) w1) := hP1
    have A := hP1.fail 0
    rw [sl_fact.1, sl_fact.2.1, errV, if_pos rfl] at A
    clear N0 hP1
    go_wp2_with fail
    refine A.mono ?_
    rintro e w2 ⟨rfl, hP2, _⟩
    have HS2 : Hid (PL w x0 ((Plo.fresh 2 1).fail 0) w2) := hP2
    have A2 := pslots hP2.isp hP2.ok
    rw [sl_fact.2.2.1] at A2
    clear A hP2 HS1
    go_wp2_with fail
    refine A2.mono ?_
    rintro e w3 ⟨v3, rfl, hO3, hB3⟩
    have HL3 : Hid (Below w.heap.size w w3) := HS2.out.low.trans (hB3.mono HS2.out.low.size)
    obtain ⟨ao, co, rfl⟩ := OwI.len hO3
    obtain ⟨ad, had, hc⟩ := (OwI.rd hO3).at 0 (by omega)
    subst had
    unfold vi at hc
    rw [sl_fact.2.2.2, add_zero] at hc
    clear A2 hO3 hB3 HS2
    have C := HN.out w3
    rw [errV, if_neg (by omega)] at C
    clear HN
    go_wp2_with fail
    refine C.mono ?_
    rintro e w4 ⟨rfl, hw⟩
    obtain rfl := hw.symm
    clear C hw
    go_wp2
    go_ret
    exact ⟨rfl, HL3.out⟩
  · have d1 : decide (a < 1) = false := decide_eq_false h1
    by_cases h2 : 10 < a
    · have d2 : decide (10 < a) = true := decide_eq_true h2
      clear h
      go_enter Try.func3, Try.ntmps3
      go_wp2_with fail
      refine N0.mono ?_
      rintro e w1 ⟨x0, rfl, hP1, _, _⟩
      have HS1 : Hid (PL w x0 (Plo.fresh 2 1) w1) := hP1
      have A := hP1.fail 0
      rw [sl_fact.1, sl_fact.2.1, errV, if_pos rfl] at A
      clear N0 hP1
      go_wp2_with fail
      refine A.mono ?_
      rintro e w2 ⟨rfl, hP2, _⟩
      have HS2 : Hid (PL w x0 ((Plo.fresh 2 1).fail 0) w2) := hP2
      have A2 := pslots hP2.isp hP2.ok
      rw [sl_fact.2.2.1] at A2
      clear A hP2 HS1
      go_wp2_with fail
      refine A2.mono ?_
      rintro e w3 ⟨v3, rfl, hO3, hB3⟩
      have HL3 : Hid (Below w.heap.size w w3) := HS2.out.low.trans (hB3.mono HS2.out.low.size)
      obtain ⟨ao, co, rfl⟩ := OwI.len hO3
      obtain ⟨ad, had, hc⟩ := (OwI.rd hO3).at 0 (by omega)
      subst had
      unfold vi at hc
      rw [sl_fact.2.2.2, add_zero] at hc
      clear A2 hO3 hB3 HS2
      have C := HN.out w3
      rw [errV, if_neg (by omega)] at C
      clear HN
      go_wp2_with fail
      refine C.mono ?_
      rintro e w4 ⟨rfl, hw⟩
      obtain rfl := hw.symm
      clear C hw
      go_wp2
      go_ret
      exact ⟨rfl, HL3.out⟩
    · have d2 : decide (10 < a) = false := decide_eq_false h2
      by_cases h3 : b < 0
      · have d3 : decide (b < 0) = true := decide_eq_true h3
        clear h
        go_enter Try.func3, Try.ntmps3
        go_wp2_with fail
        refine N0.mono ?_
        rintro e w1 ⟨x0, rfl, hP1, _, _⟩
        have HS1 : Hid (PL w x0 (Plo.fresh 2 1) w1) := hP1
        have A := hP1.fail 0
        rw [sl_fact.1, sl_fact.2.1, errV, if_pos rfl] at A
        clear N0 hP1
        go_wp2_with fail
        refine A.mono ?_
        rintro e w2 ⟨rfl, hP2, _⟩
        have HS2 : Hid (PL w x0 ((Plo.fresh 2 1).fail 0) w2) := hP2
        have A2 := pslots hP2.isp hP2.ok
        rw [sl_fact.2.2.1] at A2
        clear A hP2 HS1
        go_wp2_with fail
        refine A2.mono ?_
        rintro e w3 ⟨v3, rfl, hO3, hB3⟩
        have HL3 : Hid (Below w.heap.size w w3) := HS2.out.low.trans (hB3.mono HS2.out.low.size)
        obtain ⟨ao, co, rfl⟩ := OwI.len hO3
        obtain ⟨ad, had, hc⟩ := (OwI.rd hO3).at 0 (by omega)
        subst had
        unfold vi at hc
        rw [sl_fact.2.2.2, add_zero] at hc
        clear A2 hO3 hB3 HS2
        have C := HN.out w3
        rw [errV, if_neg (by omega)] at C
        clear HN
        go_wp2_with fail
        refine C.mono ?_
        rintro e w4 ⟨rfl, hw⟩
        obtain rfl := hw.symm
        clear C hw
        go_wp2
        go_ret
        exact ⟨rfl, HL3.out⟩
      · have h4 : 10 < b := by unfold Plo.bad at h; omega
        have d3 : decide (b < 0) = false := decide_eq_false h3
        have d4 : decide (10 < b) = true := decide_eq_true h4
        clear h
        go_enter Try.func3, Try.ntmps3
        go_wp2_with fail
        refine N0.mono ?_
        rintro e w1 ⟨x0, rfl, hP1, _, _⟩
        have HS1 : Hid (PL w x0 (Plo.fresh 2 1) w1) := hP1
        have A := hP1.fail 0
        rw [sl_fact.1, sl_fact.2.1, errV, if_pos rfl] at A
        clear N0 hP1
        go_wp2_with fail
        refine A.mono ?_
        rintro e w2 ⟨rfl, hP2, _⟩
        have HS2 : Hid (PL w x0 ((Plo.fresh 2 1).fail 0) w2) := hP2
        have A2 := pslots hP2.isp hP2.ok
        rw [sl_fact.2.2.1] at A2
        clear A hP2 HS1
        go_wp2_with fail
        refine A2.mono ?_
        rintro e w3 ⟨v3, rfl, hO3, hB3⟩
        have HL3 : Hid (Below w.heap.size w w3) := HS2.out.low.trans (hB3.mono HS2.out.low.size)
        obtain ⟨ao, co, rfl⟩ := OwI.len hO3
        obtain ⟨ad, had, hc⟩ := (OwI.rd hO3).at 0 (by omega)
        subst had
        unfold vi at hc
        rw [sl_fact.2.2.2, add_zero] at hc
        clear A2 hO3 hB3 HS2
        have C := HN.out w3
        rw [errV, if_neg (by omega)] at C
        clear HN
        go_wp2_with fail
        refine C.mono ?_
        rintro e w4 ⟨rfl, hw⟩
        obtain rfl := hw.symm
        clear C hw
        go_wp2
        go_ret
        exact ⟨rfl, HL3.out⟩
set_option linter.unusedVariables false in
set_option maxRecDepth 1000000 in
set_option maxHeartbeats 8000000 in
theorem slots_ok {a b : Nat} (h1 : 1 ≤ a) (h2 : a ≤ 10) (h3 : b ≤ 10) (a1 : Option Addr) (n1 c1 : Nat) (LL : Nat → Nat) (F : Nat → Nat → Int) (w : World) (r3 : RdII w (.slice a1 n1 c1) n1 LL F) (hn3 : n1 ≤ 5864062014634) :
    Calls Try.prog 3 #[.int .i64 (a : Int), .int .i64 (b : Int), .slice a1 n1 c1] w fun e w' => e = .returned (.bool true) ∧ Below w.heap.size w w' := by
  have HR3 : Hid (RdII w (.slice a1 n1 c1) n1 LL F) := r3
  clear r3
  have N0 := pl_new (a := 2) (b := 1) (by omega) (by omega) (by omega) (Below.refl w.heap.size w)
  rw [errV, if_pos rfl] at N0
  go_enter Try.func3, Try.ntmps3
  go_wp2_with fail
  refine N0.mono ?_
  rintro e w1 ⟨x0, rfl, hP1, _, _⟩
  have HS1 : Hid (PL w x0 (Plo.fresh 2 1) w1) := hP1
  have A := hP1.fail 0
  rw [sl_fact.1, sl_fact.2.1, errV, if_pos rfl] at A
  clear N0 hP1
  go_wp2_with fail
  refine A.mono ?_
  rintro e w2 ⟨rfl, hP2, _⟩
  have HS2 : Hid (PL w x0 ((Plo.fresh 2 1).fail 0) w2) := hP2
  have A2 := pslots hP2.isp hP2.ok
  rw [sl_fact.2.2.1] at A2
  clear A hP2 HS1
  go_wp2_with fail
  refine A2.mono ?_
  rintro e w3 ⟨v3, rfl, hO3, hB3⟩
  have HL3 : Hid (Below w.heap.size w w3) := HS2.out.low.trans (hB3.mono HS2.out.low.size)
  obtain ⟨ao, co, rfl⟩ := OwI.len hO3
  obtain ⟨ad, had, hc⟩ := (OwI.rd hO3).at 0 (by omega)
  subst had
  unfold vi at hc
  rw [sl_fact.2.2.2, add_zero] at hc
  clear A2 hO3 hB3 HS2
  have N1 := pl_new h1 h2 h3 HL3.out
  rw [errV, if_pos rfl] at N1
  go_upto_region 8 with fail
  go_wp2_with fail
  refine N1.mono ?_
  rintro e w4 ⟨x, rfl, hP4, _, _⟩
  have HX4 : Hid (PN w x a (a + b) (Plo.fresh a b) w4) := ⟨hP4, rfl, rfl⟩
  clear N1 hP4 HL3 hc
  go_upto_region 11 with fail
  rename ∀ (a : Act) (w : World), Code.wp _ _ _ a w → _ => hK
  have HK : Hid _ := hK
  clear hK
  go_wp2
  refine HK.out _ _ ?_
  clear HK
  refine wp_block ?_
  refine sloop a b (a + b) n1 c1 x a1 w _ _ _ _ _ _ _ _ _ _ _ _ _ _ _ _ _ _ _ _ _ _ _ _ _ _ _ _ _ _ _ _ _ _ _ _ _ _ _ _ _ _ _ _ _ _ _ _ _ _ _ _ _ _ _ _ _ _ _ _ LL F (by omega) HR3.out hn3 _ 0 (Plo.fresh a b) _ _ _ _ _ _ _ _ _ _ _ _ _ _ _ _ _ _ _ _ _ _ _ _ _ _ _ _ _ _ _ _ _ _ _ _ _ _ _ _ _ _ _ _ _ _ _ _ _ _ _ _ _ _ _ _ _ _ _ _ _ _ _ _ _ _ _ _ _ _ _ _ _ _ _ _ _ _ _ _ _ _ _ _ _ _ _ _ _ _ _ _ _ _ _ _ _ _ _ _ _ _ _ _ _ _ _ _ _ _ _ _ _ _ _ _ _ _ _ _ _ _ _ _ _ _ _ _ _ _ _ _ _ _ _ _ _ _ _ _ _ _ _ _ _ _ _ _ _ _ _ _ _ _ _ _ _ ⟨Nat.zero_le _, Nat.zero_le _⟩ ⟨HX4.out, Nat.zero_le _⟩ ?_
  intro a' w' hI
  unfold sWI at hI
  obtain ⟨k, _, hI⟩ := hI
  unfold sWK at hI
  obtain ⟨u6, hI⟩ := hI
  obtain ⟨u14, hI⟩ := hI
  obtain ⟨u15, hI⟩ := hI
  obtain ⟨u16, hI⟩ := hI
  obtain ⟨u17, hI⟩ := hI
  obtain ⟨u18, hI⟩ := hI
  obtain ⟨u19, hI⟩ := hI
  obtain ⟨u20, hI⟩ := hI
  obtain ⟨u21, hI⟩ := hI
  obtain ⟨u22, hI⟩ := hI
  obtain ⟨u75, hI⟩ := hI
  obtain ⟨u76, hI⟩ := hI
  obtain ⟨u77, hI⟩ := hI
  obtain ⟨u78, hI⟩ := hI
  obtain ⟨u79, hI⟩ := hI
  obtain ⟨u80, hI⟩ := hI
  obtain ⟨u81, hI⟩ := hI
  obtain ⟨u82, hI⟩ := hI
  obtain ⟨u83, hI⟩ := hI
  obtain ⟨u84, hI⟩ := hI
  obtain ⟨u85, hI⟩ := hI
  obtain ⟨u86, hI⟩ := hI
  obtain ⟨u87, hI⟩ := hI
  obtain ⟨u88, hI⟩ := hI
  obtain ⟨u89, hI⟩ := hI
  obtain ⟨u90, hI⟩ := hI
  obtain ⟨u91, hI⟩ := hI
  obtain ⟨u92, hI⟩ := hI
  obtain ⟨u93, hI⟩ := hI
  obtain ⟨u94, hI⟩ := hI
  obtain ⟨u95, hI⟩ := hI
  obtain ⟨u96, hI⟩ := hI
  obtain ⟨u97, hI⟩ := hI
  obtain ⟨u98, hI⟩ := hI
  obtain ⟨u99, hI⟩ := hI
  obtain ⟨u100, hI⟩ := hI
  obtain ⟨u101, hI⟩ := hI
  obtain ⟨u102, hI⟩ := hI
  obtain ⟨u103, hI⟩ := hI
  obtain ⟨u104, hI⟩ := hI
  obtain ⟨u105, hI⟩ := hI
  obtain ⟨u106, hI⟩ := hI
  obtain ⟨u107, hI⟩ := hI
  obtain ⟨u108, hI⟩ := hI
  obtain ⟨u109, hI⟩ := hI
  obtain ⟨u110, hI⟩ := hI
  obtain ⟨u111, hI⟩ := hI
  obtain ⟨u112, hI⟩ := hI
  obtain ⟨u113, hI⟩ := hI
  obtain ⟨u114, hI⟩ := hI
  obtain ⟨u115, hI⟩ := hI
  obtain ⟨u116, hI⟩ := hI
  obtain ⟨u117, hI⟩ := hI
  obtain ⟨u118, hI⟩ := hI
  obtain ⟨u119, hI⟩ := hI
  obtain ⟨u120, hI⟩ := hI
  obtain ⟨u121, hI⟩ := hI
  obtain ⟨u122, hI⟩ := hI
  obtain ⟨u123, hI⟩ := hI
  obtain ⟨u124, hI⟩ := hI
  obtain ⟨u125, hI⟩ := hI
  obtain ⟨u126, hI⟩ := hI
  obtain ⟨u127, hI⟩ := hI
  obtain ⟨u128, hI⟩ := hI
  obtain ⟨u129, hI⟩ := hI
  obtain ⟨u130, hI⟩ := hI
  obtain ⟨u131, hI⟩ := hI
  obtain ⟨u132, hI⟩ := hI
  obtain ⟨u133, hI⟩ := hI
  obtain ⟨u134, hI⟩ := hI
  obtain ⟨u135, hI⟩ := hI
  obtain ⟨u136, hI⟩ := hI
  obtain ⟨u137, hI⟩ := hI
  obtain ⟨u138, hI⟩ := hI
  obtain ⟨u139, hI⟩ := hI
  obtain ⟨u140, hI⟩ := hI
  obtain ⟨u141, hI⟩ := hI
  obtain ⟨u142, hI⟩ := hI
  obtain ⟨u143, hI⟩ := hI
  obtain ⟨u144, hI⟩ := hI
  obtain ⟨u145, hI⟩ := hI
  obtain ⟨u146, hI⟩ := hI
  obtain ⟨u147, hI⟩ := hI
  obtain ⟨u148, hI⟩ := hI
  obtain ⟨u149, hI⟩ := hI
  obtain ⟨u150, hI⟩ := hI
  obtain ⟨u151, hI⟩ := hI
  obtain ⟨u152, hI⟩ := hI
  obtain ⟨u153, hI⟩ := hI
  obtain ⟨u154, hI⟩ := hI
  obtain ⟨u155, hI⟩ := hI
  obtain ⟨u156, hI⟩ := hI
  obtain ⟨u157, hI⟩ := hI
  obtain ⟨u158, hI⟩ := hI
  obtain ⟨u159, hI⟩ := hI
  obtain ⟨u160, hI⟩ := hI
  obtain ⟨u161, hI⟩ := hI
  obtain ⟨u162, hI⟩ := hI
  obtain ⟨u163, hI⟩ := hI
  obtain ⟨u164, hI⟩ := hI
  obtain ⟨u165, hI⟩ := hI
  obtain ⟨u166, hI⟩ := hI
  obtain ⟨u167, hI⟩ := hI
  obtain ⟨u168, hI⟩ := hI
  obtain ⟨u169, hI⟩ := hI
  obtain ⟨u170, hI⟩ := hI
  obtain ⟨u171, hI⟩ := hI
  obtain ⟨u172, hI⟩ := hI
  obtain ⟨u173, hI⟩ := hI
  obtain ⟨u174, hI⟩ := hI
  obtain ⟨u175, hI⟩ := hI
  obtain ⟨u176, hI⟩ := hI
  obtain ⟨u177, hI⟩ := hI
  obtain ⟨u178, hI⟩ := hI
  obtain ⟨u179, hI⟩ := hI
  obtain ⟨u180, hI⟩ := hI
  obtain ⟨u181, hI⟩ := hI
  obtain ⟨u182, hI⟩ := hI
  obtain ⟨u183, hI⟩ := hI
  obtain ⟨u184, hI⟩ := hI
  obtain ⟨u185, hI⟩ := hI
  obtain ⟨u186, hI⟩ := hI
  obtain ⟨u187, hI⟩ := hI
  obtain ⟨u188, hI⟩ := hI
  obtain ⟨u189, hI⟩ := hI
  obtain ⟨u190, hI⟩ := hI
  obtain ⟨u191, hI⟩ := hI
  obtain ⟨u192, hI⟩ := hI
  obtain ⟨u193, hI⟩ := hI
  obtain ⟨u194, hI⟩ := hI
  obtain ⟨u195, hI⟩ := hI
  obtain ⟨u196, hI⟩ := hI
  obtain ⟨u197, hI⟩ := hI
  obtain ⟨u198, hI⟩ := hI
  obtain ⟨u199, hI⟩ := hI
  obtain ⟨u200, hI⟩ := hI
  obtain ⟨u201, hI⟩ := hI
  obtain ⟨u202, hI⟩ := hI
  obtain ⟨u203, hI⟩ := hI
  obtain ⟨u204, hI⟩ := hI
  obtain ⟨u205, hI⟩ := hI
  obtain ⟨u206, hI⟩ := hI
  obtain ⟨u207, hI⟩ := hI
  obtain ⟨u208, hI⟩ := hI
  obtain ⟨u209, hI⟩ := hI
  obtain ⟨u210, hI⟩ := hI
  obtain ⟨u211, hI⟩ := hI
  obtain ⟨u212, hI⟩ := hI
  obtain ⟨u213, hI⟩ := hI
  obtain ⟨u214, hI⟩ := hI
  obtain ⟨u215, hI⟩ := hI
  obtain ⟨u216, hI⟩ := hI
  obtain ⟨u217, hI⟩ := hI
  obtain ⟨u218, hI⟩ := hI
  obtain ⟨u219, hI⟩ := hI
  obtain ⟨u220, hI⟩ := hI
  obtain ⟨t, ⟨hX, _⟩, rfl⟩ := hI
  have HL : Hid (Below w.heap.size w w') := hX.low
  clear hX HX4
  go_wp2
  go_ret
  exact ⟨rfl, HL.out⟩
theorem slots_any (a b : Int) (a1 : Option Addr) (n1 c1 : Nat) (LL : Nat → Nat) (F : Nat → Nat → Int) (w : World) (r3 : RdII w (.slice a1 n1 c1) n1 LL F) (hn3 : n1 ≤ 5864062014634) :
    Calls Try.prog 3 #[.int .i64 a, .int .i64 b, .slice a1 n1 c1] w fun e w' => e = .returned (.bool true) ∧ Below w.heap.size w w' := by
  by_cases h : Plo.bad a b
  · exact slots_bad h _ w
  · unfold Plo.bad at h
    obtain ⟨m, rfl⟩ : ∃ m : Nat, a = (m : Int) := ⟨a.toNat, by omega⟩
    obtain ⟨k, rfl⟩ : ∃ k : Nat, b = (k : Int) := ⟨b.toNat, by omega⟩
    exact slots_ok (by omega) (by omega) (by omega) a1 n1 c1 LL F w r3 hn3
end Go.Proofs.Yticgapgggoklfaa
