/- IntentCovers, a piece: walks over the program. -/
import Derived.Test.YtilfjahbdlepjaaICg
import Derived.Test.YtilfjahbdlepjaaItC
namespace Go.Proofs.Ytilfjahbdlepjaa
open Go.RowKit Go.Maps
def z40 : Array Value := Array.replicate 40 (.int .i64 0)
theorem zero40 (w : World) : (zeroValue 32).run Try.prog w = .ok (.agg z40) w := by kernel_rfl
theorem one_fact : (Itn.fresh 10).beginB ((25 : Nat) : Int) = true ∧ ((Itn.fresh 10).begin' ((25 : Nat) : Int)).list = [2] := by decide +kernel
set_option linter.unusedVariables false in
set_option maxRecDepth 1000000 in
set_option maxHeartbeats 8000000 in
theorem covers_ok (wide : Nat) (h1 : 1 ≤ wide) (h2 : wide ≤ 40) (a1 : Option Addr) (n1 c1 : Nat) (LL : Nat → Nat) (F : Nat → Nat → Int) (w : World) (r3 : RdII w (.slice a1 n1 c1) n1 LL F) (hn3 : n1 ≤ 5864062014634) :
    Calls Try.prog 3 #[.int .i64 wide, .slice a1 n1 c1] w fun e w' => e = .returned (.bool true) ∧ Below w.heap.size w w' := by
  have HR3 : Hid (RdII w (.slice a1 n1 c1) n1 LL F) := r3
  clear r3
  have N0 := inew_ok 10 (by omega) (by omega) w
  go_enter Try.func3, Try.ntmps3
  go_wp2_with fail
  refine N0.mono ?_
  rintro e w1 ⟨p0, b0, rfl, hI1, hp1, hb1, hB1⟩
  have HS1 : Hid (IL w p0 b0 (Itn.fresh 10) 0 w1) := ⟨hB1, hI1, hp1, hb1⟩
  have G1 := ibegin_ok hI1 (by omega) 25 (by omega)
  have e1 : Itn.beginE ((25 : Nat) : Int) = 0 := rfl
  rw [one_fact.1, e1, errV, if_pos rfl] at G1
  clear N0 hI1 hB1 e1 hp1 hb1
  go_wp2_with fail
  refine (show Calls Try.prog 5 #[.pointer (some ⟨p0, 0, none⟩), .int .i64 25] w1 _ from G1).mono ?_
  rintro e w2 ⟨rfl, hI2, hb2⟩
  have HS2 : Hid (IL w p0 b0 ((Itn.fresh 10).begin' ((25 : Nat) : Int)) 1 w2) := HS1.out.on hI2 hb2
  have K2 := icrash HS2.out.int
  rw [one_fact.2] at K2
  clear G1 hI2 hb2 HS1
  go_wp2_with fail
  refine K2.mono ?_
  rintro e w3 ⟨v3, rfl, hO3, hI3, hb3⟩
  have HB3 : Hid (Below w.heap.size w w3) := (HS2.out.on hI3 hb3).low
  obtain ⟨ao3, co3, rfl⟩ := OwN.len hO3
  obtain ⟨ad3, rfl, hc3⟩ := hO3.rd.at 0 (by simp)
  have hc3' : w3.cell? ad3 = some (.int .i64 2) := by rw [add_zero] at hc3; exact hc3
  clear K2 hO3 hI3 hb3 HS2 hc3
  have N1 := inew_ok wide h1 h2 w3
  have q1 : (1 : Int) ≤ (wide : Int) := by omega
  have q2 : (wide : Int) ≤ 40 := by omega
  go_wp2_with fail
  refine N1.mono ?_
  rintro e w4 ⟨p, b, rfl, hI, hp, hb, hB4⟩
  have hIL : IL w p b (Itn.fresh wide) 0 w4 := ⟨HB3.out.trans (hB4.mono HB3.out.size), hI, Nat.le_trans HB3.out.size hp, Nat.le_trans HB3.out.size hb⟩
  have HX4 : Hid (CX w p b w4.heap.size wide (Itn.fresh wide) 0 (w4.alloc (.cells z40 32))) := ⟨⟨hIL.old (al_below w4 _), RowAt.new w4 40 (.int .i64 0) 32, hIL.low.size, Nat.ne_of_gt hI.lt, Nat.ne_of_gt hI.ltb⟩, Itn.Cov.fresh h1 h2, rfl⟩
  clear N1 hI hB4 hIL HB3 hp hb
  have hz := zero40
  generalize z40 = z at *
  go_upto_region 13 with fail
  rename ∀ (a : Act) (w : World), Code.wp _ _ _ a w → _ => hK
  have HK : Hid _ := hK
  clear hK
  go_wp2
  refine HK.out _ _ ?_
  clear HK hz
  refine wp_seq_k fun K hK => ?_
  have HKK : Hid _ := hK
  clear hK
  refine wp_seq_k fun K2 hK => ?_
  have HK : Hid _ := hK
  clear hK
  go_wp2
  refine HK.out _ _ ?_
  clear HK
  refine wp_block ?_
  refine cloop wide n1 c1 p b w4.heap.size a1 w _ _ _ _ _ _ _ _ _ _ _ _ _ _ _ _ _ _ _ _ _ _ _ _ _ _ _ _ _ _ _ _ _ _ _ _ _ _ _ _ _ _ _ _ _ _ _ _ _ _ _ _ _ _ _ _ _ _ _ _ _ _ _ _ _ _ _ _ _ LL F h1 h2 HR3.out hn3 _ 0 (Itn.fresh wide) 0 _ _ _ _ _ _ _ _ _ _ _ _ _ _ _ _ _ _ _ _ _ _ _ _ _ _ _ _ _ _ _ _ _ _ _ _ _ _ _ _ _ _ _ _ _ _ _ _ _ _ _ _ _ _ _ _ _ _ _ _ _ _ _ _ _ _ _ _ _ _ _ _ _ _ _ _ _ _ _ _ _ _ _ _ _ _ _ _ _ _ _ _ _ _ _ _ _ _ _ _ _ _ _ _ _ _ _ _ _ _ _ _ _ _ _ _ _ _ _ _ _ _ _ _ _ _ _ _ _ _ _ _ _ _ _ _ _ _ _ _ _ _ _ _ _ _ _ _ _ ⟨Nat.zero_le _, Nat.zero_le _⟩ ⟨HX4.out, Nat.le_refl _⟩ ?_
  intro a w' hI
  refine (show K a w' from HKK.out _ _ ?_)
  unfold cWI at hI
  obtain ⟨k, _, hI⟩ := hI
  unfold cWK at hI
  obtain ⟨u4, hI⟩ := hI
  obtain ⟨u13, hI⟩ := hI
  obtain ⟨u14, hI⟩ := hI
  obtain ⟨u15, hI⟩ := hI
  obtain ⟨u16, hI⟩ := hI
  obtain ⟨u17, hI⟩ := hI
  obtain ⟨u18, hI⟩ := hI
  obtain ⟨u19, hI⟩ := hI
  obtain ⟨u20, hI⟩ := hI
  obtain ⟨u21, hI⟩ := hI
  obtain ⟨u22, hI⟩ := hI
  obtain ⟨u73, hI⟩ := hI
  obtain ⟨u74, hI⟩ := hI
  obtain ⟨u75, hI⟩ := hI
  obtain ⟨u76, hI⟩ := hI
  obtain ⟨u77, hI⟩ := hI
  obtain ⟨u78, hI⟩ := hI
  obtain ⟨u79, hI⟩ := hI
  obtain ⟨u80, hI⟩ := hI
  obtain ⟨u81, hI⟩ := hI
  obtain ⟨u82, hI⟩ := hI
  obtain ⟨u83, hI⟩ := hI
  obtain ⟨u84, hI⟩ := hI
  obtain ⟨u85, hI⟩ := hI
  obtain ⟨u86, hI⟩ := hI
  obtain ⟨u87, hI⟩ := hI
  obtain ⟨u88, hI⟩ := hI
  obtain ⟨u89, hI⟩ := hI
  obtain ⟨u90, hI⟩ := hI
  obtain ⟨u91, hI⟩ := hI
  obtain ⟨u92, hI⟩ := hI
  obtain ⟨u93, hI⟩ := hI
  obtain ⟨u94, hI⟩ := hI
  obtain ⟨u95, hI⟩ := hI
  obtain ⟨u96, hI⟩ := hI
  obtain ⟨u97, hI⟩ := hI
  obtain ⟨u98, hI⟩ := hI
  obtain ⟨u99, hI⟩ := hI
  obtain ⟨u100, hI⟩ := hI
  obtain ⟨u101, hI⟩ := hI
  obtain ⟨u102, hI⟩ := hI
  obtain ⟨u103, hI⟩ := hI
  obtain ⟨u104, hI⟩ := hI
  obtain ⟨u105, hI⟩ := hI
  obtain ⟨u106, hI⟩ := hI
  obtain ⟨u107, hI⟩ := hI
  obtain ⟨u108, hI⟩ := hI
  obtain ⟨u109, hI⟩ := hI
  obtain ⟨u110, hI⟩ := hI
  obtain ⟨u111, hI⟩ := hI
  obtain ⟨u112, hI⟩ := hI
  obtain ⟨u113, hI⟩ := hI
  obtain ⟨u114, hI⟩ := hI
  obtain ⟨u115, hI⟩ := hI
  obtain ⟨u116, hI⟩ := hI
  obtain ⟨u117, hI⟩ := hI
  obtain ⟨u118, hI⟩ := hI
  obtain ⟨u119, hI⟩ := hI
  obtain ⟨u120, hI⟩ := hI
  obtain ⟨u121, hI⟩ := hI
  obtain ⟨u122, hI⟩ := hI
  obtain ⟨u123, hI⟩ := hI
  obtain ⟨u124, hI⟩ := hI
  obtain ⟨u125, hI⟩ := hI
  obtain ⟨u126, hI⟩ := hI
  obtain ⟨u127, hI⟩ := hI
  obtain ⟨u128, hI⟩ := hI
  obtain ⟨u129, hI⟩ := hI
  obtain ⟨u130, hI⟩ := hI
  obtain ⟨u131, hI⟩ := hI
  obtain ⟨u132, hI⟩ := hI
  obtain ⟨u133, hI⟩ := hI
  obtain ⟨u134, hI⟩ := hI
  obtain ⟨u135, hI⟩ := hI
  obtain ⟨u136, hI⟩ := hI
  obtain ⟨u137, hI⟩ := hI
  obtain ⟨u138, hI⟩ := hI
  obtain ⟨u139, hI⟩ := hI
  obtain ⟨u140, hI⟩ := hI
  obtain ⟨u141, hI⟩ := hI
  obtain ⟨u142, hI⟩ := hI
  obtain ⟨u143, hI⟩ := hI
  obtain ⟨u144, hI⟩ := hI
  obtain ⟨u145, hI⟩ := hI
  obtain ⟨u146, hI⟩ := hI
  obtain ⟨u147, hI⟩ := hI
  obtain ⟨u148, hI⟩ := hI
  obtain ⟨u149, hI⟩ := hI
  obtain ⟨u150, hI⟩ := hI
  obtain ⟨u151, hI⟩ := hI
  obtain ⟨u152, hI⟩ := hI
  obtain ⟨u153, hI⟩ := hI
  obtain ⟨u154, hI⟩ := hI
  obtain ⟨u155, hI⟩ := hI
  obtain ⟨u156, hI⟩ := hI
  obtain ⟨u157, hI⟩ := hI
  obtain ⟨u158, hI⟩ := hI
  obtain ⟨u159, hI⟩ := hI
  obtain ⟨u160, hI⟩ := hI
  obtain ⟨u161, hI⟩ := hI
  obtain ⟨u162, hI⟩ := hI
  obtain ⟨u163, hI⟩ := hI
  obtain ⟨u164, hI⟩ := hI
  obtain ⟨u165, hI⟩ := hI
  obtain ⟨u166, hI⟩ := hI
  obtain ⟨u167, hI⟩ := hI
  obtain ⟨u168, hI⟩ := hI
  obtain ⟨u169, hI⟩ := hI
  obtain ⟨u170, hI⟩ := hI
  obtain ⟨u171, hI⟩ := hI
  obtain ⟨u172, hI⟩ := hI
  obtain ⟨u173, hI⟩ := hI
  obtain ⟨u174, hI⟩ := hI
  obtain ⟨u175, hI⟩ := hI
  obtain ⟨u176, hI⟩ := hI
  obtain ⟨u177, hI⟩ := hI
  obtain ⟨u178, hI⟩ := hI
  obtain ⟨u179, hI⟩ := hI
  obtain ⟨u180, hI⟩ := hI
  obtain ⟨u181, hI⟩ := hI
  obtain ⟨u182, hI⟩ := hI
  obtain ⟨u183, hI⟩ := hI
  obtain ⟨u184, hI⟩ := hI
  obtain ⟨u185, hI⟩ := hI
  obtain ⟨u186, hI⟩ := hI
  obtain ⟨u187, hI⟩ := hI
  obtain ⟨u188, hI⟩ := hI
  obtain ⟨u189, hI⟩ := hI
  obtain ⟨u190, hI⟩ := hI
  obtain ⟨u191, hI⟩ := hI
  obtain ⟨u192, hI⟩ := hI
  obtain ⟨u193, hI⟩ := hI
  obtain ⟨u194, hI⟩ := hI
  obtain ⟨u195, hI⟩ := hI
  obtain ⟨u196, hI⟩ := hI
  obtain ⟨u197, hI⟩ := hI
  obtain ⟨u198, hI⟩ := hI
  obtain ⟨u199, hI⟩ := hI
  obtain ⟨u200, hI⟩ := hI
  obtain ⟨u201, hI⟩ := hI
  obtain ⟨u202, hI⟩ := hI
  obtain ⟨u203, hI⟩ := hI
  obtain ⟨u204, hI⟩ := hI
  obtain ⟨u205, hI⟩ := hI
  obtain ⟨u206, hI⟩ := hI
  obtain ⟨u207, hI⟩ := hI
  obtain ⟨u208, hI⟩ := hI
  obtain ⟨u209, hI⟩ := hI
  obtain ⟨t, N, ⟨hX, _⟩, rfl⟩ := hI
  clear HKK HX4
  have hS := hX.1.il
  have D1 := idirty hS.int
  have HS : Hid (IL w p b t N w') := hS
  clear hX hS
  go_wp2_with fail
  refine D1.mono ?_
  rintro e w5 ⟨v5, rfl, hO5, hB5⟩
  obtain ⟨ao5, co5, rfl⟩ := OwN.len hO5
  have HS5 : Hid (IL w p b t N w5) := HS.out.old hB5
  have HO5 : Hid (RdN w5 (.slice ao5 t.list.length co5) t.list) := hO5.rd
  have HL5 : Hid (∀ g, (Value.slice ao5 t.list.length co5).ownBlock = some g → ¬ IF p b g) := fun g hg q => by
    have := (World.ownsRow.lt hO5 g hg).1
    have h8 := HS.out.int.lt
    have h9 := HS.out.int.ltb
    rcases q with rfl | rfl <;> omega
  have K1 := icrash HS5.out.int
  clear D1 hO5 hB5 HS
  go_wp2_with fail
  refine K1.mono ?_
  rintro e w6 ⟨v6, rfl, hO6, hI6, hB6⟩
  have HS6 : Hid (IL w p b t.crash N w6) := HS5.out.on hI6 hB6
  have HO6 : Hid (RdN w6 (.slice ao5 t.list.length co5) t.list) := RdF.but HO5.out hB6 HL5.out
  have C6 := ints_same v6 (.slice ao5 t.list.length co5) t.list.length (fun i => ((t.list.getD i 0 : Nat) : Int)) w6 hO6.rd HO6.out
  clear K1 hO6 hI6 hB6 HS5 HO5
  go_wp2_with fail
  refine C6.mono ?_
  rintro e w7 ⟨rfl, hB7⟩
  have HS7 : Hid (IL w p b t.crash N w7) := HS6.out.old hB7
  have HO7 : Hid (RdN w7 (.slice ao5 t.list.length co5) t.list) := HO6.out.old hB7
  have D7 := idirty HS7.out.int
  clear C6 hB7 HS6 HO6
  go_wp2_with fail
  refine D7.mono ?_
  rintro e w8 ⟨v8, rfl, hO8, hB8⟩
  have HS8 : Hid (IL w p b t.crash N w8) := HS7.out.old hB8
  have C8 := ints_same v8 (.slice ao5 t.list.length co5) t.list.length (fun i => ((t.list.getD i 0 : Nat) : Int)) w8 hO8.rd (HO7.out.old hB8)
  clear D7 hO8 hB8 HS7 HO7
  go_wp2_with fail
  refine C8.mono ?_
  rintro e w9 ⟨rfl, hB9⟩
  have HL : Hid (Below w.heap.size w w9) := (HS8.out.old hB9).low
  clear C8 hB9 HS8
  go_wp2
  go_ret
  exact ⟨rfl, HL.out⟩
set_option maxRecDepth 1000000 in
set_option maxHeartbeats 4000000 in
theorem covers_bad (wide : Int) (h : wide < 1 ∨ 40 < wide) (a1 : Option Addr) (n1 c1 : Nat) (w : World) :
    Calls Try.prog 3 #[.int .i64 wide, .slice a1 n1 c1] w fun e w' => e = .returned (.bool true) ∧ Below w.heap.size w w' := by
  have N0 := inew_ok 10 (by omega) (by omega) w
  go_enter Try.func3, Try.ntmps3
  go_wp2_with fail
  refine N0.mono ?_
  rintro e w1 ⟨p0, b0, rfl, hI1, hp1, hb1, hB1⟩
  have HS1 : Hid (IL w p0 b0 (Itn.fresh 10) 0 w1) := ⟨hB1, hI1, hp1, hb1⟩
  have G1 := ibegin_ok hI1 (by omega) 25 (by omega)
  have e1 : Itn.beginE ((25 : Nat) : Int) = 0 := rfl
  rw [one_fact.1, e1, errV, if_pos rfl] at G1
  clear N0 hI1 hB1 e1 hp1 hb1
  go_wp2_with fail
  refine (show Calls Try.prog 5 #[.pointer (some ⟨p0, 0, none⟩), .int .i64 25] w1 _ from G1).mono ?_
  rintro e w2 ⟨rfl, hI2, hb2⟩
  have HS2 : Hid (IL w p0 b0 ((Itn.fresh 10).begin' ((25 : Nat) : Int)) 1 w2) := HS1.out.on hI2 hb2
  have K2 := icrash HS2.out.int
  rw [one_fact.2] at K2
  clear G1 hI2 hb2 HS1
  go_wp2_with fail
  refine K2.mono ?_
  rintro e w3 ⟨v3, rfl, hO3, hI3, hb3⟩
  have HB3 : Hid (Below w.heap.size w w3) := (HS2.out.on hI3 hb3).low
  obtain ⟨ao3, co3, rfl⟩ := OwN.len hO3
  obtain ⟨ad3, rfl, hc3⟩ := hO3.rd.at 0 (by simp)
  have hc3' : w3.cell? ad3 = some (.int .i64 2) := by rw [add_zero] at hc3; exact hc3
  clear K2 hO3 hI3 hb3 HS2 hc3
  have N1 := inew_bad wide h w3
  rw [errV, if_neg (by omega)] at N1
  by_cases h1 : wide < 1
  · go_wp2_with fail
    refine N1.mono ?_
    rintro e w4 ⟨rfl, hw⟩
    obtain rfl := hw.symm
    clear N1 hw
    go_wp2
    go_ret
    exact ⟨rfl, HB3.out⟩
  · have h2 : 40 < wide := by omega
    clear h
    go_wp2_with fail
    refine N1.mono ?_
    rintro e w4 ⟨rfl, hw⟩
    obtain rfl := hw.symm
    clear N1 hw
    go_wp2
    go_ret
    exact ⟨rfl, HB3.out⟩
theorem covers_any (wide : Int) (a1 : Option Addr) (n1 c1 : Nat) (LL : Nat → Nat) (F : Nat → Nat → Int) (w : World) (r3 : RdII w (.slice a1 n1 c1) n1 LL F) (hn3 : n1 ≤ 5864062014634) :
    Calls Try.prog 3 #[.int .i64 wide, .slice a1 n1 c1] w fun e w' => e = .returned (.bool true) ∧ Below w.heap.size w w' := by
  by_cases h : wide < 1 ∨ 40 < wide
  · exact covers_bad wide h a1 n1 c1 w
  · obtain ⟨k, rfl⟩ : ∃ k : Nat, wide = k := ⟨wide.toNat, by omega⟩
    exact covers_ok k (by omega) (by omega) a1 n1 c1 LL F w r3 hn3
end Go.Proofs.Ytilfjahbdlepjaa
