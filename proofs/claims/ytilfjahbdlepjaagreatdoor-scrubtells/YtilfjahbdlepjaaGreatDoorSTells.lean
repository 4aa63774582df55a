/- ScrubTells, a piece: walks over the program. -/
import Derived.Test.YtilfjahbdlepjaaGreatDoorSTg
import Derived.Test.YtilfjahbdlepjaaGreatDoorSTl
namespace Go.Proofs.YtilfjahbdlepjaaGreatDoor
open Go.RowKit El Pol Mx Lay
set_option linter.unusedVariables false in
set_option maxRecDepth 1000000 in
set_option maxHeartbeats 16000000 in
theorem stells_any (n rows size : Int) (a3 : Option Addr) (n3 c3 : Nat) (LL : Nat → Nat) (F : Nat → Nat → Int) (mm rr : Int) (w : World) (r3 : RdII w (.slice a3 n3 c3) n3 LL F) (hF : ∀ i j, i < n3 → j < LL i → F i j ≤ 9223372036854775807) (hn3 : n3 ≤ 5864062014634) (hg : Handle w) :
    Calls Tryz.prog 4 #[.int .i64 n, .int .i64 rows, .int .i64 size, .slice a3 n3 c3, .int .i64 mm, .int .i64 rr] w fun e w' => e = .returned (.bool true) ∧ Below w.heap.size w w' := by
  have HG : Hid (Handle w) := hg
  have HR3 : Hid _ := r3
  have HF : Hid (∀ i j, i < n3 → j < LL i → F i j ≤ 9223372036854775807) := hF
  clear hg r3 hF
  go_enter Tryz.func4, Tryz.ntmps4
  by_cases h1 : n < 3
  · have C := fun w1 => pa_new_bad n rows size (fun h => by have := abad_ok h; omega) w1
    rw [errV, if_neg (by omega)] at C
    go_wp2_with fail
    refine (C _).mono ?_
    rintro e w1 ⟨rfl, hb⟩
    have HL : Hid (Below w.heap.size w w1) := hb
    clear hb
    go_wp2_with fail
    refine (C _).mono ?_
    rintro e w2 ⟨rfl, hb⟩
    have HL2 : Hid (Below w.heap.size w w2) := HL.out.trans (hb.mono HL.out.size)
    clear hb C HL
    go_wp2
    go_ret
    exact ⟨rfl, HL2.out⟩
  by_cases h2 : 10 < n
  · have C := fun w1 => pa_new_bad n rows size (fun h => by have := abad_ok h; omega) w1
    rw [errV, if_neg (by omega)] at C
    go_wp2_with fail
    refine (C _).mono ?_
    rintro e w1 ⟨rfl, hb⟩
    have HL : Hid (Below w.heap.size w w1) := hb
    clear hb
    go_wp2_with fail
    refine (C _).mono ?_
    rintro e w2 ⟨rfl, hb⟩
    have HL2 : Hid (Below w.heap.size w w2) := HL.out.trans (hb.mono HL.out.size)
    clear hb C HL
    go_wp2
    go_ret
    exact ⟨rfl, HL2.out⟩
  by_cases h3 : rows < 1
  · have C := fun w1 => pa_new_bad n rows size (fun h => by have := abad_ok h; omega) w1
    rw [errV, if_neg (by omega)] at C
    go_wp2_with fail
    refine (C _).mono ?_
    rintro e w1 ⟨rfl, hb⟩
    have HL : Hid (Below w.heap.size w w1) := hb
    clear hb
    go_wp2_with fail
    refine (C _).mono ?_
    rintro e w2 ⟨rfl, hb⟩
    have HL2 : Hid (Below w.heap.size w w2) := HL.out.trans (hb.mono HL.out.size)
    clear hb C HL
    go_wp2
    go_ret
    exact ⟨rfl, HL2.out⟩
  by_cases h4 : 20 < rows
  · have C := fun w1 => pa_new_bad n rows size (fun h => by have := abad_ok h; omega) w1
    rw [errV, if_neg (by omega)] at C
    go_wp2_with fail
    refine (C _).mono ?_
    rintro e w1 ⟨rfl, hb⟩
    have HL : Hid (Below w.heap.size w w1) := hb
    clear hb
    go_wp2_with fail
    refine (C _).mono ?_
    rintro e w2 ⟨rfl, hb⟩
    have HL2 : Hid (Below w.heap.size w w2) := HL.out.trans (hb.mono HL.out.size)
    clear hb C HL
    go_wp2
    go_ret
    exact ⟨rfl, HL2.out⟩
  by_cases h5 : size < 1
  · have C := fun w1 => pa_new_bad n rows size (fun h => by have := abad_ok h; omega) w1
    rw [errV, if_neg (by omega)] at C
    go_wp2_with fail
    refine (C _).mono ?_
    rintro e w1 ⟨rfl, hb⟩
    have HL : Hid (Below w.heap.size w w1) := hb
    clear hb
    go_wp2_with fail
    refine (C _).mono ?_
    rintro e w2 ⟨rfl, hb⟩
    have HL2 : Hid (Below w.heap.size w w2) := HL.out.trans (hb.mono HL.out.size)
    clear hb C HL
    go_wp2
    go_ret
    exact ⟨rfl, HL2.out⟩
  by_cases h6 : 16 < size
  · have C := fun w1 => pa_new_bad n rows size (fun h => by have := abad_ok h; omega) w1
    rw [errV, if_neg (by omega)] at C
    go_wp2_with fail
    refine (C _).mono ?_
    rintro e w1 ⟨rfl, hb⟩
    have HL : Hid (Below w.heap.size w w1) := hb
    clear hb
    go_wp2_with fail
    refine (C _).mono ?_
    rintro e w2 ⟨rfl, hb⟩
    have HL2 : Hid (Below w.heap.size w w2) := HL.out.trans (hb.mono HL.out.size)
    clear hb C HL
    go_wp2
    go_ret
    exact ⟨rfl, HL2.out⟩
  obtain ⟨n, rfl⟩ : ∃ m : Nat, n = m := ⟨n.toNat, by omega⟩
  obtain ⟨rows, rfl⟩ : ∃ m : Nat, rows = m := ⟨rows.toNat, by omega⟩
  obtain ⟨size, rfl⟩ : ∃ m : Nat, size = m := ⟨size.toNat, by omega⟩
  have hn : 3 ≤ n ∧ n ≤ 10 := by omega
  have hr : 1 ≤ rows ∧ rows ≤ 20 := by omega
  have hz : 1 ≤ size ∧ size ≤ 16 := by omega
  have C := pa_new_ok n rows size hn hr hz w
  generalize hx : newAt w.heap.size n = x1 at C
  have HX : Hid (∀ w1, PA w1 x1 (Arr.fresh n rows size) 0 → Below w.heap.size w w1 → AL w x1 (Arr.fresh n rows size) 0 w1) := fun w1 hp hb => by rw [← hx] at hp ⊢; exact AL.new hp hb
  clear hx
  refine wp_seq_k fun K hK => ?_
  have HK : Hid _ := hK
  clear hK
  go_wp2
  refine HK.out _ _ ?_
  clear HK K
  refine wp_seq_k fun K hK => ?_
  have HK : Hid _ := hK
  clear hK
  go_wp2_with fail
  refine C.mono ?_
  rintro e w1 ⟨rfl, hp, hb⟩
  have hA1 := HX.out w1 hp hb
  have HA1 : Hid (AL w x1 (Arr.fresh n rows size) 0 w1) := hA1
  clear C hp hb HX
  have C := pa_new_ok n rows size hn hr hz w1
  generalize hx : newAt w1.heap.size n = x2 at C
  have HX : Hid (∀ w2, PA w2 x2 (Arr.fresh n rows size) 0 → Below w1.heap.size w1 w2 → AL w x2 (Arr.fresh n rows size) 0 w2 ∧ (∀ k, x2.F n k → w1.heap.size ≤ k) ∧ Below w1.heap.size w1 w2) := fun w2 hp hb => by rw [← hx] at hp ⊢; exact ⟨AL.newIn HA1.out.low hp hb, newAt_low _ _, hb⟩
  clear hx hA1
  go_wp2
  refine HK.out _ _ ?_
  clear HK K
  refine wp_seq_k fun K hK => ?_
  have HK : Hid _ := hK
  clear hK
  go_wp2_with fail
  refine C.mono ?_
  rintro e w2 ⟨rfl, hp, hb⟩
  have HA2 : Hid _ := HX.out w2 hp hb
  have D := fun w3 => ra_new n rows size hn hr hz w3
  clear C hp hb HX
  go_wp2
  refine HK.out _ _ ?_
  clear HK K
  refine wp_seq_k fun K hK => ?_
  have HK : Hid _ := hK
  clear hK
  go_wp2
  refine HK.out _ _ ?_
  clear HK K
  refine wp_seq_k fun K hK => ?_
  have HK : Hid _ := hK
  clear hK
  go_wp2
  refine HK.out _ _ ?_
  clear HK K
  refine wp_seq_k fun K hK => ?_
  have HK : Hid _ := hK
  clear hK
  go_wp2_with fail
  refine (D _).mono ?_
  rintro e w3 ⟨y1, rfl, hR3, hF3, hB3⟩
  have HA3 : Hid (RA w3 y1 (Arr.fresh n rows size) ∧ (∀ k, y1.F n k → w2.heap.size ≤ k) ∧ Below w2.heap.size w2 w3) := ⟨hR3, hF3, hB3⟩
  clear hR3 hF3 hB3
  go_wp2
  refine HK.out _ _ ?_
  clear HK K
  refine wp_seq_k fun K hK => ?_
  have HK : Hid _ := hK
  clear hK
  go_wp2_with fail
  refine (D _).mono ?_
  rintro e w4 ⟨y2, rfl, hR4, hF4, hB4⟩
  have HS : Hid (QS w x1 x2 y1 y2 n rows size (Arr.fresh n rows size) (Arr.fresh n rows size) (Arr.fresh n rows size) (Arr.fresh n rows size) 0 0 w4) := QS.start hn hr hz HA1.out HA2.out.1 HA2.out.2.2 HA2.out.2.1 HA3.out.1 HA3.out.2.2 HA3.out.2.1 hR4 hB4 hF4
  clear hR4 hF4 hB4 D HA1 HA2 HA3
  go_wp2
  refine HK.out _ _ ?_
  clear HK K
  generalize Arr.fresh n rows size = A0 at *
  refine wp_seq_k fun K hK => ?_
  have HKK : Hid _ := hK
  clear hK
  refine wp_seq_k fun K2 hK => ?_
  have HK : Hid _ := hK
  clear hK
  go_wp2
  refine HK.out _ _ ?_
  clear HK K2
  refine wp_block ?_
  refine loopT n rows size n3 c3 a3 mm rr x1 x2 y1 y2 w _ _ _ _ _ _ _ _ _ _ _ _ _ _ _ _ _ _ _ _ _ _ _ _ _ _ _ _ _ _ _ _ _ _ _ _ _ _ _ _ _ _ _ _ _ _ _ _ _ _ _ _ _ _ _ _ _ _ _ _ _ _ _ _ _ _ _ _ _ _ _ _ _ _ _ _ _ _ _ _ _ _ _ _ _ _ _ _ _ _ _ _ _ _ _ _ _ _ _ _ _ _ _ _ _ _ _ _ _ _ _ _ _ _ _ _ _ _ _ _ _ _ _ _ _ _ _ _ _ _ _ _ _ _ _ _ _ _ _ _ _ _ _ _ _ _ _ _ _ _ _ _ _ _ _ _ _ _ _ _ _ _ _ _ _ _ _ _ _ _ _ _ _ _ _ _ _ _ _ _ _ _ _ _ _ _ _ _ _ _ _ _ _ _ _ _ _ _ _ _ _ _ _ _ _ _ _ _ _ _ _ _ _ _ _ _ _ LL F hn hr hz HF HR3.out hn3 _ 0 0 A0 _ _ _ _ _ _ _ _ _ _ _ _ _ _ _ _ _ _ _ _ _ _ _ _ _ _ _ _ _ _ _ _ _ _ _ _ _ _ _ _ _ _ _ _ _ _ _ _ _ _ _ _ _ _ _ _ _ _ _ _ _ _ _ _ _ _ _ _ _ _ _ _ _ _ _ _ _ _ _ _ _ _ _ _ _ _ _ _ _ _ _ _ _ _ _ _ _ _ _ _ _ _ _ _ _ _ _ _ _ _ _ ?_ ?_
  · exact ⟨⟨Nat.zero_le _, Nat.zero_le _⟩, HS.out, Nat.le_refl _⟩
  intro a w' hI
  refine (show K a w' from HKK.out _ _ ?_)
  clear HKK K HS
  obtain ⟨k, ⟨_, hk40⟩, hI⟩ := hI
  unfold WKt at hI
  obtain ⟨u20, hI⟩ := hI
  obtain ⟨u21, hI⟩ := hI
  obtain ⟨u22, hI⟩ := hI
  obtain ⟨u100, hI⟩ := hI
  obtain ⟨u101, hI⟩ := hI
  obtain ⟨u102, hI⟩ := hI
  obtain ⟨u103, hI⟩ := hI
  obtain ⟨u104, hI⟩ := hI
  obtain ⟨u105, hI⟩ := hI
  obtain ⟨u106, hI⟩ := hI
  obtain ⟨u107, hI⟩ := hI
  obtain ⟨u108, hI⟩ := hI
  obtain ⟨u109, hI⟩ := hI
  obtain ⟨u110, hI⟩ := hI
  obtain ⟨u111, hI⟩ := hI
  obtain ⟨u112, hI⟩ := hI
  obtain ⟨u113, hI⟩ := hI
  obtain ⟨u114, hI⟩ := hI
  obtain ⟨u115, hI⟩ := hI
  obtain ⟨u116, hI⟩ := hI
  obtain ⟨u117, hI⟩ := hI
  obtain ⟨u118, hI⟩ := hI
  obtain ⟨u119, hI⟩ := hI
  obtain ⟨u120, hI⟩ := hI
  obtain ⟨u121, hI⟩ := hI
  obtain ⟨u122, hI⟩ := hI
  obtain ⟨u123, hI⟩ := hI
  obtain ⟨u124, hI⟩ := hI
  obtain ⟨u125, hI⟩ := hI
  obtain ⟨u126, hI⟩ := hI
  obtain ⟨u127, hI⟩ := hI
  obtain ⟨u128, hI⟩ := hI
  obtain ⟨u129, hI⟩ := hI
  obtain ⟨u130, hI⟩ := hI
  obtain ⟨u131, hI⟩ := hI
  obtain ⟨u132, hI⟩ := hI
  obtain ⟨u133, hI⟩ := hI
  obtain ⟨u134, hI⟩ := hI
  obtain ⟨u135, hI⟩ := hI
  obtain ⟨u136, hI⟩ := hI
  obtain ⟨u137, hI⟩ := hI
  obtain ⟨u138, hI⟩ := hI
  obtain ⟨u139, hI⟩ := hI
  obtain ⟨u140, hI⟩ := hI
  obtain ⟨u141, hI⟩ := hI
  obtain ⟨u142, hI⟩ := hI
  obtain ⟨u143, hI⟩ := hI
  obtain ⟨u144, hI⟩ := hI
  obtain ⟨u145, hI⟩ := hI
  obtain ⟨u146, hI⟩ := hI
  obtain ⟨u147, hI⟩ := hI
  obtain ⟨u148, hI⟩ := hI
  obtain ⟨u149, hI⟩ := hI
  obtain ⟨u150, hI⟩ := hI
  obtain ⟨u151, hI⟩ := hI
  obtain ⟨u152, hI⟩ := hI
  obtain ⟨u153, hI⟩ := hI
  obtain ⟨u154, hI⟩ := hI
  obtain ⟨u155, hI⟩ := hI
  obtain ⟨u156, hI⟩ := hI
  obtain ⟨u157, hI⟩ := hI
  obtain ⟨u158, hI⟩ := hI
  obtain ⟨u159, hI⟩ := hI
  obtain ⟨u160, hI⟩ := hI
  obtain ⟨u161, hI⟩ := hI
  obtain ⟨u162, hI⟩ := hI
  obtain ⟨u163, hI⟩ := hI
  obtain ⟨u164, hI⟩ := hI
  obtain ⟨u165, hI⟩ := hI
  obtain ⟨u166, hI⟩ := hI
  obtain ⟨u167, hI⟩ := hI
  obtain ⟨u168, hI⟩ := hI
  obtain ⟨u169, hI⟩ := hI
  obtain ⟨u170, hI⟩ := hI
  obtain ⟨u171, hI⟩ := hI
  obtain ⟨u172, hI⟩ := hI
  obtain ⟨u173, hI⟩ := hI
  obtain ⟨u174, hI⟩ := hI
  obtain ⟨u175, hI⟩ := hI
  obtain ⟨u176, hI⟩ := hI
  obtain ⟨u177, hI⟩ := hI
  obtain ⟨u178, hI⟩ := hI
  obtain ⟨u179, hI⟩ := hI
  obtain ⟨u180, hI⟩ := hI
  obtain ⟨u181, hI⟩ := hI
  obtain ⟨u182, hI⟩ := hI
  obtain ⟨u183, hI⟩ := hI
  obtain ⟨u184, hI⟩ := hI
  obtain ⟨u185, hI⟩ := hI
  obtain ⟨u186, hI⟩ := hI
  obtain ⟨u187, hI⟩ := hI
  obtain ⟨u188, hI⟩ := hI
  obtain ⟨u189, hI⟩ := hI
  obtain ⟨u190, hI⟩ := hI
  obtain ⟨u191, hI⟩ := hI
  obtain ⟨u192, hI⟩ := hI
  obtain ⟨u193, hI⟩ := hI
  obtain ⟨u194, hI⟩ := hI
  obtain ⟨u195, hI⟩ := hI
  obtain ⟨u196, hI⟩ := hI
  obtain ⟨u197, hI⟩ := hI
  obtain ⟨u198, hI⟩ := hI
  obtain ⟨u199, hI⟩ := hI
  obtain ⟨u200, hI⟩ := hI
  obtain ⟨u201, hI⟩ := hI
  obtain ⟨u202, hI⟩ := hI
  obtain ⟨u203, hI⟩ := hI
  obtain ⟨u204, hI⟩ := hI
  obtain ⟨u205, hI⟩ := hI
  obtain ⟨u206, hI⟩ := hI
  obtain ⟨A, N, ⟨hS, hN⟩, rfl⟩ := hI
  exact tailT1 n rows size n3 c3 a3 mm rr x1 x2 y1 y2 w N A _ _ _ _ _ _ _ _ _ _ _ _ _ _ _ _ _ _ _ _ _ _ _ _ _ _ _ _ _ _ _ _ _ _ _ _ _ _ _ _ _ _ _ _ _ _ _ _ _ _ _ _ _ _ _ _ _ _ _ _ _ _ _ _ _ _ _ _ _ _ _ _ _ _ _ _ _ _ _ _ _ _ _ _ _ _ _ _ _ _ _ _ _ _ _ _ _ _ _ _ _ _ _ _ _ _ _ _ _ _ _ _ _ _ _ _ _ _ _ _ _ _ _ _ _ _ _ _ _ _ _ _ _ _ _ _ _ _ _ _ _ _ _ _ _ _ _ _ _ _ _ _ _ _ _ _ _ _ _ _ _ _ _ _ _ _ _ _ _ _ _ _ _ _ _ _ _ _ _ _ _ _ _ _ _ _ _ _ _ _ _ _ _ _ _ _ _ _ _ _ _ _ _ _ _ _ _ _ _ _ _ _ _ _ _ _ _ _ _ _ _ _ _ _ _ _ _ _ _ _ _ _ _ _ _ _ _ _ _ _ _ _ _ _ _ _ _ _ _ _ _ _ _ _ _ _ _ _ _ _ _ _ _ _ _ _ _ _ _ _ _ _ _ _ _ _ _ _ _ _ _ _ _ _ _ _ _ _ _ _ _ _ _ _ _ _ _ _ _ _ _ _ _ _ _ _ _ _ _ _ _ _ _ _ _ _ _ _ _ _ _ _ _ _ _ _ _ _ _ hn hr hz HG (by omega) hS
end Go.Proofs.YtilfjahbdlepjaaGreatDoor
