/- ArrayPlays, a piece: walks over the program. -/
import Derived.Test.YtilfjahbdlepjaaGreatDoorAPf
namespace Go.Proofs.YtilfjahbdlepjaaGreatDoor
open Go.RowKit El Pol Mx Lay
set_option linter.unusedVariables false in
set_option maxRecDepth 1000000 in
set_option maxHeartbeats 16000000 in
theorem aplays_any (n rows size : Int) (a3 : Option Addr) (n3 c3 : Nat) (LL : Nat → Nat) (F : Nat → Nat → Int) (w : World) (r3 : RdII w (.slice a3 n3 c3) n3 LL F) (hF : ∀ i j, i < n3 → j < LL i → F i j ≤ 9223372036854775807) (hn3 : n3 ≤ 5864062014634) (hg : Handle w) :
    Calls Tryz.prog 3 #[.int .i64 n, .int .i64 rows, .int .i64 size, .slice a3 n3 c3] w fun e w' => e = .returned (.bool true) ∧ Below w.heap.size w w' := by
  have HG : Hid (Handle w) := hg
  have HR3 : Hid _ := r3
  have HF : Hid (∀ i j, i < n3 → j < LL i → F i j ≤ 9223372036854775807) := hF
  clear hg r3 hF
  go_enter Tryz.func3, Tryz.ntmps3
  by_cases h1 : n < 3
  · have C := pa_new_bad n rows size (fun h => by have := abad_ok h; omega) w
    rw [errV, if_neg (by omega)] at C
    go_wp2_with fail
    refine C.mono ?_
    rintro e w1 ⟨rfl, hb⟩
    have E := err_same 1 w1 (HG.out.old hb)
    have HL : Hid (Below w.heap.size w w1) := hb
    clear C hb
    go_wp2_with fail
    refine E.mono ?_
    rintro e w2 ⟨rfl, hB2⟩
    have hB := HL.out.trans (hB2.mono HL.out.size)
    clear E hB2
    go_wp2
    go_ret
    exact ⟨rfl, hB⟩
  by_cases h2 : 10 < n
  · have C := pa_new_bad n rows size (fun h => by have := abad_ok h; omega) w
    rw [errV, if_neg (by omega)] at C
    go_wp2_with fail
    refine C.mono ?_
    rintro e w1 ⟨rfl, hb⟩
    have E := err_same 1 w1 (HG.out.old hb)
    have HL : Hid (Below w.heap.size w w1) := hb
    clear C hb
    go_wp2_with fail
    refine E.mono ?_
    rintro e w2 ⟨rfl, hB2⟩
    have hB := HL.out.trans (hB2.mono HL.out.size)
    clear E hB2
    go_wp2
    go_ret
    exact ⟨rfl, hB⟩
  by_cases h3 : rows < 1
  · have C := pa_new_bad n rows size (fun h => by have := abad_ok h; omega) w
    rw [errV, if_neg (by omega)] at C
    go_wp2_with fail
    refine C.mono ?_
    rintro e w1 ⟨rfl, hb⟩
    have E := err_same 1 w1 (HG.out.old hb)
    have HL : Hid (Below w.heap.size w w1) := hb
    clear C hb
    go_wp2_with fail
    refine E.mono ?_
    rintro e w2 ⟨rfl, hB2⟩
    have hB := HL.out.trans (hB2.mono HL.out.size)
    clear E hB2
    go_wp2
    go_ret
    exact ⟨rfl, hB⟩
  by_cases h4 : 20 < rows
  · have C := pa_new_bad n rows size (fun h => by have := abad_ok h; omega) w
    rw [errV, if_neg (by omega)] at C
    go_wp2_with fail
    refine C.mono ?_
    rintro e w1 ⟨rfl, hb⟩
    have E := err_same 1 w1 (HG.out.old hb)
    have HL : Hid (Below w.heap.size w w1) := hb
    clear C hb
    go_wp2_with fail
    refine E.mono ?_
    rintro e w2 ⟨rfl, hB2⟩
    have hB := HL.out.trans (hB2.mono HL.out.size)
    clear E hB2
    go_wp2
    go_ret
    exact ⟨rfl, hB⟩
  by_cases h5 : size < 1
  · have C := pa_new_bad n rows size (fun h => by have := abad_ok h; omega) w
    rw [errV, if_neg (by omega)] at C
    go_wp2_with fail
    refine C.mono ?_
    rintro e w1 ⟨rfl, hb⟩
    have E := err_same 1 w1 (HG.out.old hb)
    have HL : Hid (Below w.heap.size w w1) := hb
    clear C hb
    go_wp2_with fail
    refine E.mono ?_
    rintro e w2 ⟨rfl, hB2⟩
    have hB := HL.out.trans (hB2.mono HL.out.size)
    clear E hB2
    go_wp2
    go_ret
    exact ⟨rfl, hB⟩
  by_cases h6 : 16 < size
  · have C := pa_new_bad n rows size (fun h => by have := abad_ok h; omega) w
    rw [errV, if_neg (by omega)] at C
    go_wp2_with fail
    refine C.mono ?_
    rintro e w1 ⟨rfl, hb⟩
    have E := err_same 1 w1 (HG.out.old hb)
    have HL : Hid (Below w.heap.size w w1) := hb
    clear C hb
    go_wp2_with fail
    refine E.mono ?_
    rintro e w2 ⟨rfl, hB2⟩
    have hB := HL.out.trans (hB2.mono HL.out.size)
    clear E hB2
    go_wp2
    go_ret
    exact ⟨rfl, hB⟩
  obtain ⟨n, rfl⟩ : ∃ m : Nat, n = m := ⟨n.toNat, by omega⟩
  obtain ⟨rows, rfl⟩ : ∃ m : Nat, rows = m := ⟨rows.toNat, by omega⟩
  obtain ⟨size, rfl⟩ : ∃ m : Nat, size = m := ⟨size.toNat, by omega⟩
  have hn : 3 ≤ n ∧ n ≤ 10 := by omega
  have hr : 1 ≤ rows ∧ rows ≤ 20 := by omega
  have hz : 1 ≤ size ∧ size ≤ 16 := by omega
  have C := pa_new_ok n rows size hn hr hz w
  generalize hx : newAt w.heap.size n = x at C
  have HX : Hid (∀ w1, PA w1 x (Arr.fresh n rows size) 0 → Below w.heap.size w w1 → AL w x (Arr.fresh n rows size) 0 w1) := fun w1 hp hb => by rw [← hx] at hp ⊢; exact AL.new hp hb
  clear hx
  go_wp2_with fail
  refine C.mono ?_
  rintro e w1 ⟨rfl, hp, hb⟩
  have HA : Hid (AL w x (Arr.fresh n rows size) 0 w1) := HX.out w1 hp hb
  have E := err_none w1
  have D := ra_new n rows size hn hr hz w1
  clear C hp hb HX
  go_wp2_with fail
  refine E.mono ?_
  rintro e w2 ⟨rfl, hw⟩
  obtain rfl := hw.symm
  clear E hw
  go_upto_region 8 with fail
  rename ∀ (a : Act) (w : World), Code.wp _ _ _ a w → _ => hK
  have HK : Hid _ := hK
  clear hK
  go_wp2_with fail
  refine D.mono ?_
  rintro e w2 ⟨y, rfl, hR, hF2, hB2⟩
  have HS : Hid (PS w x y n rows size (Arr.fresh n rows size) (Arr.fresh n rows size) 0 w2) := ⟨HA.out.old hB2, hR, ⟨Arr.fresh_ok hn hr hz, rfl, rfl, rfl⟩, ⟨Arr.fresh_ok hn hr hz, rfl, rfl, rfl⟩, fun k hk => Nat.le_trans HA.out.low.size (hF2 k hk), fun k hk hk2 => by
    have q1 := HA.out.pa.lt k hk
    have q2 := hF2 k hk2
    omega⟩
  clear D hR hF2 hB2 HA
  go_wp2
  refine HK.out _ _ ?_
  clear HK
  refine wp_seq_k fun K hK => ?_
  have HKK : Hid _ := hK
  clear hK
  refine wp_seq_k fun K2 hK => ?_
  have HK : Hid _ := hK
  clear hK
  go_wp2
  refine HK.out _ _ ?_
  clear HK
  refine wp_block ?_
  refine loopI n rows size n3 c3 a3 x y w LL F hn hr hz HG HF HR3.out hn3 _ 0 0 (Arr.fresh n rows size) _ _ _ _ _ _ _ _ _ _ _ _ _ _ _ _ _ _ _ _ _ _ _ _ _ _ _ _ _ _ _ _ _ _ _ _ _ _ _ _ _ _ _ _ _ _ _ _ _ _ _ _ _ _ _ _ _ _ _ _ _ _ _ _ _ _ _ _ _ _ _ _ _ _ _ _ _ _ _ _ _ _ _ _ _ _ _ _ _ _ _ _ _ _ _ _ _ _ _ _ _ _ _ _ _ _ _ _ _ _ _ _ _ _ _ _ _ _ _ _ _ _ _ _ _ _ _ _ _ _ _ _ _ _ _ _ _ _ _ _ _ _ _ _ _ _ _ _ _ _ _ _ _ _ _ _ _ _ _ _ _ _ _ _ _ _ _ _ _ _ _ _ _ _ _ _ _ _ _ _ _ _ _ _ _ _ _ _ _ _ _ _ _ _ _ _ _ _ _ _ _ _ _ _ _ _ _ _ _ _ _ _ _ _ _ _ _ _ _ _ _ _ _ _ _ _ _ _ _ _ _ _ _ _ _ _ _ _ _ _ _ _ _ _ _ _ _ _ _ _ _ _ _ _ _ _ _ _ _ _ _ _ _ _ _ _ _ _ _ _ _ _ _ _ _ _ _ _ _ _ _ ?_ ?_
  · exact ⟨⟨Nat.zero_le _, Nat.zero_le _⟩, HS.out, Nat.le_refl _⟩
  · intro a w' hI
    refine (show K a w' from HKK.out _ _ ?_)
    unfold WI WK at hI
    obtain ⟨k, _, hI⟩ := hI
    obtain ⟨u4, hI⟩ := hI
    obtain ⟨u5, hI⟩ := hI
    obtain ⟨u6, hI⟩ := hI
    obtain ⟨u7, hI⟩ := hI
    obtain ⟨u8, hI⟩ := hI
    obtain ⟨u9, hI⟩ := hI
    obtain ⟨u11, hI⟩ := hI
    obtain ⟨u12, hI⟩ := hI
    obtain ⟨u15, hI⟩ := hI
    obtain ⟨u16, hI⟩ := hI
    obtain ⟨u17, hI⟩ := hI
    obtain ⟨u18, hI⟩ := hI
    obtain ⟨u19, hI⟩ := hI
    obtain ⟨u20, hI⟩ := hI
    obtain ⟨u21, hI⟩ := hI
    obtain ⟨u22, hI⟩ := hI
    obtain ⟨u23, hI⟩ := hI
    obtain ⟨u24, hI⟩ := hI
    obtain ⟨u25, hI⟩ := hI
    obtain ⟨u26, hI⟩ := hI
    obtain ⟨u27, hI⟩ := hI
    obtain ⟨u28, hI⟩ := hI
    obtain ⟨u29, hI⟩ := hI
    obtain ⟨u30, hI⟩ := hI
    obtain ⟨u31, hI⟩ := hI
    obtain ⟨u32, hI⟩ := hI
    obtain ⟨u33, hI⟩ := hI
    obtain ⟨u34, hI⟩ := hI
    obtain ⟨u35, hI⟩ := hI
    obtain ⟨u36, hI⟩ := hI
    obtain ⟨u37, hI⟩ := hI
    obtain ⟨u38, hI⟩ := hI
    obtain ⟨u39, hI⟩ := hI
    obtain ⟨u40, hI⟩ := hI
    obtain ⟨u41, hI⟩ := hI
    obtain ⟨u42, hI⟩ := hI
    obtain ⟨u43, hI⟩ := hI
    obtain ⟨u44, hI⟩ := hI
    obtain ⟨u45, hI⟩ := hI
    obtain ⟨u46, hI⟩ := hI
    obtain ⟨u47, hI⟩ := hI
    obtain ⟨u48, hI⟩ := hI
    obtain ⟨u49, hI⟩ := hI
    obtain ⟨u50, hI⟩ := hI
    obtain ⟨u51, hI⟩ := hI
    obtain ⟨u52, hI⟩ := hI
    obtain ⟨u53, hI⟩ := hI
    obtain ⟨u54, hI⟩ := hI
    obtain ⟨u55, hI⟩ := hI
    obtain ⟨u56, hI⟩ := hI
    obtain ⟨u57, hI⟩ := hI
    obtain ⟨u58, hI⟩ := hI
    obtain ⟨u59, hI⟩ := hI
    obtain ⟨u60, hI⟩ := hI
    obtain ⟨u61, hI⟩ := hI
    obtain ⟨u62, hI⟩ := hI
    obtain ⟨u63, hI⟩ := hI
    obtain ⟨u64, hI⟩ := hI
    obtain ⟨u65, hI⟩ := hI
    obtain ⟨u66, hI⟩ := hI
    obtain ⟨u67, hI⟩ := hI
    obtain ⟨u68, hI⟩ := hI
    obtain ⟨u69, hI⟩ := hI
    obtain ⟨u70, hI⟩ := hI
    obtain ⟨u71, hI⟩ := hI
    obtain ⟨u72, hI⟩ := hI
    obtain ⟨u73, hI⟩ := hI
    obtain ⟨u74, hI⟩ := hI
    obtain ⟨u75, hI⟩ := hI
    obtain ⟨u76, hI⟩ := hI
    obtain ⟨u77, hI⟩ := hI
    obtain ⟨u78, hI⟩ := hI
    obtain ⟨u79, hI⟩ := hI
    obtain ⟨u80, hI⟩ := hI
    obtain ⟨u81, hI⟩ := hI
    obtain ⟨u82, hI⟩ := hI
    obtain ⟨u83, hI⟩ := hI
    obtain ⟨u84, hI⟩ := hI
    obtain ⟨u85, hI⟩ := hI
    obtain ⟨u86, hI⟩ := hI
    obtain ⟨u87, hI⟩ := hI
    obtain ⟨u88, hI⟩ := hI
    obtain ⟨u89, hI⟩ := hI
    obtain ⟨u90, hI⟩ := hI
    obtain ⟨u91, hI⟩ := hI
    obtain ⟨u92, hI⟩ := hI
    obtain ⟨u93, hI⟩ := hI
    obtain ⟨u94, hI⟩ := hI
    obtain ⟨u95, hI⟩ := hI
    obtain ⟨u96, hI⟩ := hI
    obtain ⟨u97, hI⟩ := hI
    obtain ⟨u98, hI⟩ := hI
    obtain ⟨u99, hI⟩ := hI
    obtain ⟨u100, hI⟩ := hI
    obtain ⟨u101, hI⟩ := hI
    obtain ⟨u102, hI⟩ := hI
    obtain ⟨u103, hI⟩ := hI
    obtain ⟨u104, hI⟩ := hI
    obtain ⟨u105, hI⟩ := hI
    obtain ⟨u106, hI⟩ := hI
    obtain ⟨u107, hI⟩ := hI
    obtain ⟨u108, hI⟩ := hI
    obtain ⟨u109, hI⟩ := hI
    obtain ⟨u110, hI⟩ := hI
    obtain ⟨u111, hI⟩ := hI
    obtain ⟨u112, hI⟩ := hI
    obtain ⟨u113, hI⟩ := hI
    obtain ⟨u114, hI⟩ := hI
    obtain ⟨u115, hI⟩ := hI
    obtain ⟨u116, hI⟩ := hI
    obtain ⟨u117, hI⟩ := hI
    obtain ⟨u118, hI⟩ := hI
    obtain ⟨u119, hI⟩ := hI
    obtain ⟨u120, hI⟩ := hI
    obtain ⟨u121, hI⟩ := hI
    obtain ⟨u122, hI⟩ := hI
    obtain ⟨u123, hI⟩ := hI
    obtain ⟨u124, hI⟩ := hI
    obtain ⟨u125, hI⟩ := hI
    obtain ⟨u126, hI⟩ := hI
    obtain ⟨u127, hI⟩ := hI
    obtain ⟨u128, hI⟩ := hI
    obtain ⟨u129, hI⟩ := hI
    obtain ⟨u130, hI⟩ := hI
    obtain ⟨u131, hI⟩ := hI
    obtain ⟨u132, hI⟩ := hI
    obtain ⟨u133, hI⟩ := hI
    obtain ⟨u134, hI⟩ := hI
    obtain ⟨u135, hI⟩ := hI
    obtain ⟨u136, hI⟩ := hI
    obtain ⟨u137, hI⟩ := hI
    obtain ⟨u138, hI⟩ := hI
    obtain ⟨u139, hI⟩ := hI
    obtain ⟨u140, hI⟩ := hI
    obtain ⟨u141, hI⟩ := hI
    obtain ⟨u142, hI⟩ := hI
    obtain ⟨u143, hI⟩ := hI
    obtain ⟨u144, hI⟩ := hI
    obtain ⟨u145, hI⟩ := hI
    obtain ⟨u146, hI⟩ := hI
    obtain ⟨u147, hI⟩ := hI
    obtain ⟨u148, hI⟩ := hI
    obtain ⟨u149, hI⟩ := hI
    obtain ⟨u150, hI⟩ := hI
    obtain ⟨u151, hI⟩ := hI
    obtain ⟨u152, hI⟩ := hI
    obtain ⟨u153, hI⟩ := hI
    obtain ⟨u154, hI⟩ := hI
    obtain ⟨u155, hI⟩ := hI
    obtain ⟨u156, hI⟩ := hI
    obtain ⟨u157, hI⟩ := hI
    obtain ⟨u158, hI⟩ := hI
    obtain ⟨u159, hI⟩ := hI
    obtain ⟨u160, hI⟩ := hI
    obtain ⟨u161, hI⟩ := hI
    obtain ⟨u162, hI⟩ := hI
    obtain ⟨u163, hI⟩ := hI
    obtain ⟨u164, hI⟩ := hI
    obtain ⟨u165, hI⟩ := hI
    obtain ⟨u166, hI⟩ := hI
    obtain ⟨u167, hI⟩ := hI
    obtain ⟨u168, hI⟩ := hI
    obtain ⟨u169, hI⟩ := hI
    obtain ⟨u170, hI⟩ := hI
    obtain ⟨u171, hI⟩ := hI
    obtain ⟨u172, hI⟩ := hI
    obtain ⟨u173, hI⟩ := hI
    obtain ⟨u174, hI⟩ := hI
    obtain ⟨u175, hI⟩ := hI
    obtain ⟨u176, hI⟩ := hI
    obtain ⟨u177, hI⟩ := hI
    obtain ⟨u178, hI⟩ := hI
    obtain ⟨u179, hI⟩ := hI
    obtain ⟨u180, hI⟩ := hI
    obtain ⟨u181, hI⟩ := hI
    obtain ⟨u182, hI⟩ := hI
    obtain ⟨u183, hI⟩ := hI
    obtain ⟨u184, hI⟩ := hI
    obtain ⟨u185, hI⟩ := hI
    obtain ⟨u186, hI⟩ := hI
    obtain ⟨u187, hI⟩ := hI
    obtain ⟨u188, hI⟩ := hI
    obtain ⟨u189, hI⟩ := hI
    obtain ⟨u190, hI⟩ := hI
    obtain ⟨u191, hI⟩ := hI
    obtain ⟨u192, hI⟩ := hI
    obtain ⟨u193, hI⟩ := hI
    obtain ⟨u194, hI⟩ := hI
    obtain ⟨u195, hI⟩ := hI
    obtain ⟨u196, hI⟩ := hI
    obtain ⟨u197, hI⟩ := hI
    obtain ⟨u198, hI⟩ := hI
    obtain ⟨u199, hI⟩ := hI
    obtain ⟨u200, hI⟩ := hI
    obtain ⟨u201, hI⟩ := hI
    obtain ⟨u202, hI⟩ := hI
    obtain ⟨u203, hI⟩ := hI
    obtain ⟨u204, hI⟩ := hI
    obtain ⟨u205, hI⟩ := hI
    obtain ⟨u206, hI⟩ := hI
    obtain ⟨u207, hI⟩ := hI
    obtain ⟨u208, hI⟩ := hI
    obtain ⟨u209, hI⟩ := hI
    obtain ⟨u210, hI⟩ := hI
    obtain ⟨u211, hI⟩ := hI
    obtain ⟨u212, hI⟩ := hI
    obtain ⟨u213, hI⟩ := hI
    obtain ⟨u214, hI⟩ := hI
    obtain ⟨u215, hI⟩ := hI
    obtain ⟨u216, hI⟩ := hI
    obtain ⟨u217, hI⟩ := hI
    obtain ⟨u218, hI⟩ := hI
    obtain ⟨u219, hI⟩ := hI
    obtain ⟨u220, hI⟩ := hI
    obtain ⟨u221, hI⟩ := hI
    obtain ⟨u222, hI⟩ := hI
    obtain ⟨u223, hI⟩ := hI
    obtain ⟨u224, hI⟩ := hI
    obtain ⟨u225, hI⟩ := hI
    obtain ⟨u226, hI⟩ := hI
    obtain ⟨u227, hI⟩ := hI
    obtain ⟨u228, hI⟩ := hI
    obtain ⟨u229, hI⟩ := hI
    obtain ⟨u230, hI⟩ := hI
    obtain ⟨u231, hI⟩ := hI
    obtain ⟨u232, hI⟩ := hI
    obtain ⟨u233, hI⟩ := hI
    obtain ⟨u234, hI⟩ := hI
    obtain ⟨u235, hI⟩ := hI
    obtain ⟨u236, hI⟩ := hI
    obtain ⟨u237, hI⟩ := hI
    obtain ⟨u238, hI⟩ := hI
    obtain ⟨u239, hI⟩ := hI
    obtain ⟨u240, hI⟩ := hI
    obtain ⟨u241, hI⟩ := hI
    obtain ⟨u242, hI⟩ := hI
    obtain ⟨u243, hI⟩ := hI
    obtain ⟨u244, hI⟩ := hI
    obtain ⟨u245, hI⟩ := hI
    obtain ⟨u246, hI⟩ := hI
    obtain ⟨u247, hI⟩ := hI
    obtain ⟨u248, hI⟩ := hI
    obtain ⟨u249, hI⟩ := hI
    obtain ⟨u250, hI⟩ := hI
    obtain ⟨u251, hI⟩ := hI
    obtain ⟨u252, hI⟩ := hI
    obtain ⟨u253, hI⟩ := hI
    obtain ⟨u254, hI⟩ := hI
    obtain ⟨u255, hI⟩ := hI
    obtain ⟨u256, hI⟩ := hI
    obtain ⟨u257, hI⟩ := hI
    obtain ⟨u258, hI⟩ := hI
    obtain ⟨u259, hI⟩ := hI
    obtain ⟨u260, hI⟩ := hI
    obtain ⟨u261, hI⟩ := hI
    obtain ⟨u262, hI⟩ := hI
    obtain ⟨u263, hI⟩ := hI
    obtain ⟨u264, hI⟩ := hI
    obtain ⟨u265, hI⟩ := hI
    obtain ⟨u266, hI⟩ := hI
    obtain ⟨u267, hI⟩ := hI
    obtain ⟨u268, hI⟩ := hI
    obtain ⟨u269, hI⟩ := hI
    obtain ⟨u270, hI⟩ := hI
    obtain ⟨u271, hI⟩ := hI
    obtain ⟨u272, hI⟩ := hI
    obtain ⟨u273, hI⟩ := hI
    obtain ⟨u274, hI⟩ := hI
    obtain ⟨u275, hI⟩ := hI
    obtain ⟨u276, hI⟩ := hI
    obtain ⟨u277, hI⟩ := hI
    obtain ⟨u278, hI⟩ := hI
    obtain ⟨u279, hI⟩ := hI
    obtain ⟨u280, hI⟩ := hI
    obtain ⟨u281, hI⟩ := hI
    obtain ⟨u282, hI⟩ := hI
    obtain ⟨u283, hI⟩ := hI
    obtain ⟨u284, hI⟩ := hI
    obtain ⟨u285, hI⟩ := hI
    obtain ⟨u286, hI⟩ := hI
    obtain ⟨A, N, ⟨hS, _⟩, rfl⟩ := hI
    have HL : Hid (Below w.heap.size w w') := hS.al.low
    clear hS HKK HS
    go_wp2
    go_ret
    exact ⟨rfl, HL.out⟩
end Go.Proofs.YtilfjahbdlepjaaGreatDoor
