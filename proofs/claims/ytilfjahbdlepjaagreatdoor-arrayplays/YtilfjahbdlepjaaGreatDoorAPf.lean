/- ArrayPlays, a piece: walks over the program. -/
import Derived.Test.YtilfjahbdlepjaaGreatDoorAPc
import Derived.Test.YtilfjahbdlepjaaGreatDoorAPd
import Derived.Test.YtilfjahbdlepjaaGreatDoorAPe
namespace Go.Proofs.YtilfjahbdlepjaaGreatDoor
open Go.RowKit El Pol Mx Lay
/-- ahead of a step -/
def WI (n rows size n3 c3 : Nat) (a3 : Option Addr) (x : PAd) (y : RAd) (w : World) (a : Act) (w' : World) : Prop := ∃ k : Nat, (k ≤ n3 ∧ k ≤ 60) ∧ WK n rows size n3 c3 a3 x y w k (3 * k) a w'
def Wmu (n3 : Nat) (a : Act) : Nat := n3 - (intOf (a.tmps.getD 14 undef)).toNat
theorem vG_le {n3 : Nat} {LL : Nat → Nat} {F : Nat → Nat → Int} (h : ∀ i j, i < n3 → j < LL i → F i j ≤ 9223372036854775807) {k : Nat} (hk : k < n3) (j : Nat) : vG LL F k j ≤ 9223372036854775807 := by
  unfold vG
  split
  · rename_i q
    exact h k j hk q
  · omega

set_option linter.unusedVariables false in
set_option maxRecDepth 1000000 in
set_option maxHeartbeats 8000000 in
theorem roundI (n rows size n3 c3 : Nat) (a3 : Option Addr) (x : PAd) (y : RAd) (w : World) (LL : Nat → Nat) (F : Nat → Nat → Int) (hn : 3 ≤ n ∧ n ≤ 10) (hr : 1 ≤ rows ∧ rows ≤ 20) (hz : 1 ≤ size ∧ size ≤ 16) (HG : Hid (Handle w)) (HF : Hid (∀ i j, i < n3 → j < LL i → F i j ≤ 9223372036854775807)) (r3 : RdII w (.slice a3 n3 c3) n3 LL F) (hn3 : n3 ≤ 5864062014634) (Q0 : Exit → Act → World → Prop) (hexit : ∀ a w', WI n rows size n3 c3 a3 x y w a w' → Q0 (.exit 0) a w') (a : Act) (wc : World) (hI : WI n rows size n3 c3 a3 x y w a wc) :
    Code.wp Tryz.prog (cut [1, 1, 1, 1, 1, 1, 1, 0, 1, 2, 5] (Tryz.f3.body.getD .skip)) (Exit.then (fun a' w'' => WI n rows size n3 c3 a3 x y w a' w'' ∧ Wmu n3 a' < Wmu n3 a) Q0) a wc := by
  unfold WI at hI
  obtain ⟨k, ⟨hk1, hk2⟩, hI⟩ := hI
  unfold WK at hI
  obtain ⟨u4, hI⟩ := hI
  obtain ⟨u5, hI⟩ := hI
  obtain ⟨u6, hI⟩ := hI
  obtain ⟨u7, hI⟩ := hI
  obtain ⟨u8, hI⟩ := hI
  obtain ⟨u9, hI⟩ := hI
  obtain ⟨u11, hI⟩ := hI
  obtain ⟨u12, hI⟩ := hI
  obtain ⟨u15, hI⟩ := hI
  obtain ⟨u16, hI⟩ := hI
  obtain ⟨u17, hI⟩ := hI
  obtain ⟨u18, hI⟩ := hI
  obtain ⟨u19, hI⟩ := hI
  obtain ⟨u20, hI⟩ := hI
  obtain ⟨u21, hI⟩ := hI
  obtain ⟨u22, hI⟩ := hI
  obtain ⟨u23, hI⟩ := hI
  obtain ⟨u24, hI⟩ := hI
  obtain ⟨u25, hI⟩ := hI
  obtain ⟨u26, hI⟩ := hI
  obtain ⟨u27, hI⟩ := hI
  obtain ⟨u28, hI⟩ := hI
  obtain ⟨u29, hI⟩ := hI
  obtain ⟨u30, hI⟩ := hI
  obtain ⟨u31, hI⟩ := hI
  obtain ⟨u32, hI⟩ := hI
  obtain ⟨u33, hI⟩ := hI
  obtain ⟨u34, hI⟩ := hI
  obtain ⟨u35, hI⟩ := hI
  obtain ⟨u36, hI⟩ := hI
  obtain ⟨u37, hI⟩ := hI
  obtain ⟨u38, hI⟩ := hI
  obtain ⟨u39, hI⟩ := hI
  obtain ⟨u40, hI⟩ := hI
  obtain ⟨u41, hI⟩ := hI
  obtain ⟨u42, hI⟩ := hI
  obtain ⟨u43, hI⟩ := hI
  obtain ⟨u44, hI⟩ := hI
  obtain ⟨u45, hI⟩ := hI
  obtain ⟨u46, hI⟩ := hI
  obtain ⟨u47, hI⟩ := hI
  obtain ⟨u48, hI⟩ := hI
  obtain ⟨u49, hI⟩ := hI
  obtain ⟨u50, hI⟩ := hI
  obtain ⟨u51, hI⟩ := hI
  obtain ⟨u52, hI⟩ := hI
  obtain ⟨u53, hI⟩ := hI
  obtain ⟨u54, hI⟩ := hI
  obtain ⟨u55, hI⟩ := hI
  obtain ⟨u56, hI⟩ := hI
  obtain ⟨u57, hI⟩ := hI
  obtain ⟨u58, hI⟩ := hI
  obtain ⟨u59, hI⟩ := hI
  obtain ⟨u60, hI⟩ := hI
  obtain ⟨u61, hI⟩ := hI
  obtain ⟨u62, hI⟩ := hI
  obtain ⟨u63, hI⟩ := hI
  obtain ⟨u64, hI⟩ := hI
  obtain ⟨u65, hI⟩ := hI
  obtain ⟨u66, hI⟩ := hI
  obtain ⟨u67, hI⟩ := hI
  obtain ⟨u68, hI⟩ := hI
  obtain ⟨u69, hI⟩ := hI
  obtain ⟨u70, hI⟩ := hI
  obtain ⟨u71, hI⟩ := hI
  obtain ⟨u72, hI⟩ := hI
  obtain ⟨u73, hI⟩ := hI
  obtain ⟨u74, hI⟩ := hI
  obtain ⟨u75, hI⟩ := hI
  obtain ⟨u76, hI⟩ := hI
  obtain ⟨u77, hI⟩ := hI
  obtain ⟨u78, hI⟩ := hI
  obtain ⟨u79, hI⟩ := hI
  obtain ⟨u80, hI⟩ := hI
  obtain ⟨u81, hI⟩ := hI
  obtain ⟨u82, hI⟩ := hI
  obtain ⟨u83, hI⟩ := hI
  obtain ⟨u84, hI⟩ := hI
  obtain ⟨u85, hI⟩ := hI
  obtain ⟨u86, hI⟩ := hI
  obtain ⟨u87, hI⟩ := hI
  obtain ⟨u88, hI⟩ := hI
  obtain ⟨u89, hI⟩ := hI
  obtain ⟨u90, hI⟩ := hI
  obtain ⟨u91, hI⟩ := hI
  obtain ⟨u92, hI⟩ := hI
  obtain ⟨u93, hI⟩ := hI
  obtain ⟨u94, hI⟩ := hI
  obtain ⟨u95, hI⟩ := hI
  obtain ⟨u96, hI⟩ := hI
  obtain ⟨u97, hI⟩ := hI
  obtain ⟨u98, hI⟩ := hI
  obtain ⟨u99, hI⟩ := hI
  obtain ⟨u100, hI⟩ := hI
  obtain ⟨u101, hI⟩ := hI
  obtain ⟨u102, hI⟩ := hI
  obtain ⟨u103, hI⟩ := hI
  obtain ⟨u104, hI⟩ := hI
  obtain ⟨u105, hI⟩ := hI
  obtain ⟨u106, hI⟩ := hI
  obtain ⟨u107, hI⟩ := hI
  obtain ⟨u108, hI⟩ := hI
  obtain ⟨u109, hI⟩ := hI
  obtain ⟨u110, hI⟩ := hI
  obtain ⟨u111, hI⟩ := hI
  obtain ⟨u112, hI⟩ := hI
  obtain ⟨u113, hI⟩ := hI
  obtain ⟨u114, hI⟩ := hI
  obtain ⟨u115, hI⟩ := hI
  obtain ⟨u116, hI⟩ := hI
  obtain ⟨u117, hI⟩ := hI
  obtain ⟨u118, hI⟩ := hI
  obtain ⟨u119, hI⟩ := hI
  obtain ⟨u120, hI⟩ := hI
  obtain ⟨u121, hI⟩ := hI
  obtain ⟨u122, hI⟩ := hI
  obtain ⟨u123, hI⟩ := hI
  obtain ⟨u124, hI⟩ := hI
  obtain ⟨u125, hI⟩ := hI
  obtain ⟨u126, hI⟩ := hI
  obtain ⟨u127, hI⟩ := hI
  obtain ⟨u128, hI⟩ := hI
  obtain ⟨u129, hI⟩ := hI
  obtain ⟨u130, hI⟩ := hI
  obtain ⟨u131, hI⟩ := hI
  obtain ⟨u132, hI⟩ := hI
  obtain ⟨u133, hI⟩ := hI
  obtain ⟨u134, hI⟩ := hI
  obtain ⟨u135, hI⟩ := hI
  obtain ⟨u136, hI⟩ := hI
  obtain ⟨u137, hI⟩ := hI
  obtain ⟨u138, hI⟩ := hI
  obtain ⟨u139, hI⟩ := hI
  obtain ⟨u140, hI⟩ := hI
  obtain ⟨u141, hI⟩ := hI
  obtain ⟨u142, hI⟩ := hI
  obtain ⟨u143, hI⟩ := hI
  obtain ⟨u144, hI⟩ := hI
  obtain ⟨u145, hI⟩ := hI
  obtain ⟨u146, hI⟩ := hI
  obtain ⟨u147, hI⟩ := hI
  obtain ⟨u148, hI⟩ := hI
  obtain ⟨u149, hI⟩ := hI
  obtain ⟨u150, hI⟩ := hI
  obtain ⟨u151, hI⟩ := hI
  obtain ⟨u152, hI⟩ := hI
  obtain ⟨u153, hI⟩ := hI
  obtain ⟨u154, hI⟩ := hI
  obtain ⟨u155, hI⟩ := hI
  obtain ⟨u156, hI⟩ := hI
  obtain ⟨u157, hI⟩ := hI
  obtain ⟨u158, hI⟩ := hI
  obtain ⟨u159, hI⟩ := hI
  obtain ⟨u160, hI⟩ := hI
  obtain ⟨u161, hI⟩ := hI
  obtain ⟨u162, hI⟩ := hI
  obtain ⟨u163, hI⟩ := hI
  obtain ⟨u164, hI⟩ := hI
  obtain ⟨u165, hI⟩ := hI
  obtain ⟨u166, hI⟩ := hI
  obtain ⟨u167, hI⟩ := hI
  obtain ⟨u168, hI⟩ := hI
  obtain ⟨u169, hI⟩ := hI
  obtain ⟨u170, hI⟩ := hI
  obtain ⟨u171, hI⟩ := hI
  obtain ⟨u172, hI⟩ := hI
  obtain ⟨u173, hI⟩ := hI
  obtain ⟨u174, hI⟩ := hI
  obtain ⟨u175, hI⟩ := hI
  obtain ⟨u176, hI⟩ := hI
  obtain ⟨u177, hI⟩ := hI
  obtain ⟨u178, hI⟩ := hI
  obtain ⟨u179, hI⟩ := hI
  obtain ⟨u180, hI⟩ := hI
  obtain ⟨u181, hI⟩ := hI
  obtain ⟨u182, hI⟩ := hI
  obtain ⟨u183, hI⟩ := hI
  obtain ⟨u184, hI⟩ := hI
  obtain ⟨u185, hI⟩ := hI
  obtain ⟨u186, hI⟩ := hI
  obtain ⟨u187, hI⟩ := hI
  obtain ⟨u188, hI⟩ := hI
  obtain ⟨u189, hI⟩ := hI
  obtain ⟨u190, hI⟩ := hI
  obtain ⟨u191, hI⟩ := hI
  obtain ⟨u192, hI⟩ := hI
  obtain ⟨u193, hI⟩ := hI
  obtain ⟨u194, hI⟩ := hI
  obtain ⟨u195, hI⟩ := hI
  obtain ⟨u196, hI⟩ := hI
  obtain ⟨u197, hI⟩ := hI
  obtain ⟨u198, hI⟩ := hI
  obtain ⟨u199, hI⟩ := hI
  obtain ⟨u200, hI⟩ := hI
  obtain ⟨u201, hI⟩ := hI
  obtain ⟨u202, hI⟩ := hI
  obtain ⟨u203, hI⟩ := hI
  obtain ⟨u204, hI⟩ := hI
  obtain ⟨u205, hI⟩ := hI
  obtain ⟨u206, hI⟩ := hI
  obtain ⟨u207, hI⟩ := hI
  obtain ⟨u208, hI⟩ := hI
  obtain ⟨u209, hI⟩ := hI
  obtain ⟨u210, hI⟩ := hI
  obtain ⟨u211, hI⟩ := hI
  obtain ⟨u212, hI⟩ := hI
  obtain ⟨u213, hI⟩ := hI
  obtain ⟨u214, hI⟩ := hI
  obtain ⟨u215, hI⟩ := hI
  obtain ⟨u216, hI⟩ := hI
  obtain ⟨u217, hI⟩ := hI
  obtain ⟨u218, hI⟩ := hI
  obtain ⟨u219, hI⟩ := hI
  obtain ⟨u220, hI⟩ := hI
  obtain ⟨u221, hI⟩ := hI
  obtain ⟨u222, hI⟩ := hI
  obtain ⟨u223, hI⟩ := hI
  obtain ⟨u224, hI⟩ := hI
  obtain ⟨u225, hI⟩ := hI
  obtain ⟨u226, hI⟩ := hI
  obtain ⟨u227, hI⟩ := hI
  obtain ⟨u228, hI⟩ := hI
  obtain ⟨u229, hI⟩ := hI
  obtain ⟨u230, hI⟩ := hI
  obtain ⟨u231, hI⟩ := hI
  obtain ⟨u232, hI⟩ := hI
  obtain ⟨u233, hI⟩ := hI
  obtain ⟨u234, hI⟩ := hI
  obtain ⟨u235, hI⟩ := hI
  obtain ⟨u236, hI⟩ := hI
  obtain ⟨u237, hI⟩ := hI
  obtain ⟨u238, hI⟩ := hI
  obtain ⟨u239, hI⟩ := hI
  obtain ⟨u240, hI⟩ := hI
  obtain ⟨u241, hI⟩ := hI
  obtain ⟨u242, hI⟩ := hI
  obtain ⟨u243, hI⟩ := hI
  obtain ⟨u244, hI⟩ := hI
  obtain ⟨u245, hI⟩ := hI
  obtain ⟨u246, hI⟩ := hI
  obtain ⟨u247, hI⟩ := hI
  obtain ⟨u248, hI⟩ := hI
  obtain ⟨u249, hI⟩ := hI
  obtain ⟨u250, hI⟩ := hI
  obtain ⟨u251, hI⟩ := hI
  obtain ⟨u252, hI⟩ := hI
  obtain ⟨u253, hI⟩ := hI
  obtain ⟨u254, hI⟩ := hI
  obtain ⟨u255, hI⟩ := hI
  obtain ⟨u256, hI⟩ := hI
  obtain ⟨u257, hI⟩ := hI
  obtain ⟨u258, hI⟩ := hI
  obtain ⟨u259, hI⟩ := hI
  obtain ⟨u260, hI⟩ := hI
  obtain ⟨u261, hI⟩ := hI
  obtain ⟨u262, hI⟩ := hI
  obtain ⟨u263, hI⟩ := hI
  obtain ⟨u264, hI⟩ := hI
  obtain ⟨u265, hI⟩ := hI
  obtain ⟨u266, hI⟩ := hI
  obtain ⟨u267, hI⟩ := hI
  obtain ⟨u268, hI⟩ := hI
  obtain ⟨u269, hI⟩ := hI
  obtain ⟨u270, hI⟩ := hI
  obtain ⟨u271, hI⟩ := hI
  obtain ⟨u272, hI⟩ := hI
  obtain ⟨u273, hI⟩ := hI
  obtain ⟨u274, hI⟩ := hI
  obtain ⟨u275, hI⟩ := hI
  obtain ⟨u276, hI⟩ := hI
  obtain ⟨u277, hI⟩ := hI
  obtain ⟨u278, hI⟩ := hI
  obtain ⟨u279, hI⟩ := hI
  obtain ⟨u280, hI⟩ := hI
  obtain ⟨u281, hI⟩ := hI
  obtain ⟨u282, hI⟩ := hI
  obtain ⟨u283, hI⟩ := hI
  obtain ⟨u284, hI⟩ := hI
  obtain ⟨u285, hI⟩ := hI
  obtain ⟨u286, hI⟩ := hI
  obtain ⟨A, N, ⟨hS, hN⟩, rfl⟩ := hI
  conv => arg 2; whnf
  by_cases hlt : k < n3
  · by_cases hlt2 : k < 60
    · have q1 : (k : Int) < (n3 : Int) := by omega
      have q2 : (k : Int) < 60 := by omega
      have HS : Hid _ := hS
      have HX : Hid _ := hexit
      have HR3 : Hid _ := r3
      clear hS hexit r3
      refine wp_seq_k fun K hK => ?_
      have HK : Hid _ := hK
      clear hK
      go_wp2
      refine HK.out _ _ ?_
      clear HK K
      refine wp_seq_k fun K hK => ?_
      have HKK : Hid _ := hK
      clear hK
      refine wp_block ?_
      have HQQ : Hid (∀ (R : Exit → Act → World → Prop) a w1, WK n rows size n3 c3 a3 x y w k (3 * (k + 1)) a w1 → Exit.inBlock 1 (Exit.then K R) .normal a w1) := fun R a w1 hW => by
        have h2 : K a w1 := by
          refine HKK.out a w1 ?_
          unfold WK at hW
          obtain ⟨t4, hW⟩ := hW
          obtain ⟨t5, hW⟩ := hW
          obtain ⟨t6, hW⟩ := hW
          obtain ⟨t7, hW⟩ := hW
          obtain ⟨t8, hW⟩ := hW
          obtain ⟨t9, hW⟩ := hW
          obtain ⟨t11, hW⟩ := hW
          obtain ⟨t12, hW⟩ := hW
          obtain ⟨t15, hW⟩ := hW
          obtain ⟨t16, hW⟩ := hW
          obtain ⟨t17, hW⟩ := hW
          obtain ⟨t18, hW⟩ := hW
          obtain ⟨t19, hW⟩ := hW
          obtain ⟨t20, hW⟩ := hW
          obtain ⟨t21, hW⟩ := hW
          obtain ⟨t22, hW⟩ := hW
          obtain ⟨t23, hW⟩ := hW
          obtain ⟨t24, hW⟩ := hW
          obtain ⟨t25, hW⟩ := hW
          obtain ⟨t26, hW⟩ := hW
          obtain ⟨t27, hW⟩ := hW
          obtain ⟨t28, hW⟩ := hW
          obtain ⟨t29, hW⟩ := hW
          obtain ⟨t30, hW⟩ := hW
          obtain ⟨t31, hW⟩ := hW
          obtain ⟨t32, hW⟩ := hW
          obtain ⟨t33, hW⟩ := hW
          obtain ⟨t34, hW⟩ := hW
          obtain ⟨t35, hW⟩ := hW
          obtain ⟨t36, hW⟩ := hW
          obtain ⟨t37, hW⟩ := hW
          obtain ⟨t38, hW⟩ := hW
          obtain ⟨t39, hW⟩ := hW
          obtain ⟨t40, hW⟩ := hW
          obtain ⟨t41, hW⟩ := hW
          obtain ⟨t42, hW⟩ := hW
          obtain ⟨t43, hW⟩ := hW
          obtain ⟨t44, hW⟩ := hW
          obtain ⟨t45, hW⟩ := hW
          obtain ⟨t46, hW⟩ := hW
          obtain ⟨t47, hW⟩ := hW
          obtain ⟨t48, hW⟩ := hW
          obtain ⟨t49, hW⟩ := hW
          obtain ⟨t50, hW⟩ := hW
          obtain ⟨t51, hW⟩ := hW
          obtain ⟨t52, hW⟩ := hW
          obtain ⟨t53, hW⟩ := hW
          obtain ⟨t54, hW⟩ := hW
          obtain ⟨t55, hW⟩ := hW
          obtain ⟨t56, hW⟩ := hW
          obtain ⟨t57, hW⟩ := hW
          obtain ⟨t58, hW⟩ := hW
          obtain ⟨t59, hW⟩ := hW
          obtain ⟨t60, hW⟩ := hW
          obtain ⟨t61, hW⟩ := hW
          obtain ⟨t62, hW⟩ := hW
          obtain ⟨t63, hW⟩ := hW
          obtain ⟨t64, hW⟩ := hW
          obtain ⟨t65, hW⟩ := hW
          obtain ⟨t66, hW⟩ := hW
          obtain ⟨t67, hW⟩ := hW
          obtain ⟨t68, hW⟩ := hW
          obtain ⟨t69, hW⟩ := hW
          obtain ⟨t70, hW⟩ := hW
          obtain ⟨t71, hW⟩ := hW
          obtain ⟨t72, hW⟩ := hW
          obtain ⟨t73, hW⟩ := hW
          obtain ⟨t74, hW⟩ := hW
          obtain ⟨t75, hW⟩ := hW
          obtain ⟨t76, hW⟩ := hW
          obtain ⟨t77, hW⟩ := hW
          obtain ⟨t78, hW⟩ := hW
          obtain ⟨t79, hW⟩ := hW
          obtain ⟨t80, hW⟩ := hW
          obtain ⟨t81, hW⟩ := hW
          obtain ⟨t82, hW⟩ := hW
          obtain ⟨t83, hW⟩ := hW
          obtain ⟨t84, hW⟩ := hW
          obtain ⟨t85, hW⟩ := hW
          obtain ⟨t86, hW⟩ := hW
          obtain ⟨t87, hW⟩ := hW
          obtain ⟨t88, hW⟩ := hW
          obtain ⟨t89, hW⟩ := hW
          obtain ⟨t90, hW⟩ := hW
          obtain ⟨t91, hW⟩ := hW
          obtain ⟨t92, hW⟩ := hW
          obtain ⟨t93, hW⟩ := hW
          obtain ⟨t94, hW⟩ := hW
          obtain ⟨t95, hW⟩ := hW
          obtain ⟨t96, hW⟩ := hW
          obtain ⟨t97, hW⟩ := hW
          obtain ⟨t98, hW⟩ := hW
          obtain ⟨t99, hW⟩ := hW
          obtain ⟨t100, hW⟩ := hW
          obtain ⟨t101, hW⟩ := hW
          obtain ⟨t102, hW⟩ := hW
          obtain ⟨t103, hW⟩ := hW
          obtain ⟨t104, hW⟩ := hW
          obtain ⟨t105, hW⟩ := hW
          obtain ⟨t106, hW⟩ := hW
          obtain ⟨t107, hW⟩ := hW
          obtain ⟨t108, hW⟩ := hW
          obtain ⟨t109, hW⟩ := hW
          obtain ⟨t110, hW⟩ := hW
          obtain ⟨t111, hW⟩ := hW
          obtain ⟨t112, hW⟩ := hW
          obtain ⟨t113, hW⟩ := hW
          obtain ⟨t114, hW⟩ := hW
          obtain ⟨t115, hW⟩ := hW
          obtain ⟨t116, hW⟩ := hW
          obtain ⟨t117, hW⟩ := hW
          obtain ⟨t118, hW⟩ := hW
          obtain ⟨t119, hW⟩ := hW
          obtain ⟨t120, hW⟩ := hW
          obtain ⟨t121, hW⟩ := hW
          obtain ⟨t122, hW⟩ := hW
          obtain ⟨t123, hW⟩ := hW
          obtain ⟨t124, hW⟩ := hW
          obtain ⟨t125, hW⟩ := hW
          obtain ⟨t126, hW⟩ := hW
          obtain ⟨t127, hW⟩ := hW
          obtain ⟨t128, hW⟩ := hW
          obtain ⟨t129, hW⟩ := hW
          obtain ⟨t130, hW⟩ := hW
          obtain ⟨t131, hW⟩ := hW
          obtain ⟨t132, hW⟩ := hW
          obtain ⟨t133, hW⟩ := hW
          obtain ⟨t134, hW⟩ := hW
          obtain ⟨t135, hW⟩ := hW
          obtain ⟨t136, hW⟩ := hW
          obtain ⟨t137, hW⟩ := hW
          obtain ⟨t138, hW⟩ := hW
          obtain ⟨t139, hW⟩ := hW
          obtain ⟨t140, hW⟩ := hW
          obtain ⟨t141, hW⟩ := hW
          obtain ⟨t142, hW⟩ := hW
          obtain ⟨t143, hW⟩ := hW
          obtain ⟨t144, hW⟩ := hW
          obtain ⟨t145, hW⟩ := hW
          obtain ⟨t146, hW⟩ := hW
          obtain ⟨t147, hW⟩ := hW
          obtain ⟨t148, hW⟩ := hW
          obtain ⟨t149, hW⟩ := hW
          obtain ⟨t150, hW⟩ := hW
          obtain ⟨t151, hW⟩ := hW
          obtain ⟨t152, hW⟩ := hW
          obtain ⟨t153, hW⟩ := hW
          obtain ⟨t154, hW⟩ := hW
          obtain ⟨t155, hW⟩ := hW
          obtain ⟨t156, hW⟩ := hW
          obtain ⟨t157, hW⟩ := hW
          obtain ⟨t158, hW⟩ := hW
          obtain ⟨t159, hW⟩ := hW
          obtain ⟨t160, hW⟩ := hW
          obtain ⟨t161, hW⟩ := hW
          obtain ⟨t162, hW⟩ := hW
          obtain ⟨t163, hW⟩ := hW
          obtain ⟨t164, hW⟩ := hW
          obtain ⟨t165, hW⟩ := hW
          obtain ⟨t166, hW⟩ := hW
          obtain ⟨t167, hW⟩ := hW
          obtain ⟨t168, hW⟩ := hW
          obtain ⟨t169, hW⟩ := hW
          obtain ⟨t170, hW⟩ := hW
          obtain ⟨t171, hW⟩ := hW
          obtain ⟨t172, hW⟩ := hW
          obtain ⟨t173, hW⟩ := hW
          obtain ⟨t174, hW⟩ := hW
          obtain ⟨t175, hW⟩ := hW
          obtain ⟨t176, hW⟩ := hW
          obtain ⟨t177, hW⟩ := hW
          obtain ⟨t178, hW⟩ := hW
          obtain ⟨t179, hW⟩ := hW
          obtain ⟨t180, hW⟩ := hW
          obtain ⟨t181, hW⟩ := hW
          obtain ⟨t182, hW⟩ := hW
          obtain ⟨t183, hW⟩ := hW
          obtain ⟨t184, hW⟩ := hW
          obtain ⟨t185, hW⟩ := hW
          obtain ⟨t186, hW⟩ := hW
          obtain ⟨t187, hW⟩ := hW
          obtain ⟨t188, hW⟩ := hW
          obtain ⟨t189, hW⟩ := hW
          obtain ⟨t190, hW⟩ := hW
          obtain ⟨t191, hW⟩ := hW
          obtain ⟨t192, hW⟩ := hW
          obtain ⟨t193, hW⟩ := hW
          obtain ⟨t194, hW⟩ := hW
          obtain ⟨t195, hW⟩ := hW
          obtain ⟨t196, hW⟩ := hW
          obtain ⟨t197, hW⟩ := hW
          obtain ⟨t198, hW⟩ := hW
          obtain ⟨t199, hW⟩ := hW
          obtain ⟨t200, hW⟩ := hW
          obtain ⟨t201, hW⟩ := hW
          obtain ⟨t202, hW⟩ := hW
          obtain ⟨t203, hW⟩ := hW
          obtain ⟨t204, hW⟩ := hW
          obtain ⟨t205, hW⟩ := hW
          obtain ⟨t206, hW⟩ := hW
          obtain ⟨t207, hW⟩ := hW
          obtain ⟨t208, hW⟩ := hW
          obtain ⟨t209, hW⟩ := hW
          obtain ⟨t210, hW⟩ := hW
          obtain ⟨t211, hW⟩ := hW
          obtain ⟨t212, hW⟩ := hW
          obtain ⟨t213, hW⟩ := hW
          obtain ⟨t214, hW⟩ := hW
          obtain ⟨t215, hW⟩ := hW
          obtain ⟨t216, hW⟩ := hW
          obtain ⟨t217, hW⟩ := hW
          obtain ⟨t218, hW⟩ := hW
          obtain ⟨t219, hW⟩ := hW
          obtain ⟨t220, hW⟩ := hW
          obtain ⟨t221, hW⟩ := hW
          obtain ⟨t222, hW⟩ := hW
          obtain ⟨t223, hW⟩ := hW
          obtain ⟨t224, hW⟩ := hW
          obtain ⟨t225, hW⟩ := hW
          obtain ⟨t226, hW⟩ := hW
          obtain ⟨t227, hW⟩ := hW
          obtain ⟨t228, hW⟩ := hW
          obtain ⟨t229, hW⟩ := hW
          obtain ⟨t230, hW⟩ := hW
          obtain ⟨t231, hW⟩ := hW
          obtain ⟨t232, hW⟩ := hW
          obtain ⟨t233, hW⟩ := hW
          obtain ⟨t234, hW⟩ := hW
          obtain ⟨t235, hW⟩ := hW
          obtain ⟨t236, hW⟩ := hW
          obtain ⟨t237, hW⟩ := hW
          obtain ⟨t238, hW⟩ := hW
          obtain ⟨t239, hW⟩ := hW
          obtain ⟨t240, hW⟩ := hW
          obtain ⟨t241, hW⟩ := hW
          obtain ⟨t242, hW⟩ := hW
          obtain ⟨t243, hW⟩ := hW
          obtain ⟨t244, hW⟩ := hW
          obtain ⟨t245, hW⟩ := hW
          obtain ⟨t246, hW⟩ := hW
          obtain ⟨t247, hW⟩ := hW
          obtain ⟨t248, hW⟩ := hW
          obtain ⟨t249, hW⟩ := hW
          obtain ⟨t250, hW⟩ := hW
          obtain ⟨t251, hW⟩ := hW
          obtain ⟨t252, hW⟩ := hW
          obtain ⟨t253, hW⟩ := hW
          obtain ⟨t254, hW⟩ := hW
          obtain ⟨t255, hW⟩ := hW
          obtain ⟨t256, hW⟩ := hW
          obtain ⟨t257, hW⟩ := hW
          obtain ⟨t258, hW⟩ := hW
          obtain ⟨t259, hW⟩ := hW
          obtain ⟨t260, hW⟩ := hW
          obtain ⟨t261, hW⟩ := hW
          obtain ⟨t262, hW⟩ := hW
          obtain ⟨t263, hW⟩ := hW
          obtain ⟨t264, hW⟩ := hW
          obtain ⟨t265, hW⟩ := hW
          obtain ⟨t266, hW⟩ := hW
          obtain ⟨t267, hW⟩ := hW
          obtain ⟨t268, hW⟩ := hW
          obtain ⟨t269, hW⟩ := hW
          obtain ⟨t270, hW⟩ := hW
          obtain ⟨t271, hW⟩ := hW
          obtain ⟨t272, hW⟩ := hW
          obtain ⟨t273, hW⟩ := hW
          obtain ⟨t274, hW⟩ := hW
          obtain ⟨t275, hW⟩ := hW
          obtain ⟨t276, hW⟩ := hW
          obtain ⟨t277, hW⟩ := hW
          obtain ⟨t278, hW⟩ := hW
          obtain ⟨t279, hW⟩ := hW
          obtain ⟨t280, hW⟩ := hW
          obtain ⟨t281, hW⟩ := hW
          obtain ⟨t282, hW⟩ := hW
          obtain ⟨t283, hW⟩ := hW
          obtain ⟨t284, hW⟩ := hW
          obtain ⟨t285, hW⟩ := hW
          obtain ⟨t286, hW⟩ := hW
          obtain ⟨A', N', ⟨hS', hN'⟩, rfl⟩ := hW
          have HS' : Hid _ := hS'
          clear hS' HKK HS HX HR3
          go_wp2
          refine ⟨?_, ?_⟩
          · unfold WI WK
            exact ⟨k + 1, ⟨by omega, by omega⟩, _, _, _, _, _, _, _, _, _, _, _, _, _, _, _, _, _, _, _, _, _, _, _, _, _, _, _, _, _, _, _, _, _, _, _, _, _, _, _, _, _, _, _, _, _, _, _, _, _, _, _, _, _, _, _, _, _, _, _, _, _, _, _, _, _, _, _, _, _, _, _, _, _, _, _, _, _, _, _, _, _, _, _, _, _, _, _, _, _, _, _, _, _, _, _, _, _, _, _, _, _, _, _, _, _, _, _, _, _, _, _, _, _, _, _, _, _, _, _, _, _, _, _, _, _, _, _, _, _, _, _, _, _, _, _, _, _, _, _, _, _, _, _, _, _, _, _, _, _, _, _, _, _, _, _, _, _, _, _, _, _, _, _, _, _, _, _, _, _, _, _, _, _, _, _, _, _, _, _, _, _, _, _, _, _, _, _, _, _, _, _, _, _, _, _, _, _, _, _, _, _, _, _, _, _, _, _, _, _, _, _, _, _, _, _, _, _, _, _, _, _, _, _, _, _, _, _, _, _, _, _, _, _, _, _, _, _, _, _, _, _, _, _, _, _, _, _, _, _, _, _, _, _, _, _, _, _, _, _, _, _, _, _, _, _, _, _, _, _, _, _, _, _, _, _, _, _, _, _, _, _, _, ⟨HS'.out, hN'⟩, by go_num⟩
          · simp [Wmu, intOf]
            omega
        exact h2
      clear HKK
      have hS0 := HS.out.old (al_below wc (.cells #[.int .i64 0, .int .i64 0, .int .i64 0, .int .i64 0] 31))
      have hV0 := VP.new HS.out 31
      have HS0 : Hid (PS w x y n rows size A A N (wc.alloc (.cells #[.int .i64 0, .int .i64 0, .int .i64 0, .int .i64 0] 31))) := hS0
      have HV0 : Hid (VP w x y n wc.heap.size (wc.alloc (.cells #[.int .i64 0, .int .i64 0, .int .i64 0, .int .i64 0] 31)) (fun _ => 0)) := hV0
      clear hS0 hV0 HS
      refine wp_seq_k fun K hK => ?_
      have HK : Hid _ := hK
      clear hK
      go_wp2
      refine HK.out _ _ ?_
      clear HK K
      refine wp_seq_k fun K hK => ?_
      refine pv n rows size n3 c3 a3 x y w k wc.heap.size N A LL F _ _ _ _ _ _ _ _ _ _ _ _ _ _ _ _ _ _ _ _ _ _ _ _ _ _ _ _ _ _ _ _ _ _ _ _ _ _ _ _ _ _ _ _ _ _ _ _ _ _ _ _ _ _ _ _ _ _ _ _ _ _ _ _ _ _ _ _ _ _ _ _ _ _ _ _ _ _ _ _ _ _ _ _ _ _ _ _ _ _ _ _ _ _ _ _ _ _ _ _ _ _ _ _ _ _ _ _ _ _ _ _ _ _ _ _ _ _ _ _ _ _ _ _ _ _ _ _ _ _ _ _ _ _ _ _ _ _ _ _ _ _ _ _ _ _ _ _ _ _ _ _ _ _ _ _ _ _ _ _ _ _ _ _ _ _ _ _ _ _ _ _ _ _ _ _ _ _ _ _ _ _ _ _ _ _ _ _ _ _ _ _ _ _ _ _ _ _ _ _ _ _ _ _ _ _ _ _ _ _ _ _ _ _ _ _ _ _ _ _ _ _ _ _ _ _ _ _ _ _ _ _ _ _ _ _ _ _ _ _ _ _ _ _ _ _ _ _ _ _ _ _ _ _ _ _ _ _ _ _ _ _ _ _ _ _ _ _ _ _ _ _ _ _ _ _ _ _ _ _ _ HS0.out HV0.out HR3.out hlt ?_
      intro y16 y88 y89 y90 y91 y92 y93 y94 y95 y96 y97 y98 y99 y100 y101 y102 y103 y104 y105 y106 y107 y108 y109 w1 hS1 hV1
      refine then_k (hK _ _ ?_)
      clear hK K
      have c3 := hV1.at 3 (by omega)
      have C := block_any size (vG LL F k 3) (by omega) w1
      have HS1 : Hid (PS w x y n rows size A A N w1) := hS1
      have HV1 : Hid (VP w x y n wc.heap.size w1 (vG LL F k)) := hV1
      clear hS1 hV1 HS0 HV0
      generalize vG LL F k 3 = y3 at c3 C
      refine wp_seq_k fun K hK => ?_
      have HK : Hid _ := hK
      clear hK
      go_wp2_with fail
      refine C.mono ?_
      rintro e w2 ⟨t, rfl, _, hB2⟩
      have HS2 : Hid (PS w x y n rows size A A N w2) := HS1.out.old hB2
      have HV2 : Hid (VP w x y n wc.heap.size w2 (vG LL F k)) := HV1.out.old hB2
      clear C hB2 HS1 HV1 c3
      go_wp2
      refine HK.out _ _ ?_
      clear HK K
      by_cases h0 : vG LL F k 0 = 0
      · exact p_write0 n rows size n3 c3 a3 x y w k (3 * (k + 1)) wc.heap.size N A (vG LL F k) t (sb t) _ _ _ _ _ _ _ _ _ _ _ _ _ _ _ _ _ _ _ _ _ _ _ _ _ _ _ _ _ _ _ _ _ _ _ _ _ _ _ _ _ _ _ _ _ _ _ _ _ _ _ _ _ _ _ _ _ _ _ _ _ _ _ _ _ _ _ _ _ _ _ _ _ _ _ _ _ _ _ _ _ _ _ _ _ _ _ _ _ _ _ _ _ _ _ _ _ _ _ _ _ _ _ _ _ _ _ _ _ _ _ _ _ _ _ _ _ _ _ _ _ _ _ _ _ _ _ _ _ _ _ _ _ _ _ _ _ _ _ _ _ _ _ _ _ _ _ _ _ _ _ _ _ _ _ _ _ _ _ _ _ _ _ _ _ _ _ _ _ _ _ _ _ _ _ _ _ _ _ _ _ _ _ _ _ _ _ _ _ _ _ _ _ _ _ _ _ _ _ _ _ _ _ _ _ _ _ _ _ _ _ _ _ _ _ _ _ _ _ _ _ _ _ _ _ _ _ _ _ _ _ _ _ _ _ _ _ _ _ _ _ _ _ _ _ _ _ _ _ _ _ _ _ _ _ _ _ _ _ _ _ _ _ _ _ _ _ _ _ _ _ _ _ _ _ _ _ _ _ _ hn hr hz HG (by omega) (vG_le HF.out hlt) HS2.out HV2.out (by omega) h0 rfl (HQQ.out _)
      · by_cases h1 : vG LL F k 0 = 1
        · exact p_write1 n rows size n3 c3 a3 x y w k (3 * (k + 1)) wc.heap.size N A (vG LL F k) t (sb t) _ _ _ _ _ _ _ _ _ _ _ _ _ _ _ _ _ _ _ _ _ _ _ _ _ _ _ _ _ _ _ _ _ _ _ _ _ _ _ _ _ _ _ _ _ _ _ _ _ _ _ _ _ _ _ _ _ _ _ _ _ _ _ _ _ _ _ _ _ _ _ _ _ _ _ _ _ _ _ _ _ _ _ _ _ _ _ _ _ _ _ _ _ _ _ _ _ _ _ _ _ _ _ _ _ _ _ _ _ _ _ _ _ _ _ _ _ _ _ _ _ _ _ _ _ _ _ _ _ _ _ _ _ _ _ _ _ _ _ _ _ _ _ _ _ _ _ _ _ _ _ _ _ _ _ _ _ _ _ _ _ _ _ _ _ _ _ _ _ _ _ _ _ _ _ _ _ _ _ _ _ _ _ _ _ _ _ _ _ _ _ _ _ _ _ _ _ _ _ _ _ _ _ _ _ _ _ _ _ _ _ _ _ _ _ _ _ _ _ _ _ _ _ _ _ _ _ _ _ _ _ _ _ _ _ _ _ _ _ _ _ _ _ _ _ _ _ _ _ _ _ _ _ _ _ _ _ _ _ _ _ _ _ _ _ _ _ _ _ _ _ _ _ _ _ _ _ _ _ _ hn hr hz HG (by omega) (vG_le HF.out hlt) HS2.out HV2.out (by omega) h1 rfl (HQQ.out _)
        · by_cases h2 : vG LL F k 0 = 2
          · exact p_fail n rows size n3 c3 a3 x y w k (3 * (k + 1)) wc.heap.size N A (vG LL F k) t (sb t) _ _ _ _ _ _ _ _ _ _ _ _ _ _ _ _ _ _ _ _ _ _ _ _ _ _ _ _ _ _ _ _ _ _ _ _ _ _ _ _ _ _ _ _ _ _ _ _ _ _ _ _ _ _ _ _ _ _ _ _ _ _ _ _ _ _ _ _ _ _ _ _ _ _ _ _ _ _ _ _ _ _ _ _ _ _ _ _ _ _ _ _ _ _ _ _ _ _ _ _ _ _ _ _ _ _ _ _ _ _ _ _ _ _ _ _ _ _ _ _ _ _ _ _ _ _ _ _ _ _ _ _ _ _ _ _ _ _ _ _ _ _ _ _ _ _ _ _ _ _ _ _ _ _ _ _ _ _ _ _ _ _ _ _ _ _ _ _ _ _ _ _ _ _ _ _ _ _ _ _ _ _ _ _ _ _ _ _ _ _ _ _ _ _ _ _ _ _ _ _ _ _ _ _ _ _ _ _ _ _ _ _ _ _ _ _ _ _ _ _ _ _ _ _ _ _ _ _ _ _ _ _ _ _ _ _ _ _ _ _ _ _ _ _ _ _ _ _ _ _ _ _ _ _ _ _ _ _ _ _ _ _ _ _ _ _ _ _ _ _ _ _ _ _ _ _ _ _ _ _ hn hr hz HG (by omega) (vG_le HF.out hlt) HS2.out HV2.out (by omega) h2 rfl (HQQ.out _)
          · by_cases h3 : vG LL F k 0 = 3
            · exact p_rep n rows size n3 c3 a3 x y w k (3 * (k + 1)) wc.heap.size N A (vG LL F k) t (sb t) _ _ _ _ _ _ _ _ _ _ _ _ _ _ _ _ _ _ _ _ _ _ _ _ _ _ _ _ _ _ _ _ _ _ _ _ _ _ _ _ _ _ _ _ _ _ _ _ _ _ _ _ _ _ _ _ _ _ _ _ _ _ _ _ _ _ _ _ _ _ _ _ _ _ _ _ _ _ _ _ _ _ _ _ _ _ _ _ _ _ _ _ _ _ _ _ _ _ _ _ _ _ _ _ _ _ _ _ _ _ _ _ _ _ _ _ _ _ _ _ _ _ _ _ _ _ _ _ _ _ _ _ _ _ _ _ _ _ _ _ _ _ _ _ _ _ _ _ _ _ _ _ _ _ _ _ _ _ _ _ _ _ _ _ _ _ _ _ _ _ _ _ _ _ _ _ _ _ _ _ _ _ _ _ _ _ _ _ _ _ _ _ _ _ _ _ _ _ _ _ _ _ _ _ _ _ _ _ _ _ _ _ _ _ _ _ _ _ _ _ _ _ _ _ _ _ _ _ _ _ _ _ _ _ _ _ _ _ _ _ _ _ _ _ _ _ _ _ _ _ _ _ _ _ _ _ _ _ _ _ _ _ _ _ _ _ _ _ _ _ _ _ _ _ _ _ _ _ _ _ hn hr hz HG (by omega) (vG_le HF.out hlt) HS2.out HV2.out (by omega) h3 rfl (HQQ.out _)
            · by_cases h4 : vG LL F k 0 = 4
              · exact p_reb n rows size n3 c3 a3 x y w k (3 * (k + 1)) wc.heap.size N A (vG LL F k) t (sb t) _ _ _ _ _ _ _ _ _ _ _ _ _ _ _ _ _ _ _ _ _ _ _ _ _ _ _ _ _ _ _ _ _ _ _ _ _ _ _ _ _ _ _ _ _ _ _ _ _ _ _ _ _ _ _ _ _ _ _ _ _ _ _ _ _ _ _ _ _ _ _ _ _ _ _ _ _ _ _ _ _ _ _ _ _ _ _ _ _ _ _ _ _ _ _ _ _ _ _ _ _ _ _ _ _ _ _ _ _ _ _ _ _ _ _ _ _ _ _ _ _ _ _ _ _ _ _ _ _ _ _ _ _ _ _ _ _ _ _ _ _ _ _ _ _ _ _ _ _ _ _ _ _ _ _ _ _ _ _ _ _ _ _ _ _ _ _ _ _ _ _ _ _ _ _ _ _ _ _ _ _ _ _ _ _ _ _ _ _ _ _ _ _ _ _ _ _ _ _ _ _ _ _ _ _ _ _ _ _ _ _ _ _ _ _ _ _ _ _ _ _ _ _ _ _ _ _ _ _ _ _ _ _ _ _ _ _ _ _ _ _ _ _ _ _ _ _ _ _ _ _ _ _ _ _ _ _ _ _ _ _ _ _ _ _ _ _ _ _ _ _ _ _ _ _ _ _ _ _ _ hn hr hz HG (by omega) (vG_le HF.out hlt) HS2.out HV2.out (by omega) h4 rfl (HQQ.out _)
              · exact p_poke n rows size n3 c3 a3 x y w k (3 * (k + 1)) wc.heap.size N A (vG LL F k) t (sb t) _ _ _ _ _ _ _ _ _ _ _ _ _ _ _ _ _ _ _ _ _ _ _ _ _ _ _ _ _ _ _ _ _ _ _ _ _ _ _ _ _ _ _ _ _ _ _ _ _ _ _ _ _ _ _ _ _ _ _ _ _ _ _ _ _ _ _ _ _ _ _ _ _ _ _ _ _ _ _ _ _ _ _ _ _ _ _ _ _ _ _ _ _ _ _ _ _ _ _ _ _ _ _ _ _ _ _ _ _ _ _ _ _ _ _ _ _ _ _ _ _ _ _ _ _ _ _ _ _ _ _ _ _ _ _ _ _ _ _ _ _ _ _ _ _ _ _ _ _ _ _ _ _ _ _ _ _ _ _ _ _ _ _ _ _ _ _ _ _ _ _ _ _ _ _ _ _ _ _ _ _ _ _ _ _ _ _ _ _ _ _ _ _ _ _ _ _ _ _ _ _ _ _ _ _ _ _ _ _ _ _ _ _ _ _ _ _ _ _ _ _ _ _ _ _ _ _ _ _ _ _ _ _ _ _ _ _ _ _ _ _ _ _ _ _ _ _ _ _ _ _ _ _ _ _ _ _ _ _ _ _ _ _ _ _ _ _ _ _ _ _ _ _ _ _ _ _ _ _ _ hn hr hz HG (by omega) (vG_le HF.out hlt) HS2.out HV2.out (by omega) ⟨h0, h1, h2, h3, h4⟩ rfl (HQQ.out _)
    · have q1 : (k : Int) < (n3 : Int) := by omega
      have q2 : (60 : Int) ≤ (k : Int) := by omega
      have HX : Hid _ := hexit
      have HS : Hid _ := hS
      clear hS hexit r3
      go_wp2
      refine HX.out _ _ ?_
      unfold WI WK
      exact ⟨k, ⟨hk1, hk2⟩, _, _, _, _, _, _, _, _, _, _, _, _, _, _, _, _, _, _, _, _, _, _, _, _, _, _, _, _, _, _, _, _, _, _, _, _, _, _, _, _, _, _, _, _, _, _, _, _, _, _, _, _, _, _, _, _, _, _, _, _, _, _, _, _, _, _, _, _, _, _, _, _, _, _, _, _, _, _, _, _, _, _, _, _, _, _, _, _, _, _, _, _, _, _, _, _, _, _, _, _, _, _, _, _, _, _, _, _, _, _, _, _, _, _, _, _, _, _, _, _, _, _, _, _, _, _, _, _, _, _, _, _, _, _, _, _, _, _, _, _, _, _, _, _, _, _, _, _, _, _, _, _, _, _, _, _, _, _, _, _, _, _, _, _, _, _, _, _, _, _, _, _, _, _, _, _, _, _, _, _, _, _, _, _, _, _, _, _, _, _, _, _, _, _, _, _, _, _, _, _, _, _, _, _, _, _, _, _, _, _, _, _, _, _, _, _, _, _, _, _, _, _, _, _, _, _, _, _, _, _, _, _, _, _, _, _, _, _, _, _, _, _, _, _, _, _, _, _, _, _, _, _, _, _, _, _, _, _, _, _, _, _, _, _, _, _, _, _, _, _, _, _, _, _, _, _, _, _, _, _, _, _, ⟨HS.out, hN⟩, rfl⟩
  · have q1 : (n3 : Int) ≤ (k : Int) := by omega
    have HX : Hid _ := hexit
    have HS : Hid _ := hS
    clear hS hexit r3
    go_wp2
    refine HX.out _ _ ?_
    unfold WI WK
    exact ⟨k, ⟨hk1, hk2⟩, _, _, _, _, _, _, _, _, _, _, _, _, _, _, _, _, _, _, _, _, _, _, _, _, _, _, _, _, _, _, _, _, _, _, _, _, _, _, _, _, _, _, _, _, _, _, _, _, _, _, _, _, _, _, _, _, _, _, _, _, _, _, _, _, _, _, _, _, _, _, _, _, _, _, _, _, _, _, _, _, _, _, _, _, _, _, _, _, _, _, _, _, _, _, _, _, _, _, _, _, _, _, _, _, _, _, _, _, _, _, _, _, _, _, _, _, _, _, _, _, _, _, _, _, _, _, _, _, _, _, _, _, _, _, _, _, _, _, _, _, _, _, _, _, _, _, _, _, _, _, _, _, _, _, _, _, _, _, _, _, _, _, _, _, _, _, _, _, _, _, _, _, _, _, _, _, _, _, _, _, _, _, _, _, _, _, _, _, _, _, _, _, _, _, _, _, _, _, _, _, _, _, _, _, _, _, _, _, _, _, _, _, _, _, _, _, _, _, _, _, _, _, _, _, _, _, _, _, _, _, _, _, _, _, _, _, _, _, _, _, _, _, _, _, _, _, _, _, _, _, _, _, _, _, _, _, _, _, _, _, _, _, _, _, _, _, _, _, _, _, _, _, _, _, _, _, _, _, _, _, _, _, ⟨HS.out, hN⟩, rfl⟩

set_option linter.unusedVariables false in
set_option maxRecDepth 1000000 in
set_option maxHeartbeats 8000000 in
theorem loopI (n rows size n3 c3 : Nat) (a3 : Option Addr) (x : PAd) (y : RAd) (w : World) (LL : Nat → Nat) (F : Nat → Nat → Int) (hn : 3 ≤ n ∧ n ≤ 10) (hr : 1 ≤ rows ∧ rows ≤ 20) (hz : 1 ≤ size ∧ size ≤ 16) (HG : Hid (Handle w)) (HF : Hid (∀ i j, i < n3 → j < LL i → F i j ≤ 9223372036854775807)) (r3 : RdII w (.slice a3 n3 c3) n3 LL F) (hn3 : n3 ≤ 5864062014634) (Q0 : Exit → Act → World → Prop) (k N : Nat) (A : Arr) (u4 u5 u6 u7 u8 u9 u11 u12 u15 u16 u17 u18 u19 u20 u21 u22 u23 u24 u25 u26 u27 u28 u29 u30 u31 u32 u33 u34 u35 u36 u37 u38 u39 u40 u41 u42 u43 u44 u45 u46 u47 u48 u49 u50 u51 u52 u53 u54 u55 u56 u57 u58 u59 u60 u61 u62 u63 u64 u65 u66 u67 u68 u69 u70 u71 u72 u73 u74 u75 u76 u77 u78 u79 u80 u81 u82 u83 u84 u85 u86 u87 u88 u89 u90 u91 u92 u93 u94 u95 u96 u97 u98 u99 u100 u101 u102 u103 u104 u105 u106 u107 u108 u109 u110 u111 u112 u113 u114 u115 u116 u117 u118 u119 u120 u121 u122 u123 u124 u125 u126 u127 u128 u129 u130 u131 u132 u133 u134 u135 u136 u137 u138 u139 u140 u141 u142 u143 u144 u145 u146 u147 u148 u149 u150 u151 u152 u153 u154 u155 u156 u157 u158 u159 u160 u161 u162 u163 u164 u165 u166 u167 u168 u169 u170 u171 u172 u173 u174 u175 u176 u177 u178 u179 u180 u181 u182 u183 u184 u185 u186 u187 u188 u189 u190 u191 u192 u193 u194 u195 u196 u197 u198 u199 u200 u201 u202 u203 u204 u205 u206 u207 u208 u209 u210 u211 u212 u213 u214 u215 u216 u217 u218 u219 u220 u221 u222 u223 u224 u225 u226 u227 u228 u229 u230 u231 u232 u233 u234 u235 u236 u237 u238 u239 u240 u241 u242 u243 u244 u245 u246 u247 u248 u249 u250 u251 u252 u253 u254 u255 u256 u257 u258 u259 u260 u261 u262 u263 u264 u265 u266 u267 u268 u269 u270 u271 u272 u273 u274 u275 u276 u277 u278 u279 u280 u281 u282 u283 u284 u285 u286 : Value) (w' : World)
    (hrel : (k ≤ n3 ∧ k ≤ 60) ∧ PS w x y n rows size A A N w' ∧ N ≤ 3 * k) (hexit : ∀ a w', WI n rows size n3 c3 a3 x y w a w' → Q0 (.exit 0) a w') :
    Code.wp Tryz.prog (Code.loop (cut [1, 1, 1, 1, 1, 1, 1, 0, 1, 2, 5] (Tryz.f3.body.getD .skip))) Q0 ⟨#[.int .i64 n, .int .i64 rows, .int .i64 size, .slice a3 n3 c3, u4, u5, u6, u7, u8, u9, .pointer (some ⟨x.p, 0, none⟩), u11, u12, .pointer (some ⟨y.p, 0, none⟩), .int .i64 ((k : Nat) : Int), u15, u16, u17, u18, u19, u20, u21, u22, u23, u24, u25, u26, u27, u28, u29, u30, u31, u32, u33, u34, u35, u36, u37, u38, u39, u40, u41, u42, u43, u44, u45, u46, u47, u48, u49, u50, u51, u52, u53, u54, u55, u56, u57, u58, u59, u60, u61, u62, u63, u64, u65, u66, u67, u68, u69, u70, u71, u72, u73, u74, u75, u76, u77, u78, u79, u80, u81, u82, u83, u84, u85, u86, u87, u88, u89, u90, u91, u92, u93, u94, u95, u96, u97, u98, u99, u100, u101, u102, u103, u104, u105, u106, u107, u108, u109, u110, u111, u112, u113, u114, u115, u116, u117, u118, u119, u120, u121, u122, u123, u124, u125, u126, u127, u128, u129, u130, u131, u132, u133, u134, u135, u136, u137, u138, u139, u140, u141, u142, u143, u144, u145, u146, u147, u148, u149, u150, u151, u152, u153, u154, u155, u156, u157, u158, u159, u160, u161, u162, u163, u164, u165, u166, u167, u168, u169, u170, u171, u172, u173, u174, u175, u176, u177, u178, u179, u180, u181, u182, u183, u184, u185, u186, u187, u188, u189, u190, u191, u192, u193, u194, u195, u196, u197, u198, u199, u200, u201, u202, u203, u204, u205, u206, u207, u208, u209, u210, u211, u212, u213, u214, u215, u216, u217, u218, u219, u220, u221, u222, u223, u224, u225, u226, u227, u228, u229, u230, u231, u232, u233, u234, u235, u236, u237, u238, u239, u240, u241, u242, u243, u244, u245, u246, u247, u248, u249, u250, u251, u252, u253, u254, u255, u256, u257, u258, u259, u260, u261, u262, u263, u264, u265, u266, u267, u268, u269, u270, u271, u272, u273, u274, u275, u276, u277, u278, u279, u280, u281, u282, u283, u284, u285, u286], []⟩ w' := by
  refine wp_loop (WI n rows size n3 c3 a3 x y w) (fun a _ => Wmu n3 a) ?_ (fun a w'' hI => roundI n rows size n3 c3 a3 x y w LL F hn hr hz HG HF r3 hn3 Q0 hexit a w'' hI)
  unfold WI WK
  exact ⟨k, hrel.1, u4, u5, u6, u7, u8, u9, u11, u12, u15, u16, u17, u18, u19, u20, u21, u22, u23, u24, u25, u26, u27, u28, u29, u30, u31, u32, u33, u34, u35, u36, u37, u38, u39, u40, u41, u42, u43, u44, u45, u46, u47, u48, u49, u50, u51, u52, u53, u54, u55, u56, u57, u58, u59, u60, u61, u62, u63, u64, u65, u66, u67, u68, u69, u70, u71, u72, u73, u74, u75, u76, u77, u78, u79, u80, u81, u82, u83, u84, u85, u86, u87, u88, u89, u90, u91, u92, u93, u94, u95, u96, u97, u98, u99, u100, u101, u102, u103, u104, u105, u106, u107, u108, u109, u110, u111, u112, u113, u114, u115, u116, u117, u118, u119, u120, u121, u122, u123, u124, u125, u126, u127, u128, u129, u130, u131, u132, u133, u134, u135, u136, u137, u138, u139, u140, u141, u142, u143, u144, u145, u146, u147, u148, u149, u150, u151, u152, u153, u154, u155, u156, u157, u158, u159, u160, u161, u162, u163, u164, u165, u166, u167, u168, u169, u170, u171, u172, u173, u174, u175, u176, u177, u178, u179, u180, u181, u182, u183, u184, u185, u186, u187, u188, u189, u190, u191, u192, u193, u194, u195, u196, u197, u198, u199, u200, u201, u202, u203, u204, u205, u206, u207, u208, u209, u210, u211, u212, u213, u214, u215, u216, u217, u218, u219, u220, u221, u222, u223, u224, u225, u226, u227, u228, u229, u230, u231, u232, u233, u234, u235, u236, u237, u238, u239, u240, u241, u242, u243, u244, u245, u246, u247, u248, u249, u250, u251, u252, u253, u254, u255, u256, u257, u258, u259, u260, u261, u262, u263, u264, u265, u266, u267, u268, u269, u270, u271, u272, u273, u274, u275, u276, u277, u278, u279, u280, u281, u282, u283, u284, u285, u286, A, N, hrel.2, rfl⟩
end Go.Proofs.YtilfjahbdlepjaaGreatDoor
