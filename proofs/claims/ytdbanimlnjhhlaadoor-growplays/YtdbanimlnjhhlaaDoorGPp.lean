/- GrowPlays, a piece: walks over the program. -/
import Derived.Test.YtdbanimlnjhhlaaDoorGPo
namespace Go.Proofs.YtdbanimlnjhhlaaDoor
open Go.RowKit El Pol
set_option linter.unusedVariables false in
set_option maxRecDepth 1000000 in
set_option maxHeartbeats 8000000 in
theorem pround (m c0 n n2 c2 n3 c3 cn : Nat) (a0 a2 a3 an : Option Addr) (x : GP) (w : World) (u4 u5 u6 u7 u11 u30 u31 u32 u33 u34 u35 u36 u37 u38 u39 u40 u41 u42 u43 u44 u45 u46 u47 u48 u49 u50 u51 u52 u53 u54 u55 u56 u57 u58 u59 u60 : Value) (LL : Nat → Nat) (F : Nat → Nat → Int) (S3 : Nat → List El) (HG : Hid (Handle w)) (HR4 : Hid (RdT w (.slice a3 n3 c3) n3 S3)) (r3 : RdII w (.slice a2 n2 c2) n2 LL F) (hn3 : n2 ≤ 5864062014634) (Q0 : Exit → Act → World → Prop) (hexit : ∀ ac w', pWI m c0 n n2 c2 n3 c3 cn a0 a2 a3 an x w u4 u5 u6 u7 u11 u30 u31 u32 u33 u34 u35 u36 u37 u38 u39 u40 u41 u42 u43 u44 u45 u46 u47 u48 u49 u50 u51 u52 u53 u54 u55 u56 u57 u58 u59 u60 ac w' → Q0 (.exit 0) ac w') (ac : Act) (wc : World) (hI : pWI m c0 n n2 c2 n3 c3 cn a0 a2 a3 an x w u4 u5 u6 u7 u11 u30 u31 u32 u33 u34 u35 u36 u37 u38 u39 u40 u41 u42 u43 u44 u45 u46 u47 u48 u49 u50 u51 u52 u53 u54 u55 u56 u57 u58 u59 u60 ac wc) :
    Code.wp Tryd.prog (cut [1, 1, 1, 1, 1, 1, 1, 1, 1, 0, 1, 2, 5] (Tryd.f5.body.getD .skip)) (Exit.then (fun a' w'' => pWI m c0 n n2 c2 n3 c3 cn a0 a2 a3 an x w u4 u5 u6 u7 u11 u30 u31 u32 u33 u34 u35 u36 u37 u38 u39 u40 u41 u42 u43 u44 u45 u46 u47 u48 u49 u50 u51 u52 u53 u54 u55 u56 u57 u58 u59 u60 a' w'' ∧ pWmu n2 a' < pWmu n2 ac) Q0) ac wc := by
  unfold pWI at hI
  obtain ⟨k, ⟨hk1, hk2⟩, hI⟩ := hI
  unfold pWK at hI
  obtain ⟨u8, hI⟩ := hI
  obtain ⟨u9, hI⟩ := hI
  obtain ⟨u12, hI⟩ := hI
  obtain ⟨u16, hI⟩ := hI
  obtain ⟨u17, hI⟩ := hI
  obtain ⟨u18, hI⟩ := hI
  obtain ⟨u19, hI⟩ := hI
  obtain ⟨u20, hI⟩ := hI
  obtain ⟨u21, hI⟩ := hI
  obtain ⟨u22, hI⟩ := hI
  obtain ⟨u23, hI⟩ := hI
  obtain ⟨u24, hI⟩ := hI
  obtain ⟨u25, hI⟩ := hI
  obtain ⟨u26, hI⟩ := hI
  obtain ⟨u27, hI⟩ := hI
  obtain ⟨u28, hI⟩ := hI
  obtain ⟨u29, hI⟩ := hI
  obtain ⟨u61, hI⟩ := hI
  obtain ⟨u62, hI⟩ := hI
  obtain ⟨u63, hI⟩ := hI
  obtain ⟨u64, hI⟩ := hI
  obtain ⟨u65, hI⟩ := hI
  obtain ⟨u66, hI⟩ := hI
  obtain ⟨u67, hI⟩ := hI
  obtain ⟨u68, hI⟩ := hI
  obtain ⟨u69, hI⟩ := hI
  obtain ⟨u70, hI⟩ := hI
  obtain ⟨u71, hI⟩ := hI
  obtain ⟨u72, hI⟩ := hI
  obtain ⟨u73, hI⟩ := hI
  obtain ⟨u74, hI⟩ := hI
  obtain ⟨u75, hI⟩ := hI
  obtain ⟨u76, hI⟩ := hI
  obtain ⟨u77, hI⟩ := hI
  obtain ⟨u78, hI⟩ := hI
  obtain ⟨u79, hI⟩ := hI
  obtain ⟨u80, hI⟩ := hI
  obtain ⟨u81, hI⟩ := hI
  obtain ⟨u82, hI⟩ := hI
  obtain ⟨u83, hI⟩ := hI
  obtain ⟨u84, hI⟩ := hI
  obtain ⟨u85, hI⟩ := hI
  obtain ⟨u86, hI⟩ := hI
  obtain ⟨u87, hI⟩ := hI
  obtain ⟨u88, hI⟩ := hI
  obtain ⟨u89, hI⟩ := hI
  obtain ⟨u90, hI⟩ := hI
  obtain ⟨u91, hI⟩ := hI
  obtain ⟨u92, hI⟩ := hI
  obtain ⟨u93, hI⟩ := hI
  obtain ⟨u94, hI⟩ := hI
  obtain ⟨u95, hI⟩ := hI
  obtain ⟨u96, hI⟩ := hI
  obtain ⟨u97, hI⟩ := hI
  obtain ⟨u98, hI⟩ := hI
  obtain ⟨u99, hI⟩ := hI
  obtain ⟨u100, hI⟩ := hI
  obtain ⟨u101, hI⟩ := hI
  obtain ⟨u102, hI⟩ := hI
  obtain ⟨u103, hI⟩ := hI
  obtain ⟨u104, hI⟩ := hI
  obtain ⟨u105, hI⟩ := hI
  obtain ⟨u106, hI⟩ := hI
  obtain ⟨u107, hI⟩ := hI
  obtain ⟨u108, hI⟩ := hI
  obtain ⟨u109, hI⟩ := hI
  obtain ⟨u110, hI⟩ := hI
  obtain ⟨u111, hI⟩ := hI
  obtain ⟨u112, hI⟩ := hI
  obtain ⟨u113, hI⟩ := hI
  obtain ⟨u114, hI⟩ := hI
  obtain ⟨u115, hI⟩ := hI
  obtain ⟨u116, hI⟩ := hI
  obtain ⟨u117, hI⟩ := hI
  obtain ⟨u118, hI⟩ := hI
  obtain ⟨u119, hI⟩ := hI
  obtain ⟨u120, hI⟩ := hI
  obtain ⟨u121, hI⟩ := hI
  obtain ⟨u122, hI⟩ := hI
  obtain ⟨u123, hI⟩ := hI
  obtain ⟨u124, hI⟩ := hI
  obtain ⟨u125, hI⟩ := hI
  obtain ⟨u126, hI⟩ := hI
  obtain ⟨u127, hI⟩ := hI
  obtain ⟨u128, hI⟩ := hI
  obtain ⟨u129, hI⟩ := hI
  obtain ⟨u130, hI⟩ := hI
  obtain ⟨u131, hI⟩ := hI
  obtain ⟨u132, hI⟩ := hI
  obtain ⟨u133, hI⟩ := hI
  obtain ⟨u134, hI⟩ := hI
  obtain ⟨u135, hI⟩ := hI
  obtain ⟨u136, hI⟩ := hI
  obtain ⟨u137, hI⟩ := hI
  obtain ⟨u138, hI⟩ := hI
  obtain ⟨u139, hI⟩ := hI
  obtain ⟨u140, hI⟩ := hI
  obtain ⟨u141, hI⟩ := hI
  obtain ⟨u142, hI⟩ := hI
  obtain ⟨u143, hI⟩ := hI
  obtain ⟨u144, hI⟩ := hI
  obtain ⟨u145, hI⟩ := hI
  obtain ⟨u146, hI⟩ := hI
  obtain ⟨u147, hI⟩ := hI
  obtain ⟨u148, hI⟩ := hI
  obtain ⟨u149, hI⟩ := hI
  obtain ⟨u150, hI⟩ := hI
  obtain ⟨u151, hI⟩ := hI
  obtain ⟨u152, hI⟩ := hI
  obtain ⟨u153, hI⟩ := hI
  obtain ⟨u154, hI⟩ := hI
  obtain ⟨u155, hI⟩ := hI
  obtain ⟨u156, hI⟩ := hI
  obtain ⟨u157, hI⟩ := hI
  obtain ⟨u158, hI⟩ := hI
  obtain ⟨u159, hI⟩ := hI
  obtain ⟨u160, hI⟩ := hI
  obtain ⟨u161, hI⟩ := hI
  obtain ⟨u162, hI⟩ := hI
  obtain ⟨u163, hI⟩ := hI
  obtain ⟨u164, hI⟩ := hI
  obtain ⟨u165, hI⟩ := hI
  obtain ⟨u166, hI⟩ := hI
  obtain ⟨u167, hI⟩ := hI
  obtain ⟨u168, hI⟩ := hI
  obtain ⟨u169, hI⟩ := hI
  obtain ⟨u170, hI⟩ := hI
  obtain ⟨u171, hI⟩ := hI
  obtain ⟨u172, hI⟩ := hI
  obtain ⟨u173, hI⟩ := hI
  obtain ⟨u174, hI⟩ := hI
  obtain ⟨u175, hI⟩ := hI
  obtain ⟨u176, hI⟩ := hI
  obtain ⟨u177, hI⟩ := hI
  obtain ⟨u178, hI⟩ := hI
  obtain ⟨u179, hI⟩ := hI
  obtain ⟨u180, hI⟩ := hI
  obtain ⟨u181, hI⟩ := hI
  obtain ⟨u182, hI⟩ := hI
  obtain ⟨u183, hI⟩ := hI
  obtain ⟨u184, hI⟩ := hI
  obtain ⟨u185, hI⟩ := hI
  obtain ⟨u186, hI⟩ := hI
  obtain ⟨u187, hI⟩ := hI
  obtain ⟨u188, hI⟩ := hI
  obtain ⟨u189, hI⟩ := hI
  obtain ⟨u190, hI⟩ := hI
  obtain ⟨u191, hI⟩ := hI
  obtain ⟨u192, hI⟩ := hI
  obtain ⟨u193, hI⟩ := hI
  obtain ⟨u194, hI⟩ := hI
  obtain ⟨u195, hI⟩ := hI
  obtain ⟨u196, hI⟩ := hI
  obtain ⟨u197, hI⟩ := hI
  obtain ⟨u198, hI⟩ := hI
  obtain ⟨u199, hI⟩ := hI
  obtain ⟨u200, hI⟩ := hI
  obtain ⟨u201, hI⟩ := hI
  obtain ⟨u202, hI⟩ := hI
  obtain ⟨u203, hI⟩ := hI
  obtain ⟨u204, hI⟩ := hI
  obtain ⟨u205, hI⟩ := hI
  obtain ⟨u206, hI⟩ := hI
  obtain ⟨u207, hI⟩ := hI
  obtain ⟨u208, hI⟩ := hI
  obtain ⟨u209, hI⟩ := hI
  obtain ⟨u210, hI⟩ := hI
  obtain ⟨u211, hI⟩ := hI
  obtain ⟨u212, hI⟩ := hI
  obtain ⟨u213, hI⟩ := hI
  obtain ⟨u214, hI⟩ := hI
  obtain ⟨u215, hI⟩ := hI
  obtain ⟨u216, hI⟩ := hI
  obtain ⟨u217, hI⟩ := hI
  obtain ⟨u218, hI⟩ := hI
  obtain ⟨u219, hI⟩ := hI
  obtain ⟨u220, hI⟩ := hI
  obtain ⟨u221, hI⟩ := hI
  obtain ⟨u222, hI⟩ := hI
  obtain ⟨u223, hI⟩ := hI
  obtain ⟨u224, hI⟩ := hI
  obtain ⟨u225, hI⟩ := hI
  obtain ⟨u226, hI⟩ := hI
  obtain ⟨u227, hI⟩ := hI
  obtain ⟨u228, hI⟩ := hI
  obtain ⟨u229, hI⟩ := hI
  obtain ⟨u230, hI⟩ := hI
  obtain ⟨u231, hI⟩ := hI
  obtain ⟨u232, hI⟩ := hI
  obtain ⟨u233, hI⟩ := hI
  obtain ⟨u234, hI⟩ := hI
  obtain ⟨u235, hI⟩ := hI
  obtain ⟨u236, hI⟩ := hI
  obtain ⟨u237, hI⟩ := hI
  obtain ⟨u238, hI⟩ := hI
  obtain ⟨u239, hI⟩ := hI
  obtain ⟨u240, hI⟩ := hI
  obtain ⟨u241, hI⟩ := hI
  obtain ⟨u242, hI⟩ := hI
  obtain ⟨u243, hI⟩ := hI
  obtain ⟨u244, hI⟩ := hI
  obtain ⟨u245, hI⟩ := hI
  obtain ⟨u246, hI⟩ := hI
  obtain ⟨u247, hI⟩ := hI
  obtain ⟨u248, hI⟩ := hI
  obtain ⟨u249, hI⟩ := hI
  obtain ⟨u250, hI⟩ := hI
  obtain ⟨u251, hI⟩ := hI
  obtain ⟨u252, hI⟩ := hI
  obtain ⟨u253, hI⟩ := hI
  obtain ⟨u254, hI⟩ := hI
  obtain ⟨g, hS, rfl⟩ := hI
  conv => arg 2; whnf
  by_cases hlt : k < n2
  · by_cases hlt2 : k < 100
    · have q1 : (k : Int) < (n2 : Int) := by omega
      have q2 : (k : Int) < 100 := by omega
      have HS : Hid _ := hS
      have HR3 : Hid _ := r3
      clear hS hexit r3
      refine wp_seq_k fun K hK => ?_
      have HK : Hid _ := hK
      clear hK
      go_wp2
      refine HK.out _ _ ?_
      clear HK K
      refine wp_seq_k fun K hK => ?_
      have HKK : Hid _ := hK
      clear hK
      refine wp_block ?_
      have HQQ : Hid (∀ ac w1, pWK m c0 n n2 c2 n3 c3 cn a0 a2 a3 an x w u4 u5 u6 u7 u11 u30 u31 u32 u33 u34 u35 u36 u37 u38 u39 u40 u41 u42 u43 u44 u45 u46 u47 u48 u49 u50 u51 u52 u53 u54 u55 u56 u57 u58 u59 u60 k (1 * (k + 1)) ac w1 → K ac w1) := fun ac w1 hW => by
        refine HKK.out ac w1 ?_
        unfold pWK at hW
        obtain ⟨t8, hW⟩ := hW
        obtain ⟨t9, hW⟩ := hW
        obtain ⟨t12, hW⟩ := hW
        obtain ⟨t16, hW⟩ := hW
        obtain ⟨t17, hW⟩ := hW
        obtain ⟨t18, hW⟩ := hW
        obtain ⟨t19, hW⟩ := hW
        obtain ⟨t20, hW⟩ := hW
        obtain ⟨t21, hW⟩ := hW
        obtain ⟨t22, hW⟩ := hW
        obtain ⟨t23, hW⟩ := hW
        obtain ⟨t24, hW⟩ := hW
        obtain ⟨t25, hW⟩ := hW
        obtain ⟨t26, hW⟩ := hW
        obtain ⟨t27, hW⟩ := hW
        obtain ⟨t28, hW⟩ := hW
        obtain ⟨t29, hW⟩ := hW
        obtain ⟨t61, hW⟩ := hW
        obtain ⟨t62, hW⟩ := hW
        obtain ⟨t63, hW⟩ := hW
        obtain ⟨t64, hW⟩ := hW
        obtain ⟨t65, hW⟩ := hW
        obtain ⟨t66, hW⟩ := hW
        obtain ⟨t67, hW⟩ := hW
        obtain ⟨t68, hW⟩ := hW
        obtain ⟨t69, hW⟩ := hW
        obtain ⟨t70, hW⟩ := hW
        obtain ⟨t71, hW⟩ := hW
        obtain ⟨t72, hW⟩ := hW
        obtain ⟨t73, hW⟩ := hW
        obtain ⟨t74, hW⟩ := hW
        obtain ⟨t75, hW⟩ := hW
        obtain ⟨t76, hW⟩ := hW
        obtain ⟨t77, hW⟩ := hW
        obtain ⟨t78, hW⟩ := hW
        obtain ⟨t79, hW⟩ := hW
        obtain ⟨t80, hW⟩ := hW
        obtain ⟨t81, hW⟩ := hW
        obtain ⟨t82, hW⟩ := hW
        obtain ⟨t83, hW⟩ := hW
        obtain ⟨t84, hW⟩ := hW
        obtain ⟨t85, hW⟩ := hW
        obtain ⟨t86, hW⟩ := hW
        obtain ⟨t87, hW⟩ := hW
        obtain ⟨t88, hW⟩ := hW
        obtain ⟨t89, hW⟩ := hW
        obtain ⟨t90, hW⟩ := hW
        obtain ⟨t91, hW⟩ := hW
        obtain ⟨t92, hW⟩ := hW
        obtain ⟨t93, hW⟩ := hW
        obtain ⟨t94, hW⟩ := hW
        obtain ⟨t95, hW⟩ := hW
        obtain ⟨t96, hW⟩ := hW
        obtain ⟨t97, hW⟩ := hW
        obtain ⟨t98, hW⟩ := hW
        obtain ⟨t99, hW⟩ := hW
        obtain ⟨t100, hW⟩ := hW
        obtain ⟨t101, hW⟩ := hW
        obtain ⟨t102, hW⟩ := hW
        obtain ⟨t103, hW⟩ := hW
        obtain ⟨t104, hW⟩ := hW
        obtain ⟨t105, hW⟩ := hW
        obtain ⟨t106, hW⟩ := hW
        obtain ⟨t107, hW⟩ := hW
        obtain ⟨t108, hW⟩ := hW
        obtain ⟨t109, hW⟩ := hW
        obtain ⟨t110, hW⟩ := hW
        obtain ⟨t111, hW⟩ := hW
        obtain ⟨t112, hW⟩ := hW
        obtain ⟨t113, hW⟩ := hW
        obtain ⟨t114, hW⟩ := hW
        obtain ⟨t115, hW⟩ := hW
        obtain ⟨t116, hW⟩ := hW
        obtain ⟨t117, hW⟩ := hW
        obtain ⟨t118, hW⟩ := hW
        obtain ⟨t119, hW⟩ := hW
        obtain ⟨t120, hW⟩ := hW
        obtain ⟨t121, hW⟩ := hW
        obtain ⟨t122, hW⟩ := hW
        obtain ⟨t123, hW⟩ := hW
        obtain ⟨t124, hW⟩ := hW
        obtain ⟨t125, hW⟩ := hW
        obtain ⟨t126, hW⟩ := hW
        obtain ⟨t127, hW⟩ := hW
        obtain ⟨t128, hW⟩ := hW
        obtain ⟨t129, hW⟩ := hW
        obtain ⟨t130, hW⟩ := hW
        obtain ⟨t131, hW⟩ := hW
        obtain ⟨t132, hW⟩ := hW
        obtain ⟨t133, hW⟩ := hW
        obtain ⟨t134, hW⟩ := hW
        obtain ⟨t135, hW⟩ := hW
        obtain ⟨t136, hW⟩ := hW
        obtain ⟨t137, hW⟩ := hW
        obtain ⟨t138, hW⟩ := hW
        obtain ⟨t139, hW⟩ := hW
        obtain ⟨t140, hW⟩ := hW
        obtain ⟨t141, hW⟩ := hW
        obtain ⟨t142, hW⟩ := hW
        obtain ⟨t143, hW⟩ := hW
        obtain ⟨t144, hW⟩ := hW
        obtain ⟨t145, hW⟩ := hW
        obtain ⟨t146, hW⟩ := hW
        obtain ⟨t147, hW⟩ := hW
        obtain ⟨t148, hW⟩ := hW
        obtain ⟨t149, hW⟩ := hW
        obtain ⟨t150, hW⟩ := hW
        obtain ⟨t151, hW⟩ := hW
        obtain ⟨t152, hW⟩ := hW
        obtain ⟨t153, hW⟩ := hW
        obtain ⟨t154, hW⟩ := hW
        obtain ⟨t155, hW⟩ := hW
        obtain ⟨t156, hW⟩ := hW
        obtain ⟨t157, hW⟩ := hW
        obtain ⟨t158, hW⟩ := hW
        obtain ⟨t159, hW⟩ := hW
        obtain ⟨t160, hW⟩ := hW
        obtain ⟨t161, hW⟩ := hW
        obtain ⟨t162, hW⟩ := hW
        obtain ⟨t163, hW⟩ := hW
        obtain ⟨t164, hW⟩ := hW
        obtain ⟨t165, hW⟩ := hW
        obtain ⟨t166, hW⟩ := hW
        obtain ⟨t167, hW⟩ := hW
        obtain ⟨t168, hW⟩ := hW
        obtain ⟨t169, hW⟩ := hW
        obtain ⟨t170, hW⟩ := hW
        obtain ⟨t171, hW⟩ := hW
        obtain ⟨t172, hW⟩ := hW
        obtain ⟨t173, hW⟩ := hW
        obtain ⟨t174, hW⟩ := hW
        obtain ⟨t175, hW⟩ := hW
        obtain ⟨t176, hW⟩ := hW
        obtain ⟨t177, hW⟩ := hW
        obtain ⟨t178, hW⟩ := hW
        obtain ⟨t179, hW⟩ := hW
        obtain ⟨t180, hW⟩ := hW
        obtain ⟨t181, hW⟩ := hW
        obtain ⟨t182, hW⟩ := hW
        obtain ⟨t183, hW⟩ := hW
        obtain ⟨t184, hW⟩ := hW
        obtain ⟨t185, hW⟩ := hW
        obtain ⟨t186, hW⟩ := hW
        obtain ⟨t187, hW⟩ := hW
        obtain ⟨t188, hW⟩ := hW
        obtain ⟨t189, hW⟩ := hW
        obtain ⟨t190, hW⟩ := hW
        obtain ⟨t191, hW⟩ := hW
        obtain ⟨t192, hW⟩ := hW
        obtain ⟨t193, hW⟩ := hW
        obtain ⟨t194, hW⟩ := hW
        obtain ⟨t195, hW⟩ := hW
        obtain ⟨t196, hW⟩ := hW
        obtain ⟨t197, hW⟩ := hW
        obtain ⟨t198, hW⟩ := hW
        obtain ⟨t199, hW⟩ := hW
        obtain ⟨t200, hW⟩ := hW
        obtain ⟨t201, hW⟩ := hW
        obtain ⟨t202, hW⟩ := hW
        obtain ⟨t203, hW⟩ := hW
        obtain ⟨t204, hW⟩ := hW
        obtain ⟨t205, hW⟩ := hW
        obtain ⟨t206, hW⟩ := hW
        obtain ⟨t207, hW⟩ := hW
        obtain ⟨t208, hW⟩ := hW
        obtain ⟨t209, hW⟩ := hW
        obtain ⟨t210, hW⟩ := hW
        obtain ⟨t211, hW⟩ := hW
        obtain ⟨t212, hW⟩ := hW
        obtain ⟨t213, hW⟩ := hW
        obtain ⟨t214, hW⟩ := hW
        obtain ⟨t215, hW⟩ := hW
        obtain ⟨t216, hW⟩ := hW
        obtain ⟨t217, hW⟩ := hW
        obtain ⟨t218, hW⟩ := hW
        obtain ⟨t219, hW⟩ := hW
        obtain ⟨t220, hW⟩ := hW
        obtain ⟨t221, hW⟩ := hW
        obtain ⟨t222, hW⟩ := hW
        obtain ⟨t223, hW⟩ := hW
        obtain ⟨t224, hW⟩ := hW
        obtain ⟨t225, hW⟩ := hW
        obtain ⟨t226, hW⟩ := hW
        obtain ⟨t227, hW⟩ := hW
        obtain ⟨t228, hW⟩ := hW
        obtain ⟨t229, hW⟩ := hW
        obtain ⟨t230, hW⟩ := hW
        obtain ⟨t231, hW⟩ := hW
        obtain ⟨t232, hW⟩ := hW
        obtain ⟨t233, hW⟩ := hW
        obtain ⟨t234, hW⟩ := hW
        obtain ⟨t235, hW⟩ := hW
        obtain ⟨t236, hW⟩ := hW
        obtain ⟨t237, hW⟩ := hW
        obtain ⟨t238, hW⟩ := hW
        obtain ⟨t239, hW⟩ := hW
        obtain ⟨t240, hW⟩ := hW
        obtain ⟨t241, hW⟩ := hW
        obtain ⟨t242, hW⟩ := hW
        obtain ⟨t243, hW⟩ := hW
        obtain ⟨t244, hW⟩ := hW
        obtain ⟨t245, hW⟩ := hW
        obtain ⟨t246, hW⟩ := hW
        obtain ⟨t247, hW⟩ := hW
        obtain ⟨t248, hW⟩ := hW
        obtain ⟨t249, hW⟩ := hW
        obtain ⟨t250, hW⟩ := hW
        obtain ⟨t251, hW⟩ := hW
        obtain ⟨t252, hW⟩ := hW
        obtain ⟨t253, hW⟩ := hW
        obtain ⟨t254, hW⟩ := hW
        obtain ⟨g', hS', rfl⟩ := hW
        have HS' : Hid _ := hS'
        clear hS' HKK HS HR3
        go_wp2
        refine ⟨?_, ?_⟩
        · unfold pWI pWK
          exact ⟨k + 1, ⟨by omega, by omega⟩, _, _, _, _, _, _, _, _, _, _, _, _, _, _, _, _, _, _, _, _, _, _, _, _, _, _, _, _, _, _, _, _, _, _, _, _, _, _, _, _, _, _, _, _, _, _, _, _, _, _, _, _, _, _, _, _, _, _, _, _, _, _, _, _, _, _, _, _, _, _, _, _, _, _, _, _, _, _, _, _, _, _, _, _, _, _, _, _, _, _, _, _, _, _, _, _, _, _, _, _, _, _, _, _, _, _, _, _, _, _, _, _, _, _, _, _, _, _, _, _, _, _, _, _, _, _, _, _, _, _, _, _, _, _, _, _, _, _, _, _, _, _, _, _, _, _, _, _, _, _, _, _, _, _, _, _, _, _, _, _, _, _, _, _, _, _, _, _, _, _, _, _, _, _, _, _, _, _, _, _, _, _, _, _, _, _, _, _, _, _, _, _, _, _, _, _, _, _, _, _, _, _, _, _, _, _, _, _, _, _, _, _, HS'.out, by go_num⟩
        · simp [pWmu, intOf]
          omega
      clear HKK
      exact p_block m c0 n n2 c2 n3 c3 cn a0 a2 a3 an x w LL F k g _ _ _ _ _ _ _ _ _ _ _ _ _ _ _ _ _ _ _ _ _ _ _ _ _ _ _ _ _ _ _ _ _ _ _ _ _ _ _ _ _ _ _ _ _ _ _ _ _ _ _ _ _ _ _ _ _ _ _ _ _ _ _ _ _ _ _ _ _ _ _ _ _ _ _ _ _ _ _ _ _ _ _ _ _ _ _ _ _ _ _ _ _ _ _ _ _ _ _ _ _ _ _ _ _ _ _ _ _ _ _ _ _ _ _ _ _ _ _ _ _ _ _ _ _ _ _ _ _ _ _ _ _ _ _ _ _ _ _ _ _ _ _ _ _ _ _ _ _ _ _ _ _ _ _ _ _ _ _ _ _ _ _ _ _ _ _ _ _ _ _ _ _ _ _ _ _ _ _ _ _ _ _ _ _ _ _ _ _ _ _ _ _ _ _ _ _ _ _ _ _ _ _ _ _ _ _ _ _ _ _ _ _ _ _ _ _ _ _ _ _ _ _ _ _ _ _ _ _ _ _ _ _ _ _ _ _ _ _ _ _ _ _ _ _ _ _ _ _ S3 HG HR4 HR3.out HS.out hlt hlt2 (fun ac w1 h => HQQ.out ac w1 h)
    · have q1 : (k : Int) < (n2 : Int) := by omega
      have q2 : (100 : Int) ≤ (k : Int) := by omega
      have HX : Hid _ := hexit
      have HS : Hid _ := hS
      clear hS hexit r3
      go_wp2
      refine HX.out _ _ ?_
      unfold pWI pWK
      exact ⟨k, ⟨hk1, hk2⟩, _, _, _, _, _, _, _, _, _, _, _, _, _, _, _, _, _, _, _, _, _, _, _, _, _, _, _, _, _, _, _, _, _, _, _, _, _, _, _, _, _, _, _, _, _, _, _, _, _, _, _, _, _, _, _, _, _, _, _, _, _, _, _, _, _, _, _, _, _, _, _, _, _, _, _, _, _, _, _, _, _, _, _, _, _, _, _, _, _, _, _, _, _, _, _, _, _, _, _, _, _, _, _, _, _, _, _, _, _, _, _, _, _, _, _, _, _, _, _, _, _, _, _, _, _, _, _, _, _, _, _, _, _, _, _, _, _, _, _, _, _, _, _, _, _, _, _, _, _, _, _, _, _, _, _, _, _, _, _, _, _, _, _, _, _, _, _, _, _, _, _, _, _, _, _, _, _, _, _, _, _, _, _, _, _, _, _, _, _, _, _, _, _, _, _, _, _, _, _, _, _, _, _, _, _, _, _, _, _, _, _, _, HS.out, rfl⟩
  · have q1 : (n2 : Int) ≤ (k : Int) := by omega
    have HX : Hid _ := hexit
    have HS : Hid _ := hS
    clear hS hexit r3
    go_wp2
    refine HX.out _ _ ?_
    unfold pWI pWK
    exact ⟨k, ⟨hk1, hk2⟩, _, _, _, _, _, _, _, _, _, _, _, _, _, _, _, _, _, _, _, _, _, _, _, _, _, _, _, _, _, _, _, _, _, _, _, _, _, _, _, _, _, _, _, _, _, _, _, _, _, _, _, _, _, _, _, _, _, _, _, _, _, _, _, _, _, _, _, _, _, _, _, _, _, _, _, _, _, _, _, _, _, _, _, _, _, _, _, _, _, _, _, _, _, _, _, _, _, _, _, _, _, _, _, _, _, _, _, _, _, _, _, _, _, _, _, _, _, _, _, _, _, _, _, _, _, _, _, _, _, _, _, _, _, _, _, _, _, _, _, _, _, _, _, _, _, _, _, _, _, _, _, _, _, _, _, _, _, _, _, _, _, _, _, _, _, _, _, _, _, _, _, _, _, _, _, _, _, _, _, _, _, _, _, _, _, _, _, _, _, _, _, _, _, _, _, _, _, _, _, _, _, _, _, _, _, _, _, _, _, _, _, _, HS.out, rfl⟩
set_option linter.unusedVariables false in
set_option maxRecDepth 1000000 in
set_option maxHeartbeats 8000000 in
theorem ploop (m c0 n n2 c2 n3 c3 cn : Nat) (a0 a2 a3 an : Option Addr) (x : GP) (w : World) (u4 u5 u6 u7 u11 u30 u31 u32 u33 u34 u35 u36 u37 u38 u39 u40 u41 u42 u43 u44 u45 u46 u47 u48 u49 u50 u51 u52 u53 u54 u55 u56 u57 u58 u59 u60 : Value) (LL : Nat → Nat) (F : Nat → Nat → Int) (S3 : Nat → List El) (HG : Hid (Handle w)) (HR4 : Hid (RdT w (.slice a3 n3 c3) n3 S3)) (r3 : RdII w (.slice a2 n2 c2) n2 LL F) (hn3 : n2 ≤ 5864062014634) (Q0 : Exit → Act → World → Prop) (k : Nat) (g : Grw) (u8 u9 u12 u16 u17 u18 u19 u20 u21 u22 u23 u24 u25 u26 u27 u28 u29 u61 u62 u63 u64 u65 u66 u67 u68 u69 u70 u71 u72 u73 u74 u75 u76 u77 u78 u79 u80 u81 u82 u83 u84 u85 u86 u87 u88 u89 u90 u91 u92 u93 u94 u95 u96 u97 u98 u99 u100 u101 u102 u103 u104 u105 u106 u107 u108 u109 u110 u111 u112 u113 u114 u115 u116 u117 u118 u119 u120 u121 u122 u123 u124 u125 u126 u127 u128 u129 u130 u131 u132 u133 u134 u135 u136 u137 u138 u139 u140 u141 u142 u143 u144 u145 u146 u147 u148 u149 u150 u151 u152 u153 u154 u155 u156 u157 u158 u159 u160 u161 u162 u163 u164 u165 u166 u167 u168 u169 u170 u171 u172 u173 u174 u175 u176 u177 u178 u179 u180 u181 u182 u183 u184 u185 u186 u187 u188 u189 u190 u191 u192 u193 u194 u195 u196 u197 u198 u199 u200 u201 u202 u203 u204 u205 u206 u207 u208 u209 u210 u211 u212 u213 u214 u215 u216 u217 u218 u219 u220 u221 u222 u223 u224 u225 u226 u227 u228 u229 u230 u231 u232 u233 u234 u235 u236 u237 u238 u239 u240 u241 u242 u243 u244 u245 u246 u247 u248 u249 u250 u251 u252 u253 u254 : Value) (w' : World)
    (hk : k ≤ n2 ∧ k ≤ 100) (hrel : GK w x (.slice an m cn) n m (g) (g.c) w' ∧ 0 ≤ 1 * k) (hexit : ∀ ac w', pWI m c0 n n2 c2 n3 c3 cn a0 a2 a3 an x w u4 u5 u6 u7 u11 u30 u31 u32 u33 u34 u35 u36 u37 u38 u39 u40 u41 u42 u43 u44 u45 u46 u47 u48 u49 u50 u51 u52 u53 u54 u55 u56 u57 u58 u59 u60 ac w' → Q0 (.exit 0) ac w') :
    Code.wp Tryd.prog (Code.loop (cut [1, 1, 1, 1, 1, 1, 1, 1, 1, 0, 1, 2, 5] (Tryd.f5.body.getD .skip))) Q0 ⟨#[.slice a0 m c0, .int .i64 ((n : Nat) : Int), .slice a2 n2 c2, .slice a3 n3 c3, u4, u5, u6, u7, u8, u9, .pointer (some ⟨x.p, 0, none⟩), u11, u12, .slice an m cn, .int .i64 ((g.t : Nat) : Int), .int .i64 ((k : Nat) : Int), u16, u17, u18, u19, u20, u21, u22, u23, u24, u25, u26, u27, u28, u29, u30, u31, u32, u33, u34, u35, u36, u37, u38, u39, u40, u41, u42, u43, u44, u45, u46, u47, u48, u49, u50, u51, u52, u53, u54, u55, u56, u57, u58, u59, u60, u61, u62, u63, u64, u65, u66, u67, u68, u69, u70, u71, u72, u73, u74, u75, u76, u77, u78, u79, u80, u81, u82, u83, u84, u85, u86, u87, u88, u89, u90, u91, u92, u93, u94, u95, u96, u97, u98, u99, u100, u101, u102, u103, u104, u105, u106, u107, u108, u109, u110, u111, u112, u113, u114, u115, u116, u117, u118, u119, u120, u121, u122, u123, u124, u125, u126, u127, u128, u129, u130, u131, u132, u133, u134, u135, u136, u137, u138, u139, u140, u141, u142, u143, u144, u145, u146, u147, u148, u149, u150, u151, u152, u153, u154, u155, u156, u157, u158, u159, u160, u161, u162, u163, u164, u165, u166, u167, u168, u169, u170, u171, u172, u173, u174, u175, u176, u177, u178, u179, u180, u181, u182, u183, u184, u185, u186, u187, u188, u189, u190, u191, u192, u193, u194, u195, u196, u197, u198, u199, u200, u201, u202, u203, u204, u205, u206, u207, u208, u209, u210, u211, u212, u213, u214, u215, u216, u217, u218, u219, u220, u221, u222, u223, u224, u225, u226, u227, u228, u229, u230, u231, u232, u233, u234, u235, u236, u237, u238, u239, u240, u241, u242, u243, u244, u245, u246, u247, u248, u249, u250, u251, u252, u253, u254], []⟩ w' := by
  refine wp_loop (pWI m c0 n n2 c2 n3 c3 cn a0 a2 a3 an x w u4 u5 u6 u7 u11 u30 u31 u32 u33 u34 u35 u36 u37 u38 u39 u40 u41 u42 u43 u44 u45 u46 u47 u48 u49 u50 u51 u52 u53 u54 u55 u56 u57 u58 u59 u60) (fun ac _ => pWmu n2 ac) ?_ (fun ac w'' hI => pround m c0 n n2 c2 n3 c3 cn a0 a2 a3 an x w u4 u5 u6 u7 u11 u30 u31 u32 u33 u34 u35 u36 u37 u38 u39 u40 u41 u42 u43 u44 u45 u46 u47 u48 u49 u50 u51 u52 u53 u54 u55 u56 u57 u58 u59 u60 LL F S3 HG HR4 r3 hn3 Q0 hexit ac w'' hI)
  unfold pWI pWK
  exact ⟨k, hk, u8, u9, u12, u16, u17, u18, u19, u20, u21, u22, u23, u24, u25, u26, u27, u28, u29, u61, u62, u63, u64, u65, u66, u67, u68, u69, u70, u71, u72, u73, u74, u75, u76, u77, u78, u79, u80, u81, u82, u83, u84, u85, u86, u87, u88, u89, u90, u91, u92, u93, u94, u95, u96, u97, u98, u99, u100, u101, u102, u103, u104, u105, u106, u107, u108, u109, u110, u111, u112, u113, u114, u115, u116, u117, u118, u119, u120, u121, u122, u123, u124, u125, u126, u127, u128, u129, u130, u131, u132, u133, u134, u135, u136, u137, u138, u139, u140, u141, u142, u143, u144, u145, u146, u147, u148, u149, u150, u151, u152, u153, u154, u155, u156, u157, u158, u159, u160, u161, u162, u163, u164, u165, u166, u167, u168, u169, u170, u171, u172, u173, u174, u175, u176, u177, u178, u179, u180, u181, u182, u183, u184, u185, u186, u187, u188, u189, u190, u191, u192, u193, u194, u195, u196, u197, u198, u199, u200, u201, u202, u203, u204, u205, u206, u207, u208, u209, u210, u211, u212, u213, u214, u215, u216, u217, u218, u219, u220, u221, u222, u223, u224, u225, u226, u227, u228, u229, u230, u231, u232, u233, u234, u235, u236, u237, u238, u239, u240, u241, u242, u243, u244, u245, u246, u247, u248, u249, u250, u251, u252, u253, u254, g, hrel, rfl⟩
end Go.Proofs.YtdbanimlnjhhlaaDoor
