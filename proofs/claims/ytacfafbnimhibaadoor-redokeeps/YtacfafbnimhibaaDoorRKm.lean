/- RedoKeeps, a piece: walks over the program. -/
import Derived.Test.YtacfafbnimhibaaDoorRKl
namespace Go.Proofs.YtacfafbnimhibaaDoor
open Go.RowKit El Pol
set_option linter.unusedVariables false in
set_option maxRecDepth 1000000 in
set_option maxHeartbeats 8000000 in
theorem k1round (n0 c0 n1 c1 n2 c2 n3 c3 n4 c4 p : Nat) (a0 a1 a2 a3 a4 : Option Addr) (w : World) (u5 u6 u7 u8 u9 u11 u12 u13 u14 u15 u16 u17 u19 u37 u38 u39 u40 u41 u42 u43 u44 u45 u46 u47 u48 u49 u50 u51 u52 u53 u54 u55 u56 u57 u58 u59 u60 u61 u62 u63 u64 u65 u66 u67 u68 u69 u70 u71 u72 u73 u74 u75 u76 u77 u78 u79 u80 u81 u82 u83 u84 u85 u86 u87 u88 u89 u90 u91 u92 u93 u94 u95 u96 u97 u98 u99 u100 u101 u102 u103 u104 u105 u106 u107 u108 u109 u110 u111 u112 : Value) (f : Nat → List El) (R : Nat)  (L : Nat → List Wr) (f2 : Nat → Int) (f3 f4 : Nat → Int) (hH : Handle w) (hn40 : n0 ≤ 40) (r1 : RdWW w (.slice a1 n1 c1) n1 L) (hn1 : n1 ≤ 5864062014634) (r2 : RdF w (.slice a2 n2 c2) n2 (fun i => .int .i64 (f2 i))) (hn2 : n2 ≤ 17592186044416) (r3 : RdF w (.slice a3 n3 c3) n3 (fun i => .int .i64 (f3 i))) (q3 : ∀ i, i < n3 → (Lit.int .i64 (f3 i)).wf = true) (hn3 : n3 ≤ 17592186044416) (r4 : RdF w (.slice a4 n4 c4) n4 (fun i => .int .i64 (f4 i))) (q4 : ∀ i, i < n4 → (Lit.int .i64 (f4 i)).wf = true) (hn4 : n4 ≤ 17592186044416) (hR : True) (Q0 : Exit → Act → World → Prop) (hexit : ∀ a w', k1WI n0 c0 n1 c1 n2 c2 n3 c3 n4 c4 p a0 a1 a2 a3 a4 w u5 u6 u7 u8 u9 u11 u12 u13 u14 u15 u16 u17 u19 u37 u38 u39 u40 u41 u42 u43 u44 u45 u46 u47 u48 u49 u50 u51 u52 u53 u54 u55 u56 u57 u58 u59 u60 u61 u62 u63 u64 u65 u66 u67 u68 u69 u70 u71 u72 u73 u74 u75 u76 u77 u78 u79 u80 u81 u82 u83 u84 u85 u86 u87 u88 u89 u90 u91 u92 u93 u94 u95 u96 u97 u98 u99 u100 u101 u102 u103 u104 u105 u106 u107 u108 u109 u110 u111 u112 f R a w' → Q0 (.exit 0) a w') (a : Act) (wc : World) (hI : k1WI n0 c0 n1 c1 n2 c2 n3 c3 n4 c4 p a0 a1 a2 a3 a4 w u5 u6 u7 u8 u9 u11 u12 u13 u14 u15 u16 u17 u19 u37 u38 u39 u40 u41 u42 u43 u44 u45 u46 u47 u48 u49 u50 u51 u52 u53 u54 u55 u56 u57 u58 u59 u60 u61 u62 u63 u64 u65 u66 u67 u68 u69 u70 u71 u72 u73 u74 u75 u76 u77 u78 u79 u80 u81 u82 u83 u84 u85 u86 u87 u88 u89 u90 u91 u92 u93 u94 u95 u96 u97 u98 u99 u100 u101 u102 u103 u104 u105 u106 u107 u108 u109 u110 u111 u112 f R a wc) :
    Code.wp Tryd.prog (cut [1, 1, 1, 1, 1, 1, 1, 1, 1, 1, 1, 1, 1, 1, 1, 1, 0, 1, 2, 5] (Tryd.f6.body.getD .skip)) (Exit.then (fun a' w'' => k1WI n0 c0 n1 c1 n2 c2 n3 c3 n4 c4 p a0 a1 a2 a3 a4 w u5 u6 u7 u8 u9 u11 u12 u13 u14 u15 u16 u17 u19 u37 u38 u39 u40 u41 u42 u43 u44 u45 u46 u47 u48 u49 u50 u51 u52 u53 u54 u55 u56 u57 u58 u59 u60 u61 u62 u63 u64 u65 u66 u67 u68 u69 u70 u71 u72 u73 u74 u75 u76 u77 u78 u79 u80 u81 u82 u83 u84 u85 u86 u87 u88 u89 u90 u91 u92 u93 u94 u95 u96 u97 u98 u99 u100 u101 u102 u103 u104 u105 u106 u107 u108 u109 u110 u111 u112 f R a' w'' ∧ k1Wmu a' < k1Wmu a) Q0) a wc := by
  unfold k1WI at hI
  obtain ⟨k, hk8, hI⟩ := hI
  unfold k1WK at hI
  obtain ⟨u20, hI⟩ := hI
  obtain ⟨u25, hI⟩ := hI
  obtain ⟨u26, hI⟩ := hI
  obtain ⟨u27, hI⟩ := hI
  obtain ⟨u28, hI⟩ := hI
  obtain ⟨u29, hI⟩ := hI
  obtain ⟨u30, hI⟩ := hI
  obtain ⟨u31, hI⟩ := hI
  obtain ⟨u32, hI⟩ := hI
  obtain ⟨u33, hI⟩ := hI
  obtain ⟨u34, hI⟩ := hI
  obtain ⟨u35, hI⟩ := hI
  obtain ⟨u36, hI⟩ := hI
  obtain ⟨u113, hI⟩ := hI
  obtain ⟨u114, hI⟩ := hI
  obtain ⟨u115, hI⟩ := hI
  obtain ⟨u116, hI⟩ := hI
  obtain ⟨u117, hI⟩ := hI
  obtain ⟨u118, hI⟩ := hI
  obtain ⟨u119, hI⟩ := hI
  obtain ⟨u120, hI⟩ := hI
  obtain ⟨u121, hI⟩ := hI
  obtain ⟨u122, hI⟩ := hI
  obtain ⟨u123, hI⟩ := hI
  obtain ⟨u124, hI⟩ := hI
  obtain ⟨u125, hI⟩ := hI
  obtain ⟨u126, hI⟩ := hI
  obtain ⟨u127, hI⟩ := hI
  obtain ⟨u128, hI⟩ := hI
  obtain ⟨u129, hI⟩ := hI
  obtain ⟨u130, hI⟩ := hI
  obtain ⟨u131, hI⟩ := hI
  obtain ⟨u132, hI⟩ := hI
  obtain ⟨u133, hI⟩ := hI
  obtain ⟨u134, hI⟩ := hI
  obtain ⟨u135, hI⟩ := hI
  obtain ⟨u136, hI⟩ := hI
  obtain ⟨u137, hI⟩ := hI
  obtain ⟨u138, hI⟩ := hI
  obtain ⟨u139, hI⟩ := hI
  obtain ⟨u140, hI⟩ := hI
  obtain ⟨u141, hI⟩ := hI
  obtain ⟨u142, hI⟩ := hI
  obtain ⟨u143, hI⟩ := hI
  obtain ⟨u144, hI⟩ := hI
  obtain ⟨u145, hI⟩ := hI
  obtain ⟨u146, hI⟩ := hI
  obtain ⟨u147, hI⟩ := hI
  obtain ⟨u148, hI⟩ := hI
  obtain ⟨u149, hI⟩ := hI
  obtain ⟨u150, hI⟩ := hI
  obtain ⟨u151, hI⟩ := hI
  obtain ⟨u152, hI⟩ := hI
  obtain ⟨u153, hI⟩ := hI
  obtain ⟨u154, hI⟩ := hI
  obtain ⟨u155, hI⟩ := hI
  obtain ⟨u156, hI⟩ := hI
  obtain ⟨u157, hI⟩ := hI
  obtain ⟨u158, hI⟩ := hI
  obtain ⟨u159, hI⟩ := hI
  obtain ⟨u160, hI⟩ := hI
  obtain ⟨u161, hI⟩ := hI
  obtain ⟨u162, hI⟩ := hI
  obtain ⟨u163, hI⟩ := hI
  obtain ⟨u164, hI⟩ := hI
  obtain ⟨u165, hI⟩ := hI
  obtain ⟨u166, hI⟩ := hI
  obtain ⟨u167, hI⟩ := hI
  obtain ⟨u168, hI⟩ := hI
  obtain ⟨u169, hI⟩ := hI
  obtain ⟨u170, hI⟩ := hI
  obtain ⟨u171, hI⟩ := hI
  obtain ⟨u172, hI⟩ := hI
  obtain ⟨u173, hI⟩ := hI
  obtain ⟨u174, hI⟩ := hI
  obtain ⟨u175, hI⟩ := hI
  obtain ⟨u176, hI⟩ := hI
  obtain ⟨u177, hI⟩ := hI
  obtain ⟨u178, hI⟩ := hI
  obtain ⟨u179, hI⟩ := hI
  obtain ⟨u180, hI⟩ := hI
  obtain ⟨u181, hI⟩ := hI
  obtain ⟨u182, hI⟩ := hI
  obtain ⟨u183, hI⟩ := hI
  obtain ⟨u184, hI⟩ := hI
  obtain ⟨u185, hI⟩ := hI
  obtain ⟨u186, hI⟩ := hI
  obtain ⟨u187, hI⟩ := hI
  obtain ⟨u188, hI⟩ := hI
  obtain ⟨u189, hI⟩ := hI
  obtain ⟨u190, hI⟩ := hI
  obtain ⟨u191, hI⟩ := hI
  obtain ⟨u192, hI⟩ := hI
  obtain ⟨u193, hI⟩ := hI
  obtain ⟨u194, hI⟩ := hI
  obtain ⟨u195, hI⟩ := hI
  obtain ⟨u196, hI⟩ := hI
  obtain ⟨u197, hI⟩ := hI
  obtain ⟨u198, hI⟩ := hI
  obtain ⟨u199, hI⟩ := hI
  obtain ⟨u200, hI⟩ := hI
  obtain ⟨u201, hI⟩ := hI
  obtain ⟨u202, hI⟩ := hI
  obtain ⟨u203, hI⟩ := hI
  obtain ⟨u204, hI⟩ := hI
  obtain ⟨u205, hI⟩ := hI
  obtain ⟨u206, hI⟩ := hI
  obtain ⟨u207, hI⟩ := hI
  obtain ⟨u208, hI⟩ := hI
  obtain ⟨u209, hI⟩ := hI
  obtain ⟨u210, hI⟩ := hI
  obtain ⟨u211, hI⟩ := hI
  obtain ⟨u212, hI⟩ := hI
  obtain ⟨u213, hI⟩ := hI
  obtain ⟨u214, hI⟩ := hI
  obtain ⟨u215, hI⟩ := hI
  obtain ⟨u216, hI⟩ := hI
  obtain ⟨u217, hI⟩ := hI
  obtain ⟨u218, hI⟩ := hI
  obtain ⟨u219, hI⟩ := hI
  obtain ⟨u220, hI⟩ := hI
  obtain ⟨u221, hI⟩ := hI
  obtain ⟨u222, hI⟩ := hI
  obtain ⟨u223, hI⟩ := hI
  obtain ⟨u224, hI⟩ := hI
  obtain ⟨u225, hI⟩ := hI
  obtain ⟨u226, hI⟩ := hI
  obtain ⟨u227, hI⟩ := hI
  obtain ⟨u228, hI⟩ := hI
  obtain ⟨u229, hI⟩ := hI
  obtain ⟨u230, hI⟩ := hI
  obtain ⟨u231, hI⟩ := hI
  obtain ⟨u232, hI⟩ := hI
  obtain ⟨u233, hI⟩ := hI
  obtain ⟨u234, hI⟩ := hI
  obtain ⟨u235, hI⟩ := hI
  obtain ⟨u236, hI⟩ := hI
  obtain ⟨u237, hI⟩ := hI
  obtain ⟨u238, hI⟩ := hI
  obtain ⟨u239, hI⟩ := hI
  obtain ⟨u240, hI⟩ := hI
  obtain ⟨u241, hI⟩ := hI
  obtain ⟨u242, hI⟩ := hI
  obtain ⟨u243, hI⟩ := hI
  obtain ⟨u244, hI⟩ := hI
  obtain ⟨u245, hI⟩ := hI
  obtain ⟨u246, hI⟩ := hI
  obtain ⟨u247, hI⟩ := hI
  obtain ⟨u248, hI⟩ := hI
  obtain ⟨u249, hI⟩ := hI
  obtain ⟨u250, hI⟩ := hI
  obtain ⟨u251, hI⟩ := hI
  obtain ⟨u252, hI⟩ := hI
  obtain ⟨u253, hI⟩ := hI
  obtain ⟨u254, hI⟩ := hI
  obtain ⟨u255, hI⟩ := hI
  obtain ⟨u256, hI⟩ := hI
  obtain ⟨u257, hI⟩ := hI
  obtain ⟨u258, hI⟩ := hI
  obtain ⟨u259, hI⟩ := hI
  obtain ⟨u260, hI⟩ := hI
  obtain ⟨u261, hI⟩ := hI
  obtain ⟨u262, hI⟩ := hI
  obtain ⟨u263, hI⟩ := hI
  obtain ⟨u264, hI⟩ := hI
  obtain ⟨u265, hI⟩ := hI
  obtain ⟨u266, hI⟩ := hI
  obtain ⟨u267, hI⟩ := hI
  obtain ⟨u268, hI⟩ := hI
  obtain ⟨u269, hI⟩ := hI
  obtain ⟨u270, hI⟩ := hI
  obtain ⟨u271, hI⟩ := hI
  obtain ⟨u272, hI⟩ := hI
  obtain ⟨u273, hI⟩ := hI
  obtain ⟨u274, hI⟩ := hI
  obtain ⟨u275, hI⟩ := hI
  obtain ⟨u276, hI⟩ := hI
  obtain ⟨u277, hI⟩ := hI
  obtain ⟨u278, hI⟩ := hI
  obtain ⟨u279, hI⟩ := hI
  obtain ⟨u280, hI⟩ := hI
  obtain ⟨u281, hI⟩ := hI
  obtain ⟨u282, hI⟩ := hI
  obtain ⟨u283, hI⟩ := hI
  obtain ⟨u284, hI⟩ := hI
  obtain ⟨u285, hI⟩ := hI
  obtain ⟨u286, hI⟩ := hI
  obtain ⟨u287, hI⟩ := hI
  obtain ⟨u288, hI⟩ := hI
  obtain ⟨u289, hI⟩ := hI
  obtain ⟨u290, hI⟩ := hI
  obtain ⟨u291, hI⟩ := hI
  obtain ⟨u292, hI⟩ := hI
  obtain ⟨u293, hI⟩ := hI
  obtain ⟨u294, hI⟩ := hI
  obtain ⟨u295, hI⟩ := hI
  obtain ⟨u296, hI⟩ := hI
  obtain ⟨u297, hI⟩ := hI
  obtain ⟨u298, hI⟩ := hI
  obtain ⟨u299, hI⟩ := hI
  obtain ⟨u300, hI⟩ := hI
  obtain ⟨u301, hI⟩ := hI
  obtain ⟨u302, hI⟩ := hI
  obtain ⟨u303, hI⟩ := hI
  obtain ⟨u304, hI⟩ := hI
  obtain ⟨u305, hI⟩ := hI
  obtain ⟨u306, hI⟩ := hI
  obtain ⟨u307, hI⟩ := hI
  obtain ⟨u308, hI⟩ := hI
  obtain ⟨ds, t, gd, cd, gm, cm, r, rv, q, hS, rfl⟩ := hI
  conv => arg 2; whnf
  by_cases hlt : k < 4
  · by_cases hq' : k ≤ n3
    · have q1 : (k : Int) < 4 := by omega
      have q2 : (k : Int) ≤ (n3 : Int) := by omega
      have HS : Hid _ := hS
      have HR1 : Hid _ := r1
      have HR2 : Hid _ := r2
      have HH : Hid _ := hH
      clear hS hexit r1 r2 hH
      have HR3 : Hid _ := r3
      have HR4 : Hid _ := r4
      clear r3 r4
      refine wp_seq_k fun K hK => ?_
      have HK : Hid _ := hK
      clear hK
      go_wp2
      refine HK.out _ _ ?_
      clear HK K
      refine wp_seq_k fun K hK => ?_
      have HKK : Hid _ := hK
      clear hK
      refine wp_block ?_
      have HQQ : Hid (∀ a w1, k1WK n0 c0 n1 c1 n2 c2 n3 c3 n4 c4 p a0 a1 a2 a3 a4 w u5 u6 u7 u8 u9 u11 u12 u13 u14 u15 u16 u17 u19 u37 u38 u39 u40 u41 u42 u43 u44 u45 u46 u47 u48 u49 u50 u51 u52 u53 u54 u55 u56 u57 u58 u59 u60 u61 u62 u63 u64 u65 u66 u67 u68 u69 u70 u71 u72 u73 u74 u75 u76 u77 u78 u79 u80 u81 u82 u83 u84 u85 u86 u87 u88 u89 u90 u91 u92 u93 u94 u95 u96 u97 u98 u99 u100 u101 u102 u103 u104 u105 u106 u107 u108 u109 u110 u111 u112 f (k + 1) k a w1 → K a w1) := fun a w1 hW => by
        refine HKK.out a w1 ?_
        unfold k1WK at hW
        obtain ⟨t20, hW⟩ := hW
        obtain ⟨t25, hW⟩ := hW
        obtain ⟨t26, hW⟩ := hW
        obtain ⟨t27, hW⟩ := hW
        obtain ⟨t28, hW⟩ := hW
        obtain ⟨t29, hW⟩ := hW
        obtain ⟨t30, hW⟩ := hW
        obtain ⟨t31, hW⟩ := hW
        obtain ⟨t32, hW⟩ := hW
        obtain ⟨t33, hW⟩ := hW
        obtain ⟨t34, hW⟩ := hW
        obtain ⟨t35, hW⟩ := hW
        obtain ⟨t36, hW⟩ := hW
        obtain ⟨t113, hW⟩ := hW
        obtain ⟨t114, hW⟩ := hW
        obtain ⟨t115, hW⟩ := hW
        obtain ⟨t116, hW⟩ := hW
        obtain ⟨t117, hW⟩ := hW
        obtain ⟨t118, hW⟩ := hW
        obtain ⟨t119, hW⟩ := hW
        obtain ⟨t120, hW⟩ := hW
        obtain ⟨t121, hW⟩ := hW
        obtain ⟨t122, hW⟩ := hW
        obtain ⟨t123, hW⟩ := hW
        obtain ⟨t124, hW⟩ := hW
        obtain ⟨t125, hW⟩ := hW
        obtain ⟨t126, hW⟩ := hW
        obtain ⟨t127, hW⟩ := hW
        obtain ⟨t128, hW⟩ := hW
        obtain ⟨t129, hW⟩ := hW
        obtain ⟨t130, hW⟩ := hW
        obtain ⟨t131, hW⟩ := hW
        obtain ⟨t132, hW⟩ := hW
        obtain ⟨t133, hW⟩ := hW
        obtain ⟨t134, hW⟩ := hW
        obtain ⟨t135, hW⟩ := hW
        obtain ⟨t136, hW⟩ := hW
        obtain ⟨t137, hW⟩ := hW
        obtain ⟨t138, hW⟩ := hW
        obtain ⟨t139, hW⟩ := hW
        obtain ⟨t140, hW⟩ := hW
        obtain ⟨t141, hW⟩ := hW
        obtain ⟨t142, hW⟩ := hW
        obtain ⟨t143, hW⟩ := hW
        obtain ⟨t144, hW⟩ := hW
        obtain ⟨t145, hW⟩ := hW
        obtain ⟨t146, hW⟩ := hW
        obtain ⟨t147, hW⟩ := hW
        obtain ⟨t148, hW⟩ := hW
        obtain ⟨t149, hW⟩ := hW
        obtain ⟨t150, hW⟩ := hW
        obtain ⟨t151, hW⟩ := hW
        obtain ⟨t152, hW⟩ := hW
        obtain ⟨t153, hW⟩ := hW
        obtain ⟨t154, hW⟩ := hW
        obtain ⟨t155, hW⟩ := hW
        obtain ⟨t156, hW⟩ := hW
        obtain ⟨t157, hW⟩ := hW
        obtain ⟨t158, hW⟩ := hW
        obtain ⟨t159, hW⟩ := hW
        obtain ⟨t160, hW⟩ := hW
        obtain ⟨t161, hW⟩ := hW
        obtain ⟨t162, hW⟩ := hW
        obtain ⟨t163, hW⟩ := hW
        obtain ⟨t164, hW⟩ := hW
        obtain ⟨t165, hW⟩ := hW
        obtain ⟨t166, hW⟩ := hW
        obtain ⟨t167, hW⟩ := hW
        obtain ⟨t168, hW⟩ := hW
        obtain ⟨t169, hW⟩ := hW
        obtain ⟨t170, hW⟩ := hW
        obtain ⟨t171, hW⟩ := hW
        obtain ⟨t172, hW⟩ := hW
        obtain ⟨t173, hW⟩ := hW
        obtain ⟨t174, hW⟩ := hW
        obtain ⟨t175, hW⟩ := hW
        obtain ⟨t176, hW⟩ := hW
        obtain ⟨t177, hW⟩ := hW
        obtain ⟨t178, hW⟩ := hW
        obtain ⟨t179, hW⟩ := hW
        obtain ⟨t180, hW⟩ := hW
        obtain ⟨t181, hW⟩ := hW
        obtain ⟨t182, hW⟩ := hW
        obtain ⟨t183, hW⟩ := hW
        obtain ⟨t184, hW⟩ := hW
        obtain ⟨t185, hW⟩ := hW
        obtain ⟨t186, hW⟩ := hW
        obtain ⟨t187, hW⟩ := hW
        obtain ⟨t188, hW⟩ := hW
        obtain ⟨t189, hW⟩ := hW
        obtain ⟨t190, hW⟩ := hW
        obtain ⟨t191, hW⟩ := hW
        obtain ⟨t192, hW⟩ := hW
        obtain ⟨t193, hW⟩ := hW
        obtain ⟨t194, hW⟩ := hW
        obtain ⟨t195, hW⟩ := hW
        obtain ⟨t196, hW⟩ := hW
        obtain ⟨t197, hW⟩ := hW
        obtain ⟨t198, hW⟩ := hW
        obtain ⟨t199, hW⟩ := hW
        obtain ⟨t200, hW⟩ := hW
        obtain ⟨t201, hW⟩ := hW
        obtain ⟨t202, hW⟩ := hW
        obtain ⟨t203, hW⟩ := hW
        obtain ⟨t204, hW⟩ := hW
        obtain ⟨t205, hW⟩ := hW
        obtain ⟨t206, hW⟩ := hW
        obtain ⟨t207, hW⟩ := hW
        obtain ⟨t208, hW⟩ := hW
        obtain ⟨t209, hW⟩ := hW
        obtain ⟨t210, hW⟩ := hW
        obtain ⟨t211, hW⟩ := hW
        obtain ⟨t212, hW⟩ := hW
        obtain ⟨t213, hW⟩ := hW
        obtain ⟨t214, hW⟩ := hW
        obtain ⟨t215, hW⟩ := hW
        obtain ⟨t216, hW⟩ := hW
        obtain ⟨t217, hW⟩ := hW
        obtain ⟨t218, hW⟩ := hW
        obtain ⟨t219, hW⟩ := hW
        obtain ⟨t220, hW⟩ := hW
        obtain ⟨t221, hW⟩ := hW
        obtain ⟨t222, hW⟩ := hW
        obtain ⟨t223, hW⟩ := hW
        obtain ⟨t224, hW⟩ := hW
        obtain ⟨t225, hW⟩ := hW
        obtain ⟨t226, hW⟩ := hW
        obtain ⟨t227, hW⟩ := hW
        obtain ⟨t228, hW⟩ := hW
        obtain ⟨t229, hW⟩ := hW
        obtain ⟨t230, hW⟩ := hW
        obtain ⟨t231, hW⟩ := hW
        obtain ⟨t232, hW⟩ := hW
        obtain ⟨t233, hW⟩ := hW
        obtain ⟨t234, hW⟩ := hW
        obtain ⟨t235, hW⟩ := hW
        obtain ⟨t236, hW⟩ := hW
        obtain ⟨t237, hW⟩ := hW
        obtain ⟨t238, hW⟩ := hW
        obtain ⟨t239, hW⟩ := hW
        obtain ⟨t240, hW⟩ := hW
        obtain ⟨t241, hW⟩ := hW
        obtain ⟨t242, hW⟩ := hW
        obtain ⟨t243, hW⟩ := hW
        obtain ⟨t244, hW⟩ := hW
        obtain ⟨t245, hW⟩ := hW
        obtain ⟨t246, hW⟩ := hW
        obtain ⟨t247, hW⟩ := hW
        obtain ⟨t248, hW⟩ := hW
        obtain ⟨t249, hW⟩ := hW
        obtain ⟨t250, hW⟩ := hW
        obtain ⟨t251, hW⟩ := hW
        obtain ⟨t252, hW⟩ := hW
        obtain ⟨t253, hW⟩ := hW
        obtain ⟨t254, hW⟩ := hW
        obtain ⟨t255, hW⟩ := hW
        obtain ⟨t256, hW⟩ := hW
        obtain ⟨t257, hW⟩ := hW
        obtain ⟨t258, hW⟩ := hW
        obtain ⟨t259, hW⟩ := hW
        obtain ⟨t260, hW⟩ := hW
        obtain ⟨t261, hW⟩ := hW
        obtain ⟨t262, hW⟩ := hW
        obtain ⟨t263, hW⟩ := hW
        obtain ⟨t264, hW⟩ := hW
        obtain ⟨t265, hW⟩ := hW
        obtain ⟨t266, hW⟩ := hW
        obtain ⟨t267, hW⟩ := hW
        obtain ⟨t268, hW⟩ := hW
        obtain ⟨t269, hW⟩ := hW
        obtain ⟨t270, hW⟩ := hW
        obtain ⟨t271, hW⟩ := hW
        obtain ⟨t272, hW⟩ := hW
        obtain ⟨t273, hW⟩ := hW
        obtain ⟨t274, hW⟩ := hW
        obtain ⟨t275, hW⟩ := hW
        obtain ⟨t276, hW⟩ := hW
        obtain ⟨t277, hW⟩ := hW
        obtain ⟨t278, hW⟩ := hW
        obtain ⟨t279, hW⟩ := hW
        obtain ⟨t280, hW⟩ := hW
        obtain ⟨t281, hW⟩ := hW
        obtain ⟨t282, hW⟩ := hW
        obtain ⟨t283, hW⟩ := hW
        obtain ⟨t284, hW⟩ := hW
        obtain ⟨t285, hW⟩ := hW
        obtain ⟨t286, hW⟩ := hW
        obtain ⟨t287, hW⟩ := hW
        obtain ⟨t288, hW⟩ := hW
        obtain ⟨t289, hW⟩ := hW
        obtain ⟨t290, hW⟩ := hW
        obtain ⟨t291, hW⟩ := hW
        obtain ⟨t292, hW⟩ := hW
        obtain ⟨t293, hW⟩ := hW
        obtain ⟨t294, hW⟩ := hW
        obtain ⟨t295, hW⟩ := hW
        obtain ⟨t296, hW⟩ := hW
        obtain ⟨t297, hW⟩ := hW
        obtain ⟨t298, hW⟩ := hW
        obtain ⟨t299, hW⟩ := hW
        obtain ⟨t300, hW⟩ := hW
        obtain ⟨t301, hW⟩ := hW
        obtain ⟨t302, hW⟩ := hW
        obtain ⟨t303, hW⟩ := hW
        obtain ⟨t304, hW⟩ := hW
        obtain ⟨t305, hW⟩ := hW
        obtain ⟨t306, hW⟩ := hW
        obtain ⟨t307, hW⟩ := hW
        obtain ⟨t308, hW⟩ := hW
        obtain ⟨ds', t', gd', cd', gm', cm', r', rv', q', hS', rfl⟩ := hW
        have HS' : Hid _ := hS'
        clear hS' HKK HS HR1 HR2 HR3 HR4 HH
        go_wp2
        refine ⟨?_, ?_⟩
        · unfold k1WI k1WK
          exact ⟨k + 1, by omega, _, _, _, _, _, _, _, _, _, _, _, _, _, _, _, _, _, _, _, _, _, _, _, _, _, _, _, _, _, _, _, _, _, _, _, _, _, _, _, _, _, _, _, _, _, _, _, _, _, _, _, _, _, _, _, _, _, _, _, _, _, _, _, _, _, _, _, _, _, _, _, _, _, _, _, _, _, _, _, _, _, _, _, _, _, _, _, _, _, _, _, _, _, _, _, _, _, _, _, _, _, _, _, _, _, _, _, _, _, _, _, _, _, _, _, _, _, _, _, _, _, _, _, _, _, _, _, _, _, _, _, _, _, _, _, _, _, _, _, _, _, _, _, _, _, _, _, _, _, _, _, _, _, _, _, _, _, _, _, _, _, _, _, _, _, _, _, _, _, _, _, _, _, _, _, _, _, _, _, _, _, _, _, _, _, _, _, _, _, _, _, _, _, _, _, _, _, _, _, _, _, _, _, _, _, _, _, _, _, ds', t', gd', cd', gm', cm', r', rv', q', ⟨HS'.out.1, HS'.out.2.1, by have := HS'.out.2.2.1; omega, HS'.out.2.2.2⟩, by go_num⟩
        · simp [k1Wmu, intOf]
          omega
      clear HKK
      exact k_blk1 n0 c0 n1 c1 n2 c2 n3 c3 n4 c4 p a0 a1 a2 a3 a4 w L f2 f3 f4 f ds t gd cd gm cm r rv 0 k q _ _ _ _ _ _ _ _ _ _ _ _ _ _ _ _ _ _ _ _ _ _ _ _ _ _ _ _ _ _ _ _ _ _ _ _ _ _ _ _ _ _ _ _ _ _ _ _ _ _ _ _ _ _ _ _ _ _ _ _ _ _ _ _ _ _ _ _ _ _ _ _ _ _ _ _ _ _ _ _ _ _ _ _ _ _ _ _ _ _ _ _ _ _ _ _ _ _ _ _ _ _ _ _ _ _ _ _ _ _ _ _ _ _ _ _ _ _ _ _ _ _ _ _ _ _ _ _ _ _ _ _ _ _ _ _ _ _ _ _ _ _ _ _ _ _ _ _ _ _ _ _ _ _ _ _ _ _ _ _ _ _ _ _ _ _ _ _ _ _ _ _ _ _ _ _ _ _ _ _ _ _ _ _ _ _ _ _ _ _ _ _ _ _ _ _ _ _ _ _ _ _ _ _ _ _ _ _ _ _ _ _ _ _ _ _ _ _ _ _ _ _ _ _ _ _ _ _ _ _ _ _ _ _ _ _ _ _ _ _ _ _ _ _ _ _ _ _ _ _ _ _ _ _ _ _ _ _ _ _ _ _ _ _ _ _ _ _ _ _ _ _ _ _ _ _ _ _ _ _ _ _ _ _ _ _ _ _ _ _ _ _ _ _ _ _ _ _ _ _ HH.out hn40 HR1.out hn1 HR2.out hn2 HR3.out q3 hn3 HR4.out q4 hn4 HS.out.1 HS.out.2.1 HS.out.2.2.1 (by omega) HS.out.2.2.2 (fun a w1 h => HQQ.out a w1 h)
    · have q1 : (k : Int) < 4 := by omega
      have q2 : (n3 : Int) < (k : Int) := by omega
      have HX : Hid _ := hexit
      have HS : Hid _ := hS
      clear hS hexit
      go_wp2
      refine HX.out _ _ ?_
      unfold k1WI k1WK
      exact ⟨k, hk8, _, _, _, _, _, _, _, _, _, _, _, _, _, _, _, _, _, _, _, _, _, _, _, _, _, _, _, _, _, _, _, _, _, _, _, _, _, _, _, _, _, _, _, _, _, _, _, _, _, _, _, _, _, _, _, _, _, _, _, _, _, _, _, _, _, _, _, _, _, _, _, _, _, _, _, _, _, _, _, _, _, _, _, _, _, _, _, _, _, _, _, _, _, _, _, _, _, _, _, _, _, _, _, _, _, _, _, _, _, _, _, _, _, _, _, _, _, _, _, _, _, _, _, _, _, _, _, _, _, _, _, _, _, _, _, _, _, _, _, _, _, _, _, _, _, _, _, _, _, _, _, _, _, _, _, _, _, _, _, _, _, _, _, _, _, _, _, _, _, _, _, _, _, _, _, _, _, _, _, _, _, _, _, _, _, _, _, _, _, _, _, _, _, _, _, _, _, _, _, _, _, _, _, _, _, _, _, _, _, ds, t, gd, cd, gm, cm, r, rv, q, HS.out, rfl⟩
  · have q1 : (4 : Int) ≤ (k : Int) := by omega
    by_cases hq' : k ≤ n3
    · have q2 : (k : Int) ≤ (n3 : Int) := by omega
      have HX : Hid _ := hexit
      have HS : Hid _ := hS
      clear hS hexit
      go_wp2
      refine HX.out _ _ ?_
      unfold k1WI k1WK
      exact ⟨k, hk8, _, _, _, _, _, _, _, _, _, _, _, _, _, _, _, _, _, _, _, _, _, _, _, _, _, _, _, _, _, _, _, _, _, _, _, _, _, _, _, _, _, _, _, _, _, _, _, _, _, _, _, _, _, _, _, _, _, _, _, _, _, _, _, _, _, _, _, _, _, _, _, _, _, _, _, _, _, _, _, _, _, _, _, _, _, _, _, _, _, _, _, _, _, _, _, _, _, _, _, _, _, _, _, _, _, _, _, _, _, _, _, _, _, _, _, _, _, _, _, _, _, _, _, _, _, _, _, _, _, _, _, _, _, _, _, _, _, _, _, _, _, _, _, _, _, _, _, _, _, _, _, _, _, _, _, _, _, _, _, _, _, _, _, _, _, _, _, _, _, _, _, _, _, _, _, _, _, _, _, _, _, _, _, _, _, _, _, _, _, _, _, _, _, _, _, _, _, _, _, _, _, _, _, _, _, _, _, _, _, ds, t, gd, cd, gm, cm, r, rv, q, HS.out, rfl⟩
    · have q2 : (n3 : Int) < (k : Int) := by omega
      have HX : Hid _ := hexit
      have HS : Hid _ := hS
      clear hS hexit
      go_wp2
      refine HX.out _ _ ?_
      unfold k1WI k1WK
      exact ⟨k, hk8, _, _, _, _, _, _, _, _, _, _, _, _, _, _, _, _, _, _, _, _, _, _, _, _, _, _, _, _, _, _, _, _, _, _, _, _, _, _, _, _, _, _, _, _, _, _, _, _, _, _, _, _, _, _, _, _, _, _, _, _, _, _, _, _, _, _, _, _, _, _, _, _, _, _, _, _, _, _, _, _, _, _, _, _, _, _, _, _, _, _, _, _, _, _, _, _, _, _, _, _, _, _, _, _, _, _, _, _, _, _, _, _, _, _, _, _, _, _, _, _, _, _, _, _, _, _, _, _, _, _, _, _, _, _, _, _, _, _, _, _, _, _, _, _, _, _, _, _, _, _, _, _, _, _, _, _, _, _, _, _, _, _, _, _, _, _, _, _, _, _, _, _, _, _, _, _, _, _, _, _, _, _, _, _, _, _, _, _, _, _, _, _, _, _, _, _, _, _, _, _, _, _, _, _, _, _, _, _, _, ds, t, gd, cd, gm, cm, r, rv, q, HS.out, rfl⟩
set_option linter.unusedVariables false in
set_option maxRecDepth 1000000 in
set_option maxHeartbeats 8000000 in
theorem k1loop (n0 c0 n1 c1 n2 c2 n3 c3 n4 c4 p : Nat) (a0 a1 a2 a3 a4 : Option Addr) (w : World) (u5 u6 u7 u8 u9 u11 u12 u13 u14 u15 u16 u17 u19 u37 u38 u39 u40 u41 u42 u43 u44 u45 u46 u47 u48 u49 u50 u51 u52 u53 u54 u55 u56 u57 u58 u59 u60 u61 u62 u63 u64 u65 u66 u67 u68 u69 u70 u71 u72 u73 u74 u75 u76 u77 u78 u79 u80 u81 u82 u83 u84 u85 u86 u87 u88 u89 u90 u91 u92 u93 u94 u95 u96 u97 u98 u99 u100 u101 u102 u103 u104 u105 u106 u107 u108 u109 u110 u111 u112 : Value) (f : Nat → List El) (R : Nat)  (L : Nat → List Wr) (f2 : Nat → Int) (f3 f4 : Nat → Int) (hH : Handle w) (hn40 : n0 ≤ 40) (r1 : RdWW w (.slice a1 n1 c1) n1 L) (hn1 : n1 ≤ 5864062014634) (r2 : RdF w (.slice a2 n2 c2) n2 (fun i => .int .i64 (f2 i))) (hn2 : n2 ≤ 17592186044416) (r3 : RdF w (.slice a3 n3 c3) n3 (fun i => .int .i64 (f3 i))) (q3 : ∀ i, i < n3 → (Lit.int .i64 (f3 i)).wf = true) (hn3 : n3 ≤ 17592186044416) (r4 : RdF w (.slice a4 n4 c4) n4 (fun i => .int .i64 (f4 i))) (q4 : ∀ i, i < n4 → (Lit.int .i64 (f4 i)).wf = true) (hn4 : n4 ≤ 17592186044416) (hR : True) (Q0 : Exit → Act → World → Prop) (k : Nat) (ds : List (List Wr)) (t : Rdo) (gd cd gm cm r : Nat) (rv : Nat → Value) (q : Nat) (u20 u25 u26 u27 u28 u29 u30 u31 u32 u33 u34 u35 u36 u113 u114 u115 u116 u117 u118 u119 u120 u121 u122 u123 u124 u125 u126 u127 u128 u129 u130 u131 u132 u133 u134 u135 u136 u137 u138 u139 u140 u141 u142 u143 u144 u145 u146 u147 u148 u149 u150 u151 u152 u153 u154 u155 u156 u157 u158 u159 u160 u161 u162 u163 u164 u165 u166 u167 u168 u169 u170 u171 u172 u173 u174 u175 u176 u177 u178 u179 u180 u181 u182 u183 u184 u185 u186 u187 u188 u189 u190 u191 u192 u193 u194 u195 u196 u197 u198 u199 u200 u201 u202 u203 u204 u205 u206 u207 u208 u209 u210 u211 u212 u213 u214 u215 u216 u217 u218 u219 u220 u221 u222 u223 u224 u225 u226 u227 u228 u229 u230 u231 u232 u233 u234 u235 u236 u237 u238 u239 u240 u241 u242 u243 u244 u245 u246 u247 u248 u249 u250 u251 u252 u253 u254 u255 u256 u257 u258 u259 u260 u261 u262 u263 u264 u265 u266 u267 u268 u269 u270 u271 u272 u273 u274 u275 u276 u277 u278 u279 u280 u281 u282 u283 u284 u285 u286 u287 u288 u289 u290 u291 u292 u293 u294 u295 u296 u297 u298 u299 u300 u301 u302 u303 u304 u305 u306 u307 u308 : Value) (w' : World)
    (hk : k ≤ 4) (hrel : KN w p n0 f ds t gd cd gm cm r rv w' ∧ t.rs = ds ∧ r ≤ 8 * k ∧ q ≤ n1) (hexit : ∀ a w', k1WI n0 c0 n1 c1 n2 c2 n3 c3 n4 c4 p a0 a1 a2 a3 a4 w u5 u6 u7 u8 u9 u11 u12 u13 u14 u15 u16 u17 u19 u37 u38 u39 u40 u41 u42 u43 u44 u45 u46 u47 u48 u49 u50 u51 u52 u53 u54 u55 u56 u57 u58 u59 u60 u61 u62 u63 u64 u65 u66 u67 u68 u69 u70 u71 u72 u73 u74 u75 u76 u77 u78 u79 u80 u81 u82 u83 u84 u85 u86 u87 u88 u89 u90 u91 u92 u93 u94 u95 u96 u97 u98 u99 u100 u101 u102 u103 u104 u105 u106 u107 u108 u109 u110 u111 u112 f R a w' → Q0 (.exit 0) a w') :
    Code.wp Tryd.prog (Code.loop (cut [1, 1, 1, 1, 1, 1, 1, 1, 1, 1, 1, 1, 1, 1, 1, 1, 0, 1, 2, 5] (Tryd.f6.body.getD .skip))) Q0 ⟨#[.slice a0 n0 c0, .slice a1 n1 c1, .slice a2 n2 c2, .slice a3 n3 c3, .slice a4 n4 c4, u5, u6, u7, u8, u9, .bool false, u11, u12, u13, u14, u15, u16, u17, .pointer (some ⟨p, 0, none⟩), u19, u20, .slice (some ⟨gd, 0, none⟩) (r + 1) cd, .slice (some ⟨gm, 0, none⟩) (r + 1) cm, .int .i64 ((q : Nat) : Int), .int .i64 ((k : Nat) : Int), u25, u26, u27, u28, u29, u30, u31, u32, u33, u34, u35, u36, u37, u38, u39, u40, u41, u42, u43, u44, u45, u46, u47, u48, u49, u50, u51, u52, u53, u54, u55, u56, u57, u58, u59, u60, u61, u62, u63, u64, u65, u66, u67, u68, u69, u70, u71, u72, u73, u74, u75, u76, u77, u78, u79, u80, u81, u82, u83, u84, u85, u86, u87, u88, u89, u90, u91, u92, u93, u94, u95, u96, u97, u98, u99, u100, u101, u102, u103, u104, u105, u106, u107, u108, u109, u110, u111, u112, u113, u114, u115, u116, u117, u118, u119, u120, u121, u122, u123, u124, u125, u126, u127, u128, u129, u130, u131, u132, u133, u134, u135, u136, u137, u138, u139, u140, u141, u142, u143, u144, u145, u146, u147, u148, u149, u150, u151, u152, u153, u154, u155, u156, u157, u158, u159, u160, u161, u162, u163, u164, u165, u166, u167, u168, u169, u170, u171, u172, u173, u174, u175, u176, u177, u178, u179, u180, u181, u182, u183, u184, u185, u186, u187, u188, u189, u190, u191, u192, u193, u194, u195, u196, u197, u198, u199, u200, u201, u202, u203, u204, u205, u206, u207, u208, u209, u210, u211, u212, u213, u214, u215, u216, u217, u218, u219, u220, u221, u222, u223, u224, u225, u226, u227, u228, u229, u230, u231, u232, u233, u234, u235, u236, u237, u238, u239, u240, u241, u242, u243, u244, u245, u246, u247, u248, u249, u250, u251, u252, u253, u254, u255, u256, u257, u258, u259, u260, u261, u262, u263, u264, u265, u266, u267, u268, u269, u270, u271, u272, u273, u274, u275, u276, u277, u278, u279, u280, u281, u282, u283, u284, u285, u286, u287, u288, u289, u290, u291, u292, u293, u294, u295, u296, u297, u298, u299, u300, u301, u302, u303, u304, u305, u306, u307, u308], []⟩ w' := by
  refine wp_loop (k1WI n0 c0 n1 c1 n2 c2 n3 c3 n4 c4 p a0 a1 a2 a3 a4 w u5 u6 u7 u8 u9 u11 u12 u13 u14 u15 u16 u17 u19 u37 u38 u39 u40 u41 u42 u43 u44 u45 u46 u47 u48 u49 u50 u51 u52 u53 u54 u55 u56 u57 u58 u59 u60 u61 u62 u63 u64 u65 u66 u67 u68 u69 u70 u71 u72 u73 u74 u75 u76 u77 u78 u79 u80 u81 u82 u83 u84 u85 u86 u87 u88 u89 u90 u91 u92 u93 u94 u95 u96 u97 u98 u99 u100 u101 u102 u103 u104 u105 u106 u107 u108 u109 u110 u111 u112 f R) (fun a _ => k1Wmu a) ?_ (fun a w'' hI => k1round n0 c0 n1 c1 n2 c2 n3 c3 n4 c4 p a0 a1 a2 a3 a4 w u5 u6 u7 u8 u9 u11 u12 u13 u14 u15 u16 u17 u19 u37 u38 u39 u40 u41 u42 u43 u44 u45 u46 u47 u48 u49 u50 u51 u52 u53 u54 u55 u56 u57 u58 u59 u60 u61 u62 u63 u64 u65 u66 u67 u68 u69 u70 u71 u72 u73 u74 u75 u76 u77 u78 u79 u80 u81 u82 u83 u84 u85 u86 u87 u88 u89 u90 u91 u92 u93 u94 u95 u96 u97 u98 u99 u100 u101 u102 u103 u104 u105 u106 u107 u108 u109 u110 u111 u112 f R L f2 f3 f4 hH hn40 r1 hn1 r2 hn2 r3 q3 hn3 r4 q4 hn4 hR Q0 hexit a w'' hI)
  unfold k1WI k1WK
  exact ⟨k, hk, u20, u25, u26, u27, u28, u29, u30, u31, u32, u33, u34, u35, u36, u113, u114, u115, u116, u117, u118, u119, u120, u121, u122, u123, u124, u125, u126, u127, u128, u129, u130, u131, u132, u133, u134, u135, u136, u137, u138, u139, u140, u141, u142, u143, u144, u145, u146, u147, u148, u149, u150, u151, u152, u153, u154, u155, u156, u157, u158, u159, u160, u161, u162, u163, u164, u165, u166, u167, u168, u169, u170, u171, u172, u173, u174, u175, u176, u177, u178, u179, u180, u181, u182, u183, u184, u185, u186, u187, u188, u189, u190, u191, u192, u193, u194, u195, u196, u197, u198, u199, u200, u201, u202, u203, u204, u205, u206, u207, u208, u209, u210, u211, u212, u213, u214, u215, u216, u217, u218, u219, u220, u221, u222, u223, u224, u225, u226, u227, u228, u229, u230, u231, u232, u233, u234, u235, u236, u237, u238, u239, u240, u241, u242, u243, u244, u245, u246, u247, u248, u249, u250, u251, u252, u253, u254, u255, u256, u257, u258, u259, u260, u261, u262, u263, u264, u265, u266, u267, u268, u269, u270, u271, u272, u273, u274, u275, u276, u277, u278, u279, u280, u281, u282, u283, u284, u285, u286, u287, u288, u289, u290, u291, u292, u293, u294, u295, u296, u297, u298, u299, u300, u301, u302, u303, u304, u305, u306, u307, u308, ds, t, gd, cd, gm, cm, r, rv, q, hrel, rfl⟩
end Go.Proofs.YtacfafbnimhibaaDoor
