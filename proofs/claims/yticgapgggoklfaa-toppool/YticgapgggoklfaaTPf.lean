/- TopPool, a piece: walks over the program. -/
import Derived.Test.YticgapgggoklfaaTPe
namespace Go.Proofs.Yticgapgggoklfaa
open Go.RowKit El Pol Mx Lay
set_option linter.unusedVariables false in
set_option maxRecDepth 1000000 in
set_option maxHeartbeats 8000000 in
theorem tround (n rows sp m g n3 c3 n4 c4 : Nat) (a3 a4 : Option Addr) (x : PAd) (y : PP) (w : World) (u5 u6 u7 u8 u9 u11 u13 u15 u17 u28 u29 u30 u31 u32 u33 u34 u35 u36 u37 u38 u39 u40 u41 u42 u43 u44 u45 u46 u47 u48 u49 u50 u51 u52 u53 u54 u55 u56 u57 u58 u59 u60 u61 u62 u63 u64 u65 u66 u67 u68 u69 u70 u71 u72 u73 u74 u75 u76 u77 u78 u79 u80 u81 u82 u83 u84 u85 u86 u87 u88 u89 u90 u91 u92 u93 u94 u95 u96 u97 u98 u99 u100 u101 u102 u103 u104 u105 u106 u107 u108 u109 u237 u238 u239 u240 u241 u242 u243 u244 u245 u246 u247 u248 u249 u250 u251 u252 u253 u254 u255 u256 u257 u258 : Value) (f3 f4 : Nat → Int) (hm : Hid (m = rows * (n - 2))) (hm1 : 1 ≤ m) (hm160 : m ≤ 160) (hn : 3 ≤ n ∧ n ≤ 10) (hr : 1 ≤ rows ∧ rows ≤ 20) (r3 : RdF w (.slice a3 n3 c3) n3 (fun i => .int .i64 (f3 i))) (q3 : ∀ i, i < n3 → (Lit.int .i64 (f3 i)).wf = true) (r4 : RdF w (.slice a4 n4 c4) n4 (fun i => .int .i64 (f4 i))) (hn3 : n3 ≤ 17592186044416) (Q0 : Exit → Act → World → Prop) (hexit : ∀ ac w', tWI n rows sp m g n3 c3 n4 c4 a3 a4 x y w u5 u6 u7 u8 u9 u11 u13 u15 u17 u28 u29 u30 u31 u32 u33 u34 u35 u36 u37 u38 u39 u40 u41 u42 u43 u44 u45 u46 u47 u48 u49 u50 u51 u52 u53 u54 u55 u56 u57 u58 u59 u60 u61 u62 u63 u64 u65 u66 u67 u68 u69 u70 u71 u72 u73 u74 u75 u76 u77 u78 u79 u80 u81 u82 u83 u84 u85 u86 u87 u88 u89 u90 u91 u92 u93 u94 u95 u96 u97 u98 u99 u100 u101 u102 u103 u104 u105 u106 u107 u108 u109 u237 u238 u239 u240 u241 u242 u243 u244 u245 u246 u247 u248 u249 u250 u251 u252 u253 u254 u255 u256 u257 u258 ac w' → Q0 (.exit 2) ac w') (ac : Act) (wc : World) (hI : tWI n rows sp m g n3 c3 n4 c4 a3 a4 x y w u5 u6 u7 u8 u9 u11 u13 u15 u17 u28 u29 u30 u31 u32 u33 u34 u35 u36 u37 u38 u39 u40 u41 u42 u43 u44 u45 u46 u47 u48 u49 u50 u51 u52 u53 u54 u55 u56 u57 u58 u59 u60 u61 u62 u63 u64 u65 u66 u67 u68 u69 u70 u71 u72 u73 u74 u75 u76 u77 u78 u79 u80 u81 u82 u83 u84 u85 u86 u87 u88 u89 u90 u91 u92 u93 u94 u95 u96 u97 u98 u99 u100 u101 u102 u103 u104 u105 u106 u107 u108 u109 u237 u238 u239 u240 u241 u242 u243 u244 u245 u246 u247 u248 u249 u250 u251 u252 u253 u254 u255 u256 u257 u258 ac wc) :
    Code.wp Try.prog (cut [1, 1, 1, 1, 1, 1, 1, 1, 1, 1, 0, 1, 2, 5] (Try.f5.body.getD .skip)) (Exit.then (fun a' w'' => tWI n rows sp m g n3 c3 n4 c4 a3 a4 x y w u5 u6 u7 u8 u9 u11 u13 u15 u17 u28 u29 u30 u31 u32 u33 u34 u35 u36 u37 u38 u39 u40 u41 u42 u43 u44 u45 u46 u47 u48 u49 u50 u51 u52 u53 u54 u55 u56 u57 u58 u59 u60 u61 u62 u63 u64 u65 u66 u67 u68 u69 u70 u71 u72 u73 u74 u75 u76 u77 u78 u79 u80 u81 u82 u83 u84 u85 u86 u87 u88 u89 u90 u91 u92 u93 u94 u95 u96 u97 u98 u99 u100 u101 u102 u103 u104 u105 u106 u107 u108 u109 u237 u238 u239 u240 u241 u242 u243 u244 u245 u246 u247 u248 u249 u250 u251 u252 u253 u254 u255 u256 u257 u258 a' w'' ∧ tWmu n3 a' < tWmu n3 ac) Q0) ac wc := by
  unfold tWI at hI
  obtain ⟨k, ⟨hk1, hk2⟩, hI⟩ := hI
  unfold tWK at hI
  obtain ⟨u10, hI⟩ := hI
  obtain ⟨u20, hI⟩ := hI
  obtain ⟨u21, hI⟩ := hI
  obtain ⟨u22, hI⟩ := hI
  obtain ⟨u23, hI⟩ := hI
  obtain ⟨u24, hI⟩ := hI
  obtain ⟨u25, hI⟩ := hI
  obtain ⟨u26, hI⟩ := hI
  obtain ⟨u27, hI⟩ := hI
  obtain ⟨u110, hI⟩ := hI
  obtain ⟨u111, hI⟩ := hI
  obtain ⟨u112, hI⟩ := hI
  obtain ⟨u113, hI⟩ := hI
  obtain ⟨u114, hI⟩ := hI
  obtain ⟨u115, hI⟩ := hI
  obtain ⟨u116, hI⟩ := hI
  obtain ⟨u117, hI⟩ := hI
  obtain ⟨u118, hI⟩ := hI
  obtain ⟨u119, hI⟩ := hI
  obtain ⟨u120, hI⟩ := hI
  obtain ⟨u121, hI⟩ := hI
  obtain ⟨u122, hI⟩ := hI
  obtain ⟨u123, hI⟩ := hI
  obtain ⟨u124, hI⟩ := hI
  obtain ⟨u125, hI⟩ := hI
  obtain ⟨u126, hI⟩ := hI
  obtain ⟨u127, hI⟩ := hI
  obtain ⟨u128, hI⟩ := hI
  obtain ⟨u129, hI⟩ := hI
  obtain ⟨u130, hI⟩ := hI
  obtain ⟨u131, hI⟩ := hI
  obtain ⟨u132, hI⟩ := hI
  obtain ⟨u133, hI⟩ := hI
  obtain ⟨u134, hI⟩ := hI
  obtain ⟨u135, hI⟩ := hI
  obtain ⟨u136, hI⟩ := hI
  obtain ⟨u137, hI⟩ := hI
  obtain ⟨u138, hI⟩ := hI
  obtain ⟨u139, hI⟩ := hI
  obtain ⟨u140, hI⟩ := hI
  obtain ⟨u141, hI⟩ := hI
  obtain ⟨u142, hI⟩ := hI
  obtain ⟨u143, hI⟩ := hI
  obtain ⟨u144, hI⟩ := hI
  obtain ⟨u145, hI⟩ := hI
  obtain ⟨u146, hI⟩ := hI
  obtain ⟨u147, hI⟩ := hI
  obtain ⟨u148, hI⟩ := hI
  obtain ⟨u149, hI⟩ := hI
  obtain ⟨u150, hI⟩ := hI
  obtain ⟨u151, hI⟩ := hI
  obtain ⟨u152, hI⟩ := hI
  obtain ⟨u153, hI⟩ := hI
  obtain ⟨u154, hI⟩ := hI
  obtain ⟨u155, hI⟩ := hI
  obtain ⟨u156, hI⟩ := hI
  obtain ⟨u157, hI⟩ := hI
  obtain ⟨u158, hI⟩ := hI
  obtain ⟨u159, hI⟩ := hI
  obtain ⟨u160, hI⟩ := hI
  obtain ⟨u161, hI⟩ := hI
  obtain ⟨u162, hI⟩ := hI
  obtain ⟨u163, hI⟩ := hI
  obtain ⟨u164, hI⟩ := hI
  obtain ⟨u165, hI⟩ := hI
  obtain ⟨u166, hI⟩ := hI
  obtain ⟨u167, hI⟩ := hI
  obtain ⟨u168, hI⟩ := hI
  obtain ⟨u169, hI⟩ := hI
  obtain ⟨u170, hI⟩ := hI
  obtain ⟨u171, hI⟩ := hI
  obtain ⟨u172, hI⟩ := hI
  obtain ⟨u173, hI⟩ := hI
  obtain ⟨u174, hI⟩ := hI
  obtain ⟨u175, hI⟩ := hI
  obtain ⟨u176, hI⟩ := hI
  obtain ⟨u177, hI⟩ := hI
  obtain ⟨u178, hI⟩ := hI
  obtain ⟨u179, hI⟩ := hI
  obtain ⟨u180, hI⟩ := hI
  obtain ⟨u181, hI⟩ := hI
  obtain ⟨u182, hI⟩ := hI
  obtain ⟨u183, hI⟩ := hI
  obtain ⟨u184, hI⟩ := hI
  obtain ⟨u185, hI⟩ := hI
  obtain ⟨u186, hI⟩ := hI
  obtain ⟨u187, hI⟩ := hI
  obtain ⟨u188, hI⟩ := hI
  obtain ⟨u189, hI⟩ := hI
  obtain ⟨u190, hI⟩ := hI
  obtain ⟨u191, hI⟩ := hI
  obtain ⟨u192, hI⟩ := hI
  obtain ⟨u193, hI⟩ := hI
  obtain ⟨u194, hI⟩ := hI
  obtain ⟨u195, hI⟩ := hI
  obtain ⟨u196, hI⟩ := hI
  obtain ⟨u197, hI⟩ := hI
  obtain ⟨u198, hI⟩ := hI
  obtain ⟨u199, hI⟩ := hI
  obtain ⟨u200, hI⟩ := hI
  obtain ⟨u201, hI⟩ := hI
  obtain ⟨u202, hI⟩ := hI
  obtain ⟨u203, hI⟩ := hI
  obtain ⟨u204, hI⟩ := hI
  obtain ⟨u205, hI⟩ := hI
  obtain ⟨u206, hI⟩ := hI
  obtain ⟨u207, hI⟩ := hI
  obtain ⟨u208, hI⟩ := hI
  obtain ⟨u209, hI⟩ := hI
  obtain ⟨u210, hI⟩ := hI
  obtain ⟨u211, hI⟩ := hI
  obtain ⟨u212, hI⟩ := hI
  obtain ⟨u213, hI⟩ := hI
  obtain ⟨u214, hI⟩ := hI
  obtain ⟨u215, hI⟩ := hI
  obtain ⟨u216, hI⟩ := hI
  obtain ⟨u217, hI⟩ := hI
  obtain ⟨u218, hI⟩ := hI
  obtain ⟨u219, hI⟩ := hI
  obtain ⟨u220, hI⟩ := hI
  obtain ⟨u221, hI⟩ := hI
  obtain ⟨u222, hI⟩ := hI
  obtain ⟨u223, hI⟩ := hI
  obtain ⟨u224, hI⟩ := hI
  obtain ⟨u225, hI⟩ := hI
  obtain ⟨u226, hI⟩ := hI
  obtain ⟨u227, hI⟩ := hI
  obtain ⟨u228, hI⟩ := hI
  obtain ⟨u229, hI⟩ := hI
  obtain ⟨u230, hI⟩ := hI
  obtain ⟨u231, hI⟩ := hI
  obtain ⟨u232, hI⟩ := hI
  obtain ⟨u233, hI⟩ := hI
  obtain ⟨u234, hI⟩ := hI
  obtain ⟨u235, hI⟩ := hI
  obtain ⟨u236, hI⟩ := hI
  obtain ⟨A, t, c, op, N, ⟨hS, hT, ho2, hNk⟩, rfl⟩ := hI
  conv => arg 2; whnf
  by_cases hlt : k < n3
  · by_cases hlt2 : k < 40
    · have q1 : (k : Int) < (n3 : Int) := by omega
      have q2 : (k : Int) < 40 := by omega
      have HS : Hid _ := hS
      have HT : Hid (TP A t c op) := hT
      have HR3 : Hid _ := r3
      have HR4 : Hid _ := r4
      have HQ3 : Hid _ := q3
      clear hS hT hexit r3 r4 q3
      refine wp_seq_k fun K hK => ?_
      have HK : Hid _ := hK
      clear hK
      go_wp2
      refine HK.out _ _ ?_
      clear HK K
      refine wp_seq_k fun K hK => ?_
      have HKK : Hid _ := hK
      clear hK
      refine wp_block ?_
      have HQQ : Hid (∀ (R : Exit → Act → World → Prop) e ac w1, (e = Exit.normal ∨ e = .exit 3) → tWK n rows sp m g n3 c3 n4 c4 a3 a4 x y w u5 u6 u7 u8 u9 u11 u13 u15 u17 u28 u29 u30 u31 u32 u33 u34 u35 u36 u37 u38 u39 u40 u41 u42 u43 u44 u45 u46 u47 u48 u49 u50 u51 u52 u53 u54 u55 u56 u57 u58 u59 u60 u61 u62 u63 u64 u65 u66 u67 u68 u69 u70 u71 u72 u73 u74 u75 u76 u77 u78 u79 u80 u81 u82 u83 u84 u85 u86 u87 u88 u89 u90 u91 u92 u93 u94 u95 u96 u97 u98 u99 u100 u101 u102 u103 u104 u105 u106 u107 u108 u109 u237 u238 u239 u240 u241 u242 u243 u244 u245 u246 u247 u248 u249 u250 u251 u252 u253 u254 u255 u256 u257 u258 k (23 * (k + 1)) ac w1 → Exit.inBlock 3 (Exit.then K R) e ac w1) := fun R e ac w1 he hW => by
        have h2 : K ac w1 := by
          refine HKK.out ac w1 ?_
          unfold tWK at hW
          obtain ⟨t10, hW⟩ := hW
          obtain ⟨t20, hW⟩ := hW
          obtain ⟨t21, hW⟩ := hW
          obtain ⟨t22, hW⟩ := hW
          obtain ⟨t23, hW⟩ := hW
          obtain ⟨t24, hW⟩ := hW
          obtain ⟨t25, hW⟩ := hW
          obtain ⟨t26, hW⟩ := hW
          obtain ⟨t27, hW⟩ := hW
          obtain ⟨t110, hW⟩ := hW
          obtain ⟨t111, hW⟩ := hW
          obtain ⟨t112, hW⟩ := hW
          obtain ⟨t113, hW⟩ := hW
          obtain ⟨t114, hW⟩ := hW
          obtain ⟨t115, hW⟩ := hW
          obtain ⟨t116, hW⟩ := hW
          obtain ⟨t117, hW⟩ := hW
          obtain ⟨t118, hW⟩ := hW
          obtain ⟨t119, hW⟩ := hW
          obtain ⟨t120, hW⟩ := hW
          obtain ⟨t121, hW⟩ := hW
          obtain ⟨t122, hW⟩ := hW
          obtain ⟨t123, hW⟩ := hW
          obtain ⟨t124, hW⟩ := hW
          obtain ⟨t125, hW⟩ := hW
          obtain ⟨t126, hW⟩ := hW
          obtain ⟨t127, hW⟩ := hW
          obtain ⟨t128, hW⟩ := hW
          obtain ⟨t129, hW⟩ := hW
          obtain ⟨t130, hW⟩ := hW
          obtain ⟨t131, hW⟩ := hW
          obtain ⟨t132, hW⟩ := hW
          obtain ⟨t133, hW⟩ := hW
          obtain ⟨t134, hW⟩ := hW
          obtain ⟨t135, hW⟩ := hW
          obtain ⟨t136, hW⟩ := hW
          obtain ⟨t137, hW⟩ := hW
          obtain ⟨t138, hW⟩ := hW
          obtain ⟨t139, hW⟩ := hW
          obtain ⟨t140, hW⟩ := hW
          obtain ⟨t141, hW⟩ := hW
          obtain ⟨t142, hW⟩ := hW
          obtain ⟨t143, hW⟩ := hW
          obtain ⟨t144, hW⟩ := hW
          obtain ⟨t145, hW⟩ := hW
          obtain ⟨t146, hW⟩ := hW
          obtain ⟨t147, hW⟩ := hW
          obtain ⟨t148, hW⟩ := hW
          obtain ⟨t149, hW⟩ := hW
          obtain ⟨t150, hW⟩ := hW
          obtain ⟨t151, hW⟩ := hW
          obtain ⟨t152, hW⟩ := hW
          obtain ⟨t153, hW⟩ := hW
          obtain ⟨t154, hW⟩ := hW
          obtain ⟨t155, hW⟩ := hW
          obtain ⟨t156, hW⟩ := hW
          obtain ⟨t157, hW⟩ := hW
          obtain ⟨t158, hW⟩ := hW
          obtain ⟨t159, hW⟩ := hW
          obtain ⟨t160, hW⟩ := hW
          obtain ⟨t161, hW⟩ := hW
          obtain ⟨t162, hW⟩ := hW
          obtain ⟨t163, hW⟩ := hW
          obtain ⟨t164, hW⟩ := hW
          obtain ⟨t165, hW⟩ := hW
          obtain ⟨t166, hW⟩ := hW
          obtain ⟨t167, hW⟩ := hW
          obtain ⟨t168, hW⟩ := hW
          obtain ⟨t169, hW⟩ := hW
          obtain ⟨t170, hW⟩ := hW
          obtain ⟨t171, hW⟩ := hW
          obtain ⟨t172, hW⟩ := hW
          obtain ⟨t173, hW⟩ := hW
          obtain ⟨t174, hW⟩ := hW
          obtain ⟨t175, hW⟩ := hW
          obtain ⟨t176, hW⟩ := hW
          obtain ⟨t177, hW⟩ := hW
          obtain ⟨t178, hW⟩ := hW
          obtain ⟨t179, hW⟩ := hW
          obtain ⟨t180, hW⟩ := hW
          obtain ⟨t181, hW⟩ := hW
          obtain ⟨t182, hW⟩ := hW
          obtain ⟨t183, hW⟩ := hW
          obtain ⟨t184, hW⟩ := hW
          obtain ⟨t185, hW⟩ := hW
          obtain ⟨t186, hW⟩ := hW
          obtain ⟨t187, hW⟩ := hW
          obtain ⟨t188, hW⟩ := hW
          obtain ⟨t189, hW⟩ := hW
          obtain ⟨t190, hW⟩ := hW
          obtain ⟨t191, hW⟩ := hW
          obtain ⟨t192, hW⟩ := hW
          obtain ⟨t193, hW⟩ := hW
          obtain ⟨t194, hW⟩ := hW
          obtain ⟨t195, hW⟩ := hW
          obtain ⟨t196, hW⟩ := hW
          obtain ⟨t197, hW⟩ := hW
          obtain ⟨t198, hW⟩ := hW
          obtain ⟨t199, hW⟩ := hW
          obtain ⟨t200, hW⟩ := hW
          obtain ⟨t201, hW⟩ := hW
          obtain ⟨t202, hW⟩ := hW
          obtain ⟨t203, hW⟩ := hW
          obtain ⟨t204, hW⟩ := hW
          obtain ⟨t205, hW⟩ := hW
          obtain ⟨t206, hW⟩ := hW
          obtain ⟨t207, hW⟩ := hW
          obtain ⟨t208, hW⟩ := hW
          obtain ⟨t209, hW⟩ := hW
          obtain ⟨t210, hW⟩ := hW
          obtain ⟨t211, hW⟩ := hW
          obtain ⟨t212, hW⟩ := hW
          obtain ⟨t213, hW⟩ := hW
          obtain ⟨t214, hW⟩ := hW
          obtain ⟨t215, hW⟩ := hW
          obtain ⟨t216, hW⟩ := hW
          obtain ⟨t217, hW⟩ := hW
          obtain ⟨t218, hW⟩ := hW
          obtain ⟨t219, hW⟩ := hW
          obtain ⟨t220, hW⟩ := hW
          obtain ⟨t221, hW⟩ := hW
          obtain ⟨t222, hW⟩ := hW
          obtain ⟨t223, hW⟩ := hW
          obtain ⟨t224, hW⟩ := hW
          obtain ⟨t225, hW⟩ := hW
          obtain ⟨t226, hW⟩ := hW
          obtain ⟨t227, hW⟩ := hW
          obtain ⟨t228, hW⟩ := hW
          obtain ⟨t229, hW⟩ := hW
          obtain ⟨t230, hW⟩ := hW
          obtain ⟨t231, hW⟩ := hW
          obtain ⟨t232, hW⟩ := hW
          obtain ⟨t233, hW⟩ := hW
          obtain ⟨t234, hW⟩ := hW
          obtain ⟨t235, hW⟩ := hW
          obtain ⟨t236, hW⟩ := hW
          obtain ⟨A', t', c', op', N', ⟨hS', hT', ho', hN'⟩, rfl⟩ := hW
          have HS' : Hid _ := hS'
          have HT' : Hid (TP A' t' c' op') := hT'
          clear hS' hT' HKK HS HT HR3 HR4 HQ3
          go_wp2
          refine ⟨?_, ?_⟩
          · unfold tWI tWK
            exact ⟨k + 1, ⟨by omega, by omega⟩, _, _, _, _, _, _, _, _, _, _, _, _, _, _, _, _, _, _, _, _, _, _, _, _, _, _, _, _, _, _, _, _, _, _, _, _, _, _, _, _, _, _, _, _, _, _, _, _, _, _, _, _, _, _, _, _, _, _, _, _, _, _, _, _, _, _, _, _, _, _, _, _, _, _, _, _, _, _, _, _, _, _, _, _, _, _, _, _, _, _, _, _, _, _, _, _, _, _, _, _, _, _, _, _, _, _, _, _, _, _, _, _, _, _, _, _, _, _, _, _, _, _, _, _, _, _, _, _, _, _, _, _, _, _, _, _, _, _, _, _, _, ⟨HS'.out, HT'.out, ho', hN'⟩, by go_num⟩
          · simp [tWmu, intOf]
            omega
        rcases he with rfl | rfl
        · exact h2
        · exact h2
      clear HKK
      refine wp_seq_k fun K hK => ?_
      refine t_write n rows sp m g n3 c3 n4 c4 a3 a4 x y w k op N A t c f3 _ _ _ _ _ _ _ _ _ _ _ _ _ _ _ _ _ _ _ _ _ _ _ _ _ _ _ _ _ _ _ _ _ _ _ _ _ _ _ _ _ _ _ _ _ _ _ _ _ _ _ _ _ _ _ _ _ _ _ _ _ _ _ _ _ _ _ _ _ _ _ _ _ _ _ _ _ _ _ _ _ _ _ _ _ _ _ _ _ _ _ _ _ _ _ _ _ _ _ _ _ _ _ _ _ _ _ _ _ _ _ _ _ _ _ _ _ _ _ _ _ _ _ _ _ _ _ _ _ _ _ _ _ _ _ _ _ _ _ _ _ _ _ _ _ _ _ _ _ _ _ _ _ _ _ _ _ _ _ _ _ _ _ _ _ _ _ _ _ _ _ _ _ _ _ _ _ _ _ _ _ _ _ _ _ _ _ _ _ _ _ _ _ _ _ _ _ _ _ _ _ _ _ _ _ _ _ _ _ _ _ _ _ _ _ _ _ _ _ _ _ _ _ _ _ _ _ _ _ _ _ _ _ _ _ _ _ _ _ _ _ _ _ _ _ _ _ _ _ _ _ hm hm1 hm160 hn hr HR3.out HQ3.out hlt HS.out HT.out (by omega) ?_
      intro y10 y20 y120 y121 y122 y123 y124 y125 y126 y127 y128 y129 y130 y131 y132 y133 y134 y135 y136 y137 y138 y139 y140 y141 y142 y143 y144 y145 y146 y147 y148 A' c' N' w2 hS2 hT2 hN2
      refine then_k (hK _ _ ?_)
      clear hK K
      exact t_rest n rows sp m g n3 c3 n4 c4 a3 a4 x y w k (23 * (k + 1)) op N' A' t c' f4 _ _ _ _ _ _ _ _ _ _ _ _ _ _ _ _ _ _ _ _ _ _ _ _ _ _ _ _ _ _ _ _ _ _ _ _ _ _ _ _ _ _ _ _ _ _ _ _ _ _ _ _ _ _ _ _ _ _ _ _ _ _ _ _ _ _ _ _ _ _ _ _ _ _ _ _ _ _ _ _ _ _ _ _ _ _ _ _ _ _ _ _ _ _ _ _ _ _ _ _ _ _ _ _ _ _ _ _ _ _ _ _ _ _ _ _ _ _ _ _ _ _ _ _ _ _ _ _ _ _ _ _ _ _ _ _ _ _ _ _ _ _ _ _ _ _ _ _ _ _ _ _ _ _ _ _ _ _ _ _ _ _ _ _ _ _ _ _ _ _ _ _ _ _ _ _ _ _ _ _ _ _ _ _ _ _ _ _ _ _ _ _ _ _ _ _ _ _ _ _ _ _ _ _ _ _ _ _ _ _ _ _ _ _ _ _ _ _ _ _ _ _ _ _ _ _ _ _ _ _ _ _ _ _ _ _ _ _ _ _ _ _ _ _ _ _ _ _ _ _ _ hm hm1 hm160 hn hr HR4.out hS2 hT2 ho2 (by omega) (by omega) (by omega) (HQQ.out _)
    · have q1 : (k : Int) < (n3 : Int) := by omega
      have q2 : (40 : Int) ≤ (k : Int) := by omega
      have HX : Hid _ := hexit
      have HS : Hid _ := hS
      have HT : Hid (TP A t c op) := hT
      clear hS hT hexit r3 r4 q3
      go_wp2
      refine HX.out _ _ ?_
      unfold tWI tWK
      exact ⟨k, ⟨hk1, hk2⟩, _, _, _, _, _, _, _, _, _, _, _, _, _, _, _, _, _, _, _, _, _, _, _, _, _, _, _, _, _, _, _, _, _, _, _, _, _, _, _, _, _, _, _, _, _, _, _, _, _, _, _, _, _, _, _, _, _, _, _, _, _, _, _, _, _, _, _, _, _, _, _, _, _, _, _, _, _, _, _, _, _, _, _, _, _, _, _, _, _, _, _, _, _, _, _, _, _, _, _, _, _, _, _, _, _, _, _, _, _, _, _, _, _, _, _, _, _, _, _, _, _, _, _, _, _, _, _, _, _, _, _, _, _, _, _, _, _, _, _, _, _, ⟨HS.out, HT.out, ho2, hNk⟩, rfl⟩
  · have q1 : (n3 : Int) ≤ (k : Int) := by omega
    have HX : Hid _ := hexit
    have HS : Hid _ := hS
    have HT : Hid (TP A t c op) := hT
    clear hS hT hexit r3 r4 q3
    go_wp2
    refine HX.out _ _ ?_
    unfold tWI tWK
    exact ⟨k, ⟨hk1, hk2⟩, _, _, _, _, _, _, _, _, _, _, _, _, _, _, _, _, _, _, _, _, _, _, _, _, _, _, _, _, _, _, _, _, _, _, _, _, _, _, _, _, _, _, _, _, _, _, _, _, _, _, _, _, _, _, _, _, _, _, _, _, _, _, _, _, _, _, _, _, _, _, _, _, _, _, _, _, _, _, _, _, _, _, _, _, _, _, _, _, _, _, _, _, _, _, _, _, _, _, _, _, _, _, _, _, _, _, _, _, _, _, _, _, _, _, _, _, _, _, _, _, _, _, _, _, _, _, _, _, _, _, _, _, _, _, _, _, _, _, _, _, _, ⟨HS.out, HT.out, ho2, hNk⟩, rfl⟩
set_option linter.unusedVariables false in
set_option maxRecDepth 1000000 in
set_option maxHeartbeats 8000000 in
theorem tloop (n rows sp m g n3 c3 n4 c4 : Nat) (a3 a4 : Option Addr) (x : PAd) (y : PP) (w : World) (u5 u6 u7 u8 u9 u11 u13 u15 u17 u28 u29 u30 u31 u32 u33 u34 u35 u36 u37 u38 u39 u40 u41 u42 u43 u44 u45 u46 u47 u48 u49 u50 u51 u52 u53 u54 u55 u56 u57 u58 u59 u60 u61 u62 u63 u64 u65 u66 u67 u68 u69 u70 u71 u72 u73 u74 u75 u76 u77 u78 u79 u80 u81 u82 u83 u84 u85 u86 u87 u88 u89 u90 u91 u92 u93 u94 u95 u96 u97 u98 u99 u100 u101 u102 u103 u104 u105 u106 u107 u108 u109 u237 u238 u239 u240 u241 u242 u243 u244 u245 u246 u247 u248 u249 u250 u251 u252 u253 u254 u255 u256 u257 u258 : Value) (f3 f4 : Nat → Int) (hm : Hid (m = rows * (n - 2))) (hm1 : 1 ≤ m) (hm160 : m ≤ 160) (hn : 3 ≤ n ∧ n ≤ 10) (hr : 1 ≤ rows ∧ rows ≤ 20) (r3 : RdF w (.slice a3 n3 c3) n3 (fun i => .int .i64 (f3 i))) (q3 : ∀ i, i < n3 → (Lit.int .i64 (f3 i)).wf = true) (r4 : RdF w (.slice a4 n4 c4) n4 (fun i => .int .i64 (f4 i))) (hn3 : n3 ≤ 17592186044416) (Q0 : Exit → Act → World → Prop) (k op N : Nat) (A : Arr) (t : Plo) (c : Nat → List El) (u10 u20 u21 u22 u23 u24 u25 u26 u27 u110 u111 u112 u113 u114 u115 u116 u117 u118 u119 u120 u121 u122 u123 u124 u125 u126 u127 u128 u129 u130 u131 u132 u133 u134 u135 u136 u137 u138 u139 u140 u141 u142 u143 u144 u145 u146 u147 u148 u149 u150 u151 u152 u153 u154 u155 u156 u157 u158 u159 u160 u161 u162 u163 u164 u165 u166 u167 u168 u169 u170 u171 u172 u173 u174 u175 u176 u177 u178 u179 u180 u181 u182 u183 u184 u185 u186 u187 u188 u189 u190 u191 u192 u193 u194 u195 u196 u197 u198 u199 u200 u201 u202 u203 u204 u205 u206 u207 u208 u209 u210 u211 u212 u213 u214 u215 u216 u217 u218 u219 u220 u221 u222 u223 u224 u225 u226 u227 u228 u229 u230 u231 u232 u233 u234 u235 u236 : Value) (w' : World)
    (hk : k ≤ n3 ∧ k ≤ 40) (hrel : TW w x y g n rows (A) (t) (c) (N) (w') ∧ TP A t c op ∧ op ≤ 2 ∧ N ≤ 23 * k) (hexit : ∀ ac w', tWI n rows sp m g n3 c3 n4 c4 a3 a4 x y w u5 u6 u7 u8 u9 u11 u13 u15 u17 u28 u29 u30 u31 u32 u33 u34 u35 u36 u37 u38 u39 u40 u41 u42 u43 u44 u45 u46 u47 u48 u49 u50 u51 u52 u53 u54 u55 u56 u57 u58 u59 u60 u61 u62 u63 u64 u65 u66 u67 u68 u69 u70 u71 u72 u73 u74 u75 u76 u77 u78 u79 u80 u81 u82 u83 u84 u85 u86 u87 u88 u89 u90 u91 u92 u93 u94 u95 u96 u97 u98 u99 u100 u101 u102 u103 u104 u105 u106 u107 u108 u109 u237 u238 u239 u240 u241 u242 u243 u244 u245 u246 u247 u248 u249 u250 u251 u252 u253 u254 u255 u256 u257 u258 ac w' → Q0 (.exit 2) ac w') :
    Code.wp Try.prog (Code.loop (cut [1, 1, 1, 1, 1, 1, 1, 1, 1, 1, 0, 1, 2, 5] (Try.f5.body.getD .skip))) Q0 ⟨#[.int .i64 ((n : Nat) : Int), .int .i64 ((rows : Nat) : Int), .int .i64 ((sp : Nat) : Int), .slice a3 n3 c3, .slice a4 n4 c4, u5, u6, u7, u8, u9, u10, u11, .pointer (some ⟨x.p, 0, none⟩), u13, .pointer (some ⟨y.p, 0, none⟩), u15, .slice (some ⟨g, 0, none⟩) m m, u17, .int .i64 ((op : Nat) : Int), .int .i64 ((k : Nat) : Int), u20, u21, u22, u23, u24, u25, u26, u27, u28, u29, u30, u31, u32, u33, u34, u35, u36, u37, u38, u39, u40, u41, u42, u43, u44, u45, u46, u47, u48, u49, u50, u51, u52, u53, u54, u55, u56, u57, u58, u59, u60, u61, u62, u63, u64, u65, u66, u67, u68, u69, u70, u71, u72, u73, u74, u75, u76, u77, u78, u79, u80, u81, u82, u83, u84, u85, u86, u87, u88, u89, u90, u91, u92, u93, u94, u95, u96, u97, u98, u99, u100, u101, u102, u103, u104, u105, u106, u107, u108, u109, u110, u111, u112, u113, u114, u115, u116, u117, u118, u119, u120, u121, u122, u123, u124, u125, u126, u127, u128, u129, u130, u131, u132, u133, u134, u135, u136, u137, u138, u139, u140, u141, u142, u143, u144, u145, u146, u147, u148, u149, u150, u151, u152, u153, u154, u155, u156, u157, u158, u159, u160, u161, u162, u163, u164, u165, u166, u167, u168, u169, u170, u171, u172, u173, u174, u175, u176, u177, u178, u179, u180, u181, u182, u183, u184, u185, u186, u187, u188, u189, u190, u191, u192, u193, u194, u195, u196, u197, u198, u199, u200, u201, u202, u203, u204, u205, u206, u207, u208, u209, u210, u211, u212, u213, u214, u215, u216, u217, u218, u219, u220, u221, u222, u223, u224, u225, u226, u227, u228, u229, u230, u231, u232, u233, u234, u235, u236, u237, u238, u239, u240, u241, u242, u243, u244, u245, u246, u247, u248, u249, u250, u251, u252, u253, u254, u255, u256, u257, u258], []⟩ w' := by
  refine wp_loop (tWI n rows sp m g n3 c3 n4 c4 a3 a4 x y w u5 u6 u7 u8 u9 u11 u13 u15 u17 u28 u29 u30 u31 u32 u33 u34 u35 u36 u37 u38 u39 u40 u41 u42 u43 u44 u45 u46 u47 u48 u49 u50 u51 u52 u53 u54 u55 u56 u57 u58 u59 u60 u61 u62 u63 u64 u65 u66 u67 u68 u69 u70 u71 u72 u73 u74 u75 u76 u77 u78 u79 u80 u81 u82 u83 u84 u85 u86 u87 u88 u89 u90 u91 u92 u93 u94 u95 u96 u97 u98 u99 u100 u101 u102 u103 u104 u105 u106 u107 u108 u109 u237 u238 u239 u240 u241 u242 u243 u244 u245 u246 u247 u248 u249 u250 u251 u252 u253 u254 u255 u256 u257 u258) (fun ac _ => tWmu n3 ac) ?_ (fun ac w'' hI => tround n rows sp m g n3 c3 n4 c4 a3 a4 x y w u5 u6 u7 u8 u9 u11 u13 u15 u17 u28 u29 u30 u31 u32 u33 u34 u35 u36 u37 u38 u39 u40 u41 u42 u43 u44 u45 u46 u47 u48 u49 u50 u51 u52 u53 u54 u55 u56 u57 u58 u59 u60 u61 u62 u63 u64 u65 u66 u67 u68 u69 u70 u71 u72 u73 u74 u75 u76 u77 u78 u79 u80 u81 u82 u83 u84 u85 u86 u87 u88 u89 u90 u91 u92 u93 u94 u95 u96 u97 u98 u99 u100 u101 u102 u103 u104 u105 u106 u107 u108 u109 u237 u238 u239 u240 u241 u242 u243 u244 u245 u246 u247 u248 u249 u250 u251 u252 u253 u254 u255 u256 u257 u258 f3 f4 hm hm1 hm160 hn hr r3 q3 r4 hn3 Q0 hexit ac w'' hI)
  unfold tWI tWK
  exact ⟨k, hk, u10, u20, u21, u22, u23, u24, u25, u26, u27, u110, u111, u112, u113, u114, u115, u116, u117, u118, u119, u120, u121, u122, u123, u124, u125, u126, u127, u128, u129, u130, u131, u132, u133, u134, u135, u136, u137, u138, u139, u140, u141, u142, u143, u144, u145, u146, u147, u148, u149, u150, u151, u152, u153, u154, u155, u156, u157, u158, u159, u160, u161, u162, u163, u164, u165, u166, u167, u168, u169, u170, u171, u172, u173, u174, u175, u176, u177, u178, u179, u180, u181, u182, u183, u184, u185, u186, u187, u188, u189, u190, u191, u192, u193, u194, u195, u196, u197, u198, u199, u200, u201, u202, u203, u204, u205, u206, u207, u208, u209, u210, u211, u212, u213, u214, u215, u216, u217, u218, u219, u220, u221, u222, u223, u224, u225, u226, u227, u228, u229, u230, u231, u232, u233, u234, u235, u236, A, t, c, op, N, hrel, rfl⟩
end Go.Proofs.Yticgapgggoklfaa
