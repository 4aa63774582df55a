/- GrowKeeps, a piece: walks over the program. -/
import Derived.Test.YtdbanimlnjhhlaaDoorGKh
namespace Go.Proofs.YtdbanimlnjhhlaaDoor
open Go.RowKit El Pol
set_option linter.unusedVariables false in
set_option maxRecDepth 1000000 in
set_option maxHeartbeats 8000000 in
theorem ground (m c0 n n2 c2 cn : Nat) (a0 a2 an : Option Addr) (x : GP) (w : World) (u3 u4 u5 u7 u8 u9 u10 u11 u12 u13 u15 u23 u24 u25 u26 u27 u28 u29 u30 u31 u32 u33 u34 u35 u36 u37 u38 u39 u40 u41 u42 u43 u44 u45 u46 u47 u48 u49 u50 u51 u52 u53 u54 u55 u56 u57 u58 u59 u60 u61 u62 u63 u64 u65 u66 u67 u68 u69 u70 u71 u72 u73 u74 u75 u76 u77 u78 u79 u80 u81 u82 u83 u84 u85 u86 u87 u88 u89 u90 u91 u92 u93 u94 u95 u96 u195 u196 u197 u198 u199 u200 u201 u202 u203 u204 u205 u206 u207 u208 u209 u210 u211 u212 u213 u214 u215 u216 u217 u218 u219 u220 u221 u222 u223 u224 u225 u226 u227 u228 u229 u230 u231 u232 u233 u234 u235 u236 u237 u238 u239 u240 u241 u242 u243 u244 u245 u246 u247 u248 u249 u250 u251 : Value) (l : List Wr) (e2 : n2 = l.length) (r2 : RdW w (.slice a2 n2 c2) l) (hm40 : m ≤ 40) (Q0 : Exit → Act → World → Prop) (hexit : ∀ ac w', gWK m c0 n n2 c2 cn a0 a2 an x w u3 u4 u5 u7 u8 u9 u10 u11 u12 u13 u15 u23 u24 u25 u26 u27 u28 u29 u30 u31 u32 u33 u34 u35 u36 u37 u38 u39 u40 u41 u42 u43 u44 u45 u46 u47 u48 u49 u50 u51 u52 u53 u54 u55 u56 u57 u58 u59 u60 u61 u62 u63 u64 u65 u66 u67 u68 u69 u70 u71 u72 u73 u74 u75 u76 u77 u78 u79 u80 u81 u82 u83 u84 u85 u86 u87 u88 u89 u90 u91 u92 u93 u94 u95 u96 u195 u196 u197 u198 u199 u200 u201 u202 u203 u204 u205 u206 u207 u208 u209 u210 u211 u212 u213 u214 u215 u216 u217 u218 u219 u220 u221 u222 u223 u224 u225 u226 u227 u228 u229 u230 u231 u232 u233 u234 u235 u236 u237 u238 u239 u240 u241 u242 u243 u244 u245 u246 u247 u248 u249 u250 u251 m m ac w' → Q0 (.exit 0) ac w') (ac : Act) (wc : World) (hI : gWI m c0 n n2 c2 cn a0 a2 an x w u3 u4 u5 u7 u8 u9 u10 u11 u12 u13 u15 u23 u24 u25 u26 u27 u28 u29 u30 u31 u32 u33 u34 u35 u36 u37 u38 u39 u40 u41 u42 u43 u44 u45 u46 u47 u48 u49 u50 u51 u52 u53 u54 u55 u56 u57 u58 u59 u60 u61 u62 u63 u64 u65 u66 u67 u68 u69 u70 u71 u72 u73 u74 u75 u76 u77 u78 u79 u80 u81 u82 u83 u84 u85 u86 u87 u88 u89 u90 u91 u92 u93 u94 u95 u96 u195 u196 u197 u198 u199 u200 u201 u202 u203 u204 u205 u206 u207 u208 u209 u210 u211 u212 u213 u214 u215 u216 u217 u218 u219 u220 u221 u222 u223 u224 u225 u226 u227 u228 u229 u230 u231 u232 u233 u234 u235 u236 u237 u238 u239 u240 u241 u242 u243 u244 u245 u246 u247 u248 u249 u250 u251 ac wc) :
    Code.wp Tryd.prog (cut [1, 1, 1, 1, 1, 1, 1, 1, 1, 1, 1, 1, 0, 1, 2, 5] (Tryd.f4.body.getD .skip)) (Exit.then (fun a' w'' => gWI m c0 n n2 c2 cn a0 a2 an x w u3 u4 u5 u7 u8 u9 u10 u11 u12 u13 u15 u23 u24 u25 u26 u27 u28 u29 u30 u31 u32 u33 u34 u35 u36 u37 u38 u39 u40 u41 u42 u43 u44 u45 u46 u47 u48 u49 u50 u51 u52 u53 u54 u55 u56 u57 u58 u59 u60 u61 u62 u63 u64 u65 u66 u67 u68 u69 u70 u71 u72 u73 u74 u75 u76 u77 u78 u79 u80 u81 u82 u83 u84 u85 u86 u87 u88 u89 u90 u91 u92 u93 u94 u95 u96 u195 u196 u197 u198 u199 u200 u201 u202 u203 u204 u205 u206 u207 u208 u209 u210 u211 u212 u213 u214 u215 u216 u217 u218 u219 u220 u221 u222 u223 u224 u225 u226 u227 u228 u229 u230 u231 u232 u233 u234 u235 u236 u237 u238 u239 u240 u241 u242 u243 u244 u245 u246 u247 u248 u249 u250 u251 a' w'' ∧ gWmu m a' < gWmu m ac) Q0) ac wc := by
  unfold gWI at hI
  obtain ⟨k, hk1, hI⟩ := hI
  unfold gWK at hI
  obtain ⟨u6, hI⟩ := hI
  obtain ⟨u18, hI⟩ := hI
  obtain ⟨u19, hI⟩ := hI
  obtain ⟨u20, hI⟩ := hI
  obtain ⟨u21, hI⟩ := hI
  obtain ⟨u22, hI⟩ := hI
  obtain ⟨u97, hI⟩ := hI
  obtain ⟨u98, hI⟩ := hI
  obtain ⟨u99, hI⟩ := hI
  obtain ⟨u100, hI⟩ := hI
  obtain ⟨u101, hI⟩ := hI
  obtain ⟨u102, hI⟩ := hI
  obtain ⟨u103, hI⟩ := hI
  obtain ⟨u104, hI⟩ := hI
  obtain ⟨u105, hI⟩ := hI
  obtain ⟨u106, hI⟩ := hI
  obtain ⟨u107, hI⟩ := hI
  obtain ⟨u108, hI⟩ := hI
  obtain ⟨u109, hI⟩ := hI
  obtain ⟨u110, hI⟩ := hI
  obtain ⟨u111, hI⟩ := hI
  obtain ⟨u112, hI⟩ := hI
  obtain ⟨u113, hI⟩ := hI
  obtain ⟨u114, hI⟩ := hI
  obtain ⟨u115, hI⟩ := hI
  obtain ⟨u116, hI⟩ := hI
  obtain ⟨u117, hI⟩ := hI
  obtain ⟨u118, hI⟩ := hI
  obtain ⟨u119, hI⟩ := hI
  obtain ⟨u120, hI⟩ := hI
  obtain ⟨u121, hI⟩ := hI
  obtain ⟨u122, hI⟩ := hI
  obtain ⟨u123, hI⟩ := hI
  obtain ⟨u124, hI⟩ := hI
  obtain ⟨u125, hI⟩ := hI
  obtain ⟨u126, hI⟩ := hI
  obtain ⟨u127, hI⟩ := hI
  obtain ⟨u128, hI⟩ := hI
  obtain ⟨u129, hI⟩ := hI
  obtain ⟨u130, hI⟩ := hI
  obtain ⟨u131, hI⟩ := hI
  obtain ⟨u132, hI⟩ := hI
  obtain ⟨u133, hI⟩ := hI
  obtain ⟨u134, hI⟩ := hI
  obtain ⟨u135, hI⟩ := hI
  obtain ⟨u136, hI⟩ := hI
  obtain ⟨u137, hI⟩ := hI
  obtain ⟨u138, hI⟩ := hI
  obtain ⟨u139, hI⟩ := hI
  obtain ⟨u140, hI⟩ := hI
  obtain ⟨u141, hI⟩ := hI
  obtain ⟨u142, hI⟩ := hI
  obtain ⟨u143, hI⟩ := hI
  obtain ⟨u144, hI⟩ := hI
  obtain ⟨u145, hI⟩ := hI
  obtain ⟨u146, hI⟩ := hI
  obtain ⟨u147, hI⟩ := hI
  obtain ⟨u148, hI⟩ := hI
  obtain ⟨u149, hI⟩ := hI
  obtain ⟨u150, hI⟩ := hI
  obtain ⟨u151, hI⟩ := hI
  obtain ⟨u152, hI⟩ := hI
  obtain ⟨u153, hI⟩ := hI
  obtain ⟨u154, hI⟩ := hI
  obtain ⟨u155, hI⟩ := hI
  obtain ⟨u156, hI⟩ := hI
  obtain ⟨u157, hI⟩ := hI
  obtain ⟨u158, hI⟩ := hI
  obtain ⟨u159, hI⟩ := hI
  obtain ⟨u160, hI⟩ := hI
  obtain ⟨u161, hI⟩ := hI
  obtain ⟨u162, hI⟩ := hI
  obtain ⟨u163, hI⟩ := hI
  obtain ⟨u164, hI⟩ := hI
  obtain ⟨u165, hI⟩ := hI
  obtain ⟨u166, hI⟩ := hI
  obtain ⟨u167, hI⟩ := hI
  obtain ⟨u168, hI⟩ := hI
  obtain ⟨u169, hI⟩ := hI
  obtain ⟨u170, hI⟩ := hI
  obtain ⟨u171, hI⟩ := hI
  obtain ⟨u172, hI⟩ := hI
  obtain ⟨u173, hI⟩ := hI
  obtain ⟨u174, hI⟩ := hI
  obtain ⟨u175, hI⟩ := hI
  obtain ⟨u176, hI⟩ := hI
  obtain ⟨u177, hI⟩ := hI
  obtain ⟨u178, hI⟩ := hI
  obtain ⟨u179, hI⟩ := hI
  obtain ⟨u180, hI⟩ := hI
  obtain ⟨u181, hI⟩ := hI
  obtain ⟨u182, hI⟩ := hI
  obtain ⟨u183, hI⟩ := hI
  obtain ⟨u184, hI⟩ := hI
  obtain ⟨u185, hI⟩ := hI
  obtain ⟨u186, hI⟩ := hI
  obtain ⟨u187, hI⟩ := hI
  obtain ⟨u188, hI⟩ := hI
  obtain ⟨u189, hI⟩ := hI
  obtain ⟨u190, hI⟩ := hI
  obtain ⟨u191, hI⟩ := hI
  obtain ⟨u192, hI⟩ := hI
  obtain ⟨u193, hI⟩ := hI
  obtain ⟨u194, hI⟩ := hI
  obtain ⟨g, ⟨hS, ht⟩, rfl⟩ := hI
  conv => arg 2; whnf
  by_cases hlt : k < m
  · have q1 : (k : Int) < (m : Int) := by omega
    have HS : Hid _ := hS
    have HT : Hid (g.t = k) := ht
    have HR2 : Hid _ := r2
    have HE2 : Hid _ := e2
    clear hS ht hexit r2 e2
    refine wp_seq_k fun K hK => ?_
    have HK : Hid _ := hK
    clear hK
    go_wp2
    refine HK.out _ _ ?_
    clear HK K
    refine wp_seq_k fun K hK => ?_
    have HKK : Hid _ := hK
    clear hK
    refine wp_block ?_
    have HQQ : Hid (∀ ac w1, gWK m c0 n n2 c2 cn a0 a2 an x w u3 u4 u5 u7 u8 u9 u10 u11 u12 u13 u15 u23 u24 u25 u26 u27 u28 u29 u30 u31 u32 u33 u34 u35 u36 u37 u38 u39 u40 u41 u42 u43 u44 u45 u46 u47 u48 u49 u50 u51 u52 u53 u54 u55 u56 u57 u58 u59 u60 u61 u62 u63 u64 u65 u66 u67 u68 u69 u70 u71 u72 u73 u74 u75 u76 u77 u78 u79 u80 u81 u82 u83 u84 u85 u86 u87 u88 u89 u90 u91 u92 u93 u94 u95 u96 u195 u196 u197 u198 u199 u200 u201 u202 u203 u204 u205 u206 u207 u208 u209 u210 u211 u212 u213 u214 u215 u216 u217 u218 u219 u220 u221 u222 u223 u224 u225 u226 u227 u228 u229 u230 u231 u232 u233 u234 u235 u236 u237 u238 u239 u240 u241 u242 u243 u244 u245 u246 u247 u248 u249 u250 u251 k (k + 1) ac w1 → K ac w1) := fun ac w1 hW => by
      refine HKK.out ac w1 ?_
      unfold gWK at hW
      obtain ⟨t6, hW⟩ := hW
      obtain ⟨t18, hW⟩ := hW
      obtain ⟨t19, hW⟩ := hW
      obtain ⟨t20, hW⟩ := hW
      obtain ⟨t21, hW⟩ := hW
      obtain ⟨t22, hW⟩ := hW
      obtain ⟨t97, hW⟩ := hW
      obtain ⟨t98, hW⟩ := hW
      obtain ⟨t99, hW⟩ := hW
      obtain ⟨t100, hW⟩ := hW
      obtain ⟨t101, hW⟩ := hW
      obtain ⟨t102, hW⟩ := hW
      obtain ⟨t103, hW⟩ := hW
      obtain ⟨t104, hW⟩ := hW
      obtain ⟨t105, hW⟩ := hW
      obtain ⟨t106, hW⟩ := hW
      obtain ⟨t107, hW⟩ := hW
      obtain ⟨t108, hW⟩ := hW
      obtain ⟨t109, hW⟩ := hW
      obtain ⟨t110, hW⟩ := hW
      obtain ⟨t111, hW⟩ := hW
      obtain ⟨t112, hW⟩ := hW
      obtain ⟨t113, hW⟩ := hW
      obtain ⟨t114, hW⟩ := hW
      obtain ⟨t115, hW⟩ := hW
      obtain ⟨t116, hW⟩ := hW
      obtain ⟨t117, hW⟩ := hW
      obtain ⟨t118, hW⟩ := hW
      obtain ⟨t119, hW⟩ := hW
      obtain ⟨t120, hW⟩ := hW
      obtain ⟨t121, hW⟩ := hW
      obtain ⟨t122, hW⟩ := hW
      obtain ⟨t123, hW⟩ := hW
      obtain ⟨t124, hW⟩ := hW
      obtain ⟨t125, hW⟩ := hW
      obtain ⟨t126, hW⟩ := hW
      obtain ⟨t127, hW⟩ := hW
      obtain ⟨t128, hW⟩ := hW
      obtain ⟨t129, hW⟩ := hW
      obtain ⟨t130, hW⟩ := hW
      obtain ⟨t131, hW⟩ := hW
      obtain ⟨t132, hW⟩ := hW
      obtain ⟨t133, hW⟩ := hW
      obtain ⟨t134, hW⟩ := hW
      obtain ⟨t135, hW⟩ := hW
      obtain ⟨t136, hW⟩ := hW
      obtain ⟨t137, hW⟩ := hW
      obtain ⟨t138, hW⟩ := hW
      obtain ⟨t139, hW⟩ := hW
      obtain ⟨t140, hW⟩ := hW
      obtain ⟨t141, hW⟩ := hW
      obtain ⟨t142, hW⟩ := hW
      obtain ⟨t143, hW⟩ := hW
      obtain ⟨t144, hW⟩ := hW
      obtain ⟨t145, hW⟩ := hW
      obtain ⟨t146, hW⟩ := hW
      obtain ⟨t147, hW⟩ := hW
      obtain ⟨t148, hW⟩ := hW
      obtain ⟨t149, hW⟩ := hW
      obtain ⟨t150, hW⟩ := hW
      obtain ⟨t151, hW⟩ := hW
      obtain ⟨t152, hW⟩ := hW
      obtain ⟨t153, hW⟩ := hW
      obtain ⟨t154, hW⟩ := hW
      obtain ⟨t155, hW⟩ := hW
      obtain ⟨t156, hW⟩ := hW
      obtain ⟨t157, hW⟩ := hW
      obtain ⟨t158, hW⟩ := hW
      obtain ⟨t159, hW⟩ := hW
      obtain ⟨t160, hW⟩ := hW
      obtain ⟨t161, hW⟩ := hW
      obtain ⟨t162, hW⟩ := hW
      obtain ⟨t163, hW⟩ := hW
      obtain ⟨t164, hW⟩ := hW
      obtain ⟨t165, hW⟩ := hW
      obtain ⟨t166, hW⟩ := hW
      obtain ⟨t167, hW⟩ := hW
      obtain ⟨t168, hW⟩ := hW
      obtain ⟨t169, hW⟩ := hW
      obtain ⟨t170, hW⟩ := hW
      obtain ⟨t171, hW⟩ := hW
      obtain ⟨t172, hW⟩ := hW
      obtain ⟨t173, hW⟩ := hW
      obtain ⟨t174, hW⟩ := hW
      obtain ⟨t175, hW⟩ := hW
      obtain ⟨t176, hW⟩ := hW
      obtain ⟨t177, hW⟩ := hW
      obtain ⟨t178, hW⟩ := hW
      obtain ⟨t179, hW⟩ := hW
      obtain ⟨t180, hW⟩ := hW
      obtain ⟨t181, hW⟩ := hW
      obtain ⟨t182, hW⟩ := hW
      obtain ⟨t183, hW⟩ := hW
      obtain ⟨t184, hW⟩ := hW
      obtain ⟨t185, hW⟩ := hW
      obtain ⟨t186, hW⟩ := hW
      obtain ⟨t187, hW⟩ := hW
      obtain ⟨t188, hW⟩ := hW
      obtain ⟨t189, hW⟩ := hW
      obtain ⟨t190, hW⟩ := hW
      obtain ⟨t191, hW⟩ := hW
      obtain ⟨t192, hW⟩ := hW
      obtain ⟨t193, hW⟩ := hW
      obtain ⟨t194, hW⟩ := hW
      obtain ⟨g', ⟨hS', ht'⟩, rfl⟩ := hW
      have HS' : Hid _ := hS'
      have HT' : Hid (g'.t = k + 1) := ht'
      clear hS' ht' HKK HS HT HR2 HE2
      go_wp2
      refine ⟨?_, ?_⟩
      · unfold gWI gWK
        exact ⟨k + 1, by omega, _, _, _, _, _, _, _, _, _, _, _, _, _, _, _, _, _, _, _, _, _, _, _, _, _, _, _, _, _, _, _, _, _, _, _, _, _, _, _, _, _, _, _, _, _, _, _, _, _, _, _, _, _, _, _, _, _, _, _, _, _, _, _, _, _, _, _, _, _, _, _, _, _, _, _, _, _, _, _, _, _, _, _, _, _, _, _, _, _, _, _, _, _, _, _, _, _, _, _, _, _, _, _, _, _, ⟨HS'.out, HT'.out⟩, by go_num⟩
      · simp [gWmu, intOf]
        omega
    clear HKK
    exact g_block m c0 n n2 c2 cn a0 a2 an x w u3 u4 u5 u7 u8 u9 u10 u11 u12 u13 u15 u23 u24 u25 u26 u27 u28 u29 u30 u31 u32 u33 u34 u35 u36 u37 u38 u39 u40 u41 u42 u43 u44 u45 u46 u47 u48 u49 u50 u51 u52 u53 u54 u55 u56 u57 u58 u59 u60 u61 u62 u63 u64 u65 u66 u67 u68 u69 u70 u71 u72 u73 u74 u75 u76 u77 u78 u79 u80 u81 u82 u83 u84 u85 u86 u87 u88 u89 u90 u91 u92 u93 u94 u95 u96 u195 u196 u197 u198 u199 u200 u201 u202 u203 u204 u205 u206 u207 u208 u209 u210 u211 u212 u213 u214 u215 u216 u217 u218 u219 u220 u221 u222 u223 u224 u225 u226 u227 u228 u229 u230 u231 u232 u233 u234 u235 u236 u237 u238 u239 u240 u241 u242 u243 u244 u245 u246 u247 u248 u249 u250 u251 l HE2.out HR2.out hm40 k g _ _ _ _ _ _ _ _ _ _ _ _ _ _ _ _ _ _ _ _ _ _ _ _ _ _ _ _ _ _ _ _ _ _ _ _ _ _ _ _ _ _ _ _ _ _ _ _ _ _ _ _ _ _ _ _ _ _ _ _ _ _ _ _ _ _ _ _ _ _ _ _ _ _ _ _ _ _ _ _ _ _ _ _ _ _ _ _ _ _ _ _ _ _ _ _ _ _ _ _ _ _ _ _ _ _ HS.out HT.out hlt (fun ac w1 h => HQQ.out ac w1 h)
  · have ek : k = m := by omega
    subst ek
    have HX : Hid _ := hexit
    have HS : Hid _ := hS
    have HT : Hid (g.t = k) := ht
    clear hS ht hexit r2 e2
    go_wp2
    refine HX.out _ _ ?_
    unfold gWK
    exact ⟨_, _, _, _, _, _, _, _, _, _, _, _, _, _, _, _, _, _, _, _, _, _, _, _, _, _, _, _, _, _, _, _, _, _, _, _, _, _, _, _, _, _, _, _, _, _, _, _, _, _, _, _, _, _, _, _, _, _, _, _, _, _, _, _, _, _, _, _, _, _, _, _, _, _, _, _, _, _, _, _, _, _, _, _, _, _, _, _, _, _, _, _, _, _, _, _, _, _, _, _, _, _, _, _, _, ⟨HS.out, HT.out⟩, rfl⟩
set_option linter.unusedVariables false in
set_option maxRecDepth 1000000 in
set_option maxHeartbeats 8000000 in
theorem gloop (m c0 n n2 c2 cn : Nat) (a0 a2 an : Option Addr) (x : GP) (w : World) (u3 u4 u5 u7 u8 u9 u10 u11 u12 u13 u15 u23 u24 u25 u26 u27 u28 u29 u30 u31 u32 u33 u34 u35 u36 u37 u38 u39 u40 u41 u42 u43 u44 u45 u46 u47 u48 u49 u50 u51 u52 u53 u54 u55 u56 u57 u58 u59 u60 u61 u62 u63 u64 u65 u66 u67 u68 u69 u70 u71 u72 u73 u74 u75 u76 u77 u78 u79 u80 u81 u82 u83 u84 u85 u86 u87 u88 u89 u90 u91 u92 u93 u94 u95 u96 u195 u196 u197 u198 u199 u200 u201 u202 u203 u204 u205 u206 u207 u208 u209 u210 u211 u212 u213 u214 u215 u216 u217 u218 u219 u220 u221 u222 u223 u224 u225 u226 u227 u228 u229 u230 u231 u232 u233 u234 u235 u236 u237 u238 u239 u240 u241 u242 u243 u244 u245 u246 u247 u248 u249 u250 u251 : Value) (l : List Wr) (e2 : n2 = l.length) (r2 : RdW w (.slice a2 n2 c2) l) (hm40 : m ≤ 40) (Q0 : Exit → Act → World → Prop) (g : Grw) (u6 u18 u19 u20 u21 u22 u97 u98 u99 u100 u101 u102 u103 u104 u105 u106 u107 u108 u109 u110 u111 u112 u113 u114 u115 u116 u117 u118 u119 u120 u121 u122 u123 u124 u125 u126 u127 u128 u129 u130 u131 u132 u133 u134 u135 u136 u137 u138 u139 u140 u141 u142 u143 u144 u145 u146 u147 u148 u149 u150 u151 u152 u153 u154 u155 u156 u157 u158 u159 u160 u161 u162 u163 u164 u165 u166 u167 u168 u169 u170 u171 u172 u173 u174 u175 u176 u177 u178 u179 u180 u181 u182 u183 u184 u185 u186 u187 u188 u189 u190 u191 u192 u193 u194 : Value) (w' : World)
    (hrel : GK w x (.slice an m cn) n m (g) (g.c) w' ∧ g.t = 0) (hexit : ∀ ac w', gWK m c0 n n2 c2 cn a0 a2 an x w u3 u4 u5 u7 u8 u9 u10 u11 u12 u13 u15 u23 u24 u25 u26 u27 u28 u29 u30 u31 u32 u33 u34 u35 u36 u37 u38 u39 u40 u41 u42 u43 u44 u45 u46 u47 u48 u49 u50 u51 u52 u53 u54 u55 u56 u57 u58 u59 u60 u61 u62 u63 u64 u65 u66 u67 u68 u69 u70 u71 u72 u73 u74 u75 u76 u77 u78 u79 u80 u81 u82 u83 u84 u85 u86 u87 u88 u89 u90 u91 u92 u93 u94 u95 u96 u195 u196 u197 u198 u199 u200 u201 u202 u203 u204 u205 u206 u207 u208 u209 u210 u211 u212 u213 u214 u215 u216 u217 u218 u219 u220 u221 u222 u223 u224 u225 u226 u227 u228 u229 u230 u231 u232 u233 u234 u235 u236 u237 u238 u239 u240 u241 u242 u243 u244 u245 u246 u247 u248 u249 u250 u251 m m ac w' → Q0 (.exit 0) ac w') :
    Code.wp Tryd.prog (Code.loop (cut [1, 1, 1, 1, 1, 1, 1, 1, 1, 1, 1, 1, 0, 1, 2, 5] (Tryd.f4.body.getD .skip))) Q0 ⟨#[.slice a0 m c0, .int .i64 ((n : Nat) : Int), .slice a2 n2 c2, u3, u4, u5, u6, u7, u8, u9, u10, u11, u12, u13, .pointer (some ⟨x.p, 0, none⟩), u15, .slice an m cn, .int .i64 0, u18, u19, u20, u21, u22, u23, u24, u25, u26, u27, u28, u29, u30, u31, u32, u33, u34, u35, u36, u37, u38, u39, u40, u41, u42, u43, u44, u45, u46, u47, u48, u49, u50, u51, u52, u53, u54, u55, u56, u57, u58, u59, u60, u61, u62, u63, u64, u65, u66, u67, u68, u69, u70, u71, u72, u73, u74, u75, u76, u77, u78, u79, u80, u81, u82, u83, u84, u85, u86, u87, u88, u89, u90, u91, u92, u93, u94, u95, u96, u97, u98, u99, u100, u101, u102, u103, u104, u105, u106, u107, u108, u109, u110, u111, u112, u113, u114, u115, u116, u117, u118, u119, u120, u121, u122, u123, u124, u125, u126, u127, u128, u129, u130, u131, u132, u133, u134, u135, u136, u137, u138, u139, u140, u141, u142, u143, u144, u145, u146, u147, u148, u149, u150, u151, u152, u153, u154, u155, u156, u157, u158, u159, u160, u161, u162, u163, u164, u165, u166, u167, u168, u169, u170, u171, u172, u173, u174, u175, u176, u177, u178, u179, u180, u181, u182, u183, u184, u185, u186, u187, u188, u189, u190, u191, u192, u193, u194, u195, u196, u197, u198, u199, u200, u201, u202, u203, u204, u205, u206, u207, u208, u209, u210, u211, u212, u213, u214, u215, u216, u217, u218, u219, u220, u221, u222, u223, u224, u225, u226, u227, u228, u229, u230, u231, u232, u233, u234, u235, u236, u237, u238, u239, u240, u241, u242, u243, u244, u245, u246, u247, u248, u249, u250, u251], []⟩ w' := by
  refine wp_loop (gWI m c0 n n2 c2 cn a0 a2 an x w u3 u4 u5 u7 u8 u9 u10 u11 u12 u13 u15 u23 u24 u25 u26 u27 u28 u29 u30 u31 u32 u33 u34 u35 u36 u37 u38 u39 u40 u41 u42 u43 u44 u45 u46 u47 u48 u49 u50 u51 u52 u53 u54 u55 u56 u57 u58 u59 u60 u61 u62 u63 u64 u65 u66 u67 u68 u69 u70 u71 u72 u73 u74 u75 u76 u77 u78 u79 u80 u81 u82 u83 u84 u85 u86 u87 u88 u89 u90 u91 u92 u93 u94 u95 u96 u195 u196 u197 u198 u199 u200 u201 u202 u203 u204 u205 u206 u207 u208 u209 u210 u211 u212 u213 u214 u215 u216 u217 u218 u219 u220 u221 u222 u223 u224 u225 u226 u227 u228 u229 u230 u231 u232 u233 u234 u235 u236 u237 u238 u239 u240 u241 u242 u243 u244 u245 u246 u247 u248 u249 u250 u251) (fun ac _ => gWmu m ac) ?_ (fun ac w'' hI => ground m c0 n n2 c2 cn a0 a2 an x w u3 u4 u5 u7 u8 u9 u10 u11 u12 u13 u15 u23 u24 u25 u26 u27 u28 u29 u30 u31 u32 u33 u34 u35 u36 u37 u38 u39 u40 u41 u42 u43 u44 u45 u46 u47 u48 u49 u50 u51 u52 u53 u54 u55 u56 u57 u58 u59 u60 u61 u62 u63 u64 u65 u66 u67 u68 u69 u70 u71 u72 u73 u74 u75 u76 u77 u78 u79 u80 u81 u82 u83 u84 u85 u86 u87 u88 u89 u90 u91 u92 u93 u94 u95 u96 u195 u196 u197 u198 u199 u200 u201 u202 u203 u204 u205 u206 u207 u208 u209 u210 u211 u212 u213 u214 u215 u216 u217 u218 u219 u220 u221 u222 u223 u224 u225 u226 u227 u228 u229 u230 u231 u232 u233 u234 u235 u236 u237 u238 u239 u240 u241 u242 u243 u244 u245 u246 u247 u248 u249 u250 u251 l e2 r2 hm40 Q0 hexit ac w'' hI)
  unfold gWI gWK
  exact ⟨0, Nat.zero_le _, u6, u18, u19, u20, u21, u22, u97, u98, u99, u100, u101, u102, u103, u104, u105, u106, u107, u108, u109, u110, u111, u112, u113, u114, u115, u116, u117, u118, u119, u120, u121, u122, u123, u124, u125, u126, u127, u128, u129, u130, u131, u132, u133, u134, u135, u136, u137, u138, u139, u140, u141, u142, u143, u144, u145, u146, u147, u148, u149, u150, u151, u152, u153, u154, u155, u156, u157, u158, u159, u160, u161, u162, u163, u164, u165, u166, u167, u168, u169, u170, u171, u172, u173, u174, u175, u176, u177, u178, u179, u180, u181, u182, u183, u184, u185, u186, u187, u188, u189, u190, u191, u192, u193, u194, g, hrel, rfl⟩
end Go.Proofs.YtdbanimlnjhhlaaDoor
