/- RedoKeeps, a piece: walks over the program. -/
import Derived.Test.YtacfafbnimhibaaDoorRKk
import Derived.Test.YtacfafbnimhibaaDoorRKg
import Derived.Test.YtacfafbnimhibaaDoorRKh
import Derived.Test.YtacfafbnimhibaaDoorRKi
namespace Go.Proofs.YtacfafbnimhibaaDoor
open Go.RowKit El Pol
set_option linter.unusedVariables false
set_option maxRecDepth 1000000 in
/-- between two rounds -/
def k1WK (n0 c0 n1 c1 n2 c2 n3 c3 n4 c4 p : Nat) (a0 a1 a2 a3 a4 : Option Addr) (w : World) (u5 u6 u7 u8 u9 u11 u12 u13 u14 u15 u16 u17 u19 u37 u38 u39 u40 u41 u42 u43 u44 u45 u46 u47 u48 u49 u50 u51 u52 u53 u54 u55 u56 u57 u58 u59 u60 u61 u62 u63 u64 u65 u66 u67 u68 u69 u70 u71 u72 u73 u74 u75 u76 u77 u78 u79 u80 u81 u82 u83 u84 u85 u86 u87 u88 u89 u90 u91 u92 u93 u94 u95 u96 u97 u98 u99 u100 u101 u102 u103 u104 u105 u106 u107 u108 u109 u110 u111 u112 : Value) (f : Nat → List El) (R k : Nat) (a : Act) (w' : World) : Prop := ∃ (u20 u25 u26 u27 u28 u29 u30 u31 u32 u33 u34 u35 u36 u113 u114 u115 u116 u117 u118 u119 u120 u121 u122 u123 u124 u125 u126 u127 u128 u129 u130 u131 u132 u133 u134 u135 u136 u137 u138 u139 u140 u141 u142 u143 u144 u145 u146 u147 u148 u149 u150 u151 u152 u153 u154 u155 u156 u157 u158 u159 u160 u161 u162 u163 u164 u165 u166 u167 u168 u169 u170 u171 u172 u173 u174 u175 u176 u177 u178 u179 u180 u181 u182 u183 u184 u185 u186 u187 u188 u189 u190 u191 u192 u193 u194 u195 u196 u197 u198 u199 u200 u201 u202 u203 u204 u205 u206 u207 u208 u209 u210 u211 u212 u213 u214 u215 u216 u217 u218 u219 u220 u221 u222 u223 u224 u225 u226 u227 u228 u229 u230 u231 u232 u233 u234 u235 u236 u237 u238 u239 u240 u241 u242 u243 u244 u245 u246 u247 u248 u249 u250 u251 u252 u253 u254 u255 u256 u257 u258 u259 u260 u261 u262 u263 u264 u265 u266 u267 u268 u269 u270 u271 u272 u273 u274 u275 u276 u277 u278 u279 u280 u281 u282 u283 u284 u285 u286 u287 u288 u289 u290 u291 u292 u293 u294 u295 u296 u297 u298 u299 u300 u301 u302 u303 u304 u305 u306 u307 u308 : Value) (ds : List (List Wr)) (t : Rdo) (gd cd gm cm r : Nat) (rv : Nat → Value) (q : Nat), (KN w p n0 f ds t gd cd gm cm r rv w' ∧ t.rs = ds ∧ r ≤ 8 * R ∧ q ≤ n1) ∧ a = ⟨#[.slice a0 n0 c0, .slice a1 n1 c1, .slice a2 n2 c2, .slice a3 n3 c3, .slice a4 n4 c4, u5, u6, u7, u8, u9, .bool false, u11, u12, u13, u14, u15, u16, u17, .pointer (some ⟨p, 0, none⟩), u19, u20, .slice (some ⟨gd, 0, none⟩) (r + 1) cd, .slice (some ⟨gm, 0, none⟩) (r + 1) cm, .int .i64 ((q : Nat) : Int), .int .i64 ((k : Nat) : Int), u25, u26, u27, u28, u29, u30, u31, u32, u33, u34, u35, u36, u37, u38, u39, u40, u41, u42, u43, u44, u45, u46, u47, u48, u49, u50, u51, u52, u53, u54, u55, u56, u57, u58, u59, u60, u61, u62, u63, u64, u65, u66, u67, u68, u69, u70, u71, u72, u73, u74, u75, u76, u77, u78, u79, u80, u81, u82, u83, u84, u85, u86, u87, u88, u89, u90, u91, u92, u93, u94, u95, u96, u97, u98, u99, u100, u101, u102, u103, u104, u105, u106, u107, u108, u109, u110, u111, u112, u113, u114, u115, u116, u117, u118, u119, u120, u121, u122, u123, u124, u125, u126, u127, u128, u129, u130, u131, u132, u133, u134, u135, u136, u137, u138, u139, u140, u141, u142, u143, u144, u145, u146, u147, u148, u149, u150, u151, u152, u153, u154, u155, u156, u157, u158, u159, u160, u161, u162, u163, u164, u165, u166, u167, u168, u169, u170, u171, u172, u173, u174, u175, u176, u177, u178, u179, u180, u181, u182, u183, u184, u185, u186, u187, u188, u189, u190, u191, u192, u193, u194, u195, u196, u197, u198, u199, u200, u201, u202, u203, u204, u205, u206, u207, u208, u209, u210, u211, u212, u213, u214, u215, u216, u217, u218, u219, u220, u221, u222, u223, u224, u225, u226, u227, u228, u229, u230, u231, u232, u233, u234, u235, u236, u237, u238, u239, u240, u241, u242, u243, u244, u245, u246, u247, u248, u249, u250, u251, u252, u253, u254, u255, u256, u257, u258, u259, u260, u261, u262, u263, u264, u265, u266, u267, u268, u269, u270, u271, u272, u273, u274, u275, u276, u277, u278, u279, u280, u281, u282, u283, u284, u285, u286, u287, u288, u289, u290, u291, u292, u293, u294, u295, u296, u297, u298, u299, u300, u301, u302, u303, u304, u305, u306, u307, u308], []⟩
/-- ahead of a round -/
def k1WI (n0 c0 n1 c1 n2 c2 n3 c3 n4 c4 p : Nat) (a0 a1 a2 a3 a4 : Option Addr) (w : World) (u5 u6 u7 u8 u9 u11 u12 u13 u14 u15 u16 u17 u19 u37 u38 u39 u40 u41 u42 u43 u44 u45 u46 u47 u48 u49 u50 u51 u52 u53 u54 u55 u56 u57 u58 u59 u60 u61 u62 u63 u64 u65 u66 u67 u68 u69 u70 u71 u72 u73 u74 u75 u76 u77 u78 u79 u80 u81 u82 u83 u84 u85 u86 u87 u88 u89 u90 u91 u92 u93 u94 u95 u96 u97 u98 u99 u100 u101 u102 u103 u104 u105 u106 u107 u108 u109 u110 u111 u112 : Value) (f : Nat → List El) (R : Nat) (a : Act) (w' : World) : Prop := ∃ k : Nat, k ≤ 4 ∧ k1WK n0 c0 n1 c1 n2 c2 n3 c3 n4 c4 p a0 a1 a2 a3 a4 w u5 u6 u7 u8 u9 u11 u12 u13 u14 u15 u16 u17 u19 u37 u38 u39 u40 u41 u42 u43 u44 u45 u46 u47 u48 u49 u50 u51 u52 u53 u54 u55 u56 u57 u58 u59 u60 u61 u62 u63 u64 u65 u66 u67 u68 u69 u70 u71 u72 u73 u74 u75 u76 u77 u78 u79 u80 u81 u82 u83 u84 u85 u86 u87 u88 u89 u90 u91 u92 u93 u94 u95 u96 u97 u98 u99 u100 u101 u102 u103 u104 u105 u106 u107 u108 u109 u110 u111 u112 f k k a w'
def k1Wmu (a : Act) : Nat := 4 - (intOf (a.tmps.getD 24 undef)).toNat

set_option linter.unusedVariables false in
set_option maxRecDepth 1000000 in
set_option maxHeartbeats 8000000 in
theorem k_blk1 (n0 c0 n1 c1 n2 c2 n3 c3 n4 c4 p : Nat) (a0 a1 a2 a3 a4 : Option Addr) (w : World) (L : Nat → List Wr) (f2 : Nat → Int) (f3 f4 : Nat → Int) (f : Nat → List El) (ds : List (List Wr)) (t : Rdo) (gd cd gm cm r : Nat) (rv : Nat → Value) (R k q : Nat) (u5 u6 u7 u8 u9 u11 u12 u13 u14 u15 u16 u17 u19 u20 u25 u26 u27 u28 u29 u30 u31 u32 u33 u34 u35 u36 u37 u38 u39 u40 u41 u42 u43 u44 u45 u46 u47 u48 u49 u50 u51 u52 u53 u54 u55 u56 u57 u58 u59 u60 u61 u62 u63 u64 u65 u66 u67 u68 u69 u70 u71 u72 u73 u74 u75 u76 u77 u78 u79 u80 u81 u82 u83 u84 u85 u86 u87 u88 u89 u90 u91 u92 u93 u94 u95 u96 u97 u98 u99 u100 u101 u102 u103 u104 u105 u106 u107 u108 u109 u110 u111 u112 u113 u114 u115 u116 u117 u118 u119 u120 u121 u122 u123 u124 u125 u126 u127 u128 u129 u130 u131 u132 u133 u134 u135 u136 u137 u138 u139 u140 u141 u142 u143 u144 u145 u146 u147 u148 u149 u150 u151 u152 u153 u154 u155 u156 u157 u158 u159 u160 u161 u162 u163 u164 u165 u166 u167 u168 u169 u170 u171 u172 u173 u174 u175 u176 u177 u178 u179 u180 u181 u182 u183 u184 u185 u186 u187 u188 u189 u190 u191 u192 u193 u194 u195 u196 u197 u198 u199 u200 u201 u202 u203 u204 u205 u206 u207 u208 u209 u210 u211 u212 u213 u214 u215 u216 u217 u218 u219 u220 u221 u222 u223 u224 u225 u226 u227 u228 u229 u230 u231 u232 u233 u234 u235 u236 u237 u238 u239 u240 u241 u242 u243 u244 u245 u246 u247 u248 u249 u250 u251 u252 u253 u254 u255 u256 u257 u258 u259 u260 u261 u262 u263 u264 u265 u266 u267 u268 u269 u270 u271 u272 u273 u274 u275 u276 u277 u278 u279 u280 u281 u282 u283 u284 u285 u286 u287 u288 u289 u290 u291 u292 u293 u294 u295 u296 u297 u298 u299 u300 u301 u302 u303 u304 u305 u306 u307 u308 : Value) (wc : World) (Q : Exit → Act → World → Prop)
    (hH : Handle w) (hn40 : n0 ≤ 40) (r1 : RdWW w (.slice a1 n1 c1) n1 L) (hn1 : n1 ≤ 5864062014634) (r2 : RdF w (.slice a2 n2 c2) n2 (fun i => .int .i64 (f2 i))) (hn2 : n2 ≤ 17592186044416) (r3 : RdF w (.slice a3 n3 c3) n3 (fun i => .int .i64 (f3 i))) (q3 : ∀ i, i < n3 → (Lit.int .i64 (f3 i)).wf = true) (hn3 : n3 ≤ 17592186044416) (r4 : RdF w (.slice a4 n4 c4) n4 (fun i => .int .i64 (f4 i))) (q4 : ∀ i, i < n4 → (Lit.int .i64 (f4 i)).wf = true) (hn4 : n4 ≤ 17592186044416) (hS : KN w p n0 f ds t gd cd gm cm r rv wc) (hds : t.rs = ds) (hrR : r ≤ 8 * k) (hk3 : k ≤ 3) (hq : q ≤ n1)
    (hQ : ∀ a w1, k1WK n0 c0 n1 c1 n2 c2 n3 c3 n4 c4 p a0 a1 a2 a3 a4 w u5 u6 u7 u8 u9 u11 u12 u13 u14 u15 u16 u17 u19 u37 u38 u39 u40 u41 u42 u43 u44 u45 u46 u47 u48 u49 u50 u51 u52 u53 u54 u55 u56 u57 u58 u59 u60 u61 u62 u63 u64 u65 u66 u67 u68 u69 u70 u71 u72 u73 u74 u75 u76 u77 u78 u79 u80 u81 u82 u83 u84 u85 u86 u87 u88 u89 u90 u91 u92 u93 u94 u95 u96 u97 u98 u99 u100 u101 u102 u103 u104 u105 u106 u107 u108 u109 u110 u111 u112 f (k + 1) k a w1 → Q .normal a w1) :
    Code.wp Tryd.prog (cut [1, 1, 1, 1, 1, 1, 1, 1, 1, 1, 1, 1, 1, 1, 1, 1, 0, 1, 2, 5, 1, 0, 2] (Tryd.f6.body.getD .skip)) Q ⟨#[.slice a0 n0 c0, .slice a1 n1 c1, .slice a2 n2 c2, .slice a3 n3 c3, .slice a4 n4 c4, u5, u6, u7, u8, u9, .bool false, u11, u12, u13, u14, u15, u16, u17, .pointer (some ⟨p, 0, none⟩), u19, u20, .slice (some ⟨gd, 0, none⟩) (r + 1) cd, .slice (some ⟨gm, 0, none⟩) (r + 1) cm, .int .i64 ((q : Nat) : Int), .int .i64 ((k : Nat) : Int), u25, u26, u27, u28, u29, u30, u31, u32, u33, u34, u35, u36, u37, u38, u39, u40, u41, u42, u43, u44, u45, u46, u47, u48, u49, u50, u51, u52, u53, u54, u55, u56, u57, u58, u59, u60, u61, u62, u63, u64, u65, u66, u67, u68, u69, u70, u71, u72, u73, u74, u75, u76, u77, u78, u79, u80, u81, u82, u83, u84, u85, u86, u87, u88, u89, u90, u91, u92, u93, u94, u95, u96, u97, u98, u99, u100, u101, u102, u103, u104, u105, u106, u107, u108, u109, u110, u111, u112, u113, u114, u115, u116, u117, u118, u119, u120, u121, u122, u123, u124, u125, u126, u127, u128, u129, u130, u131, u132, u133, u134, u135, u136, u137, u138, u139, u140, u141, u142, u143, u144, u145, u146, u147, u148, u149, u150, u151, u152, u153, u154, u155, u156, u157, u158, u159, u160, u161, u162, u163, u164, u165, u166, u167, u168, u169, u170, u171, u172, u173, u174, u175, u176, u177, u178, u179, u180, u181, u182, u183, u184, u185, u186, u187, u188, u189, u190, u191, u192, u193, u194, u195, u196, u197, u198, u199, u200, u201, u202, u203, u204, u205, u206, u207, u208, u209, u210, u211, u212, u213, u214, u215, u216, u217, u218, u219, u220, u221, u222, u223, u224, u225, u226, u227, u228, u229, u230, u231, u232, u233, u234, u235, u236, u237, u238, u239, u240, u241, u242, u243, u244, u245, u246, u247, u248, u249, u250, u251, u252, u253, u254, u255, u256, u257, u258, u259, u260, u261, u262, u263, u264, u265, u266, u267, u268, u269, u270, u271, u272, u273, u274, u275, u276, u277, u278, u279, u280, u281, u282, u283, u284, u285, u286, u287, u288, u289, u290, u291, u292, u293, u294, u295, u296, u297, u298, u299, u300, u301, u302, u303, u304, u305, u306, u307, u308], []⟩ wc := by
  conv => arg 2; whnf
  have HQQ : Hid _ := hQ
  clear hQ
  refine wp_seq_k fun K hK => ?_
  refine k_fail n0 c0 n1 c1 n2 c2 n3 c3 n4 c4 p a0 a1 a2 a3 a4 w f ds t gd cd gm cm r rv k f3 _ _ _ _ _ _ _ _ _ _ _ _ _ _ _ _ _ _ _ _ _ _ _ _ _ _ _ _ _ _ _ _ _ _ _ _ _ _ _ _ _ _ _ _ _ _ _ _ _ _ _ _ _ _ _ _ _ _ _ _ _ _ _ _ _ _ _ _ _ _ _ _ _ _ _ _ _ _ _ _ _ _ _ _ _ _ _ _ _ _ _ _ _ _ _ _ _ _ _ _ _ _ _ _ _ _ _ _ _ _ _ _ _ _ _ _ _ _ _ _ _ _ _ _ _ _ _ _ _ _ _ _ _ _ _ _ _ _ _ _ _ _ _ _ _ _ _ _ _ _ _ _ _ _ _ _ _ _ _ _ _ _ _ _ _ _ _ _ _ _ _ _ _ _ _ _ _ _ _ _ _ _ _ _ _ _ _ _ _ _ _ _ _ _ _ _ _ _ _ _ _ _ _ _ _ _ _ _ _ _ _ _ _ _ _ _ _ _ _ _ _ _ _ _ _ _ _ _ _ _ _ _ _ _ _ _ _ _ _ _ _ _ _ _ _ _ _ _ _ _ _ _ _ _ _ _ _ _ _ _ _ _ _ _ _ _ _ _ _ _ _ _ _ _ _ _ _ _ _ _ _ _ _ _ _ _ _ _ _ _ _ _ _ _ _ _ _ _ _ _ _ hS r3 q3 hn3 ?_
  intro y123 y124 y125 y126 y127 y128 y129 y130 y131 y132 t1 w1 hS1 ht1
  refine then_k (hK _ _ ?_)
  clear hK K
  refine wp_seq_k fun K hK => ?_
  have HKK : Hid _ := hK
  clear hK
  refine wp_seq_k fun K hK => ?_
  have HK : Hid _ := hK
  clear hK
  go_wp2
  refine HK.out _ _ ?_
  clear HK K
  refine wp_block ?_
  refine k2loop n0 c0 n1 c1 n2 c2 n3 c3 n4 c4 p a0 a1 a2 a3 a4 w _ _ _ _ _ _ _ _ _ _ _ _ _ _ _ _ _ _ _ _ _ _ _ _ _ _ _ _ _ _ _ _ _ _ _ _ _ _ _ _ _ _ _ _ _ _ _ _ _ _ _ _ _ _ _ _ _ _ _ _ _ _ _ _ _ _ _ _ _ _ _ _ _ _ _ _ _ _ _ _ _ _ _ _ _ _ _ _ _ _ _ _ _ _ _ _ _ _ _ _ _ _ _ _ _ _ _ _ _ _ _ _ _ _ _ _ _ _ _ _ _ _ _ _ _ _ _ _ _ _ _ _ _ _ _ _ _ _ _ _ _ _ _ _ _ _ _ _ _ _ _ _ _ _ _ _ _ _ _ _ _ _ _ _ _ _ _ _ _ _ _ _ _ _ _ _ _ _ _ _ _ _ _ _ _ _ _ _ _ _ _ _ _ _ f r L f2 hH hn40 r1 hn1 r2 hn2 (by omega) _ 0 ds t1 gd cd gm cm r rv q _ _ _ _ _ _ _ _ _ _ _ _ _ _ _ _ _ _ _ _ _ _ _ _ _ _ _ _ _ _ _ _ _ _ _ _ _ _ _ _ _ _ _ _ _ _ _ _ _ _ _ _ _ _ _ _ _ _ _ _ _ _ _ _ _ _ _ _ _ _ _ _ _ _ _ _ _ _ _ _ _ _ _ _ _ _ _ _ _ _ _ _ _ _ _ _ _ _ _ _ _ _ _ _ _ (by omega) ⟨hS1, ht1.trans hds, by omega, hq⟩ ?_
  intro a w' hI
  refine (show K a w' from HKK.out _ _ ?_)
  clear HKK
  unfold k2WI at hI
  obtain ⟨k', hk8, hI⟩ := hI
  unfold k2WK at hI
  obtain ⟨s20, hI⟩ := hI
  obtain ⟨s26, hI⟩ := hI
  obtain ⟨s27, hI⟩ := hI
  obtain ⟨s28, hI⟩ := hI
  obtain ⟨s29, hI⟩ := hI
  obtain ⟨s30, hI⟩ := hI
  obtain ⟨s133, hI⟩ := hI
  obtain ⟨s134, hI⟩ := hI
  obtain ⟨s135, hI⟩ := hI
  obtain ⟨s136, hI⟩ := hI
  obtain ⟨s137, hI⟩ := hI
  obtain ⟨s138, hI⟩ := hI
  obtain ⟨s139, hI⟩ := hI
  obtain ⟨s140, hI⟩ := hI
  obtain ⟨s141, hI⟩ := hI
  obtain ⟨s142, hI⟩ := hI
  obtain ⟨s143, hI⟩ := hI
  obtain ⟨s144, hI⟩ := hI
  obtain ⟨s145, hI⟩ := hI
  obtain ⟨s146, hI⟩ := hI
  obtain ⟨s147, hI⟩ := hI
  obtain ⟨s148, hI⟩ := hI
  obtain ⟨s149, hI⟩ := hI
  obtain ⟨s150, hI⟩ := hI
  obtain ⟨s151, hI⟩ := hI
  obtain ⟨s152, hI⟩ := hI
  obtain ⟨s153, hI⟩ := hI
  obtain ⟨s154, hI⟩ := hI
  obtain ⟨s155, hI⟩ := hI
  obtain ⟨s156, hI⟩ := hI
  obtain ⟨s157, hI⟩ := hI
  obtain ⟨s158, hI⟩ := hI
  obtain ⟨s159, hI⟩ := hI
  obtain ⟨s160, hI⟩ := hI
  obtain ⟨s161, hI⟩ := hI
  obtain ⟨s162, hI⟩ := hI
  obtain ⟨s163, hI⟩ := hI
  obtain ⟨s164, hI⟩ := hI
  obtain ⟨s165, hI⟩ := hI
  obtain ⟨s166, hI⟩ := hI
  obtain ⟨s167, hI⟩ := hI
  obtain ⟨s168, hI⟩ := hI
  obtain ⟨s169, hI⟩ := hI
  obtain ⟨s170, hI⟩ := hI
  obtain ⟨s171, hI⟩ := hI
  obtain ⟨s172, hI⟩ := hI
  obtain ⟨s173, hI⟩ := hI
  obtain ⟨s174, hI⟩ := hI
  obtain ⟨s175, hI⟩ := hI
  obtain ⟨s176, hI⟩ := hI
  obtain ⟨s177, hI⟩ := hI
  obtain ⟨s178, hI⟩ := hI
  obtain ⟨s179, hI⟩ := hI
  obtain ⟨s180, hI⟩ := hI
  obtain ⟨s181, hI⟩ := hI
  obtain ⟨s182, hI⟩ := hI
  obtain ⟨s183, hI⟩ := hI
  obtain ⟨s184, hI⟩ := hI
  obtain ⟨s185, hI⟩ := hI
  obtain ⟨s186, hI⟩ := hI
  obtain ⟨s187, hI⟩ := hI
  obtain ⟨s188, hI⟩ := hI
  obtain ⟨s189, hI⟩ := hI
  obtain ⟨s190, hI⟩ := hI
  obtain ⟨s191, hI⟩ := hI
  obtain ⟨s192, hI⟩ := hI
  obtain ⟨s193, hI⟩ := hI
  obtain ⟨s194, hI⟩ := hI
  obtain ⟨s195, hI⟩ := hI
  obtain ⟨s196, hI⟩ := hI
  obtain ⟨s197, hI⟩ := hI
  obtain ⟨s198, hI⟩ := hI
  obtain ⟨s199, hI⟩ := hI
  obtain ⟨s200, hI⟩ := hI
  obtain ⟨s201, hI⟩ := hI
  obtain ⟨s202, hI⟩ := hI
  obtain ⟨s203, hI⟩ := hI
  obtain ⟨s204, hI⟩ := hI
  obtain ⟨s205, hI⟩ := hI
  obtain ⟨s206, hI⟩ := hI
  obtain ⟨s207, hI⟩ := hI
  obtain ⟨s208, hI⟩ := hI
  obtain ⟨s209, hI⟩ := hI
  obtain ⟨s210, hI⟩ := hI
  obtain ⟨s211, hI⟩ := hI
  obtain ⟨s212, hI⟩ := hI
  obtain ⟨s213, hI⟩ := hI
  obtain ⟨s214, hI⟩ := hI
  obtain ⟨s215, hI⟩ := hI
  obtain ⟨s216, hI⟩ := hI
  obtain ⟨s217, hI⟩ := hI
  obtain ⟨s218, hI⟩ := hI
  obtain ⟨s219, hI⟩ := hI
  obtain ⟨s220, hI⟩ := hI
  obtain ⟨s221, hI⟩ := hI
  obtain ⟨s222, hI⟩ := hI
  obtain ⟨s223, hI⟩ := hI
  obtain ⟨s224, hI⟩ := hI
  obtain ⟨s225, hI⟩ := hI
  obtain ⟨s226, hI⟩ := hI
  obtain ⟨s227, hI⟩ := hI
  obtain ⟨s228, hI⟩ := hI
  obtain ⟨s229, hI⟩ := hI
  obtain ⟨s230, hI⟩ := hI
  obtain ⟨d2, t2, g2, e2, g3, e3, r2', rv2, q2, ⟨hS2, hd2, hr2, hq2⟩, rfl⟩ := hI
  clear hS1 hS
  have HR1 : Hid _ := r1
  have HR2 : Hid _ := r2
  have HR3 : Hid _ := r3
  have HR4 : Hid _ := r4
  have HH : Hid _ := hH
  have HS2 : Hid _ := hS2
  clear r1 r2 r3 hH hS2 r4
  refine wp_seq_k fun K hK => ?_
  have HK : Hid _ := hK
  clear hK
  go_wp2
  refine HK.out _ _ ?_
  clear HK K
  have hS2 := HS2.out
  refine wp_seq_k fun K hK => ?_
  refine k_keep n0 c0 n1 c1 n2 c2 n3 c3 n4 c4 p a0 a1 a2 a3 a4 w f d2 t2 g2 e2 g3 e3 r2' rv2 k f4 _ _ _ _ _ _ _ _ _ _ _ _ _ _ _ _ _ _ _ _ _ _ _ _ _ _ _ _ _ _ _ _ _ _ _ _ _ _ _ _ _ _ _ _ _ _ _ _ _ _ _ _ _ _ _ _ _ _ _ _ _ _ _ _ _ _ _ _ _ _ _ _ _ _ _ _ _ _ _ _ _ _ _ _ _ _ _ _ _ _ _ _ _ _ _ _ _ _ _ _ _ _ _ _ _ _ _ _ _ _ _ _ _ _ _ _ _ _ _ _ _ _ _ _ _ _ _ _ _ _ _ _ _ _ _ _ _ _ _ _ _ _ _ _ _ _ _ _ _ _ _ _ _ _ _ _ _ _ _ _ _ _ _ _ _ _ _ _ _ _ _ _ _ _ _ _ _ _ _ _ _ _ _ _ _ _ _ _ _ _ _ _ _ _ _ _ _ _ _ _ _ _ _ _ _ _ _ _ _ _ _ _ _ _ _ _ _ _ _ _ _ _ _ _ _ _ _ _ _ _ _ _ _ _ _ _ _ _ _ _ _ _ _ _ _ _ _ _ _ _ _ _ _ _ _ _ _ _ _ _ _ _ _ _ _ _ _ _ _ _ _ _ _ _ _ _ _ _ _ _ _ _ _ _ _ _ _ _ _ _ _ _ _ _ _ _ _ _ _ _ hS2 HR4.out q4 hn4 ?_
  intro y231 y232 y233 y234 y235 y236 y237 y238 z w3 hS3 hz1 hz2
  refine then_k (hK _ _ ?_)
  clear hK K
  refine wp_seq_k fun K hK => ?_
  refine k_cbytes n0 c0 n1 c1 n2 c2 n3 c3 n4 c4 p a0 a1 a2 a3 a4 w f d2 t2 g2 e2 g3 e3 r2' rv2 _ _ _ _ _ _ _ _ _ _ _ _ _ _ _ _ _ _ _ _ _ _ _ _ _ _ _ _ _ _ _ _ _ _ _ _ _ _ _ _ _ _ _ _ _ _ _ _ _ _ _ _ _ _ _ _ _ _ _ _ _ _ _ _ _ _ _ _ _ _ _ _ _ _ _ _ _ _ _ _ _ _ _ _ _ _ _ _ _ _ _ _ _ _ _ _ _ _ _ _ _ _ _ _ _ _ _ _ _ _ _ _ _ _ _ _ _ _ _ _ _ _ _ _ _ _ _ _ _ _ _ _ _ _ _ _ _ _ _ _ _ _ _ _ _ _ _ _ _ _ _ _ _ _ _ _ _ _ _ _ _ _ _ _ _ _ _ _ _ _ _ _ _ _ _ _ _ _ _ _ _ _ _ _ _ _ _ _ _ _ _ _ _ _ _ _ _ _ _ _ _ _ _ _ _ _ _ _ _ _ _ _ _ _ _ _ _ _ _ _ _ _ _ _ _ _ _ _ _ _ _ _ _ _ _ _ _ _ _ _ _ _ _ _ _ _ _ _ _ _ _ _ _ _ _ _ _ _ _ _ _ _ _ _ _ _ _ _ _ _ _ _ _ _ _ _ _ _ _ _ _ _ _ _ _ _ _ _ _ _ _ _ _ _ _ _ _ _ _ _ _ _ hS3 ?_
  intro y239 w4 hS4
  refine then_k (hK _ _ ?_)
  clear hK K
  refine wp_seq_k fun K hK => ?_
  refine k_csafe n0 c0 n1 c1 n2 c2 n3 c3 n4 c4 p a0 a1 a2 a3 a4 w f d2 t2 g2 e2 g3 e3 r2' rv2 _ _ _ _ _ _ _ _ _ _ _ _ _ _ _ _ _ _ _ _ _ _ _ _ _ _ _ _ _ _ _ _ _ _ _ _ _ _ _ _ _ _ _ _ _ _ _ _ _ _ _ _ _ _ _ _ _ _ _ _ _ _ _ _ _ _ _ _ _ _ _ _ _ _ _ _ _ _ _ _ _ _ _ _ _ _ _ _ _ _ _ _ _ _ _ _ _ _ _ _ _ _ _ _ _ _ _ _ _ _ _ _ _ _ _ _ _ _ _ _ _ _ _ _ _ _ _ _ _ _ _ _ _ _ _ _ _ _ _ _ _ _ _ _ _ _ _ _ _ _ _ _ _ _ _ _ _ _ _ _ _ _ _ _ _ _ _ _ _ _ _ _ _ _ _ _ _ _ _ _ _ _ _ _ _ _ _ _ _ _ _ _ _ _ _ _ _ _ _ _ _ _ _ _ _ _ _ _ _ _ _ _ _ _ _ _ _ _ _ _ _ _ _ _ _ _ _ _ _ _ _ _ _ _ _ _ _ _ _ _ _ _ _ _ _ _ _ _ _ _ _ _ _ _ _ _ _ _ _ _ _ _ _ _ _ _ _ _ _ _ _ _ _ _ _ _ _ _ _ _ _ _ _ _ _ _ _ _ _ _ _ _ _ _ _ _ _ _ _ _ _ _ hS4 ?_
  intro y241 w5 hS5
  refine then_k (hK _ _ ?_)
  clear hK K
  refine wp_seq_k fun K hK => ?_
  refine k_crash n0 c0 n1 c1 n2 c2 n3 c3 n4 c4 p a0 a1 a2 a3 a4 w f d2 t2 g2 e2 g3 e3 r2' rv2 z _ _ _ _ _ _ _ _ _ _ _ _ _ _ _ _ _ _ _ _ _ _ _ _ _ _ _ _ _ _ _ _ _ _ _ _ _ _ _ _ _ _ _ _ _ _ _ _ _ _ _ _ _ _ _ _ _ _ _ _ _ _ _ _ _ _ _ _ _ _ _ _ _ _ _ _ _ _ _ _ _ _ _ _ _ _ _ _ _ _ _ _ _ _ _ _ _ _ _ _ _ _ _ _ _ _ _ _ _ _ _ _ _ _ _ _ _ _ _ _ _ _ _ _ _ _ _ _ _ _ _ _ _ _ _ _ _ _ _ _ _ _ _ _ _ _ _ _ _ _ _ _ _ _ _ _ _ _ _ _ _ _ _ _ _ _ _ _ _ _ _ _ _ _ _ _ _ _ _ _ _ _ _ _ _ _ _ _ _ _ _ _ _ _ _ _ _ _ _ _ _ _ _ _ _ _ _ _ _ _ _ _ _ _ _ _ _ _ _ _ _ _ _ _ _ _ _ _ _ _ _ _ _ _ _ _ _ _ _ _ _ _ _ _ _ _ _ _ _ _ _ _ _ _ _ _ _ _ _ _ _ _ _ _ _ _ _ _ _ _ _ _ _ _ _ _ _ _ _ _ _ _ _ _ _ _ _ _ _ _ _ _ _ _ _ _ _ _ _ _ _ hS5 hd2 hz1 hz2 ?_
  intro y243 y244 y245 w6 hS6
  refine then_k (hK _ _ ?_)
  clear hK K
  have HS6 : Hid _ := hS6
  clear hS3 hS4 hS5 hS6
  refine wp_seq_k fun K hK => ?_
  have HK : Hid _ := hK
  clear hK
  go_wp2
  refine HK.out _ _ ?_
  clear HK K
  have hok := HS2.out.1.rl.ok
  have hsl := Rdo.safe_le hok
  have hlb := Rdo.log_le hok (N := 40) (by rw [hd2, HS2.out.2.1]; exact HS2.out.2.2)
  refine wp_seq_k fun K hK => ?_
  refine k_high n0 c0 n1 c1 n2 c2 n3 c3 n4 c4 p a0 a1 a2 a3 a4 w z t2.log.length t2.safe _ _ _ _ _ _ _ _ _ _ _ _ _ _ _ _ _ _ _ _ _ _ _ _ _ _ _ _ _ _ _ _ _ _ _ _ _ _ _ _ _ _ _ _ _ _ _ _ _ _ _ _ _ _ _ _ _ _ _ _ _ _ _ _ _ _ _ _ _ _ _ _ _ _ _ _ _ _ _ _ _ _ _ _ _ _ _ _ _ _ _ _ _ _ _ _ _ _ _ _ _ _ _ _ _ _ _ _ _ _ _ _ _ _ _ _ _ _ _ _ _ _ _ _ _ _ _ _ _ _ _ _ _ _ _ _ _ _ _ _ _ _ _ _ _ _ _ _ _ _ _ _ _ _ _ _ _ _ _ _ _ _ _ _ _ _ _ _ _ _ _ _ _ _ _ _ _ _ _ _ _ _ _ _ _ _ _ _ _ _ _ _ _ _ _ _ _ _ _ _ _ _ _ _ _ _ _ _ _ _ _ _ _ _ _ _ _ _ _ _ _ _ _ _ _ _ _ _ _ _ _ _ _ _ _ _ _ _ _ _ _ _ _ _ _ _ _ _ _ _ _ _ _ _ _ _ _ _ _ _ _ _ _ _ _ _ _ _ _ _ _ _ _ _ _ _ _ _ _ _ _ _ _ _ _ _ _ _ _ _ _ _ _ _ _ _ _ _ _ _ hsl (by omega) hz1 hz2 ?_
  intro y247 y248 y249 y250 y251 y252 y253 y254 y255 y256 y257 y258 y259 y260 y261 w8 hw8
  refine then_k (hK _ _ ?_)
  clear hK K
  obtain rfl := hw8.symm
  clear hw8
  refine wp_seq_k fun K hK => ?_
  have HK : Hid _ := hK
  clear hK
  go_wp2
  refine HK.out _ _ ?_
  clear HK K
  have hS6 := HS6.out
  refine wp_seq_k fun K hK => ?_
  refine k_left n0 c0 n1 c1 n2 c2 n3 c3 n4 c4 p a0 a1 a2 a3 a4 w f d2 (t2.crash z) g2 e2 g3 e3 r2' rv2 (t2.safe + min z.toNat (t2.log.length - t2.safe)) _ _ _ _ _ _ _ _ _ _ _ _ _ _ _ _ _ _ _ _ _ _ _ _ _ _ _ _ _ _ _ _ _ _ _ _ _ _ _ _ _ _ _ _ _ _ _ _ _ _ _ _ _ _ _ _ _ _ _ _ _ _ _ _ _ _ _ _ _ _ _ _ _ _ _ _ _ _ _ _ _ _ _ _ _ _ _ _ _ _ _ _ _ _ _ _ _ _ _ _ _ _ _ _ _ _ _ _ _ _ _ _ _ _ _ _ _ _ _ _ _ _ _ _ _ _ _ _ _ _ _ _ _ _ _ _ _ _ _ _ _ _ _ _ _ _ _ _ _ _ _ _ _ _ _ _ _ _ _ _ _ _ _ _ _ _ _ _ _ _ _ _ _ _ _ _ _ _ _ _ _ _ _ _ _ _ _ _ _ _ _ _ _ _ _ _ _ _ _ _ _ _ _ _ _ _ _ _ _ _ _ _ _ _ _ _ _ _ _ _ _ _ _ _ _ _ _ _ _ _ _ _ _ _ _ _ _ _ _ _ _ _ _ _ _ _ _ _ _ _ _ _ _ _ _ _ _ _ _ _ _ _ _ _ _ _ _ _ _ _ _ _ _ _ _ _ _ _ _ _ _ _ _ _ _ _ _ _ _ _ _ _ _ _ _ _ _ _ _ _ _ hS6 ?_
  intro y36 y262 y263 y264 y265 y266 y267 y268 y269 y270 y271 y272 y273 y274 w10 hS10
  refine then_k (hK _ _ ?_)
  clear hK K
  have hfl : (fit d2 (t2.safe + min z.toNat (t2.log.length - t2.safe))).length ≤ r2' := by
    have := fit_le d2 (t2.safe + min z.toNat (t2.log.length - t2.safe))
    have := HS2.out.2.1
    omega
  have hcr : (t2.crash z).rs = d2.take (fit d2 (t2.safe + min z.toNat (t2.log.length - t2.safe))).length := by
    show fit t2.rs (t2.left z) = _
    rw [hd2]
    exact fit_take d2 _
  have hcl : (t2.crash z).log.length = (logOf (d2.take (fit d2 (t2.safe + min z.toNat (t2.log.length - t2.safe))).length)).length := by
    show (logOf (t2.crash z).rs ++ []).length = _
    rw [List.append_nil, hcr]
  have hcs : (t2.crash z).safe = (t2.crash z).log.length := by
    show (logOf (fit t2.rs (t2.left z))).length = (logOf (fit t2.rs (t2.left z)) ++ []).length
    rw [List.append_nil]
  have hce : r2' + 1 ≤ e2 := by
    obtain ⟨g, cap, e, _, hc, _⟩ := hS10.1.at 0 (by omega)
    simp only [Value.slice.injEq] at e
    have := HS2.out.2.1
    omega
  have hcf : r2' + 1 ≤ e3 := by
    obtain ⟨g, cap, e, _, hc, _⟩ := hS10.1.mark 0 (by omega)
    simp only [Value.slice.injEq] at e
    have := HS2.out.2.1
    omega
  have hr40 := HS2.out.2.2
  refine wp_seq_k fun K hK => ?_
  refine k_cutd n0 c0 n1 c1 n2 c2 n3 c3 n4 c4 p a0 a1 a2 a3 a4 w g2 r2' e2 ((fit d2 (t2.safe + min z.toNat (t2.log.length - t2.safe))).length) _ _ _ _ _ _ _ _ _ _ _ _ _ _ _ _ _ _ _ _ _ _ _ _ _ _ _ _ _ _ _ _ _ _ _ _ _ _ _ _ _ _ _ _ _ _ _ _ _ _ _ _ _ _ _ _ _ _ _ _ _ _ _ _ _ _ _ _ _ _ _ _ _ _ _ _ _ _ _ _ _ _ _ _ _ _ _ _ _ _ _ _ _ _ _ _ _ _ _ _ _ _ _ _ _ _ _ _ _ _ _ _ _ _ _ _ _ _ _ _ _ _ _ _ _ _ _ _ _ _ _ _ _ _ _ _ _ _ _ _ _ _ _ _ _ _ _ _ _ _ _ _ _ _ _ _ _ _ _ _ _ _ _ _ _ _ _ _ _ _ _ _ _ _ _ _ _ _ _ _ _ _ _ _ _ _ _ _ _ _ _ _ _ _ _ _ _ _ _ _ _ _ _ _ _ _ _ _ _ _ _ _ _ _ _ _ _ _ _ _ _ _ _ _ _ _ _ _ _ _ _ _ _ _ _ _ _ _ _ _ _ _ _ _ _ _ _ _ _ _ _ _ _ _ _ _ _ _ _ _ _ _ _ _ _ _ _ _ _ _ _ _ _ _ _ _ _ _ _ _ _ _ _ _ _ _ _ _ _ _ _ _ _ _ _ _ _ _ _ _ _ _ (by omega) (by omega) ?_
  intro y275 y276 y277 w11 hw11
  refine then_k (hK _ _ ?_)
  clear hK K
  obtain rfl := hw11.symm
  clear hw11
  refine wp_seq_k fun K hK => ?_
  refine k_cutm n0 c0 n1 c1 n2 c2 n3 c3 n4 c4 p a0 a1 a2 a3 a4 w g3 r2' e3 ((fit d2 (t2.safe + min z.toNat (t2.log.length - t2.safe))).length) _ _ _ _ _ _ _ _ _ _ _ _ _ _ _ _ _ _ _ _ _ _ _ _ _ _ _ _ _ _ _ _ _ _ _ _ _ _ _ _ _ _ _ _ _ _ _ _ _ _ _ _ _ _ _ _ _ _ _ _ _ _ _ _ _ _ _ _ _ _ _ _ _ _ _ _ _ _ _ _ _ _ _ _ _ _ _ _ _ _ _ _ _ _ _ _ _ _ _ _ _ _ _ _ _ _ _ _ _ _ _ _ _ _ _ _ _ _ _ _ _ _ _ _ _ _ _ _ _ _ _ _ _ _ _ _ _ _ _ _ _ _ _ _ _ _ _ _ _ _ _ _ _ _ _ _ _ _ _ _ _ _ _ _ _ _ _ _ _ _ _ _ _ _ _ _ _ _ _ _ _ _ _ _ _ _ _ _ _ _ _ _ _ _ _ _ _ _ _ _ _ _ _ _ _ _ _ _ _ _ _ _ _ _ _ _ _ _ _ _ _ _ _ _ _ _ _ _ _ _ _ _ _ _ _ _ _ _ _ _ _ _ _ _ _ _ _ _ _ _ _ _ _ _ _ _ _ _ _ _ _ _ _ _ _ _ _ _ _ _ _ _ _ _ _ _ _ _ _ _ _ _ _ _ _ _ _ _ _ _ _ _ _ _ _ _ _ _ _ _ _ _ (by omega) (by omega) ?_
  intro y279 y280 y281 w12 hw12
  refine then_k (hK _ _ ?_)
  clear hK K
  obtain rfl := hw12.symm
  clear hw12
  refine k_end n0 c0 n1 c1 n2 c2 n3 c3 n4 c4 p a0 a1 a2 a3 a4 w f d2 (t2.crash z) g2 e2 g3 e3 r2' rv2 ((fit d2 (t2.safe + min z.toNat (t2.log.length - t2.safe))).length) _ _ _ _ _ _ _ _ _ _ _ _ _ _ _ _ _ _ _ _ _ _ _ _ _ _ _ _ _ _ _ _ _ _ _ _ _ _ _ _ _ _ _ _ _ _ _ _ _ _ _ _ _ _ _ _ _ _ _ _ _ _ _ _ _ _ _ _ _ _ _ _ _ _ _ _ _ _ _ _ _ _ _ _ _ _ _ _ _ _ _ _ _ _ _ _ _ _ _ _ _ _ _ _ _ _ _ _ _ _ _ _ _ _ _ _ _ _ _ _ _ _ _ _ _ _ _ _ _ _ _ _ _ _ _ _ _ _ _ _ _ _ _ _ _ _ _ _ _ _ _ _ _ _ _ _ _ _ _ _ _ _ _ _ _ _ _ _ _ _ _ _ _ _ _ _ _ _ _ _ _ _ _ _ _ _ _ _ _ _ _ _ _ _ _ _ _ _ _ _ _ _ _ _ _ _ _ _ _ _ _ _ _ _ _ _ _ _ _ _ _ _ _ _ _ _ _ _ _ _ _ _ _ _ _ _ _ _ _ _ _ _ _ _ _ _ _ _ _ _ _ _ _ _ _ _ _ _ _ _ _ _ _ _ _ _ _ _ _ _ _ _ _ _ _ _ _ _ _ _ _ _ _ _ _ _ _ _ _ _ _ _ _ _ _ _ _ _ _ _ _ hS10 hfl hcr hcl hcs ?_
  intro y283 y284 y285 y286 y287 y288 y289 y290 y291 y292 y293 y294 y295 y296 y297 y298 y299 y300 y301 y302 y303 y304 y305 y306 y307 y308 w13 hS13
  exact HQQ.out _ _ (by unfold k1WK; exact ⟨_, _, _, _, _, _, _, _, _, _, _, _, _, _, _, _, _, _, _, _, _, _, _, _, _, _, _, _, _, _, _, _, _, _, _, _, _, _, _, _, _, _, _, _, _, _, _, _, _, _, _, _, _, _, _, _, _, _, _, _, _, _, _, _, _, _, _, _, _, _, _, _, _, _, _, _, _, _, _, _, _, _, _, _, _, _, _, _, _, _, _, _, _, _, _, _, _, _, _, _, _, _, _, _, _, _, _, _, _, _, _, _, _, _, _, _, _, _, _, _, _, _, _, _, _, _, _, _, _, _, _, _, _, _, _, _, _, _, _, _, _, _, _, _, _, _, _, _, _, _, _, _, _, _, _, _, _, _, _, _, _, _, _, _, _, _, _, _, _, _, _, _, _, _, _, _, _, _, _, _, _, _, _, _, _, _, _, _, _, _, _, _, _, _, _, _, _, _, _, _, _, _, _, _, _, _, _, _, _, (t2.crash z).rs, t2.crash z, g2, e2, g3, e3, (fit d2 (t2.safe + min z.toNat (t2.log.length - t2.safe))).length, rv2, q2, ⟨hS13, rfl, by omega, hq2⟩, rfl⟩)
end Go.Proofs.YtacfafbnimhibaaDoor
