/- ScrubTells, a piece: walks over the program. -/
import Derived.Test.YtilfjahbdlepjaaGreatDoorSTh
namespace Go.Proofs.YtilfjahbdlepjaaGreatDoor
open Go.RowKit El Pol Mx Lay
set_option linter.unusedVariables false in
set_option maxRecDepth 1000000 in
set_option maxHeartbeats 8000000 in
theorem t46 (n rows size n3 c3 : Nat) (a3 : Option Addr) (mm rr : Int) (x1 x2 : PAd) (y1 y2 : RAd) (w : World) (N N1 : Nat) (A B1 : Arr) (u6 u7 u8 u9 u10 u11 u12 u14 u16 u19 u20 u21 u22 u23 u24 u25 u26 u28 u29 u30 u31 u32 u33 u34 u35 u36 u37 u38 u39 u40 u41 u42 u43 u44 u45 u46 u47 u48 u49 u50 u51 u52 u53 u54 u55 u56 u57 u58 u59 u60 u61 u62 u63 u64 u65 u66 u67 u68 u69 u70 u71 u72 u73 u74 u75 u76 u77 u78 u79 u80 u81 u82 u83 u84 u85 u86 u87 u88 u89 u90 u91 u92 u93 u94 u95 u96 u97 u98 u99 u100 u101 u102 u103 u104 u105 u106 u107 u108 u109 u110 u111 u112 u113 u114 u115 u116 u117 u118 u119 u120 u121 u122 u123 u124 u125 u126 u127 u128 u129 u130 u131 u132 u133 u134 u135 u136 u137 u138 u139 u140 u141 u142 u143 u144 u145 u146 u147 u148 u149 u150 u151 u152 u153 u154 u155 u156 u157 u158 u159 u160 u161 u162 u163 u164 u165 u166 u167 u168 u169 u170 u171 u172 u173 u174 u175 u176 u177 u178 u179 u180 u181 u182 u183 u184 u185 u186 u187 u188 u189 u190 u191 u192 u193 u194 u195 u196 u197 u198 u199 u200 u201 u202 u203 u204 u205 u206 u207 u208 u209 u210 u211 u212 u213 u214 u215 u216 u217 u218 u219 u220 u221 u222 u223 u224 u225 u226 u227 u228 u229 u230 u231 u232 u233 u234 u235 u236 u237 u238 u239 u240 u241 u242 u243 u244 u245 u246 u247 u248 u249 u250 u251 u252 u253 u254 u255 u256 u257 u258 u259 u260 u261 u262 u263 u264 u265 u266 u267 u268 u269 u270 u271 u272 u273 u274 u275 u276 u277 u278 u279 u280 u281 u282 u283 u284 u285 u286 u287 u288 u289 u290 u291 u292 u293 u294 u295 u296 u297 u298 u299 u300 u301 u302 u303 u304 u305 u306 u307 u308 u309 u310 u311 u312 u313 u314 u315 u316 u317 u318 u319 u320 u321 u322 u323 u324 u325 u326 u327 u328 u329 u330 u331 u332 u333 u334 u335 u336 u337 : Value) (wc : World) (Q : Exit → Act → World → Prop)
    (hS : QS w x1 x2 y1 y2 n rows size (B1) (A) (B1) (A.all 0) (N1) (N) wc) (hn : 3 ≤ n ∧ n ≤ 10) (hr : 1 ≤ rows ∧ rows ≤ 20) (hz : 1 ≤ size ∧ size ≤ 16)
    (hQ : ∀ (x28 x29 x30 x248 x249 x250 x251 x252 x253 x254 x255 x256 x257 x258 x259 x260 x261 x262 x263 x264 x265 x266 x267 x268 x269 x270 : Value) (av : Option Addr) (cv : Nat) (w1 : World), QS w x1 x2 y1 y2 n rows size (B1) (A) (B1) (A.all rows) (N1) (N) w1 → OwS wc.heap.size w1 (.slice av (A.spots rows).length cv) (A.spots rows) → (∀ k, QF x1 x2 y1 y2 n k → k < wc.heap.size) → Q .normal ⟨#[.int .i64 n, .int .i64 rows, .int .i64 size, .slice a3 n3 c3, .int .i64 mm, .int .i64 rr, u6, u7, u8, u9, u10, u11, u12, .pointer (some ⟨x1.p, 0, none⟩), u14, .pointer (some ⟨x2.p, 0, none⟩), u16, .pointer (some ⟨y1.p, 0, none⟩), .pointer (some ⟨y2.p, 0, none⟩), u19, u20, u21, u22, u23, u24, u25, u26, .slice av (A.spots rows).length cv, x28, x29, x30, u31, u32, u33, u34, u35, u36, u37, u38, u39, u40, u41, u42, u43, u44, u45, u46, u47, u48, u49, u50, u51, u52, u53, u54, u55, u56, u57, u58, u59, u60, u61, u62, u63, u64, u65, u66, u67, u68, u69, u70, u71, u72, u73, u74, u75, u76, u77, u78, u79, u80, u81, u82, u83, u84, u85, u86, u87, u88, u89, u90, u91, u92, u93, u94, u95, u96, u97, u98, u99, u100, u101, u102, u103, u104, u105, u106, u107, u108, u109, u110, u111, u112, u113, u114, u115, u116, u117, u118, u119, u120, u121, u122, u123, u124, u125, u126, u127, u128, u129, u130, u131, u132, u133, u134, u135, u136, u137, u138, u139, u140, u141, u142, u143, u144, u145, u146, u147, u148, u149, u150, u151, u152, u153, u154, u155, u156, u157, u158, u159, u160, u161, u162, u163, u164, u165, u166, u167, u168, u169, u170, u171, u172, u173, u174, u175, u176, u177, u178, u179, u180, u181, u182, u183, u184, u185, u186, u187, u188, u189, u190, u191, u192, u193, u194, u195, u196, u197, u198, u199, u200, u201, u202, u203, u204, u205, u206, u207, u208, u209, u210, u211, u212, u213, u214, u215, u216, u217, u218, u219, u220, u221, u222, u223, u224, u225, u226, u227, u228, u229, u230, u231, u232, u233, u234, u235, u236, u237, u238, u239, u240, u241, u242, u243, u244, u245, u246, u247, x248, x249, x250, x251, x252, x253, x254, x255, x256, x257, x258, x259, x260, x261, x262, x263, x264, x265, x266, x267, x268, x269, x270, u271, u272, u273, u274, u275, u276, u277, u278, u279, u280, u281, u282, u283, u284, u285, u286, u287, u288, u289, u290, u291, u292, u293, u294, u295, u296, u297, u298, u299, u300, u301, u302, u303, u304, u305, u306, u307, u308, u309, u310, u311, u312, u313, u314, u315, u316, u317, u318, u319, u320, u321, u322, u323, u324, u325, u326, u327, u328, u329, u330, u331, u332, u333, u334, u335, u336, u337], []⟩ w1) :
    Code.wp Tryz.prog (cut [1, 1, 1, 1, 1, 1, 1, 1, 1, 1, 1, 1, 1, 1, 0] (Tryz.f4.body.getD .skip)) Q ⟨#[.int .i64 n, .int .i64 rows, .int .i64 size, .slice a3 n3 c3, .int .i64 mm, .int .i64 rr, u6, u7, u8, u9, u10, u11, u12, .pointer (some ⟨x1.p, 0, none⟩), u14, .pointer (some ⟨x2.p, 0, none⟩), u16, .pointer (some ⟨y1.p, 0, none⟩), .pointer (some ⟨y2.p, 0, none⟩), u19, u20, u21, u22, u23, u24, u25, u26, .slice none 0 0, u28, u29, u30, u31, u32, u33, u34, u35, u36, u37, u38, u39, u40, u41, u42, u43, u44, u45, u46, u47, u48, u49, u50, u51, u52, u53, u54, u55, u56, u57, u58, u59, u60, u61, u62, u63, u64, u65, u66, u67, u68, u69, u70, u71, u72, u73, u74, u75, u76, u77, u78, u79, u80, u81, u82, u83, u84, u85, u86, u87, u88, u89, u90, u91, u92, u93, u94, u95, u96, u97, u98, u99, u100, u101, u102, u103, u104, u105, u106, u107, u108, u109, u110, u111, u112, u113, u114, u115, u116, u117, u118, u119, u120, u121, u122, u123, u124, u125, u126, u127, u128, u129, u130, u131, u132, u133, u134, u135, u136, u137, u138, u139, u140, u141, u142, u143, u144, u145, u146, u147, u148, u149, u150, u151, u152, u153, u154, u155, u156, u157, u158, u159, u160, u161, u162, u163, u164, u165, u166, u167, u168, u169, u170, u171, u172, u173, u174, u175, u176, u177, u178, u179, u180, u181, u182, u183, u184, u185, u186, u187, u188, u189, u190, u191, u192, u193, u194, u195, u196, u197, u198, u199, u200, u201, u202, u203, u204, u205, u206, u207, u208, u209, u210, u211, u212, u213, u214, u215, u216, u217, u218, u219, u220, u221, u222, u223, u224, u225, u226, u227, u228, u229, u230, u231, u232, u233, u234, u235, u236, u237, u238, u239, u240, u241, u242, u243, u244, u245, u246, u247, u248, u249, u250, u251, u252, u253, u254, u255, u256, u257, u258, u259, u260, u261, u262, u263, u264, u265, u266, u267, u268, u269, u270, u271, u272, u273, u274, u275, u276, u277, u278, u279, u280, u281, u282, u283, u284, u285, u286, u287, u288, u289, u290, u291, u292, u293, u294, u295, u296, u297, u298, u299, u300, u301, u302, u303, u304, u305, u306, u307, u308, u309, u310, u311, u312, u313, u314, u315, u316, u317, u318, u319, u320, u321, u322, u323, u324, u325, u326, u327, u328, u329, u330, u331, u332, u333, u334, u335, u336, u337], []⟩ wc := by
  conv => arg 2; whnf
  have HQ : Hid _ := hQ
  have hi := hS.i2
  have HS0 : Hid (QS w x1 x2 y1 y2 n rows size (B1) (A) (B1) (A.all 0) (N1) (N) wc) := hS
  have HLT : Hid (∀ k, QF x1 x2 y1 y2 n k → k < wc.heap.size) := hS.lt
  have hlow : w.heap.size ≤ wc.heap.size := hS.a1.low.size
  obtain ⟨i0, hi0, hz0, hz1, hz2⟩ := info_parts infoSp
  clear hQ hS
  go_wp2
  go_loopw [27, 28] (fun v t wr => ∃ k : Nat, k ≤ rows ∧ t = .int .i64 k ∧ QS w x1 x2 y1 y2 n rows size (B1) (A) (B1) (A.all k) (N1) (N) wr ∧ OwS wc.heap.size wr v (A.spots k) ∧ wc.heap.size ≤ wr.heap.size) (fun _ t _ => rows - (intOf t).toNat)
  case atStart => exact ⟨0, Nat.zero_le _, rfl, HS0.out, OwS.nil _ _, Nat.le_refl _⟩
  case round =>
    clear HS0
    obtain ⟨k, hk, rfl, hS, hO, hsz⟩ := hrel
    obtain ⟨av, cv, hv⟩ := hO.len
    subst hv
    by_cases hlt : k < rows
    · have hlt' : (k : Int) < (rows : Int) := by omega
      have C := hS.dscrub2 k hlt
      have hW := Arr.scrub_ways (Arr.all_ok hi.1 k) k
      have HSp : Hid (A.spots (k + 1) = A.spots k ++ if (A.all k).scrubE k = 0 ∧ 0 ≤ (A.all k).scrubD k then [(((A.all k).scrubD k).toNat, k)] else []) := rfl
      have hlen : (A.spots k).length ≤ k := Arr.spots_len A k
      have HO : Hid (OwS wc.heap.size wr (.slice av (A.spots k).length cv) (A.spots k)) := hO
      have HNx : Hid ((A.all k).scrub k = A.all (k + 1)) := rfl
      rw [HNx.out] at C
      clear hS hO HNx
      rcases hW with ⟨_, q3, q4, _⟩ | ⟨_, _, q3, q4, _⟩ | ⟨_, _, q3, q4, _⟩ | ⟨_, _, q3, q4, _⟩
      · rw [q3, q4] at C
        have e : A.spots (k + 1) = A.spots k := by rw [HSp.out, q3, if_neg (by omega), List.append_nil]
        have HE : Hid (A.spots (k + 1) = A.spots k) := e
        clear q3 q4 HSp e
        go_wp2_with fail
        refine C.mono ?_
        rintro e w1 ⟨rfl, hS1, hb1⟩
        have HN : Hid (QS w x1 x2 y1 y2 n rows size (B1) (A) (B1) (A.all (k + 1)) (N1) (N) w1 ∧ OwS wc.heap.size w1 (.slice av (A.spots k).length cv) (A.spots (k + 1)) ∧ wc.heap.size ≤ w1.heap.size) := ⟨hS1, by rw [HE.out]; exact HO.out.but hb1 (fun i hi q => by have := HLT.out i q; omega), Nat.le_trans hsz hb1.size⟩
        clear C hS1 hb1 HO
        go_wp2
        go_roundw
        case rel => exact ⟨k + 1, by omega, by go_num, HN.out⟩
        case measure => simp [intOf]; omega
      · rw [q3, q4] at C
        have e : A.spots (k + 1) = A.spots k := by rw [HSp.out, q3, if_neg (by omega), List.append_nil]
        have HE : Hid (A.spots (k + 1) = A.spots k) := e
        clear q3 q4 HSp e
        go_wp2_with fail
        refine C.mono ?_
        rintro e w1 ⟨rfl, hS1, hb1⟩
        have HN : Hid (QS w x1 x2 y1 y2 n rows size (B1) (A) (B1) (A.all (k + 1)) (N1) (N) w1 ∧ OwS wc.heap.size w1 (.slice av (A.spots k).length cv) (A.spots (k + 1)) ∧ wc.heap.size ≤ w1.heap.size) := ⟨hS1, by rw [HE.out]; exact HO.out.but hb1 (fun i hi q => by have := HLT.out i q; omega), Nat.le_trans hsz hb1.size⟩
        clear C hS1 hb1 HO
        go_wp2
        go_roundw
        case rel => exact ⟨k + 1, by omega, by go_num, HN.out⟩
        case measure => simp [intOf]; omega
      · rw [q3, q4] at C
        have e : A.spots (k + 1) = A.spots k := by rw [HSp.out, q4, if_neg (by omega), List.append_nil]
        have HE : Hid (A.spots (k + 1) = A.spots k) := e
        clear q3 q4 HSp e
        go_wp2_with fail
        refine C.mono ?_
        rintro e w1 ⟨rfl, hS1, hb1⟩
        have HN : Hid (QS w x1 x2 y1 y2 n rows size (B1) (A) (B1) (A.all (k + 1)) (N1) (N) w1 ∧ OwS wc.heap.size w1 (.slice av (A.spots k).length cv) (A.spots (k + 1)) ∧ wc.heap.size ≤ w1.heap.size) := ⟨hS1, by rw [HE.out]; exact HO.out.but hb1 (fun i hi q => by have := HLT.out i q; omega), Nat.le_trans hsz hb1.size⟩
        clear C hS1 hb1 HO
        go_wp2
        go_roundw
        case rel => exact ⟨k + 1, by omega, by go_num, HN.out⟩
        case measure => simp [intOf]; omega
      · rw [q3, q4] at C
        obtain ⟨d, hd⟩ : ∃ d, d = ord (A.all k).n k ((A.all k).li k) := ⟨_, rfl⟩
        rw [← hd] at q4 C
        have e : A.spots (k + 1) = A.spots k ++ [(d, k)] := by rw [HSp.out, q3, q4, if_pos ⟨rfl, by omega⟩, Int.toNat_natCast]
        have HE : Hid (A.spots (k + 1) = A.spots k ++ [(d, k)]) := e
        clear q3 q4 HSp e hd
        go_wp2_with fail
        refine C.mono ?_
        rintro e w1 ⟨rfl, hS1, hb1⟩
        have hO1 := HO.out.but hb1 (fun i hi q => by have := HLT.out i q; omega)
        unfold OwS at hO1
        have HS1 : Hid (QS w x1 x2 y1 y2 n rows size (B1) (A) (B1) (A.all (k + 1)) (N1) (N) w1) := hS1
        have hsz1 : wc.heap.size ≤ w1.heap.size := Nat.le_trans hsz hb1.size
        clear C hS1 hb1 HO
        go_wp2_with (first | (at_builtin; refine wpList_append_own _ rfl _ _ 58 rfl wc.heap.size 60 i0 (.agg #[.int .i64 0, .int .i64 0]) 2 16 Tryz.underlying58 hi0 hz0 hz1 hz2 rfl (by decide) _ _ _ rfl (World.ownsRow.alloc hO1 _) ⟨w1.heap.size, 0, none⟩ 1 1 (spv (d, k)) rfl rfl (spot_cells d k _) (by intro u hu; simp [spv] at hu; rcases hu with rfl | rfl <;> rfl) (by unfold maxLen; omega) (by omega) (by simp; omega) ?_))
        intro v3 w3 hown3 hgrow3 _
        have HN : Hid (QS w x1 x2 y1 y2 n rows size (B1) (A) (B1) (A.all (k + 1)) (N1) (N) w3 ∧ OwS wc.heap.size w3 v3 (A.spots (k + 1)) ∧ wc.heap.size ≤ w3.heap.size) := by
          have hlo : ∀ g, (Value.slice av (A.spots k).length cv).ownBlock = some g → wc.heap.size ≤ g := fun g hg => (World.ownsRow.lt hO1 g hg).1
          have hS2 := HS1.out.old (al_below w1 (.cells #[.int .i64 (d : Int), .int .i64 (k : Int)] 60))
          refine ⟨hS2.onOther (But.grown (F := fun g => (Value.slice av (A.spots k).length cv).ownBlock = some g) hgrow3 (fun g hg => hg)) (fun g hg => by have := hlo g hg; omega) (fun g hg q => by have := HLT.out g hg; have := hlo g q; omega), by rw [HE.out]; exact OwS.snoc hown3, Nat.le_trans hsz1 (Nat.le_trans (al_below w1 _).size hgrow3.size)⟩
        clear hown3 hgrow3 hO1 HS1
        go_wp2
        go_roundw
        case rel => exact ⟨k + 1, by omega, by go_num, HN.out⟩
        case measure => simp [intOf]; omega
    · have e : rows = k := by omega
      have hge : (rows : Int) ≤ (k : Int) := by omega
      rw [← e] at hS hO
      have HS : Hid (QS w x1 x2 y1 y2 n rows size (B1) (A) (B1) (A.all rows) (N1) (N) wr) := hS
      have HO : Hid (OwS wc.heap.size wr (.slice av (A.spots rows).length cv) (A.spots rows)) := hO
      rw [← e]
      clear e
      clear hS hO
      go_wp2
      exact HQ.out _ _ _ _ _ _ _ _ _ _ _ _ _ _ _ _ _ _ _ _ _ _ _ _ _ _ _ _ _ HS.out HO.out HLT.out
end Go.Proofs.YtilfjahbdlepjaaGreatDoor
