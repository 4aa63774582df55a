/- ScrubTells, a piece: walks over the program. -/
import Derived.Test.YtilfjahbdlepjaaGreatDoorSc
import Derived.Test.YtilfjahbdlepjaaGreatDoorSTi
import Derived.Test.YtilfjahbdlepjaaGreatDoorSTj
import Derived.Test.YtilfjahbdlepjaaGreatDoorEr
namespace Go.Proofs.YtilfjahbdlepjaaGreatDoor
open Go.RowKit El Pol Mx Lay
theorem QS.start {w w1 w2 w3 w4 : World} {x1 x2 : PAd} {y1 y2 : RAd} {n rows size : Nat} (hn : 3 ≤ n ∧ n ≤ 10) (hr : 1 ≤ rows ∧ rows ≤ 20) (hz : 1 ≤ size ∧ size ≤ 16)
    (h1 : AL w x1 (Arr.fresh n rows size) 0 w1) (h2 : AL w x2 (Arr.fresh n rows size) 0 w2) (b2 : Below w1.heap.size w1 w2) (l2 : ∀ k, x2.F n k → w1.heap.size ≤ k)
    (h3 : RA w3 y1 (Arr.fresh n rows size)) (b3 : Below w2.heap.size w2 w3) (l3 : ∀ k, y1.F n k → w2.heap.size ≤ k)
    (h4 : RA w4 y2 (Arr.fresh n rows size)) (b4 : Below w3.heap.size w3 w4) (l4 : ∀ k, y2.F n k → w3.heap.size ≤ k) : QS w x1 x2 y1 y2 n rows size (Arr.fresh n rows size) (Arr.fresh n rows size) (Arr.fresh n rows size) (Arr.fresh n rows size) 0 0 w4 := by
  have hi : (Arr.fresh n rows size).is n rows size := ⟨Arr.fresh_ok hn hr hz, rfl, rfl, rfl⟩
  have s1 := h1.low.size
  have s2 := b2.size
  have s3 := b3.size
  have t1 : ∀ k, x1.F n k → k < w1.heap.size := h1.pa.lt
  have t2 : ∀ k, x2.F n k → k < w2.heap.size := h2.pa.lt
  have t3 : ∀ k, y1.F n k → k < w3.heap.size := h3.lt
  refine ⟨((h1.old b2).old b3).old b4, (h2.old b3).old b4, h3.old b4, h4, hi, hi, hi, hi, fun k hk => by have := l3 k hk; omega, fun k hk => by have := l4 k hk; omega, fun k hk q => ?_, fun k hk q => ?_, fun k hk q => ?_, fun k hk q => ?_, fun k hk q => ?_, fun k hk q => ?_⟩
  · have := t1 k hk; have := l2 k q; omega
  · have := t1 k hk; have := l3 k q; omega
  · have := t1 k hk; have := l4 k q; omega
  · have := t2 k hk; have := l3 k q; omega
  · have := t2 k hk; have := l4 k q; omega
  · have := t3 k hk; have := l4 k q; omega
theorem QS.row1 {w wc : World} {x1 x2 : PAd} {y1 y2 : RAd} {n rows size : Nat} {A1 A2 C1 C2 : Arr} {N1 N2 : Nat} (h : QS w x1 x2 y1 y2 n rows size A1 A2 C1 C2 N1 N2 wc) (hN : N1 < 900000) (m r : Int) :
    Calls Tryz.prog 29 #[.pointer (some ⟨x1.p, 0, none⟩), .int .i64 m, .int .i64 r] wc fun e w1 => e = .returned (.tuple #[.int .i64 (A1.rowD m r), errV (A1.rowE m r)]) ∧ QS w x1 x2 y1 y2 n rows size (A1.row' m r) A2 C1 C2 (N1 + 1) N2 w1 :=
  (srow_any h.a1.pa h.i1.1 hN m r).mono fun _ _ ⟨he, hp, hb⟩ => ⟨he, (h.prog1 hp hb (is_row h.i1 m r)).1⟩
theorem QS.all2 {w wc : World} {x1 x2 : PAd} {y1 y2 : RAd} {n rows size : Nat} {A1 A2 C1 C2 : Arr} {N1 N2 : Nat} (h : QS w x1 x2 y1 y2 n rows size A1 A2 C1 C2 N1 N2 wc) (hN : N2 < 800000) (HG : Hid (Handle w)) :
    Calls Tryz.prog 30 #[.pointer (some ⟨x2.p, 0, none⟩), .int .i64 n, .int .i64 rows] wc fun e w1 => ∃ ao cap, e = .returned (.tuple #[.slice ao (A2.spots rows).length cap, .nilIface]) ∧ QS w x1 x2 y1 y2 n rows size A1 (A2.all rows) C1 C2 N1 (N2 + rows) w1 ∧ But (QF x1 x2 y1 y2 n) wc w1 ∧ OwS wc.heap.size w1 (.slice ao (A2.spots rows).length cap) (A2.spots rows) :=
  (sall_is h.a2 h.i2.1 hN HG h.i2.2.1 h.i2.2.2.1).mono fun _ _ ⟨ao, cap, he, h1, h2, h3⟩ => by
    obtain ⟨q1, q2⟩ := h.prog2 h1.pa (by rw [h.i2.2.1]; exact h2) (is_all h.i2 rows)
    exact ⟨ao, cap, he, q1, q2, h3⟩

set_option linter.unusedVariables false in
set_option maxRecDepth 1000000 in
set_option maxHeartbeats 16000000 in
theorem tailT2 (n rows size n3 c3 : Nat) (a3 : Option Addr) (mm rr : Int) (x1 x2 : PAd) (y1 y2 : RAd) (w : World) (N N1 : Nat) (A B1 : Arr) (u6 u7 u8 u9 u10 u11 u12 u14 u16 u19 u20 u21 u22 u23 u24 u25 u27 u28 u29 u30 u31 u32 u33 u34 u35 u36 u37 u38 u39 u40 u41 u42 u43 u44 u45 u46 u47 u48 u49 u50 u51 u52 u53 u54 u55 u56 u57 u58 u59 u60 u61 u62 u63 u64 u65 u66 u67 u68 u69 u70 u71 u72 u73 u74 u75 u76 u77 u78 u79 u80 u81 u82 u83 u84 u85 u86 u87 u88 u89 u90 u91 u92 u93 u94 u95 u96 u97 u98 u99 u100 u101 u102 u103 u104 u105 u106 u107 u108 u109 u110 u111 u112 u113 u114 u115 u116 u117 u118 u119 u120 u121 u122 u123 u124 u125 u126 u127 u128 u129 u130 u131 u132 u133 u134 u135 u136 u137 u138 u139 u140 u141 u142 u143 u144 u145 u146 u147 u148 u149 u150 u151 u152 u153 u154 u155 u156 u157 u158 u159 u160 u161 u162 u163 u164 u165 u166 u167 u168 u169 u170 u171 u172 u173 u174 u175 u176 u177 u178 u179 u180 u181 u182 u183 u184 u185 u186 u187 u188 u189 u190 u191 u192 u193 u194 u195 u196 u197 u198 u199 u200 u201 u202 u203 u204 u205 u206 u207 u208 u209 u210 u211 u212 u213 u214 u215 u216 u217 u218 u219 u220 u221 u222 u223 u224 u225 u226 u227 u228 u229 u230 u231 u232 u233 u234 u235 u236 u237 u238 u239 u240 u241 u242 u243 u244 u245 u246 u247 u248 u249 u250 u251 u252 u253 u254 u255 u256 u257 u258 u259 u260 u261 u262 u263 u264 u265 u266 u267 u268 u269 u270 u271 u272 u273 u274 u275 u276 u277 u278 u279 u280 u281 u282 u283 u284 u285 u286 u287 u288 u289 u290 u291 u292 u293 u294 u295 u296 u297 u298 u299 u300 u301 u302 u303 u304 u305 u306 u307 u308 u309 u310 u311 u312 u313 u314 u315 u316 u317 u318 u319 u320 u321 u322 u323 u324 u325 u326 u327 u328 u329 u330 u331 u332 u333 u334 u335 u336 u337 : Value) (wc : World) (hn : 3 ≤ n ∧ n ≤ 10) (hr : 1 ≤ rows ∧ rows ≤ 20) (hz : 1 ≤ size ∧ size ≤ 16) (HG : Hid (Handle w)) (hN : N ≤ 120) (hS : QS w x1 x2 y1 y2 n rows size (B1) (A) (B1) (A) (N1) (N) wc) :
    Code.wp Tryz.prog (cut [1, 1, 1, 1, 1, 1, 1, 1, 1, 1, 1, 1, 1] (Tryz.f4.body.getD .skip)) (bodyPost Tryz.prog Tryz.f4 (fun e w' => e = Ending.returned (Value.bool true) ∧ Below w.heap.size w w')) ⟨#[.int .i64 n, .int .i64 rows, .int .i64 size, .slice a3 n3 c3, .int .i64 mm, .int .i64 rr, u6, u7, u8, u9, u10, u11, u12, .pointer (some ⟨x1.p, 0, none⟩), u14, .pointer (some ⟨x2.p, 0, none⟩), u16, .pointer (some ⟨y1.p, 0, none⟩), .pointer (some ⟨y2.p, 0, none⟩), u19, u20, u21, u22, u23, u24, u25, .bool true, u27, u28, u29, u30, u31, u32, u33, u34, u35, u36, u37, u38, u39, u40, u41, u42, u43, u44, u45, u46, u47, u48, u49, u50, u51, u52, u53, u54, u55, u56, u57, u58, u59, u60, u61, u62, u63, u64, u65, u66, u67, u68, u69, u70, u71, u72, u73, u74, u75, u76, u77, u78, u79, u80, u81, u82, u83, u84, u85, u86, u87, u88, u89, u90, u91, u92, u93, u94, u95, u96, u97, u98, u99, u100, u101, u102, u103, u104, u105, u106, u107, u108, u109, u110, u111, u112, u113, u114, u115, u116, u117, u118, u119, u120, u121, u122, u123, u124, u125, u126, u127, u128, u129, u130, u131, u132, u133, u134, u135, u136, u137, u138, u139, u140, u141, u142, u143, u144, u145, u146, u147, u148, u149, u150, u151, u152, u153, u154, u155, u156, u157, u158, u159, u160, u161, u162, u163, u164, u165, u166, u167, u168, u169, u170, u171, u172, u173, u174, u175, u176, u177, u178, u179, u180, u181, u182, u183, u184, u185, u186, u187, u188, u189, u190, u191, u192, u193, u194, u195, u196, u197, u198, u199, u200, u201, u202, u203, u204, u205, u206, u207, u208, u209, u210, u211, u212, u213, u214, u215, u216, u217, u218, u219, u220, u221, u222, u223, u224, u225, u226, u227, u228, u229, u230, u231, u232, u233, u234, u235, u236, u237, u238, u239, u240, u241, u242, u243, u244, u245, u246, u247, u248, u249, u250, u251, u252, u253, u254, u255, u256, u257, u258, u259, u260, u261, u262, u263, u264, u265, u266, u267, u268, u269, u270, u271, u272, u273, u274, u275, u276, u277, u278, u279, u280, u281, u282, u283, u284, u285, u286, u287, u288, u289, u290, u291, u292, u293, u294, u295, u296, u297, u298, u299, u300, u301, u302, u303, u304, u305, u306, u307, u308, u309, u310, u311, u312, u313, u314, u315, u316, u317, u318, u319, u320, u321, u322, u323, u324, u325, u326, u327, u328, u329, u330, u331, u332, u333, u334, u335, u336, u337], []⟩ wc := by
  conv => arg 2; whnf
  have HS : Hid (QS w x1 x2 y1 y2 n rows size (B1) (A) (B1) (A) (N1) (N) wc) := hS
  clear hS
  refine wp_seq_k fun K hK => ?_
  have HK : Hid _ := hK
  clear hK
  go_wp2
  refine HK.out _ _ ?_
  clear HK K
  refine wp_seq_k fun K hK => ?_
  refine t46 n rows size n3 c3 a3 mm rr x1 x2 y1 y2 w N N1 A B1 _ _ _ _ _ _ _ _ _ _ _ _ _ _ _ _ _ _ _ _ _ _ _ _ _ _ _ _ _ _ _ _ _ _ _ _ _ _ _ _ _ _ _ _ _ _ _ _ _ _ _ _ _ _ _ _ _ _ _ _ _ _ _ _ _ _ _ _ _ _ _ _ _ _ _ _ _ _ _ _ _ _ _ _ _ _ _ _ _ _ _ _ _ _ _ _ _ _ _ _ _ _ _ _ _ _ _ _ _ _ _ _ _ _ _ _ _ _ _ _ _ _ _ _ _ _ _ _ _ _ _ _ _ _ _ _ _ _ _ _ _ _ _ _ _ _ _ _ _ _ _ _ _ _ _ _ _ _ _ _ _ _ _ _ _ _ _ _ _ _ _ _ _ _ _ _ _ _ _ _ _ _ _ _ _ _ _ _ _ _ _ _ _ _ _ _ _ _ _ _ _ _ _ _ _ _ _ _ _ _ _ _ _ _ _ _ _ _ _ _ _ _ _ _ _ _ _ _ _ _ _ _ _ _ _ _ _ _ _ _ _ _ _ _ _ _ _ _ _ _ _ _ _ _ _ _ _ _ _ _ _ _ _ _ _ _ _ _ _ _ _ _ _ _ _ _ _ _ _ _ _ _ _ _ _ _ _ _ _ _ _ _ _ _ _ _ _ _ _ _ _ _ _ _ _ _ _ _ _ _ _ _ _ _ _ _ _ _ _ _ _ _ _ _ _ _ _ _ _ HS.out hn hr hz ?_
  intro y28 y29 y30 y248 y249 y250 y251 y252 y253 y254 y255 y256 y257 y258 y259 y260 y261 y262 y263 y264 y265 y266 y267 y268 y269 y270 av cv w2 hS2 hO2 hLT
  refine then_k (hK _ _ ?_)
  clear hK K
  have C := hS2.all2 (by omega) HG
  have HO2 : Hid (OwS wc.heap.size w2 (.slice av (A.spots rows).length cv) (A.spots rows)) := hO2
  have HLT : Hid (∀ k, QF x1 x2 y1 y2 n k → k < wc.heap.size) := hLT
  have hlen : (A.spots rows).length ≤ rows := Arr.spots_len A rows
  clear hS2 hO2 hLT HS
  refine wp_seq_k fun K hK => ?_
  have HK : Hid _ := hK
  clear hK
  go_wp2_with fail
  refine C.mono ?_
  rintro e w3 ⟨ao, cap, rfl, hS3, hb3, hO3⟩
  have E := spots_same _ _ (A.spots rows) w3 (by omega) hO3.rd (HO2.out.but hb3 (fun i hi q => by have := HLT.out i q; omega)).rd
  have HS3 : Hid (QS w x1 x2 y1 y2 n rows size (B1) (A.all rows) (B1) (A.all rows) (N1) (N + rows) w3) := hS3
  clear C hS3 hb3 hO3 HO2 HLT
  generalize (A.spots rows).length = wl at *
  go_wp2
  refine HK.out _ _ ?_
  clear HK K
  refine wp_seq_k fun K hK => ?_
  have HK : Hid _ := hK
  clear hK
  go_wp2_with fail
  refine E.mono ?_
  rintro e w4 ⟨rfl, hB4⟩
  have HS4 : Hid (QS w x1 x2 y1 y2 n rows size (B1) (A.all rows) (B1) (A.all rows) (N1) (N + rows) w4) := HS3.out.old hB4
  clear E hB4 HS3
  go_wp2
  refine HK.out _ _ ?_
  clear HK K
  refine wp_seq_k fun K hK => ?_
  refine t54 n rows size n3 c3 a3 mm rr x1 x2 y1 y2 w N1 (N + rows) B1 (A.all rows) _ _ _ _ _ _ _ _ _ _ _ _ _ _ _ _ _ _ _ _ _ _ _ _ _ _ _ _ _ _ _ _ _ _ _ _ _ _ _ _ _ _ _ _ _ _ _ _ _ _ _ _ _ _ _ _ _ _ _ _ _ _ _ _ _ _ _ _ _ _ _ _ _ _ _ _ _ _ _ _ _ _ _ _ _ _ _ _ _ _ _ _ _ _ _ _ _ _ _ _ _ _ _ _ _ _ _ _ _ _ _ _ _ _ _ _ _ _ _ _ _ _ _ _ _ _ _ _ _ _ _ _ _ _ _ _ _ _ _ _ _ _ _ _ _ _ _ _ _ _ _ _ _ _ _ _ _ _ _ _ _ _ _ _ _ _ _ _ _ _ _ _ _ _ _ _ _ _ _ _ _ _ _ _ _ _ _ _ _ _ _ _ _ _ _ _ _ _ _ _ _ _ _ _ _ _ _ _ _ _ _ _ _ _ _ _ _ _ _ _ _ _ _ _ _ _ _ _ _ _ _ _ _ _ _ _ _ _ _ _ _ _ _ _ _ _ _ _ _ _ _ _ _ _ _ _ _ _ _ _ _ _ _ _ _ _ _ _ _ _ _ _ _ _ _ _ _ _ _ _ _ _ _ _ _ _ _ _ _ _ _ _ _ _ _ _ _ _ _ _ _ _ _ _ _ _ _ _ _ _ _ _ _ _ _ _ _ _ _ _ _ _ _ _ _ _ _ _ _ _ HS4.out hn hr hz ?_
  intro y12 y33 y34 y35 y36 y37 y38 y39 y40 y41 y42 y43 y285 y286 y287 y288 y289 y290 y291 y292 y293 y294 y295 y296 y297 y298 y299 y300 y301 y302 y303 y304 y305 y306 y307 y308 y309 y310 y311 y312 y313 y314 y315 y316 y317 y318 y319 y320 y321 y322 y323 y324 y325 y326 y327 y328 y329 y330 y331 y332 y333 w5 hL5
  refine then_k (hK _ _ ?_)
  clear hK K
  have HL : Hid (Below w.heap.size w w5) := hL5
  clear hL5 HS4
  go_wp2
  go_ret
  exact ⟨rfl, HL.out⟩
end Go.Proofs.YtilfjahbdlepjaaGreatDoor
