/- What the document's own Heal does behind its two loops: by walks over the program. -/
import Derived.Test.YtilfjahbdlepjaaGreatDoorRg
namespace Go.Proofs.YtilfjahbdlepjaaGreatDoor
open Go.ChangeShapes Go.WideShapes Go.ChangeAt Go.RowKit El Pol Mx
/-- what stands behind the first n statements -/
def dropS : Nat → Code → Code
  | 0, c => c
  | n + 1, .seq _ b => dropS n b
  | _ + 1, c => c
set_option linter.unusedVariables false in
set_option maxRecDepth 1000000 in
set_option maxHeartbeats 8000000 in
theorem rh_tail (k L : Nat) (h1 : 1 ≤ k) (h2 : k ≤ 10) (hL16 : L ≤ 16) (a : Nat → List El) (lost : Nat → Bool) (w : World) (ad adl : Addr) (cap cl g8 c8 : Nat) (hc8 : k + 2 ≤ c8) (hc8' : c8 ≤ 9223372036854775807) (HL : Hid (RdF w (.slice (some adl) (k + 2) cl) (k + 2) (fun i => .bool (lost i)))) (E : M) (u2 u3 u4 u6 u7 u9 u10 u11 u12 u13 u14 u15 u16 u17 u18 u19 u20 u21 u22 u23 u24 u25 u26 u27 u28 u29 u30 u31 u32 u33 u34 u35 u36 u37 u38 u39 u40 u41 u42 u43 u44 u45 u46 u47 u48 u49 u50 u51 u52 u53 u54 u55 u56 u57 u58 u59 u60 u61 u62 u63 u64 u65 u66 u67 u68 u69 u70 u71 u72 u73 u74 u75 u76 u77 u78 u79 u80 u81 u82 u83 u84 u85 u86 u87 u88 u89 u90 u91 u92 u93 u94 u95 u96 u97 u98 u99 u100 u101 u102 u103 u104 u105 u106 u107 u108 u109 u110 u111 u112 u113 u114 u115 u116 u117 u118 u119 u120 u121 u122 u123 u124 u125 u126 u127 u128 u129 u130 u131 u132 u133 u134 u135 u136 u137 u138 u139 u140 u141 u142 u143 u144 u145 u146 u147 u148 u149 u150 u151 u152 u153 u154 u155 u156 u157 u158 u159 u160 u161 u162 u163 u164 u165 u166 u167 u168 u169 u170 u171 u172 u173 u174 u175 u176 u177 u178 u179 u180 u181 u182 u183 u184 u185 u186 u187 u188 u189 u190 u191 u192 u193 u194 u195 u196 u197 u198 u199 u200 u201 u202 u203 u204 u205 u206 u207 u208 u209 u210 u211 u212 u213 u214 u215 u216 u217 u218 : Value) (wx : World) (HOx : Hid (wx.ownsRow w.heap.size 9 1 (.slice (some ⟨g8, 0, none⟩) (k + 2) c8) (k + 2) ((List.range (k + 2)).map (fun y => st (row (E y) L))))) (hBx : Below w.heap.size w wx) (HHD : Hid (Healed k L (mx a) lost E)) :
    Code.wp Tryz.prog (dropS 8 (Tryz.f36.body.getD .skip)) (bodyPost Tryz.prog Tryz.f36 fun e w' => ∃ (v' : Value) (D : M), e = .returned v' ∧ Healed k L (mx a) lost D ∧ w'.ownsRow w.heap.size 9 1 v' (k + 2) ((List.range (k + 2)).map (fun i => st (row (pqp k D i) L))) ∧ Below w.heap.size w w') ⟨#[.slice (some ad) (k + 2) cap, .slice (some adl) (k + 2) cl, u2, u3, u4, .int .i64 k, u6, u7, .slice (some ⟨g8, 0, none⟩) (k + 2) c8, u9, u10, u11, u12, u13, u14, u15, u16, u17, u18, u19, u20, u21, u22, u23, u24, u25, u26, u27, u28, u29, u30, u31, u32, u33, u34, u35, u36, u37, u38, u39, u40, u41, u42, u43, u44, u45, u46, u47, u48, u49, u50, u51, u52, u53, u54, u55, u56, u57, u58, u59, u60, u61, u62, u63, u64, u65, u66, u67, u68, u69, u70, u71, u72, u73, u74, u75, u76, u77, u78, u79, u80, u81, u82, u83, u84, u85, u86, u87, u88, u89, u90, u91, u92, u93, u94, u95, u96, u97, u98, u99, u100, u101, u102, u103, u104, u105, u106, u107, u108, u109, u110, u111, u112, u113, u114, u115, u116, u117, u118, u119, u120, u121, u122, u123, u124, u125, u126, u127, u128, u129, u130, u131, u132, u133, u134, u135, u136, u137, u138, u139, u140, u141, u142, u143, u144, u145, u146, u147, u148, u149, u150, u151, u152, u153, u154, u155, u156, u157, u158, u159, u160, u161, u162, u163, u164, u165, u166, u167, u168, u169, u170, u171, u172, u173, u174, u175, u176, u177, u178, u179, u180, u181, u182, u183, u184, u185, u186, u187, u188, u189, u190, u191, u192, u193, u194, u195, u196, u197, u198, u199, u200, u201, u202, u203, u204, u205, u206, u207, u208, u209, u210, u211, u212, u213, u214, u215, u216, u217, u218], []⟩ wx := by
  conv => arg 2; whnf
  have C := rpq_any (.slice (some ⟨g8, 0, none⟩) k c8) k L E wx ((OwL.rdM HOx.out).cut (by omega)) h1 h2 hL16
  obtain ⟨sp, hsp⟩ : ∃ s, s = sb (row (pp k E) L) := ⟨_, rfl⟩
  obtain ⟨sq, hsq⟩ : ∃ s, s = sb (row (qq k E) L) := ⟨_, rfl⟩
  have HSP : Hid (sp = sb (row (pp k E) L)) := hsp
  have HSQ : Hid (sq = sb (row (qq k E) L)) := hsq
  unfold st at C
  rw [← hsp, ← hsq] at C
  clear hsp hsq
  go_wp2_with fail
  refine C.mono ?_
  rintro e wy ⟨rfl, hBy⟩
  have hB1 := hBx.trans (hBy.mono hBx.size)
  have hO1 := ownsRow_old HOx.out hBy
  have hg8 := (World.ownsRow.lt hO1 g8 rfl).1
  have c1 := World.ownsRow.cellAt hO1 k (by omega)
  rw [range_map_at _ _ _ (by omega)] at c1
  have f1 := World.ownsRow.frozenAt hO1 k
  have S1 := World.ownsRow.stored hO1 k (.string sp)
  have hB2 := hB1.trans (below_of_grownAt S1.2 hB1.size hg8)
  have HO2 : Hid ((wy.setCell ⟨g8, k, none⟩ (.string sp)).ownsRow w.heap.size 9 1 (.slice (some ⟨g8, 0, none⟩) (k + 2) c8) (k + 2) (((List.range (k + 2)).map (fun x => st (row (E x) L))).set k (.string sp))) := S1.1
  generalize st (row (E k) L) = z1 at c1
  have hkk : (k : Int) < (k : Int) + 2 := by omega
  clear C hBy hBx hB1 hO1 S1
  go_upto_region 38 with fail
  generalize wy.setCell ⟨g8, k, none⟩ (.string sp) = wz at *
  clear c1 f1
  have c2 := World.ownsRow.cellAt HO2.out (k + 1) (by omega)
  obtain ⟨z2, hz2'⟩ : ∃ z, (((List.range (k + 2)).map (fun x => st (row (E x) L))).set k (.string sp))[k + 1]? = some z := ⟨_, List.getElem?_eq_getElem (by simp)⟩
  rw [hz2'] at c2
  have f2 := World.ownsRow.frozenAt HO2.out (k + 1)
  have S2 := World.ownsRow.stored HO2.out (k + 1) (.string sq)
  have hBf := hB2.trans (below_of_grownAt S2.2 hB2.size hg8)
  have HF : Hid ((wz.setCell ⟨g8, k + 1, none⟩ (.string sq)).ownsRow w.heap.size 9 1 (.slice (some ⟨g8, 0, none⟩) (k + 2) c8) (k + 2) ((List.range (k + 2)).map (fun i => st (row (pqp k E i) L)))) := by
    (show World.ownsRow _ _ _ _ _ _ _)
    have S3 := S2.1
    rw [HSP.out, HSQ.out, last_two] at S3
    rw [HSQ.out]
    exact S3
  have hkk1 : (k : Int) + 1 < (k : Int) + 2 := by omega
  clear hz2' S2 HO2 hB2
  go_wp2
  go_ret
  exact ⟨_, E, rfl, HHD.out, HF.out, hBf⟩
set_option linter.unusedVariables false in
set_option maxRecDepth 1000000 in
set_option maxHeartbeats 8000000 in
theorem rh_none (k L : Nat) (h1 : 1 ≤ k) (h2 : k ≤ 10) (hL16 : L ≤ 16) (a : Nat → List El) (lost : Nat → Bool) (w : World) (ad adl : Addr) (cap cl g8 c8 : Nat) (hc8 : k + 2 ≤ c8) (hc8' : c8 ≤ 9223372036854775807) (HL : Hid (RdF w (.slice (some adl) (k + 2) cl) (k + 2) (fun i => .bool (lost i)))) (HGN : Hid (gn lost k = [])) (aq : Option Addr) (cq : Nat) (u2 u3 u4 u6 u7 u10 u11 u12 u13 u14 u15 u16 u17 u18 u19 u20 u21 u22 u23 u24 u25 u26 u27 u28 u29 u30 u31 u32 u33 u34 u35 u36 u37 u38 u39 u40 u41 u42 u43 u44 u45 u46 u47 u48 u49 u50 u51 u52 u53 u54 u55 u56 u57 u58 u59 u60 u61 u62 u63 u64 u65 u66 u67 u68 u69 u70 u71 u72 u73 u74 u75 u76 u77 u78 u79 u80 u81 u82 u83 u84 u85 u86 u87 u88 u89 u90 u91 u92 u93 u94 u95 u96 u97 u98 u99 u100 u101 u102 u103 u104 u105 u106 u107 u108 u109 u110 u111 u112 u113 u114 u115 u116 u117 u118 u119 u120 u121 u122 u123 u124 u125 u126 u127 u128 u129 u130 u131 u132 u133 u134 u135 u136 u137 u138 u139 u140 u141 u142 u143 u144 u145 u146 u147 u148 u149 u150 u151 u152 u153 u154 u155 u156 u157 u158 u159 u160 u161 u162 u163 u164 u165 u166 u167 u168 u169 u170 u171 u172 u173 u174 u175 u176 u177 u178 u179 u180 u181 u182 u183 u184 u185 u186 u187 u188 u189 u190 u191 u192 u193 u194 u195 u196 u197 u198 u199 u200 u201 u202 u203 u204 u205 u206 u207 u208 u209 u210 u211 u212 u213 u214 u215 u216 u217 u218 : Value) (wx : World) (HOx : Hid (wx.ownsRow w.heap.size 9 1 (.slice (some ⟨g8, 0, none⟩) (k + 2) c8) (k + 2) ((List.range (k + 2)).map (fun y => st (row (zed (mx a) lost y) L))))) (hBx : Below w.heap.size w wx) :
    Code.wp Tryz.prog (dropS 7 (Tryz.f36.body.getD .skip)) (bodyPost Tryz.prog Tryz.f36 fun e w' => ∃ (v' : Value) (D : M), e = .returned v' ∧ Healed k L (mx a) lost D ∧ w'.ownsRow w.heap.size 9 1 v' (k + 2) ((List.range (k + 2)).map (fun i => st (row (pqp k D i) L))) ∧ Below w.heap.size w w') ⟨#[.slice (some ad) (k + 2) cap, .slice (some adl) (k + 2) cl, u2, u3, u4, .int .i64 k, u6, u7, .slice (some ⟨g8, 0, none⟩) (k + 2) c8, .slice aq 0 cq, u10, u11, u12, u13, u14, u15, u16, u17, u18, u19, u20, u21, u22, u23, u24, u25, u26, u27, u28, u29, u30, u31, u32, u33, u34, u35, u36, u37, u38, u39, u40, u41, u42, u43, u44, u45, u46, u47, u48, u49, u50, u51, u52, u53, u54, u55, u56, u57, u58, u59, u60, u61, u62, u63, u64, u65, u66, u67, u68, u69, u70, u71, u72, u73, u74, u75, u76, u77, u78, u79, u80, u81, u82, u83, u84, u85, u86, u87, u88, u89, u90, u91, u92, u93, u94, u95, u96, u97, u98, u99, u100, u101, u102, u103, u104, u105, u106, u107, u108, u109, u110, u111, u112, u113, u114, u115, u116, u117, u118, u119, u120, u121, u122, u123, u124, u125, u126, u127, u128, u129, u130, u131, u132, u133, u134, u135, u136, u137, u138, u139, u140, u141, u142, u143, u144, u145, u146, u147, u148, u149, u150, u151, u152, u153, u154, u155, u156, u157, u158, u159, u160, u161, u162, u163, u164, u165, u166, u167, u168, u169, u170, u171, u172, u173, u174, u175, u176, u177, u178, u179, u180, u181, u182, u183, u184, u185, u186, u187, u188, u189, u190, u191, u192, u193, u194, u195, u196, u197, u198, u199, u200, u201, u202, u203, u204, u205, u206, u207, u208, u209, u210, u211, u212, u213, u214, u215, u216, u217, u218], []⟩ wx := by
  conv => arg 2; whnf
  have HHD : Hid (Healed k L (mx a) lost (zed (mx a) lost)) := heal_none HGN.out
  obtain ⟨E, hE⟩ : ∃ E, E = zed (mx a) lost := ⟨_, rfl⟩
  rw [← hE] at HHD HOx
  clear hE
  have C := rpq_any (.slice (some ⟨g8, 0, none⟩) k c8) k L E wx ((OwL.rdM HOx.out).cut (by omega)) h1 h2 hL16
  obtain ⟨sp, hsp⟩ : ∃ s, s = sb (row (pp k E) L) := ⟨_, rfl⟩
  obtain ⟨sq, hsq⟩ : ∃ s, s = sb (row (qq k E) L) := ⟨_, rfl⟩
  have HSP : Hid (sp = sb (row (pp k E) L)) := hsp
  have HSQ : Hid (sq = sb (row (qq k E) L)) := hsq
  unfold st at C
  rw [← hsp, ← hsq] at C
  clear hsp hsq
  go_wp2_with fail
  refine C.mono ?_
  rintro e wy ⟨rfl, hBy⟩
  have hB1 := hBx.trans (hBy.mono hBx.size)
  have hO1 := ownsRow_old HOx.out hBy
  have hg8 := (World.ownsRow.lt hO1 g8 rfl).1
  have c1 := World.ownsRow.cellAt hO1 k (by omega)
  rw [range_map_at _ _ _ (by omega)] at c1
  have f1 := World.ownsRow.frozenAt hO1 k
  have S1 := World.ownsRow.stored hO1 k (.string sp)
  have hB2 := hB1.trans (below_of_grownAt S1.2 hB1.size hg8)
  have HO2 : Hid ((wy.setCell ⟨g8, k, none⟩ (.string sp)).ownsRow w.heap.size 9 1 (.slice (some ⟨g8, 0, none⟩) (k + 2) c8) (k + 2) (((List.range (k + 2)).map (fun x => st (row (E x) L))).set k (.string sp))) := S1.1
  generalize st (row (E k) L) = z1 at c1
  have hkk : (k : Int) < (k : Int) + 2 := by omega
  clear C hBy hBx hB1 hO1 S1
  go_upto_region 38 with fail
  generalize wy.setCell ⟨g8, k, none⟩ (.string sp) = wz at *
  clear c1 f1
  have c2 := World.ownsRow.cellAt HO2.out (k + 1) (by omega)
  obtain ⟨z2, hz2'⟩ : ∃ z, (((List.range (k + 2)).map (fun x => st (row (E x) L))).set k (.string sp))[k + 1]? = some z := ⟨_, List.getElem?_eq_getElem (by simp)⟩
  rw [hz2'] at c2
  have f2 := World.ownsRow.frozenAt HO2.out (k + 1)
  have S2 := World.ownsRow.stored HO2.out (k + 1) (.string sq)
  have hBf := hB2.trans (below_of_grownAt S2.2 hB2.size hg8)
  have HF : Hid ((wz.setCell ⟨g8, k + 1, none⟩ (.string sq)).ownsRow w.heap.size 9 1 (.slice (some ⟨g8, 0, none⟩) (k + 2) c8) (k + 2) ((List.range (k + 2)).map (fun i => st (row (pqp k E i) L)))) := by
    (show World.ownsRow _ _ _ _ _ _ _)
    have S3 := S2.1
    rw [HSP.out, HSQ.out, last_two] at S3
    rw [HSQ.out]
    exact S3
  have hkk1 : (k : Int) + 1 < (k : Int) + 2 := by omega
  clear hz2' S2 HO2 hB2
  go_wp2
  go_ret
  exact ⟨_, E, rfl, HHD.out, HF.out, hBf⟩
end Go.Proofs.YtilfjahbdlepjaaGreatDoor
