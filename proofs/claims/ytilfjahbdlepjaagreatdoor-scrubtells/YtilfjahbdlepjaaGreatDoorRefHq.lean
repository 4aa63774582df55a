/- What the document's own Heal does behind its two loops: by walks over the program. -/
import Derived.Test.YtilfjahbdlepjaaGreatDoorRefHb
namespace Go.Proofs.YtilfjahbdlepjaaGreatDoor
open Go.ChangeShapes Go.WideShapes Go.ChangeAt Go.RowKit El Pol Mx
set_option linter.unusedVariables false in
set_option maxRecDepth 1000000 in
set_option maxHeartbeats 8000000 in
theorem rh_q (k L : Nat) (h1 : 1 ≤ k) (h2 : k ≤ 10) (hL16 : L ≤ 16) (a : Nat → List El) (lost : Nat → Bool) (w : World) (ad adl : Addr) (cap cl g8 c8 : Nat) (hc8 : k + 2 ≤ c8) (hc8' : c8 ≤ 9223372036854775807) (HL : Hid (RdF w (.slice (some adl) (k + 2) cl) (k + 2) (fun i => .bool (lost i)))) (x : Nat) (HGN : Hid (gn lost k = [x])) (gq cq : Nat) (HBK : Hid (lost k = true)) (HBQ : Hid (lost (k + 1) = false)) (u2 u3 u4 u6 u7 u10 u11 u12 u13 u14 u15 u16 u17 u18 u19 u20 u21 u22 u23 u24 u25 u26 u27 u28 u29 u30 u31 u32 u33 u34 u35 u36 u37 u38 u39 u40 u41 u42 u43 u44 u45 u46 u47 u48 u49 u50 u51 u52 u53 u54 u55 u56 u57 u58 u59 u60 u61 u62 u63 u64 u65 u66 u67 u68 u69 u70 u71 u72 u73 u74 u75 u76 u77 u78 u79 u80 u81 u82 u83 u84 u85 u86 u87 u88 u89 u90 u91 u92 u93 u94 u95 u96 u97 u98 u99 u100 u101 u102 u103 u104 u105 u106 u107 u108 u109 u110 u111 u112 u113 u114 u115 u116 u117 u118 u119 u120 u121 u122 u123 u124 u125 u126 u127 u128 u129 u130 u131 u132 u133 u134 u135 u136 u137 u138 u139 u140 u141 u142 u143 u144 u145 u146 u147 u148 u149 u150 u151 u152 u153 u154 u155 u156 u157 u158 u159 u160 u161 u162 u163 u164 u165 u166 u167 u168 u169 u170 u171 u172 u173 u174 u175 u176 u177 u178 u179 u180 u181 u182 u183 u184 u185 u186 u187 u188 u189 u190 u191 u192 u193 u194 u195 u196 u197 u198 u199 u200 u201 u202 u203 u204 u205 u206 u207 u208 u209 u210 u211 u212 u213 u214 u215 u216 u217 u218 : Value) (wx : World) (HOx : Hid (wx.ownsRow w.heap.size 9 1 (.slice (some ⟨g8, 0, none⟩) (k + 2) c8) (k + 2) ((List.range (k + 2)).map (fun y => st (row (zed (mx a) lost y) L))))) (hBx : Below w.heap.size w wx) (HG : Hid (wx.ownsRow w.heap.size 3 1 (.slice (some ⟨gq, 0, none⟩) 1 cq) 1 [.int .i64 ((x : Nat) : Int)])) :
    Code.wp Tryz.prog (dropS 7 (Tryz.f36.body.getD .skip)) (bodyPost Tryz.prog Tryz.f36 fun e w' => ∃ (v' : Value) (D : M), e = .returned v' ∧ Healed k L (mx a) lost D ∧ w'.ownsRow w.heap.size 9 1 v' (k + 2) ((List.range (k + 2)).map (fun i => st (row (pqp k D i) L))) ∧ Below w.heap.size w w') ⟨#[.slice (some ad) (k + 2) cap, .slice (some adl) (k + 2) cl, u2, u3, u4, .int .i64 k, u6, u7, .slice (some ⟨g8, 0, none⟩) (k + 2) c8, .slice (some ⟨gq, 0, none⟩) 1 cq, u10, u11, u12, u13, u14, u15, u16, u17, u18, u19, u20, u21, u22, u23, u24, u25, u26, u27, u28, u29, u30, u31, u32, u33, u34, u35, u36, u37, u38, u39, u40, u41, u42, u43, u44, u45, u46, u47, u48, u49, u50, u51, u52, u53, u54, u55, u56, u57, u58, u59, u60, u61, u62, u63, u64, u65, u66, u67, u68, u69, u70, u71, u72, u73, u74, u75, u76, u77, u78, u79, u80, u81, u82, u83, u84, u85, u86, u87, u88, u89, u90, u91, u92, u93, u94, u95, u96, u97, u98, u99, u100, u101, u102, u103, u104, u105, u106, u107, u108, u109, u110, u111, u112, u113, u114, u115, u116, u117, u118, u119, u120, u121, u122, u123, u124, u125, u126, u127, u128, u129, u130, u131, u132, u133, u134, u135, u136, u137, u138, u139, u140, u141, u142, u143, u144, u145, u146, u147, u148, u149, u150, u151, u152, u153, u154, u155, u156, u157, u158, u159, u160, u161, u162, u163, u164, u165, u166, u167, u168, u169, u170, u171, u172, u173, u174, u175, u176, u177, u178, u179, u180, u181, u182, u183, u184, u185, u186, u187, u188, u189, u190, u191, u192, u193, u194, u195, u196, u197, u198, u199, u200, u201, u202, u203, u204, u205, u206, u207, u208, u209, u210, u211, u212, u213, u214, u215, u216, u217, u218], []⟩ wx := by
  conv => arg 2; whnf
  obtain ⟨hxk, hxl⟩ := gn_mem HGN.out
  have hxk2 : (x : Int) < (k : Int) + 2 := by omega
  have hkk2 : (k : Int) < (k : Int) + 2 := by omega
  have hkk3 : (k : Int) + 1 < (k : Int) + 2 := by omega
  have hwrap : IntKind.i64.wrap ((k : Int) + 1) = (k : Int) + 1 := by rw [IntKind.wrap_i64]; omega
  obtain ⟨_, e2, hck⟩ := (HL.out.old hBx).at k (by omega)
  cases e2
  rw [HBK.out] at hck
  have C := rpq_any (.slice (some ⟨g8, 0, none⟩) k c8) k L (zed (mx a) lost) wx ((OwL.rdM HOx.out).cut (by omega)) h1 h2 hL16
  obtain ⟨sp, hsp⟩ : ∃ s, s = sb (row (pp k (zed (mx a) lost)) L) := ⟨_, rfl⟩
  obtain ⟨sq, hsq⟩ : ∃ s, s = sb (row (qq k (zed (mx a) lost)) L) := ⟨_, rfl⟩
  have HSP : Hid (sp = sb (row (pp k (zed (mx a) lost)) L)) := hsp
  have HSQ : Hid (sq = sb (row (qq k (zed (mx a) lost)) L)) := hsq
  unfold st at C
  rw [← hsp, ← hsq] at C
  clear hsp hsq
  go_wp2_with fail
  refine C.mono ?_
  rintro e w3 ⟨rfl, hB3⟩
  have hB03 := hBx.trans (hB3.mono hBx.size)
  have HO3 : Hid (w3.ownsRow w.heap.size 9 1 (.slice (some ⟨g8, 0, none⟩) (k + 2) c8) (k + 2) ((List.range (k + 2)).map (fun y => st (row (zed (mx a) lost y) L)))) := ownsRow_old HOx.out hB3
  have hg8 := (World.ownsRow.lt HO3.out g8 rfl).1
  have HG30 : Hid (w3.ownsRow w.heap.size 3 1 (.slice (some ⟨gq, 0, none⟩) 1 cq) 1 [.int .i64 ((x : Nat) : Int)]) := ownsRow_old HG.out hB3
  have hcq30 : w3.cell? ⟨gq, 0, none⟩ = some (.int .i64 ((x : Nat) : Int)) := World.ownsRow.cellAt HG30.out 0 (by omega)
  have HNZ : Hid (g2 x ≠ 0) := g2_nz (by omega)
  clear C hB3 hBx HOx HG hck
  go_wp2_with fail
  refine (rpowQ x (by omega) _).mono ?_
  rintro e w31 ⟨rfl, hq1⟩
  have hb31 : Below w3.heap.size w3 w31 := by obtain ⟨q, rfl⟩ := hq1; exact below_drewN (Below.refl _ _) q
  obtain ⟨y1, hy1⟩ : ∃ y, y = g2 x := ⟨_, rfl⟩
  rw [← hy1]
  have HY1 : Hid (y1 = g2 x) := hy1
  have hy1nz : y1 ≠ 0 := by rw [hy1]; exact HNZ.out
  clear hy1 hq1
  go_wp2_with fail
  refine (rinvQ y1 hy1nz _).mono ?_
  rintro e w32 ⟨rfl, hq2⟩
  have hb32 : Below w31.heap.size w31 w32 := by obtain ⟨q, rfl⟩ := hq2; exact below_drewN (Below.refl _ _) q
  have hb := hb31.trans (hb32.mono hb31.size)
  obtain ⟨y2, hy2⟩ : ∃ y, y = iv y1 := ⟨_, rfl⟩
  rw [← hy2]
  have HY2 : Hid (y2 = iv (g2 x)) := by (show y2 = _); rw [hy2, HY1.out]
  have HO32 : Hid (w32.ownsRow w.heap.size 9 1 (.slice (some ⟨g8, 0, none⟩) (k + 2) c8) (k + 2) ((List.range (k + 2)).map (fun y => st (row (zed (mx a) lost y) L)))) := ownsRow_old HO3.out hb
  have hB032 := hB03.trans (hb.mono hB03.size)
  have hG32 := ownsRow_old HG30.out hb
  clear hy2 hy1nz hq2 hb31 hb32 hb hcq30 HG30 HO3 hB03
  have HG3 : Hid (w32.ownsRow w.heap.size 3 1 (.slice (some ⟨gq, 0, none⟩) 1 cq) 1 [.int .i64 ((x : Nat) : Int)]) := hG32
  have hcq3 : w32.cell? ⟨gq, 0, none⟩ = some (.int .i64 ((x : Nat) : Int)) := World.ownsRow.cellAt HG3.out 0 (by omega)
  have hgq3 := (World.ownsRow.lt HG3.out gq rfl).2
  have hg83 := (World.ownsRow.lt HO32.out g8 rfl).2
  have hk3 := World.ownsRow.cellAt HO32.out (k + 1) (by omega)
  rw [range_map_at _ _ _ (by omega)] at hk3
  obtain ⟨sk, hsk⟩ : ∃ s, s = sb (row (zed (mx a) lost (k + 1)) L) := ⟨_, rfl⟩
  have HSK : Hid (sk = sb (row (zed (mx a) lost (k + 1)) L)) := hsk
  unfold st at hk3
  rw [← hsk] at hk3
  obtain ⟨z8, hz8⟩ : ∃ z, z = st (row (zed (mx a) lost x) L) := ⟨_, rfl⟩
  have HC8 : Hid (∀ W : World, Below w32.heap.size w32 W → W.cell? ⟨g8, x, none⟩ = some z8 ∧ W.frozen? ⟨g8, x, none⟩ = false) := fun W hW => by
    have h5 := ownsRow_old HO32.out hW
    have h6 := World.ownsRow.cellAt h5 x (by omega)
    rw [range_map_at _ _ _ (show x < k + 2 by omega)] at h6
    exact ⟨by rw [hz8]; exact h6, World.ownsRow.frozenAt h5 x⟩
  clear hG32 hsk hz8
  go_upto_region 24 with fail
  go_cut [] from 121 to 136 (fun wx => wx.ownsRow w.heap.size 9 1 (.slice (some ⟨g8, 0, none⟩) (k + 2) c8) (k + 2) ((List.range (k + 2)).map (fun y => st (row (upd (zed (mx a) lost) x (fun l => pl (ti (iv (g2 x)) (qq k (zed (mx a) lost) l)) (ti (iv (g2 x)) (zed (mx a) lost (k + 1) l))) y) L))) ∧ Below w.heap.size w wx)
  case first =>
    go_region_with (go_at_call 62; refine (mix2_c w32 _ _ _ (qq k (zed (mx a) lost)) (zed (mx a) lost (k + 1)) (iv (g2 x)) (iv (g2 x)) L hL16 sq sk HSQ.out HSK.out ((y2.val : Nat) : Int) ((y2.val : Nat) : Int) (by rw [HY2.out]) (by rw [HY2.out]) ?c0 ?c1 ?d0 ?d1 ?bb).mono ?_; (case c0 => go_simp); (case c1 => go_simp); (case d0 => go_simp); (case d1 => go_simp); (case bb => (repeat (first | assumption | exact Below.refl _ _ | refine Below.drew ?_ | refine Below.alloc ?_ (by first | omega | (simp; omega) | simp) _))); rintro e w5 ⟨rfl, hB5⟩; have hcq5 : w5.cell? ⟨gq, 0, none⟩ = some (.int .i64 ((x : Nat) : Int)) := (hB5.cell (World.block_lt_of_cell? _ _ hcq3)).trans hcq3; have hc5 := (HC8.out w5 hB5).1; have hf5 := (HC8.out w5 hB5).2)
    all_goals
      have S := World.ownsRow.stored (ownsRow_old HO32.out hB5) x (.string (sb (row (fun l => pl (ti (iv (g2 x)) (qq k (zed (mx a) lost) l)) (ti (iv (g2 x)) (zed (mx a) lost (k + 1) l))) L)))
      have hB6 := hB032.trans (hB5.mono hB032.size)
      have hB7 := hB6.trans (below_of_grownAt S.2 hB6.size hg8)
      have R1 := S.1
      rw [set_upd] at R1
      clear S hB6 hB5 hcq5 hc5 hf5 hcq3 hk3 HC8
      go_wp2_with fail
      go_meet
      case rel => exact ⟨R1, hB7⟩
  case rest =>
    obtain ⟨hO4, hB4⟩ := hcut
    have HHD : Hid (Healed k L (mx a) lost (upd (zed (mx a) lost) x (fun l => pl (ti (iv (g2 x)) (qq k (zed (mx a) lost) l)) (ti (iv (g2 x)) (zed (mx a) lost (k + 1) l))))) := heal_q h2 HGN.out HBK.out HBQ.out
    obtain ⟨E, hE⟩ : ∃ E, E = upd (zed (mx a) lost) x (fun l => pl (ti (iv (g2 x)) (qq k (zed (mx a) lost) l)) (ti (iv (g2 x)) (zed (mx a) lost (k + 1) l))) := ⟨_, rfl⟩
    rw [← hE] at HHD hO4
    have HOx : Hid (wc.ownsRow w.heap.size 9 1 (.slice (some ⟨g8, 0, none⟩) (k + 2) c8) (k + 2) ((List.range (k + 2)).map (fun y => st (row (E y) L)))) := hO4
    have hBx := hB4
    clear hE hO4 hB4 hk3 hcq3 hB032
    rename ∀ (a : Act) (w : World), Code.wp _ _ _ a w → _ => hK
    refine hK _ _ ?_
    exact rh_tail k L h1 h2 hL16 a lost w ad adl cap cl g8 c8 hc8 hc8' HL E _ _ _ _ _ _ _ _ _ _ _ _ _ _ _ _ _ _ _ _ _ _ _ _ _ _ _ _ _ _ _ _ _ _ _ _ _ _ _ _ _ _ _ _ _ _ _ _ _ _ _ _ _ _ _ _ _ _ _ _ _ _ _ _ _ _ _ _ _ _ _ _ _ _ _ _ _ _ _ _ _ _ _ _ _ _ _ _ _ _ _ _ _ _ _ _ _ _ _ _ _ _ _ _ _ _ _ _ _ _ _ _ _ _ _ _ _ _ _ _ _ _ _ _ _ _ _ _ _ _ _ _ _ _ _ _ _ _ _ _ _ _ _ _ _ _ _ _ _ _ _ _ _ _ _ _ _ _ _ _ _ _ _ _ _ _ _ _ _ _ _ _ _ _ _ _ _ _ _ _ _ _ _ _ _ _ _ _ _ _ _ _ _ _ _ _ _ _ _ _ _ _ _ _ _ _ _ _ _ _ _ _ _ _ _ _ HOx hBx HHD
end Go.Proofs.YtilfjahbdlepjaaGreatDoor
