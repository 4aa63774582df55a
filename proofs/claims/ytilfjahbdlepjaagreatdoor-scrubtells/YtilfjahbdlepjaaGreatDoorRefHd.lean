/- What the document's own Heal does behind its two loops: by walks over the program. -/
import Derived.Test.YtilfjahbdlepjaaGreatDoorRefHb
namespace Go.Proofs.YtilfjahbdlepjaaGreatDoor
open Go.ChangeShapes Go.WideShapes Go.ChangeAt Go.RowKit El Pol Mx
set_option linter.unusedVariables false in
set_option maxRecDepth 1000000 in
set_option maxHeartbeats 8000000 in
theorem rh_pq (k L : Nat) (h1 : 1 ≤ k) (h2 : k ≤ 10) (hL16 : L ≤ 16) (a : Nat → List El) (lost : Nat → Bool) (w : World) (ad adl : Addr) (cap cl g8 c8 : Nat) (hc8 : k + 2 ≤ c8) (hc8' : c8 ≤ 9223372036854775807) (HL : Hid (RdF w (.slice (some adl) (k + 2) cl) (k + 2) (fun i => .bool (lost i)))) (x y : Nat) (HGN : Hid (gn lost k = [x, y])) (gq cq : Nat) (HBK : Hid (lost k = false)) (HBQ : Hid (lost (k + 1) = false)) (u2 u3 u4 u6 u7 u10 u11 u12 u13 u14 u15 u16 u17 u18 u19 u20 u21 u22 u23 u24 u25 u26 u27 u28 u29 u30 u31 u32 u33 u34 u35 u36 u37 u38 u39 u40 u41 u42 u43 u44 u45 u46 u47 u48 u49 u50 u51 u52 u53 u54 u55 u56 u57 u58 u59 u60 u61 u62 u63 u64 u65 u66 u67 u68 u69 u70 u71 u72 u73 u74 u75 u76 u77 u78 u79 u80 u81 u82 u83 u84 u85 u86 u87 u88 u89 u90 u91 u92 u93 u94 u95 u96 u97 u98 u99 u100 u101 u102 u103 u104 u105 u106 u107 u108 u109 u110 u111 u112 u113 u114 u115 u116 u117 u118 u119 u120 u121 u122 u123 u124 u125 u126 u127 u128 u129 u130 u131 u132 u133 u134 u135 u136 u137 u138 u139 u140 u141 u142 u143 u144 u145 u146 u147 u148 u149 u150 u151 u152 u153 u154 u155 u156 u157 u158 u159 u160 u161 u162 u163 u164 u165 u166 u167 u168 u169 u170 u171 u172 u173 u174 u175 u176 u177 u178 u179 u180 u181 u182 u183 u184 u185 u186 u187 u188 u189 u190 u191 u192 u193 u194 u195 u196 u197 u198 u199 u200 u201 u202 u203 u204 u205 u206 u207 u208 u209 u210 u211 u212 u213 u214 u215 u216 u217 u218 : Value) (wx : World) (HOx : Hid (wx.ownsRow w.heap.size 9 1 (.slice (some ⟨g8, 0, none⟩) (k + 2) c8) (k + 2) ((List.range (k + 2)).map (fun y => st (row (zed (mx a) lost y) L))))) (hBx : Below w.heap.size w wx) (HG : Hid (wx.ownsRow w.heap.size 3 1 (.slice (some ⟨gq, 0, none⟩) 2 cq) 2 [.int .i64 ((x : Nat) : Int), .int .i64 ((y : Nat) : Int)])) :
    Code.wp Tryz.prog (dropS 7 (Tryz.f36.body.getD .skip)) (bodyPost Tryz.prog Tryz.f36 fun e w' => ∃ (v' : Value) (D : M), e = .returned v' ∧ Healed k L (mx a) lost D ∧ w'.ownsRow w.heap.size 9 1 v' (k + 2) ((List.range (k + 2)).map (fun i => st (row (pqp k D i) L))) ∧ Below w.heap.size w w') ⟨#[.slice (some ad) (k + 2) cap, .slice (some adl) (k + 2) cl, u2, u3, u4, .int .i64 k, u6, u7, .slice (some ⟨g8, 0, none⟩) (k + 2) c8, .slice (some ⟨gq, 0, none⟩) 2 cq, u10, u11, u12, u13, u14, u15, u16, u17, u18, u19, u20, u21, u22, u23, u24, u25, u26, u27, u28, u29, u30, u31, u32, u33, u34, u35, u36, u37, u38, u39, u40, u41, u42, u43, u44, u45, u46, u47, u48, u49, u50, u51, u52, u53, u54, u55, u56, u57, u58, u59, u60, u61, u62, u63, u64, u65, u66, u67, u68, u69, u70, u71, u72, u73, u74, u75, u76, u77, u78, u79, u80, u81, u82, u83, u84, u85, u86, u87, u88, u89, u90, u91, u92, u93, u94, u95, u96, u97, u98, u99, u100, u101, u102, u103, u104, u105, u106, u107, u108, u109, u110, u111, u112, u113, u114, u115, u116, u117, u118, u119, u120, u121, u122, u123, u124, u125, u126, u127, u128, u129, u130, u131, u132, u133, u134, u135, u136, u137, u138, u139, u140, u141, u142, u143, u144, u145, u146, u147, u148, u149, u150, u151, u152, u153, u154, u155, u156, u157, u158, u159, u160, u161, u162, u163, u164, u165, u166, u167, u168, u169, u170, u171, u172, u173, u174, u175, u176, u177, u178, u179, u180, u181, u182, u183, u184, u185, u186, u187, u188, u189, u190, u191, u192, u193, u194, u195, u196, u197, u198, u199, u200, u201, u202, u203, u204, u205, u206, u207, u208, u209, u210, u211, u212, u213, u214, u215, u216, u217, u218], []⟩ wx := by
  conv => arg 2; whnf
  obtain ⟨hxk, hxl⟩ := gn_mem HGN.out
  obtain ⟨hyk, hyl⟩ := mem_gn.1 (show y ∈ gn lost k by rw [HGN.out]; simp)
  have hxy : x < y := by
    have := gn_nodup lost k
    rw [HGN.out] at this
    simpa using this
  have hxk2 : (x : Int) < (k : Int) + 2 := by omega
  have hyk2 : (y : Int) < (k : Int) + 2 := by omega
  have hkk2 : (k : Int) < (k : Int) + 2 := by omega
  have hkk3 : (k : Int) + 1 < (k : Int) + 2 := by omega
  have hcq0 : wx.cell? ⟨gq, 0, none⟩ = some (.int .i64 ((x : Nat) : Int)) := World.ownsRow.cellAt HG.out 0 (by omega)
  have HNE : Hid (pl (g2 x) (g2 y) ≠ 0) := fun e => g2_ne (by omega) (by omega) (by omega) (pl_eq_zero e)
  go_wp2_with fail
  refine (rpowQ x (by omega) _).mono ?_
  rintro e w1 ⟨rfl, hq1⟩
  have hb1 : Below wx.heap.size wx w1 := by obtain ⟨q, rfl⟩ := hq1; exact below_drewN (Below.refl _ _) q
  have hcq1 : w1.cell? ⟨gq, 1, none⟩ = some (.int .i64 ((y : Nat) : Int)) := World.ownsRow.cellAt (ownsRow_old HG.out hb1) 1 (by omega)
  obtain ⟨ya, hya⟩ : ∃ y, y = g2 x := ⟨_, rfl⟩
  have HYA : Hid (ya = g2 x) := hya
  rw [← hya]
  clear hq1 hcq0 hya
  go_wp2_with fail
  refine (rpowQ y (by omega) _).mono ?_
  rintro e w2 ⟨rfl, hq2⟩
  have hb2 : Below w1.heap.size w1 w2 := by obtain ⟨q, rfl⟩ := hq2; exact below_drewN (Below.refl _ _) q
  have hb02 := hb1.trans (hb2.mono hb1.size)
  obtain ⟨yb, hyb⟩ : ∃ z, z = g2 y := ⟨_, rfl⟩
  have HYB : Hid (yb = g2 y) := hyb
  rw [← hyb]
  have HO2 : Hid (w2.ownsRow w.heap.size 9 1 (.slice (some ⟨g8, 0, none⟩) (k + 2) c8) (k + 2) ((List.range (k + 2)).map (fun y => st (row (zed (mx a) lost y) L)))) := ownsRow_old HOx.out hb02
  have HG2 : Hid (w2.ownsRow w.heap.size 3 1 (.slice (some ⟨gq, 0, none⟩) 2 cq) 2 [.int .i64 ((x : Nat) : Int), .int .i64 ((y : Nat) : Int)]) := ownsRow_old HG.out hb02
  have hB2 := hBx.trans (hb02.mono hBx.size)
  have C := rpq_any (.slice (some ⟨g8, 0, none⟩) k c8) k L (zed (mx a) lost) w2 ((OwL.rdM HO2.out).cut (by omega)) h1 h2 hL16
  obtain ⟨sp, hsp⟩ : ∃ s, s = sb (row (pp k (zed (mx a) lost)) L) := ⟨_, rfl⟩
  obtain ⟨sq, hsq⟩ : ∃ s, s = sb (row (qq k (zed (mx a) lost)) L) := ⟨_, rfl⟩
  have HSP : Hid (sp = sb (row (pp k (zed (mx a) lost)) L)) := hsp
  have HSQ : Hid (sq = sb (row (qq k (zed (mx a) lost)) L)) := hsq
  unfold st at C
  rw [← hsp, ← hsq] at C
  clear hsp hsq hq2 hb1 hb2 hb02 hyb HOx HG hBx hcq1
  go_wp2_with fail
  refine C.mono ?_
  rintro e w3 ⟨rfl, hB3⟩
  have hB03 := hB2.trans (hB3.mono hB2.size)
  have HO3 : Hid (w3.ownsRow w.heap.size 9 1 (.slice (some ⟨g8, 0, none⟩) (k + 2) c8) (k + 2) ((List.range (k + 2)).map (fun y => st (row (zed (mx a) lost y) L)))) := ownsRow_old HO2.out hB3
  have HG3 : Hid (w3.ownsRow w.heap.size 3 1 (.slice (some ⟨gq, 0, none⟩) 2 cq) 2 [.int .i64 ((x : Nat) : Int), .int .i64 ((y : Nat) : Int)]) := ownsRow_old HG2.out hB3
  have hk3 := World.ownsRow.cellAt HO3.out k (by omega)
  rw [range_map_at _ _ _ (by omega)] at hk3
  obtain ⟨sk, hsk⟩ : ∃ s, s = sb (row (zed (mx a) lost k) L) := ⟨_, rfl⟩
  have HSK : Hid (sk = sb (row (zed (mx a) lost k) L)) := hsk
  unfold st at hk3
  rw [← hsk] at hk3
  obtain ⟨fs, hfs⟩ : ∃ f : Nat → El, f = fun l => pl (ti 1 (pp k (zed (mx a) lost) l)) (ti 1 (zed (mx a) lost k l)) := ⟨_, rfl⟩
  have HFS : Hid (∀ l, fs l = pl (ti 1 (pp k (zed (mx a) lost) l)) (ti 1 (zed (mx a) lost k l))) := fun l => by rw [hfs]
  have M1 := mix_abN w3 (pp k (zed (mx a) lost)) (zed (mx a) lost k) 1 1 L hL16 sp sk HSP.out HSK.out 1 1 rfl rfl
  rw [← hfs] at M1
  obtain ⟨ss, hss⟩ : ∃ s, s = sb (row fs L) := ⟨_, rfl⟩
  have HSS : Hid (ss = sb (row fs L)) := hss
  rw [← hss] at M1
  clear C hB3 hB2 HO2 HG2 hsk hfs hss
  go_wp2_with fail
  refine M1.mono ?_
  rintro e w4 ⟨rfl, hB4⟩
  have hB04 := hB03.trans (hB4.mono hB03.size)
  have HO4 : Hid (w4.ownsRow w.heap.size 9 1 (.slice (some ⟨g8, 0, none⟩) (k + 2) c8) (k + 2) ((List.range (k + 2)).map (fun y => st (row (zed (mx a) lost y) L)))) := ownsRow_old HO3.out hB4
  have HG4 : Hid (w4.ownsRow w.heap.size 3 1 (.slice (some ⟨gq, 0, none⟩) 2 cq) 2 [.int .i64 ((x : Nat) : Int), .int .i64 ((y : Nat) : Int)]) := ownsRow_old HG3.out hB4
  have hk4 := World.ownsRow.cellAt HO4.out (k + 1) (by omega)
  rw [range_map_at _ _ _ (by omega)] at hk4
  obtain ⟨sl, hsl⟩ : ∃ s, s = sb (row (zed (mx a) lost (k + 1)) L) := ⟨_, rfl⟩
  have HSL : Hid (sl = sb (row (zed (mx a) lost (k + 1)) L)) := hsl
  unfold st at hk4
  rw [← hsl] at hk4
  obtain ⟨ft, hft⟩ : ∃ f : Nat → El, f = fun l => pl (ti 1 (qq k (zed (mx a) lost) l)) (ti 1 (zed (mx a) lost (k + 1) l)) := ⟨_, rfl⟩
  have HFT : Hid (∀ l, ft l = pl (ti 1 (qq k (zed (mx a) lost) l)) (ti 1 (zed (mx a) lost (k + 1) l))) := fun l => by rw [hft]
  have M2 := mix_abN w4 (qq k (zed (mx a) lost)) (zed (mx a) lost (k + 1)) 1 1 L hL16 sq sl HSQ.out HSL.out 1 1 rfl rfl
  rw [← hft] at M2
  obtain ⟨tt, htt⟩ : ∃ s, s = sb (row ft L) := ⟨_, rfl⟩
  have HTT : Hid (tt = sb (row ft L)) := htt
  rw [← htt] at M2
  clear M1 hB4 hB03 HO3 HG3 hsl hft htt hk3
  go_wp2_with fail
  refine M2.mono ?_
  rintro e w5 ⟨rfl, hB5⟩
  have hB05 := hB04.trans (hB5.mono hB04.size)
  have HO5 : Hid (w5.ownsRow w.heap.size 9 1 (.slice (some ⟨g8, 0, none⟩) (k + 2) c8) (k + 2) ((List.range (k + 2)).map (fun y => st (row (zed (mx a) lost y) L)))) := ownsRow_old HO4.out hB5
  have HG5 : Hid (w5.ownsRow w.heap.size 3 1 (.slice (some ⟨gq, 0, none⟩) 2 cq) 2 [.int .i64 ((x : Nat) : Int), .int .i64 ((y : Nat) : Int)]) := ownsRow_old HG4.out hB5
  clear M2 hB5 hB04 HO4 HG4 hk4
  go_wp2_with fail
  refine (plusQ2 ya yb _).mono ?_
  rintro e w6 ⟨rfl, hq6⟩
  have hb6 : Below w5.heap.size w5 w6 := by obtain ⟨q, rfl⟩ := hq6; exact below_drewN (Below.refl _ _) q
  obtain ⟨yc, hyc⟩ : ∃ z, z = pl ya yb := ⟨_, rfl⟩
  have HYC : Hid (yc = pl (g2 x) (g2 y)) := by (show yc = _); rw [hyc, HYA.out, HYB.out]
  rw [← hyc]
  have hycnz : yc ≠ 0 := by rw [HYC.out]; exact HNE.out
  clear hq6 hyc
  go_wp2_with fail
  refine (rinvQ yc hycnz _).mono ?_
  rintro e w7 ⟨rfl, hq7⟩
  have hb7 : Below w6.heap.size w6 w7 := by obtain ⟨q, rfl⟩ := hq7; exact below_drewN (Below.refl _ _) q
  have hb57 := hb6.trans (hb7.mono hb6.size)
  obtain ⟨yi, hyi⟩ : ∃ z, z = iv yc := ⟨_, rfl⟩
  have HYI : Hid (yi = iv (pl (g2 x) (g2 y))) := by (show yi = _); rw [hyi, HYC.out]
  rw [← hyi]
  have HO7 : Hid (w7.ownsRow w.heap.size 9 1 (.slice (some ⟨g8, 0, none⟩) (k + 2) c8) (k + 2) ((List.range (k + 2)).map (fun y => st (row (zed (mx a) lost y) L)))) := ownsRow_old HO5.out hb57
  have HG7 : Hid (w7.ownsRow w.heap.size 3 1 (.slice (some ⟨gq, 0, none⟩) 2 cq) 2 [.int .i64 ((x : Nat) : Int), .int .i64 ((y : Nat) : Int)]) := ownsRow_old HG5.out hb57
  have hB07 := hB05.trans (hb57.mono hB05.size)
  clear hq7 hyi hycnz hb6 hb7 hb57 HO5 HG5 hB05
  go_wp2_with fail
  refine (timesQ2 ya yi _).mono ?_
  rintro e w8 ⟨rfl, q8, rfl⟩
  obtain ⟨ym, hym⟩ : ∃ z, z = ti ya yi := ⟨_, rfl⟩
  have HYM : Hid (ym = ti (g2 x) (iv (pl (g2 x) (g2 y)))) := by (show ym = _); rw [hym, HYA.out, HYI.out]
  rw [← hym]
  obtain ⟨f2, hf2⟩ : ∃ f : Nat → El, f = fun l => pl (ti (ti (g2 x) (iv (pl (g2 x) (g2 y)))) (fs l)) (ti (iv (pl (g2 x) (g2 y))) (ft l)) := ⟨_, rfl⟩
  have HF2 : Hid (∀ l, f2 l = pl (ti (ti (g2 x) (iv (pl (g2 x) (g2 y)))) (fs l)) (ti (iv (pl (g2 x) (g2 y))) (ft l))) := fun l => by rw [hf2]
  have M3 := mix_ab w7 fs ft (ti (g2 x) (iv (pl (g2 x) (g2 y)))) (iv (pl (g2 x) (g2 y))) L hL16 ss tt HSS.out HTT.out ((ym.val : Nat) : Int) ((yi.val : Nat) : Int) (by rw [HYM.out]) (by rw [HYI.out]) q8
  rw [← hf2] at M3
  obtain ⟨s2, hs2⟩ : ∃ s, s = sb (row f2 L) := ⟨_, rfl⟩
  have HS2 : Hid (s2 = sb (row f2 L)) := hs2
  rw [← hs2] at M3
  clear hym hf2 hs2
  go_wp2_with fail
  refine M3.mono ?_
  rintro e w9 ⟨rfl, hB9⟩
  have hB09 := hB07.trans (hB9.mono hB07.size)
  have HO9 : Hid (w9.ownsRow w.heap.size 9 1 (.slice (some ⟨g8, 0, none⟩) (k + 2) c8) (k + 2) ((List.range (k + 2)).map (fun y => st (row (zed (mx a) lost y) L)))) := ownsRow_old HO7.out hB9
  have HG9 : Hid (w9.ownsRow w.heap.size 3 1 (.slice (some ⟨gq, 0, none⟩) 2 cq) 2 [.int .i64 ((x : Nat) : Int), .int .i64 ((y : Nat) : Int)]) := ownsRow_old HG7.out hB9
  obtain ⟨f1, hf1⟩ : ∃ f : Nat → El, f = fun l => pl (ti 1 (fs l)) (ti 1 (f2 l)) := ⟨_, rfl⟩
  have HF1 : Hid (∀ l, f1 l = pl (ti 1 (fs l)) (ti 1 (f2 l))) := fun l => by rw [hf1]
  have M4 := mix_abN w9 fs f2 1 1 L hL16 ss s2 HSS.out HS2.out 1 1 rfl rfl
  rw [← hf1] at M4
  obtain ⟨s1, hs1⟩ : ∃ s, s = sb (row f1 L) := ⟨_, rfl⟩
  have HS1 : Hid (s1 = sb (row f1 L)) := hs1
  rw [← hs1] at M4
  clear M3 hB9 hB07 HO7 HG7 hf1 hs1
  go_wp2_with fail
  refine M4.mono ?_
  rintro e w10 ⟨rfl, hB10⟩
  have hB010 := hB09.trans (hB10.mono hB09.size)
  have HO10 : Hid (w10.ownsRow w.heap.size 9 1 (.slice (some ⟨g8, 0, none⟩) (k + 2) c8) (k + 2) ((List.range (k + 2)).map (fun y => st (row (zed (mx a) lost y) L)))) := ownsRow_old HO9.out hB10
  have HG10 : Hid (w10.ownsRow w.heap.size 3 1 (.slice (some ⟨gq, 0, none⟩) 2 cq) 2 [.int .i64 ((x : Nat) : Int), .int .i64 ((y : Nat) : Int)]) := ownsRow_old HG9.out hB10
  have hg8 := (World.ownsRow.lt HO10.out g8 rfl).1
  have hcq10 : w10.cell? ⟨gq, 0, none⟩ = some (.int .i64 ((x : Nat) : Int)) := World.ownsRow.cellAt HG10.out 0 (by omega)
  have c11 := World.ownsRow.cellAt HO10.out x (by omega)
  rw [range_map_at _ _ _ (by omega)] at c11
  have f11 := World.ownsRow.frozenAt HO10.out x
  have S11 := World.ownsRow.stored HO10.out x (.string s1)
  have hB011 := hB010.trans (below_of_grownAt S11.2 hB010.size hg8)
  have HG11 : Hid ((w10.setCell ⟨g8, x, none⟩ (.string s1)).ownsRow w.heap.size 3 1 (.slice (some ⟨gq, 0, none⟩) 2 cq) 2 [.int .i64 ((x : Nat) : Int), .int .i64 ((y : Nat) : Int)]) := keep_type (by decide) HO10.out HG10.out S11.2
  have HO11 : Hid ((w10.setCell ⟨g8, x, none⟩ (.string s1)).ownsRow w.heap.size 9 1 (.slice (some ⟨g8, 0, none⟩) (k + 2) c8) (k + 2) ((List.range (k + 2)).map (fun y => st (row (upd (zed (mx a) lost) x f1 y) L)))) := by
    (show World.ownsRow _ _ _ _ _ _ _)
    have := S11.1
    rw [HS1.out, set_upd] at this
    rw [HS1.out]
    exact this
  generalize st (row (zed (mx a) lost x) L) = z11 at c11
  clear M4 hB10 hB09 HO9 HG9 S11 hB010
  go_upto_region 35 with fail
  generalize w10.setCell ⟨g8, x, none⟩ (.string s1) = w11 at *
  clear c11 f11 hcq10 HO10 HG10
  have hcq11 : w11.cell? ⟨gq, 1, none⟩ = some (.int .i64 ((y : Nat) : Int)) := World.ownsRow.cellAt HG11.out 1 (by omega)
  have c12 := World.ownsRow.cellAt HO11.out y (by omega)
  rw [range_map_at _ _ _ (by omega)] at c12
  have f12 := World.ownsRow.frozenAt HO11.out y
  have S12 := World.ownsRow.stored HO11.out y (.string s2)
  have hBx := hB011.trans (below_of_grownAt S12.2 hB011.size hg8)
  have HHD0 : Hid (Healed k L (mx a) lost (upd (upd (zed (mx a) lost) x f1) y f2)) := heal_pq h2 HGN.out HBK.out HBQ.out fs ft f2 f1 HFS.out HFT.out HF2.out HF1.out
  obtain ⟨E, hE⟩ : ∃ E, E = upd (upd (zed (mx a) lost) x f1) y f2 := ⟨_, rfl⟩
  have HOx0 : Hid ((w11.setCell ⟨g8, y, none⟩ (.string s2)).ownsRow w.heap.size 9 1 (.slice (some ⟨g8, 0, none⟩) (k + 2) c8) (k + 2) ((List.range (k + 2)).map (fun y => st (row (E y) L)))) := by
    (show World.ownsRow _ _ _ _ _ _ _)
    have := S12.1
    rw [HS2.out, set_upd, ← hE] at this
    rw [HS2.out]
    exact this
  have HHD : Hid (Healed k L (mx a) lost E) := by (show Healed _ _ _ _ _); rw [hE]; exact HHD0.out
  generalize st (row (upd (zed (mx a) lost) x f1 y) L) = z12 at c12
  clear hE S12 hB011 HHD0
  go_cut [] from 196 to 201 (fun wy => wy = w11.setCell ⟨g8, y, none⟩ (.string s2))
  case first =>
    go_wp2
    go_meet
    case rel => exact rfl
  case rest =>
    have hwy := hcut
    subst hwy
    have HOx := HOx0
    clear c12 f12 hcq11
    rename ∀ (a : Act) (w : World), Code.wp _ _ _ a w → _ => hK
    refine hK _ _ ?_
    exact rh_tail k L h1 h2 hL16 a lost w ad adl cap cl g8 c8 hc8 hc8' HL E _ _ _ _ _ _ _ _ _ _ _ _ _ _ _ _ _ _ _ _ _ _ _ _ _ _ _ _ _ _ _ _ _ _ _ _ _ _ _ _ _ _ _ _ _ _ _ _ _ _ _ _ _ _ _ _ _ _ _ _ _ _ _ _ _ _ _ _ _ _ _ _ _ _ _ _ _ _ _ _ _ _ _ _ _ _ _ _ _ _ _ _ _ _ _ _ _ _ _ _ _ _ _ _ _ _ _ _ _ _ _ _ _ _ _ _ _ _ _ _ _ _ _ _ _ _ _ _ _ _ _ _ _ _ _ _ _ _ _ _ _ _ _ _ _ _ _ _ _ _ _ _ _ _ _ _ _ _ _ _ _ _ _ _ _ _ _ _ _ _ _ _ _ _ _ _ _ _ _ _ _ _ _ _ _ _ _ _ _ _ _ _ _ _ _ _ _ _ _ _ _ _ _ _ _ _ _ _ _ _ _ _ _ _ _ _ HOx hBx HHD
end Go.Proofs.YtilfjahbdlepjaaGreatDoor
