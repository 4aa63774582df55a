/- CachePlays, a piece: walks over the program. -/
import Derived.Test.YtfeikmmojilmbaaDoorCPb
namespace Go.Proofs.YtfeikmmojilmbaaDoor
open Go.RowKit Go.Maps El Pol
set_option linter.unusedVariables false in
set_option maxRecDepth 1000000 in
set_option maxHeartbeats 4000000 in
theorem q_write2 (n0 c0 R n2 c2 n3 c3 p : Nat) (a0 a2 a3 : Option Addr) (x : CP) (w : World) (k q N : Nat) (c : Che) (v : Nat → Int) (S3 : Nat → List El) (u4 u5 u6 u7 u8 u11 u12 u16 u17 u18 u19 u20 u21 u22 u23 u24 u25 u26 u27 u28 u29 u30 u31 u32 u33 u34 u35 u36 u37 u38 u39 u40 u41 u42 u43 u44 u45 u46 u47 u48 u49 u50 u51 u52 u53 u54 u55 u56 u57 u58 u59 u60 u61 u62 u63 u64 u65 u66 u67 u68 u69 u70 u71 u72 u73 u74 u75 u76 u77 u78 u79 u80 u81 u82 u83 u84 u85 u86 u87 u88 u89 u90 u91 u92 u93 u94 u95 u96 u97 u98 u99 u100 u101 u102 u103 u104 u105 u106 u107 u108 u109 u110 u111 u112 u113 u114 u115 u116 u117 u118 u119 u120 u121 u122 u123 u124 u125 u126 u127 u128 u129 u130 u131 u132 u133 u134 u135 u136 u137 u138 u139 u140 u141 u142 u143 u144 u145 u146 u147 u148 u149 u150 u151 u152 u153 u154 u155 u156 u157 u158 u159 u160 u161 u162 u163 u164 u165 u166 u167 u168 u169 u170 u171 u172 u173 u174 u175 u176 u177 u178 u179 u180 u181 u182 u183 u184 u185 u186 u187 u188 u189 u190 u191 u192 u193 u194 u195 u196 u197 u198 u199 u200 u201 u202 u203 u204 u205 u206 u207 u208 u209 u210 u211 u212 u213 u214 u215 u216 u217 u218 u219 u220 u221 u222 u223 u224 u225 : Value) (wc : World) (Q : Exit → Act → World → Prop)
    (hN : N ≤ 900) (hk80 : k < 80) (HG : Hid (Handle w)) (r4 : RdT w (.slice a3 n3 c3) n3 S3) (hS : QS w x p n0 R (· = q) c c N wc) (hV : VQ w q wc v) (h0 : v 0 = 2)
    (hQ : ∀ (x9 x17 x18 x19 x20 x21 x22 x23 x97 x98 x99 x100 x101 x102 x103 x104 x105 x106 x107 x108 x109 x110 x111 x112 x113 x114 x115 x116 x117 x118 x119 x120 x121 x122 x123 x124 x125 x126 x127 x128 x129 x130 x131 x132 x133 x134 x135 x136 x137 x138 x139 x140 x141 x142 x143 x144 x145 x146 x147 x148 x149 x150 x151 x152 x153 x154 x155 x156 x157 x158 x159 x160 x161 x162 x163 x164 x165 x166 x167 x168 x169 x170 x171 x172 x173 x174 x175 x176 x177 x178 x179 x180 x181 x182 x183 x184 : Value) (c' : Che) (N' : Nat) (w1 : World), QS w x p n0 R (· = q) c' c' N' w1 → N' ≤ N + 2 → Q .normal ⟨#[.slice a0 n0 c0, .int .i64 ((R : Nat) : Int), .slice a2 n2 c2, .slice a3 n3 c3, u4, u5, u6, u7, u8, x9, .pointer (some ⟨x.p, 0, none⟩), u11, .bool true, .pointer (some ⟨p, 0, none⟩), .int .i64 ((k : Nat) : Int), .pointer (some ⟨q, 0, none⟩), u16, x17, x18, x19, x20, x21, x22, x23, u24, u25, u26, u27, u28, u29, u30, u31, u32, u33, u34, u35, u36, u37, u38, u39, u40, u41, u42, u43, u44, u45, u46, u47, u48, u49, u50, u51, u52, u53, u54, u55, u56, u57, u58, u59, u60, u61, u62, u63, u64, u65, u66, u67, u68, u69, u70, u71, u72, u73, u74, u75, u76, u77, u78, u79, u80, u81, u82, u83, u84, u85, u86, u87, u88, u89, u90, u91, u92, u93, u94, u95, u96, x97, x98, x99, x100, x101, x102, x103, x104, x105, x106, x107, x108, x109, x110, x111, x112, x113, x114, x115, x116, x117, x118, x119, x120, x121, x122, x123, x124, x125, x126, x127, x128, x129, x130, x131, x132, x133, x134, x135, x136, x137, x138, x139, x140, x141, x142, x143, x144, x145, x146, x147, x148, x149, x150, x151, x152, x153, x154, x155, x156, x157, x158, x159, x160, x161, x162, x163, x164, x165, x166, x167, x168, x169, x170, x171, x172, x173, x174, x175, x176, x177, x178, x179, x180, x181, x182, x183, x184, u185, u186, u187, u188, u189, u190, u191, u192, u193, u194, u195, u196, u197, u198, u199, u200, u201, u202, u203, u204, u205, u206, u207, u208, u209, u210, u211, u212, u213, u214, u215, u216, u217, u218, u219, u220, u221, u222, u223, u224, u225], []⟩ w1) :
    Code.wp Tryd.prog (cut [1, 1, 1, 1, 1, 1, 1, 0, 1, 2, 5, 1, 0, 2, 1, 1, 1, 1, 0] (Tryd.f3.body.getD .skip)) Q ⟨#[.slice a0 n0 c0, .int .i64 ((R : Nat) : Int), .slice a2 n2 c2, .slice a3 n3 c3, u4, u5, u6, u7, u8, .int .i64 ((Che.cellE c (v 1) : Nat) : Int), .pointer (some ⟨x.p, 0, none⟩), u11, u12, .pointer (some ⟨p, 0, none⟩), .int .i64 ((k : Nat) : Int), .pointer (some ⟨q, 0, none⟩), u16, u17, u18, u19, u20, u21, u22, u23, u24, u25, u26, u27, u28, u29, u30, u31, u32, u33, u34, u35, u36, u37, u38, u39, u40, u41, u42, u43, u44, u45, u46, u47, u48, u49, u50, u51, u52, u53, u54, u55, u56, u57, u58, u59, u60, u61, u62, u63, u64, u65, u66, u67, u68, u69, u70, u71, u72, u73, u74, u75, u76, u77, u78, u79, u80, u81, u82, u83, u84, u85, u86, u87, u88, u89, u90, u91, u92, u93, u94, u95, u96, u97, u98, u99, u100, u101, u102, u103, u104, u105, u106, u107, u108, u109, u110, u111, u112, u113, u114, u115, u116, u117, u118, u119, u120, u121, u122, u123, u124, u125, u126, u127, u128, u129, u130, u131, u132, u133, u134, u135, u136, u137, u138, u139, u140, u141, u142, u143, u144, u145, u146, u147, u148, u149, u150, u151, u152, u153, u154, u155, u156, u157, u158, u159, u160, u161, u162, u163, u164, u165, u166, u167, u168, u169, u170, u171, u172, u173, u174, u175, u176, u177, u178, u179, u180, u181, u182, u183, u184, u185, u186, u187, u188, u189, u190, u191, u192, u193, u194, u195, u196, u197, u198, u199, u200, u201, u202, u203, u204, u205, u206, u207, u208, u209, u210, u211, u212, u213, u214, u215, u216, u217, u218, u219, u220, u221, u222, u223, u224, u225], []⟩ wc := by
  conv => arg 2; whnf
  have k0 := hV.at 0 (by omega)
  have k1 := hV.at 1 (by omega)
  have HQ : Hid _ := hQ
  have HS : Hid (QS w x p n0 R (· = q) c c N wc) := hS
  have HV : Hid (VQ w q wc v) := hV
  have hn40 : n0 ≤ 40 := by rw [← hS.hn]; exact hS.mc.ok.n40
  have HNQ : Hid (¬ x.F q) := (hS.hU q rfl).2.2
  have HE : Hid (∀ (kk : Nat) (w2 : World), Below w.heap.size w w2 → Calls Tryd.prog 7 #[errV kk, .int .i64 kk] w2 fun e w' => e = .returned (.bool true) ∧ Below w2.heap.size w2 w') := fun kk w2 h => err_v kk w2 (HG.out.old h)
  clear hQ hS hV
  rw [h0] at k0
  clear h0

  by_cases h3 : n3 = 0
  · obtain ⟨b, hb⟩ : ∃ b : List El, b = [] := ⟨_, rfl⟩
    obtain ⟨sx, hsx⟩ : ∃ sx, sx = sb b := ⟨_, rfl⟩
    have HSX : Hid (sx = sb b) := hsx
    have hsx0 : (⟨#[]⟩ : ByteArray) = sx := by rw [hsx, hb]; rfl
    have hz : ¬ (0 : Int) < (n3 : Int) := by omega
    clear hsx hb r4 h3
    go_upto_region 37 with fail
    rw [hsx0]
    clear hsx0
    have hsz : sx.size = b.length := by rw [HSX.out, sb_size]
    by_cases hw : c.writeE (v 1) b = 0
    · have hc0 : c.cellE (v 1) = 0 ∧ b.length ≤ 16 := by
        unfold Che.writeE at hw
        by_cases z : c.cellE (v 1) ≠ 0 ∨ 16 < b.length
        · rw [if_pos z] at hw; omega
        · omega
      obtain ⟨m, hm, hmn⟩ := Che.cell_nat hc0.1
      have HM : Hid (v 1 = (m : Int)) := hm
      obtain ⟨y, hp, hD, hy⟩ := HS.out.dc
      have C1 := dwrite_any hD HS.out.mc.ok HS.out.low.size hmn b hc0.2
      rw [hp] at C1
      have HDy : Hid (∀ w1, (∃ y', DS w.heap.size wc y w1 y' (c.write m b)) → QS w x p n0 R (· = q) c (c.write m b) N w1 ∧ But (fun k => ¬ (x.F k ∨ k = q)) wc w1) := fun w1 h => HS.out.docu hp hD hy h
      have hlz : ¬ (16 : Int) < (b.length : Int) := by omega
      have HB16 : Hid (b.length ≤ 16) := hc0.2
      rw [hc0.1]
      rw [hm] at k1
      clear hw hc0 hm hp hD hy
      unfold st at C1
      rw [← HSX.out] at C1
      go_wp2_with fail
      refine C1.mono ?_
      rintro e w2 ⟨rfl, hS2⟩
      obtain ⟨hQ2, hb2⟩ := HDy.out w2 hS2
      have HS2 : Hid (QS w x p n0 R (· = q) c (c.write m b) N w2) := hQ2
      have HV2 : Hid (VQ w q w2 v) := HV.out.docu hb2
      have d1 := HV2.out.at 1 (by omega)
      rw [HM.out] at d1
      have C2 := cwrite_ok hQ2.mc (by omega) hmn b HB16.out
      unfold st at C2
      rw [← HSX.out] at C2
      clear C1 hS2 hQ2 hb2 HDy HS HV k0 k1
      go_wp2_with fail
      refine C2.mono ?_
      rintro e w3 ⟨rfl, hM3, hb3⟩
      have HS3 : Hid (QS w x p n0 R (· = q) (c.write m b) (c.write m b) (N + 2) w3) := HS2.out.prog hM3 hb3 (write_nr' HS2.out.mc.ok m b).1 (write_nr' HS2.out.mc.ok m b).2
      have E3 := HE.out 0 w3 HS3.out.low
      clear C2 hM3 hb3 HS2 HV2 d1
      generalize errV 0 = ev at *
      go_wp2_with fail
      refine (show Calls Tryd.prog 7 #[ev, .int .i64 0] w3 _ from E3).mono ?_
      rintro e w4 ⟨rfl, hB4⟩
      have HS4 : Hid (QS w x p n0 R (· = q) (c.write m b) (c.write m b) (N + 2) w4) := HS3.out.old hB4
      clear E3 hB4 HS3
      go_wp2
      exact HQ.out _ _ _ _ _ _ _ _ _ _ _ _ _ _ _ _ _ _ _ _ _ _ _ _ _ _ _ _ _ _ _ _ _ _ _ _ _ _ _ _ _ _ _ _ _ _ _ _ _ _ _ _ _ _ _ _ _ _ _ _ _ _ _ _ _ _ _ _ _ _ _ _ _ _ _ _ _ _ _ _ _ _ _ _ _ _ _ _ _ _ _ _ _ _ _ _ _ _ _ HS4.out (Nat.le_refl _)
    · have C2 := cwrite_no HS.out.mc b hw
      unfold st at C2
      rw [← HSX.out] at C2
      have E3 := HE.out 1 wc HS.out.low
      by_cases hl16 : 16 < b.length
      · have hlz : (16 : Int) < (b.length : Int) := by omega
        clear hw hl16
        generalize c.cellE (v 1) = ce at *
        generalize v 1 = z at *
        generalize errV 1 = ev at *
        go_wp2_with fail
        refine C2.mono ?_
        rintro e w3 ⟨rfl, hw3⟩
        obtain rfl := hw3.symm
        clear C2 hw3
        go_wp2_with fail
        refine (show Calls Tryd.prog 7 #[ev, .int .i64 1] wc _ from E3).mono ?_
        rintro e w4 ⟨rfl, hB4⟩
        have HS4 : Hid (QS w x p n0 R (· = q) c c N w4) := HS.out.old hB4
        clear E3 hB4 HS HV
        go_wp2
        exact HQ.out _ _ _ _ _ _ _ _ _ _ _ _ _ _ _ _ _ _ _ _ _ _ _ _ _ _ _ _ _ _ _ _ _ _ _ _ _ _ _ _ _ _ _ _ _ _ _ _ _ _ _ _ _ _ _ _ _ _ _ _ _ _ _ _ _ _ _ _ _ _ _ _ _ _ _ _ _ _ _ _ _ _ _ _ _ _ _ _ _ _ _ _ _ _ _ _ _ _ _ HS4.out (by omega)
      · have hlz : ¬ (16 : Int) < (b.length : Int) := by omega
        have hce : c.cellE (v 1) = 1 := by
          have : c.cellE (v 1) ≠ 0 := fun q => hw (by unfold Che.writeE; rw [if_neg (by omega)])
          exact (Che.cell_bad this).2
        rw [hce]
        clear hw hl16 hce
        generalize v 1 = z at *
        generalize errV 1 = ev at *
        go_wp2_with fail
        refine C2.mono ?_
        rintro e w3 ⟨rfl, hw3⟩
        obtain rfl := hw3.symm
        clear C2 hw3
        go_wp2_with fail
        refine (show Calls Tryd.prog 7 #[ev, .int .i64 1] wc _ from E3).mono ?_
        rintro e w4 ⟨rfl, hB4⟩
        have HS4 : Hid (QS w x p n0 R (· = q) c c N w4) := HS.out.old hB4
        clear E3 hB4 HS HV
        go_wp2
        exact HQ.out _ _ _ _ _ _ _ _ _ _ _ _ _ _ _ _ _ _ _ _ _ _ _ _ _ _ _ _ _ _ _ _ _ _ _ _ _ _ _ _ _ _ _ _ _ _ _ _ _ _ _ _ _ _ _ _ _ _ _ _ _ _ _ _ _ _ _ _ _ _ _ _ _ _ _ _ _ _ _ _ _ _ _ _ _ _ _ _ _ _ _ _ _ _ _ _ _ _ _ HS4.out (by omega)
  · obtain ⟨kk, hkk, hkl⟩ : ∃ kk : Nat, (k : Int) % (n3 : Int) = (kk : Int) ∧ kk < n3 := ⟨k % n3, by omega, Nat.mod_lt _ (by omega)⟩
    obtain ⟨ad, rfl, hcl⟩ := r4.at kk hkl
    have hcl2 := (HS.out.low.cell (World.block_lt_of_cell? w _ hcl)).trans hcl
    obtain ⟨b, hb⟩ : ∃ b : List El, b = S3 kk := ⟨_, rfl⟩
    obtain ⟨sx, hsx⟩ : ∃ sx, sx = sb b := ⟨_, rfl⟩
    have HSX : Hid (sx = sb b) := hsx
    unfold st at hcl2
    rw [← hb, ← hsx] at hcl2
    have hz : (0 : Int) < (n3 : Int) := by omega
    have hz0 : ((n3 : Int) == 0) = false := by rw [beq_eq_false_iff_ne]; omega
    have hz1 : (kk : Int) < (n3 : Int) := by omega
    have hz2 : ¬ (n3 : Int) = 0 := by omega
    have hq0 : (0 : Int) ≤ (k : Int) % (n3 : Int) := by rw [hkk]; omega
    have hq1 : (k : Int) % (n3 : Int) < (n3 : Int) := by rw [hkk]; exact hz1
    have hk80' : (k : Int) < 80 := by omega
    clear hsx hb r4 hcl h3
    go_upto_region 37 with fail
    clear hcl2 hkk hq0 hq1 hz0 hz1 hz2
    have hsz : sx.size = b.length := by rw [HSX.out, sb_size]
    by_cases hw : c.writeE (v 1) b = 0
    · have hc0 : c.cellE (v 1) = 0 ∧ b.length ≤ 16 := by
        unfold Che.writeE at hw
        by_cases z : c.cellE (v 1) ≠ 0 ∨ 16 < b.length
        · rw [if_pos z] at hw; omega
        · omega
      obtain ⟨m, hm, hmn⟩ := Che.cell_nat hc0.1
      have HM : Hid (v 1 = (m : Int)) := hm
      obtain ⟨y, hp, hD, hy⟩ := HS.out.dc
      have C1 := dwrite_any hD HS.out.mc.ok HS.out.low.size hmn b hc0.2
      rw [hp] at C1
      have HDy : Hid (∀ w1, (∃ y', DS w.heap.size wc y w1 y' (c.write m b)) → QS w x p n0 R (· = q) c (c.write m b) N w1 ∧ But (fun k => ¬ (x.F k ∨ k = q)) wc w1) := fun w1 h => HS.out.docu hp hD hy h
      have hlz : ¬ (16 : Int) < (b.length : Int) := by omega
      have HB16 : Hid (b.length ≤ 16) := hc0.2
      rw [hc0.1]
      rw [hm] at k1
      clear hw hc0 hm hp hD hy
      unfold st at C1
      rw [← HSX.out] at C1
      go_wp2_with fail
      refine C1.mono ?_
      rintro e w2 ⟨rfl, hS2⟩
      obtain ⟨hQ2, hb2⟩ := HDy.out w2 hS2
      have HS2 : Hid (QS w x p n0 R (· = q) c (c.write m b) N w2) := hQ2
      have HV2 : Hid (VQ w q w2 v) := HV.out.docu hb2
      have d1 := HV2.out.at 1 (by omega)
      rw [HM.out] at d1
      have C2 := cwrite_ok hQ2.mc (by omega) hmn b HB16.out
      unfold st at C2
      rw [← HSX.out] at C2
      clear C1 hS2 hQ2 hb2 HDy HS HV k0 k1
      go_wp2_with fail
      refine C2.mono ?_
      rintro e w3 ⟨rfl, hM3, hb3⟩
      have HS3 : Hid (QS w x p n0 R (· = q) (c.write m b) (c.write m b) (N + 2) w3) := HS2.out.prog hM3 hb3 (write_nr' HS2.out.mc.ok m b).1 (write_nr' HS2.out.mc.ok m b).2
      have E3 := HE.out 0 w3 HS3.out.low
      clear C2 hM3 hb3 HS2 HV2 d1
      generalize errV 0 = ev at *
      go_wp2_with fail
      refine (show Calls Tryd.prog 7 #[ev, .int .i64 0] w3 _ from E3).mono ?_
      rintro e w4 ⟨rfl, hB4⟩
      have HS4 : Hid (QS w x p n0 R (· = q) (c.write m b) (c.write m b) (N + 2) w4) := HS3.out.old hB4
      clear E3 hB4 HS3
      go_wp2
      exact HQ.out _ _ _ _ _ _ _ _ _ _ _ _ _ _ _ _ _ _ _ _ _ _ _ _ _ _ _ _ _ _ _ _ _ _ _ _ _ _ _ _ _ _ _ _ _ _ _ _ _ _ _ _ _ _ _ _ _ _ _ _ _ _ _ _ _ _ _ _ _ _ _ _ _ _ _ _ _ _ _ _ _ _ _ _ _ _ _ _ _ _ _ _ _ _ _ _ _ _ _ HS4.out (Nat.le_refl _)
    · have C2 := cwrite_no HS.out.mc b hw
      unfold st at C2
      rw [← HSX.out] at C2
      have E3 := HE.out 1 wc HS.out.low
      by_cases hl16 : 16 < b.length
      · have hlz : (16 : Int) < (b.length : Int) := by omega
        clear hw hl16
        generalize c.cellE (v 1) = ce at *
        generalize v 1 = z at *
        generalize errV 1 = ev at *
        go_wp2_with fail
        refine C2.mono ?_
        rintro e w3 ⟨rfl, hw3⟩
        obtain rfl := hw3.symm
        clear C2 hw3
        go_wp2_with fail
        refine (show Calls Tryd.prog 7 #[ev, .int .i64 1] wc _ from E3).mono ?_
        rintro e w4 ⟨rfl, hB4⟩
        have HS4 : Hid (QS w x p n0 R (· = q) c c N w4) := HS.out.old hB4
        clear E3 hB4 HS HV
        go_wp2
        exact HQ.out _ _ _ _ _ _ _ _ _ _ _ _ _ _ _ _ _ _ _ _ _ _ _ _ _ _ _ _ _ _ _ _ _ _ _ _ _ _ _ _ _ _ _ _ _ _ _ _ _ _ _ _ _ _ _ _ _ _ _ _ _ _ _ _ _ _ _ _ _ _ _ _ _ _ _ _ _ _ _ _ _ _ _ _ _ _ _ _ _ _ _ _ _ _ _ _ _ _ _ HS4.out (by omega)
      · have hlz : ¬ (16 : Int) < (b.length : Int) := by omega
        have hce : c.cellE (v 1) = 1 := by
          have : c.cellE (v 1) ≠ 0 := fun q => hw (by unfold Che.writeE; rw [if_neg (by omega)])
          exact (Che.cell_bad this).2
        rw [hce]
        clear hw hl16 hce
        generalize v 1 = z at *
        generalize errV 1 = ev at *
        go_wp2_with fail
        refine C2.mono ?_
        rintro e w3 ⟨rfl, hw3⟩
        obtain rfl := hw3.symm
        clear C2 hw3
        go_wp2_with fail
        refine (show Calls Tryd.prog 7 #[ev, .int .i64 1] wc _ from E3).mono ?_
        rintro e w4 ⟨rfl, hB4⟩
        have HS4 : Hid (QS w x p n0 R (· = q) c c N w4) := HS.out.old hB4
        clear E3 hB4 HS HV
        go_wp2
        exact HQ.out _ _ _ _ _ _ _ _ _ _ _ _ _ _ _ _ _ _ _ _ _ _ _ _ _ _ _ _ _ _ _ _ _ _ _ _ _ _ _ _ _ _ _ _ _ _ _ _ _ _ _ _ _ _ _ _ _ _ _ _ _ _ _ _ _ _ _ _ _ _ _ _ _ _ _ _ _ _ _ _ _ _ _ _ _ _ _ _ _ _ _ _ _ _ _ _ _ _ _ HS4.out (by omega)

set_option linter.unusedVariables false in
set_option maxRecDepth 1000000 in
set_option maxHeartbeats 4000000 in
theorem q_write3 (n0 c0 R n2 c2 n3 c3 p : Nat) (a0 a2 a3 : Option Addr) (x : CP) (w : World) (k q N : Nat) (c : Che) (v : Nat → Int) (S3 : Nat → List El) (u4 u5 u6 u7 u8 u11 u12 u16 u17 u18 u19 u20 u21 u22 u23 u24 u25 u26 u27 u28 u29 u30 u31 u32 u33 u34 u35 u36 u37 u38 u39 u40 u41 u42 u43 u44 u45 u46 u47 u48 u49 u50 u51 u52 u53 u54 u55 u56 u57 u58 u59 u60 u61 u62 u63 u64 u65 u66 u67 u68 u69 u70 u71 u72 u73 u74 u75 u76 u77 u78 u79 u80 u81 u82 u83 u84 u85 u86 u87 u88 u89 u90 u91 u92 u93 u94 u95 u96 u97 u98 u99 u100 u101 u102 u103 u104 u105 u106 u107 u108 u109 u110 u111 u112 u113 u114 u115 u116 u117 u118 u119 u120 u121 u122 u123 u124 u125 u126 u127 u128 u129 u130 u131 u132 u133 u134 u135 u136 u137 u138 u139 u140 u141 u142 u143 u144 u145 u146 u147 u148 u149 u150 u151 u152 u153 u154 u155 u156 u157 u158 u159 u160 u161 u162 u163 u164 u165 u166 u167 u168 u169 u170 u171 u172 u173 u174 u175 u176 u177 u178 u179 u180 u181 u182 u183 u184 u185 u186 u187 u188 u189 u190 u191 u192 u193 u194 u195 u196 u197 u198 u199 u200 u201 u202 u203 u204 u205 u206 u207 u208 u209 u210 u211 u212 u213 u214 u215 u216 u217 u218 u219 u220 u221 u222 u223 u224 u225 : Value) (wc : World) (Q : Exit → Act → World → Prop)
    (hN : N ≤ 900) (hk80 : k < 80) (HG : Hid (Handle w)) (r4 : RdT w (.slice a3 n3 c3) n3 S3) (hS : QS w x p n0 R (· = q) c c N wc) (hV : VQ w q wc v) (h0 : v 0 = 3)
    (hQ : ∀ (x9 x17 x18 x19 x20 x21 x22 x23 x97 x98 x99 x100 x101 x102 x103 x104 x105 x106 x107 x108 x109 x110 x111 x112 x113 x114 x115 x116 x117 x118 x119 x120 x121 x122 x123 x124 x125 x126 x127 x128 x129 x130 x131 x132 x133 x134 x135 x136 x137 x138 x139 x140 x141 x142 x143 x144 x145 x146 x147 x148 x149 x150 x151 x152 x153 x154 x155 x156 x157 x158 x159 x160 x161 x162 x163 x164 x165 x166 x167 x168 x169 x170 x171 x172 x173 x174 x175 x176 x177 x178 x179 x180 x181 x182 x183 x184 : Value) (c' : Che) (N' : Nat) (w1 : World), QS w x p n0 R (· = q) c' c' N' w1 → N' ≤ N + 2 → Q .normal ⟨#[.slice a0 n0 c0, .int .i64 ((R : Nat) : Int), .slice a2 n2 c2, .slice a3 n3 c3, u4, u5, u6, u7, u8, x9, .pointer (some ⟨x.p, 0, none⟩), u11, .bool true, .pointer (some ⟨p, 0, none⟩), .int .i64 ((k : Nat) : Int), .pointer (some ⟨q, 0, none⟩), u16, x17, x18, x19, x20, x21, x22, x23, u24, u25, u26, u27, u28, u29, u30, u31, u32, u33, u34, u35, u36, u37, u38, u39, u40, u41, u42, u43, u44, u45, u46, u47, u48, u49, u50, u51, u52, u53, u54, u55, u56, u57, u58, u59, u60, u61, u62, u63, u64, u65, u66, u67, u68, u69, u70, u71, u72, u73, u74, u75, u76, u77, u78, u79, u80, u81, u82, u83, u84, u85, u86, u87, u88, u89, u90, u91, u92, u93, u94, u95, u96, x97, x98, x99, x100, x101, x102, x103, x104, x105, x106, x107, x108, x109, x110, x111, x112, x113, x114, x115, x116, x117, x118, x119, x120, x121, x122, x123, x124, x125, x126, x127, x128, x129, x130, x131, x132, x133, x134, x135, x136, x137, x138, x139, x140, x141, x142, x143, x144, x145, x146, x147, x148, x149, x150, x151, x152, x153, x154, x155, x156, x157, x158, x159, x160, x161, x162, x163, x164, x165, x166, x167, x168, x169, x170, x171, x172, x173, x174, x175, x176, x177, x178, x179, x180, x181, x182, x183, x184, u185, u186, u187, u188, u189, u190, u191, u192, u193, u194, u195, u196, u197, u198, u199, u200, u201, u202, u203, u204, u205, u206, u207, u208, u209, u210, u211, u212, u213, u214, u215, u216, u217, u218, u219, u220, u221, u222, u223, u224, u225], []⟩ w1) :
    Code.wp Tryd.prog (cut [1, 1, 1, 1, 1, 1, 1, 0, 1, 2, 5, 1, 0, 2, 1, 1, 1, 1, 0] (Tryd.f3.body.getD .skip)) Q ⟨#[.slice a0 n0 c0, .int .i64 ((R : Nat) : Int), .slice a2 n2 c2, .slice a3 n3 c3, u4, u5, u6, u7, u8, .int .i64 ((Che.cellE c (v 1) : Nat) : Int), .pointer (some ⟨x.p, 0, none⟩), u11, u12, .pointer (some ⟨p, 0, none⟩), .int .i64 ((k : Nat) : Int), .pointer (some ⟨q, 0, none⟩), u16, u17, u18, u19, u20, u21, u22, u23, u24, u25, u26, u27, u28, u29, u30, u31, u32, u33, u34, u35, u36, u37, u38, u39, u40, u41, u42, u43, u44, u45, u46, u47, u48, u49, u50, u51, u52, u53, u54, u55, u56, u57, u58, u59, u60, u61, u62, u63, u64, u65, u66, u67, u68, u69, u70, u71, u72, u73, u74, u75, u76, u77, u78, u79, u80, u81, u82, u83, u84, u85, u86, u87, u88, u89, u90, u91, u92, u93, u94, u95, u96, u97, u98, u99, u100, u101, u102, u103, u104, u105, u106, u107, u108, u109, u110, u111, u112, u113, u114, u115, u116, u117, u118, u119, u120, u121, u122, u123, u124, u125, u126, u127, u128, u129, u130, u131, u132, u133, u134, u135, u136, u137, u138, u139, u140, u141, u142, u143, u144, u145, u146, u147, u148, u149, u150, u151, u152, u153, u154, u155, u156, u157, u158, u159, u160, u161, u162, u163, u164, u165, u166, u167, u168, u169, u170, u171, u172, u173, u174, u175, u176, u177, u178, u179, u180, u181, u182, u183, u184, u185, u186, u187, u188, u189, u190, u191, u192, u193, u194, u195, u196, u197, u198, u199, u200, u201, u202, u203, u204, u205, u206, u207, u208, u209, u210, u211, u212, u213, u214, u215, u216, u217, u218, u219, u220, u221, u222, u223, u224, u225], []⟩ wc := by
  conv => arg 2; whnf
  have k0 := hV.at 0 (by omega)
  have k1 := hV.at 1 (by omega)
  have HQ : Hid _ := hQ
  have HS : Hid (QS w x p n0 R (· = q) c c N wc) := hS
  have HV : Hid (VQ w q wc v) := hV
  have hn40 : n0 ≤ 40 := by rw [← hS.hn]; exact hS.mc.ok.n40
  have HNQ : Hid (¬ x.F q) := (hS.hU q rfl).2.2
  have HE : Hid (∀ (kk : Nat) (w2 : World), Below w.heap.size w w2 → Calls Tryd.prog 7 #[errV kk, .int .i64 kk] w2 fun e w' => e = .returned (.bool true) ∧ Below w2.heap.size w2 w') := fun kk w2 h => err_v kk w2 (HG.out.old h)
  clear hQ hS hV
  rw [h0] at k0
  clear h0

  by_cases h3 : n3 = 0
  · obtain ⟨b, hb⟩ : ∃ b : List El, b = [] := ⟨_, rfl⟩
    obtain ⟨sx, hsx⟩ : ∃ sx, sx = sb b := ⟨_, rfl⟩
    have HSX : Hid (sx = sb b) := hsx
    have hsx0 : (⟨#[]⟩ : ByteArray) = sx := by rw [hsx, hb]; rfl
    have hz : ¬ (0 : Int) < (n3 : Int) := by omega
    clear hsx hb r4 h3
    go_upto_region 37 with fail
    rw [hsx0]
    clear hsx0
    have hsz : sx.size = b.length := by rw [HSX.out, sb_size]
    by_cases hw : c.writeE (v 1) b = 0
    · have hc0 : c.cellE (v 1) = 0 ∧ b.length ≤ 16 := by
        unfold Che.writeE at hw
        by_cases z : c.cellE (v 1) ≠ 0 ∨ 16 < b.length
        · rw [if_pos z] at hw; omega
        · omega
      obtain ⟨m, hm, hmn⟩ := Che.cell_nat hc0.1
      have HM : Hid (v 1 = (m : Int)) := hm
      obtain ⟨y, hp, hD, hy⟩ := HS.out.dc
      have C1 := dwrite_any hD HS.out.mc.ok HS.out.low.size hmn b hc0.2
      rw [hp] at C1
      have HDy : Hid (∀ w1, (∃ y', DS w.heap.size wc y w1 y' (c.write m b)) → QS w x p n0 R (· = q) c (c.write m b) N w1 ∧ But (fun k => ¬ (x.F k ∨ k = q)) wc w1) := fun w1 h => HS.out.docu hp hD hy h
      have hlz : ¬ (16 : Int) < (b.length : Int) := by omega
      have HB16 : Hid (b.length ≤ 16) := hc0.2
      rw [hc0.1]
      rw [hm] at k1
      clear hw hc0 hm hp hD hy
      unfold st at C1
      rw [← HSX.out] at C1
      go_wp2_with fail
      refine C1.mono ?_
      rintro e w2 ⟨rfl, hS2⟩
      obtain ⟨hQ2, hb2⟩ := HDy.out w2 hS2
      have HS2 : Hid (QS w x p n0 R (· = q) c (c.write m b) N w2) := hQ2
      have HV2 : Hid (VQ w q w2 v) := HV.out.docu hb2
      have d1 := HV2.out.at 1 (by omega)
      rw [HM.out] at d1
      have C2 := cwrite_ok hQ2.mc (by omega) hmn b HB16.out
      unfold st at C2
      rw [← HSX.out] at C2
      clear C1 hS2 hQ2 hb2 HDy HS HV k0 k1
      go_wp2_with fail
      refine C2.mono ?_
      rintro e w3 ⟨rfl, hM3, hb3⟩
      have HS3 : Hid (QS w x p n0 R (· = q) (c.write m b) (c.write m b) (N + 2) w3) := HS2.out.prog hM3 hb3 (write_nr' HS2.out.mc.ok m b).1 (write_nr' HS2.out.mc.ok m b).2
      have E3 := HE.out 0 w3 HS3.out.low
      clear C2 hM3 hb3 HS2 HV2 d1
      generalize errV 0 = ev at *
      go_wp2_with fail
      refine (show Calls Tryd.prog 7 #[ev, .int .i64 0] w3 _ from E3).mono ?_
      rintro e w4 ⟨rfl, hB4⟩
      have HS4 : Hid (QS w x p n0 R (· = q) (c.write m b) (c.write m b) (N + 2) w4) := HS3.out.old hB4
      clear E3 hB4 HS3
      go_wp2
      exact HQ.out _ _ _ _ _ _ _ _ _ _ _ _ _ _ _ _ _ _ _ _ _ _ _ _ _ _ _ _ _ _ _ _ _ _ _ _ _ _ _ _ _ _ _ _ _ _ _ _ _ _ _ _ _ _ _ _ _ _ _ _ _ _ _ _ _ _ _ _ _ _ _ _ _ _ _ _ _ _ _ _ _ _ _ _ _ _ _ _ _ _ _ _ _ _ _ _ _ _ _ HS4.out (Nat.le_refl _)
    · have C2 := cwrite_no HS.out.mc b hw
      unfold st at C2
      rw [← HSX.out] at C2
      have E3 := HE.out 1 wc HS.out.low
      by_cases hl16 : 16 < b.length
      · have hlz : (16 : Int) < (b.length : Int) := by omega
        clear hw hl16
        generalize c.cellE (v 1) = ce at *
        generalize v 1 = z at *
        generalize errV 1 = ev at *
        go_wp2_with fail
        refine C2.mono ?_
        rintro e w3 ⟨rfl, hw3⟩
        obtain rfl := hw3.symm
        clear C2 hw3
        go_wp2_with fail
        refine (show Calls Tryd.prog 7 #[ev, .int .i64 1] wc _ from E3).mono ?_
        rintro e w4 ⟨rfl, hB4⟩
        have HS4 : Hid (QS w x p n0 R (· = q) c c N w4) := HS.out.old hB4
        clear E3 hB4 HS HV
        go_wp2
        exact HQ.out _ _ _ _ _ _ _ _ _ _ _ _ _ _ _ _ _ _ _ _ _ _ _ _ _ _ _ _ _ _ _ _ _ _ _ _ _ _ _ _ _ _ _ _ _ _ _ _ _ _ _ _ _ _ _ _ _ _ _ _ _ _ _ _ _ _ _ _ _ _ _ _ _ _ _ _ _ _ _ _ _ _ _ _ _ _ _ _ _ _ _ _ _ _ _ _ _ _ _ HS4.out (by omega)
      · have hlz : ¬ (16 : Int) < (b.length : Int) := by omega
        have hce : c.cellE (v 1) = 1 := by
          have : c.cellE (v 1) ≠ 0 := fun q => hw (by unfold Che.writeE; rw [if_neg (by omega)])
          exact (Che.cell_bad this).2
        rw [hce]
        clear hw hl16 hce
        generalize v 1 = z at *
        generalize errV 1 = ev at *
        go_wp2_with fail
        refine C2.mono ?_
        rintro e w3 ⟨rfl, hw3⟩
        obtain rfl := hw3.symm
        clear C2 hw3
        go_wp2_with fail
        refine (show Calls Tryd.prog 7 #[ev, .int .i64 1] wc _ from E3).mono ?_
        rintro e w4 ⟨rfl, hB4⟩
        have HS4 : Hid (QS w x p n0 R (· = q) c c N w4) := HS.out.old hB4
        clear E3 hB4 HS HV
        go_wp2
        exact HQ.out _ _ _ _ _ _ _ _ _ _ _ _ _ _ _ _ _ _ _ _ _ _ _ _ _ _ _ _ _ _ _ _ _ _ _ _ _ _ _ _ _ _ _ _ _ _ _ _ _ _ _ _ _ _ _ _ _ _ _ _ _ _ _ _ _ _ _ _ _ _ _ _ _ _ _ _ _ _ _ _ _ _ _ _ _ _ _ _ _ _ _ _ _ _ _ _ _ _ _ HS4.out (by omega)
  · obtain ⟨kk, hkk, hkl⟩ : ∃ kk : Nat, (k : Int) % (n3 : Int) = (kk : Int) ∧ kk < n3 := ⟨k % n3, by omega, Nat.mod_lt _ (by omega)⟩
    obtain ⟨ad, rfl, hcl⟩ := r4.at kk hkl
    have hcl2 := (HS.out.low.cell (World.block_lt_of_cell? w _ hcl)).trans hcl
    obtain ⟨b, hb⟩ : ∃ b : List El, b = S3 kk := ⟨_, rfl⟩
    obtain ⟨sx, hsx⟩ : ∃ sx, sx = sb b := ⟨_, rfl⟩
    have HSX : Hid (sx = sb b) := hsx
    unfold st at hcl2
    rw [← hb, ← hsx] at hcl2
    have hz : (0 : Int) < (n3 : Int) := by omega
    have hz0 : ((n3 : Int) == 0) = false := by rw [beq_eq_false_iff_ne]; omega
    have hz1 : (kk : Int) < (n3 : Int) := by omega
    have hz2 : ¬ (n3 : Int) = 0 := by omega
    have hq0 : (0 : Int) ≤ (k : Int) % (n3 : Int) := by rw [hkk]; omega
    have hq1 : (k : Int) % (n3 : Int) < (n3 : Int) := by rw [hkk]; exact hz1
    have hk80' : (k : Int) < 80 := by omega
    clear hsx hb r4 hcl h3
    go_upto_region 37 with fail
    clear hcl2 hkk hq0 hq1 hz0 hz1 hz2
    have hsz : sx.size = b.length := by rw [HSX.out, sb_size]
    by_cases hw : c.writeE (v 1) b = 0
    · have hc0 : c.cellE (v 1) = 0 ∧ b.length ≤ 16 := by
        unfold Che.writeE at hw
        by_cases z : c.cellE (v 1) ≠ 0 ∨ 16 < b.length
        · rw [if_pos z] at hw; omega
        · omega
      obtain ⟨m, hm, hmn⟩ := Che.cell_nat hc0.1
      have HM : Hid (v 1 = (m : Int)) := hm
      obtain ⟨y, hp, hD, hy⟩ := HS.out.dc
      have C1 := dwrite_any hD HS.out.mc.ok HS.out.low.size hmn b hc0.2
      rw [hp] at C1
      have HDy : Hid (∀ w1, (∃ y', DS w.heap.size wc y w1 y' (c.write m b)) → QS w x p n0 R (· = q) c (c.write m b) N w1 ∧ But (fun k => ¬ (x.F k ∨ k = q)) wc w1) := fun w1 h => HS.out.docu hp hD hy h
      have hlz : ¬ (16 : Int) < (b.length : Int) := by omega
      have HB16 : Hid (b.length ≤ 16) := hc0.2
      rw [hc0.1]
      rw [hm] at k1
      clear hw hc0 hm hp hD hy
      unfold st at C1
      rw [← HSX.out] at C1
      go_wp2_with fail
      refine C1.mono ?_
      rintro e w2 ⟨rfl, hS2⟩
      obtain ⟨hQ2, hb2⟩ := HDy.out w2 hS2
      have HS2 : Hid (QS w x p n0 R (· = q) c (c.write m b) N w2) := hQ2
      have HV2 : Hid (VQ w q w2 v) := HV.out.docu hb2
      have d1 := HV2.out.at 1 (by omega)
      rw [HM.out] at d1
      have C2 := cwrite_ok hQ2.mc (by omega) hmn b HB16.out
      unfold st at C2
      rw [← HSX.out] at C2
      clear C1 hS2 hQ2 hb2 HDy HS HV k0 k1
      go_wp2_with fail
      refine C2.mono ?_
      rintro e w3 ⟨rfl, hM3, hb3⟩
      have HS3 : Hid (QS w x p n0 R (· = q) (c.write m b) (c.write m b) (N + 2) w3) := HS2.out.prog hM3 hb3 (write_nr' HS2.out.mc.ok m b).1 (write_nr' HS2.out.mc.ok m b).2
      have E3 := HE.out 0 w3 HS3.out.low
      clear C2 hM3 hb3 HS2 HV2 d1
      generalize errV 0 = ev at *
      go_wp2_with fail
      refine (show Calls Tryd.prog 7 #[ev, .int .i64 0] w3 _ from E3).mono ?_
      rintro e w4 ⟨rfl, hB4⟩
      have HS4 : Hid (QS w x p n0 R (· = q) (c.write m b) (c.write m b) (N + 2) w4) := HS3.out.old hB4
      clear E3 hB4 HS3
      go_wp2
      exact HQ.out _ _ _ _ _ _ _ _ _ _ _ _ _ _ _ _ _ _ _ _ _ _ _ _ _ _ _ _ _ _ _ _ _ _ _ _ _ _ _ _ _ _ _ _ _ _ _ _ _ _ _ _ _ _ _ _ _ _ _ _ _ _ _ _ _ _ _ _ _ _ _ _ _ _ _ _ _ _ _ _ _ _ _ _ _ _ _ _ _ _ _ _ _ _ _ _ _ _ _ HS4.out (Nat.le_refl _)
    · have C2 := cwrite_no HS.out.mc b hw
      unfold st at C2
      rw [← HSX.out] at C2
      have E3 := HE.out 1 wc HS.out.low
      by_cases hl16 : 16 < b.length
      · have hlz : (16 : Int) < (b.length : Int) := by omega
        clear hw hl16
        generalize c.cellE (v 1) = ce at *
        generalize v 1 = z at *
        generalize errV 1 = ev at *
        go_wp2_with fail
        refine C2.mono ?_
        rintro e w3 ⟨rfl, hw3⟩
        obtain rfl := hw3.symm
        clear C2 hw3
        go_wp2_with fail
        refine (show Calls Tryd.prog 7 #[ev, .int .i64 1] wc _ from E3).mono ?_
        rintro e w4 ⟨rfl, hB4⟩
        have HS4 : Hid (QS w x p n0 R (· = q) c c N w4) := HS.out.old hB4
        clear E3 hB4 HS HV
        go_wp2
        exact HQ.out _ _ _ _ _ _ _ _ _ _ _ _ _ _ _ _ _ _ _ _ _ _ _ _ _ _ _ _ _ _ _ _ _ _ _ _ _ _ _ _ _ _ _ _ _ _ _ _ _ _ _ _ _ _ _ _ _ _ _ _ _ _ _ _ _ _ _ _ _ _ _ _ _ _ _ _ _ _ _ _ _ _ _ _ _ _ _ _ _ _ _ _ _ _ _ _ _ _ _ HS4.out (by omega)
      · have hlz : ¬ (16 : Int) < (b.length : Int) := by omega
        have hce : c.cellE (v 1) = 1 := by
          have : c.cellE (v 1) ≠ 0 := fun q => hw (by unfold Che.writeE; rw [if_neg (by omega)])
          exact (Che.cell_bad this).2
        rw [hce]
        clear hw hl16 hce
        generalize v 1 = z at *
        generalize errV 1 = ev at *
        go_wp2_with fail
        refine C2.mono ?_
        rintro e w3 ⟨rfl, hw3⟩
        obtain rfl := hw3.symm
        clear C2 hw3
        go_wp2_with fail
        refine (show Calls Tryd.prog 7 #[ev, .int .i64 1] wc _ from E3).mono ?_
        rintro e w4 ⟨rfl, hB4⟩
        have HS4 : Hid (QS w x p n0 R (· = q) c c N w4) := HS.out.old hB4
        clear E3 hB4 HS HV
        go_wp2
        exact HQ.out _ _ _ _ _ _ _ _ _ _ _ _ _ _ _ _ _ _ _ _ _ _ _ _ _ _ _ _ _ _ _ _ _ _ _ _ _ _ _ _ _ _ _ _ _ _ _ _ _ _ _ _ _ _ _ _ _ _ _ _ _ _ _ _ _ _ _ _ _ _ _ _ _ _ _ _ _ _ _ _ _ _ _ _ _ _ _ _ _ _ _ _ _ _ _ _ _ _ _ HS4.out (by omega)
end Go.Proofs.YtfeikmmojilmbaaDoor
