/- IntentPlays, a piece: walks over the program. -/
import Derived.Test.YtacfafbnimhibaaDoorIPb
import Derived.Test.YtacfafbnimhibaaDoorItC
namespace Go.Proofs.YtacfafbnimhibaaDoor
open Go.RowKit Go.Maps
set_option linter.unusedVariables false in
set_option maxRecDepth 1000000 in
set_option maxHeartbeats 4000000 in
theorem p_begin0 (wide n1 c1 p b g : Nat) (a1 : Option Addr) (w : World) (k q N : Nat) (t : Itn) (v : Nat → Int) (u2 u3 u4 u7 u8 u12 u14 u15 u16 u17 u18 u19 u20 u21 u22 u23 u24 u25 u26 u27 u28 u29 u30 u31 u32 u33 u34 u35 u36 u37 u38 u39 u40 u41 u42 u43 u44 u45 u46 u47 u48 u49 u50 u51 u52 u53 u54 u55 u56 u57 u58 u59 u60 u61 u62 u63 u64 u65 u66 u67 u68 u69 u70 u71 u72 u73 u74 u75 u76 u77 u78 u79 u80 u81 u82 u83 u84 u85 u86 u87 u88 u89 u90 u91 u92 u93 u94 u95 u96 u97 u98 u99 u100 u101 u102 u103 u104 u105 u106 u107 u108 u109 u110 u111 u112 u113 u114 u115 u116 u117 u118 u119 u120 u121 u122 u123 u124 u125 u126 u127 u128 u129 u130 u131 u132 u133 u134 u135 u136 u137 u138 u139 u140 u141 u142 u143 u144 u145 u146 u147 u148 u149 u150 u151 u152 u153 u154 u155 u156 u157 u158 u159 u160 u161 u162 u163 u164 u165 u166 u167 u168 u169 u170 u171 u172 u173 u174 u175 u176 u177 u178 u179 u180 u181 u182 u183 u184 u185 u186 u187 u188 u189 u190 u191 u192 u193 u194 u195 u196 u197 u198 u199 u200 u201 u202 u203 u204 u205 u206 u207 u208 u209 u210 u211 u212 u213 u214 u215 u216 u217 u218 : Value) (wc : World) (Q : Exit → Act → World → Prop)
    (h1 : 1 ≤ wide) (h2 : wide ≤ 40) (hN : N ≤ 900) (HG : Hid (Handle w)) (hS : PX w p b g wide t N wc) (hV : VN w (PF p b g) q 2 wc v) (h0 : v 0 = 0)
    (hQ : ∀ (x5 x14 x15 x16 x17 x18 x19 x87 x88 x89 x90 x91 x92 x93 x94 x95 x96 x97 x98 x99 x100 x101 x102 x103 x104 x105 x106 x107 x108 x109 x110 x111 x112 x113 x114 x115 x116 x117 x118 x119 x120 x121 x122 x123 x124 x125 x126 x127 x128 x129 x130 x131 x132 x133 x134 x135 x136 x137 x138 x139 x140 x141 x142 x143 x144 x145 x146 x147 x148 x149 x150 x151 x152 x153 x154 x155 x156 x157 x158 x159 x160 x161 x162 x163 x164 x165 x166 x167 x168 x169 x170 x171 x172 x173 x174 x175 x176 x177 x178 x179 x180 x181 x182 x183 x184 x185 x186 x187 x188 x189 x190 x191 x192 x193 x194 x195 x196 x197 x198 x199 x200 x201 x202 x203 x204 x205 x206 x207 : Value) (t' : Itn) (N' : Nat) (w1 : World), PX w p b g wide t' N' w1 → N' ≤ N + 1 → Q .normal ⟨#[.int .i64 wide, .slice a1 n1 c1, u2, u3, u4, x5, .pointer (some ⟨p, 0, none⟩), u7, .bool true, .pointer (some ⟨g, 0, none⟩), .int .i64 ((k : Nat) : Int), .pointer (some ⟨q, 0, none⟩), u12, .bool (!decide (Itn.noC (v 1))), x14, x15, x16, x17, x18, x19, u20, u21, u22, u23, u24, u25, u26, u27, u28, u29, u30, u31, u32, u33, u34, u35, u36, u37, u38, u39, u40, u41, u42, u43, u44, u45, u46, u47, u48, u49, u50, u51, u52, u53, u54, u55, u56, u57, u58, u59, u60, u61, u62, u63, u64, u65, u66, u67, u68, u69, u70, u71, u72, u73, u74, u75, u76, u77, u78, u79, u80, u81, u82, u83, u84, u85, u86, x87, x88, x89, x90, x91, x92, x93, x94, x95, x96, x97, x98, x99, x100, x101, x102, x103, x104, x105, x106, x107, x108, x109, x110, x111, x112, x113, x114, x115, x116, x117, x118, x119, x120, x121, x122, x123, x124, x125, x126, x127, x128, x129, x130, x131, x132, x133, x134, x135, x136, x137, x138, x139, x140, x141, x142, x143, x144, x145, x146, x147, x148, x149, x150, x151, x152, x153, x154, x155, x156, x157, x158, x159, x160, x161, x162, x163, x164, x165, x166, x167, x168, x169, x170, x171, x172, x173, x174, x175, x176, x177, x178, x179, x180, x181, x182, x183, x184, x185, x186, x187, x188, x189, x190, x191, x192, x193, x194, x195, x196, x197, x198, x199, x200, x201, x202, x203, x204, x205, x206, x207, u208, u209, u210, u211, u212, u213, u214, u215, u216, u217, u218], []⟩ w1) :
    Code.wp Tryd.prog (cut [1, 1, 1, 1, 1, 1, 1, 0, 1, 2, 5, 1, 0, 2, 1, 1, 1, 1, 1, 0] (Tryd.f3.body.getD .skip)) Q ⟨#[.int .i64 wide, .slice a1 n1 c1, u2, u3, u4, .int .i64 ((Itn.beginE (v 1) : Nat) : Int), .pointer (some ⟨p, 0, none⟩), u7, u8, .pointer (some ⟨g, 0, none⟩), .int .i64 ((k : Nat) : Int), .pointer (some ⟨q, 0, none⟩), u12, .bool (!decide (Itn.noC (v 1))), u14, u15, u16, u17, u18, u19, u20, u21, u22, u23, u24, u25, u26, u27, u28, u29, u30, u31, u32, u33, u34, u35, u36, u37, u38, u39, u40, u41, u42, u43, u44, u45, u46, u47, u48, u49, u50, u51, u52, u53, u54, u55, u56, u57, u58, u59, u60, u61, u62, u63, u64, u65, u66, u67, u68, u69, u70, u71, u72, u73, u74, u75, u76, u77, u78, u79, u80, u81, u82, u83, u84, u85, u86, u87, u88, u89, u90, u91, u92, u93, u94, u95, u96, u97, u98, u99, u100, u101, u102, u103, u104, u105, u106, u107, u108, u109, u110, u111, u112, u113, u114, u115, u116, u117, u118, u119, u120, u121, u122, u123, u124, u125, u126, u127, u128, u129, u130, u131, u132, u133, u134, u135, u136, u137, u138, u139, u140, u141, u142, u143, u144, u145, u146, u147, u148, u149, u150, u151, u152, u153, u154, u155, u156, u157, u158, u159, u160, u161, u162, u163, u164, u165, u166, u167, u168, u169, u170, u171, u172, u173, u174, u175, u176, u177, u178, u179, u180, u181, u182, u183, u184, u185, u186, u187, u188, u189, u190, u191, u192, u193, u194, u195, u196, u197, u198, u199, u200, u201, u202, u203, u204, u205, u206, u207, u208, u209, u210, u211, u212, u213, u214, u215, u216, u217, u218], []⟩ wc := by
  conv => arg 2; whnf
  have c0 := hV.at 0 (by omega)
  have c1 := hV.at 1 (by omega)
  obtain ⟨hC, hw⟩ := hS
  have HQ : Hid _ := hQ
  have HC : Hid (PI w p b g t t N wc) := hC
  have HW : Hid (t.wide = wide) := hw
  have HV : Hid (VN w (PF p b g) q 2 wc v) := hV
  have HE : Hid (∀ (kk : Nat) (w2 : World), Below w.heap.size w w2 → Calls Tryd.prog 8 #[errV kk, .int .i64 kk] w2 fun e w' => e = .returned (.bool true) ∧ Below w2.heap.size w2 w') := fun kk w2 h => err_v kk w2 (HG.out.old h)
  clear hQ hC hw hV
  rw [h0] at c0
  clear h0

  by_cases hno : Itn.noC (v 1)
  · have C := ibegin_no wc p t (v 1) hno
    have e3 : Itn.beginE (v 1) = 1 := if_pos hno
    have e4 : t.beginB (v 1) = false := if_pos hno
    rw [e3, e4] at C
    rw [decide_eq_true hno] at HQ ⊢
    rw [e3]
    have E2 := HE.out 1 wc HC.out.low
    have HS2 : Hid (PX w p b g wide t N wc) := ⟨HC.out, HW.out⟩
    clear e3 e4 hno HE HC HW
    generalize v 1 = z at *
    generalize errV 1 = ev at *
    go_wp2_with fail
    refine C.mono ?_
    rintro e w2 ⟨rfl, hw2⟩
    obtain rfl := hw2.symm
    clear C hw2
    go_wp2_with fail
    refine E2.mono ?_
    rintro e w3 ⟨rfl, hB3⟩
    have HS3 : Hid (PX w p b g wide t N w3) := ⟨HS2.out.1.old hB3, HS2.out.2⟩
    clear E2 hB3 HS2
    go_wp2
    exact HQ.out _ _ _ _ _ _ _ _ _ _ _ _ _ _ _ _ _ _ _ _ _ _ _ _ _ _ _ _ _ _ _ _ _ _ _ _ _ _ _ _ _ _ _ _ _ _ _ _ _ _ _ _ _ _ _ _ _ _ _ _ _ _ _ _ _ _ _ _ _ _ _ _ _ _ _ _ _ _ _ _ _ _ _ _ _ _ _ _ _ _ _ _ _ _ _ _ _ _ _ _ _ _ _ _ _ _ _ _ _ _ _ _ _ _ _ _ _ _ _ _ _ _ _ _ _ _ _ _ _ _ _ HS3.out (Nat.le_succ _)
  · obtain ⟨m, hm, hm40⟩ := Itn.noC_nat hno
    have e3 : Itn.beginE (v 1) = 0 := if_neg hno
    have e5 : Itn.beginE (m : Int) = 0 := if_neg (noC_of hm40)
    rw [decide_eq_false hno] at HQ ⊢
    rw [e3]
    have HM : Hid (v 1 = (m : Int)) := hm
    rw [hm] at c1
    clear e3 hno hm
    have hle := HC.out.il.int.le m
    have hmz : (m : Int) < 40 := by omega
    have hq := quo_nat m wide
    have hql : m / wide ≤ m := Nat.div_le_self _ _
    obtain ⟨r, hr⟩ : ∃ r, m / wide = r := ⟨_, rfl⟩
    have HR : Hid (t.reg m = r) := by (show _ = _); unfold Itn.reg; rw [HW.out]; exact hr
    rw [hr] at hq hql
    have hr40 : r < 40 := by omega
    have hrz : (r : Int) < 40 := by omega
    have hr0 : (0 : Int) ≤ (r : Int) := Int.natCast_nonneg _
    have hwz : ((wide : Int) == 0) = false := by simp; omega
    have hww : (wide : Int) ≤ 40 := by omega
    have hw1 : (1 : Int) ≤ (wide : Int) := by omega
    clear hr
    obtain ⟨d, hd⟩ : ∃ d, t.dirty r = d := ⟨_, rfl⟩
    have HD : Hid (t.dirty r = d) := hd
    clear hd
    have cd : wc.cell? ⟨g, 41 + r, none⟩ = some (.bool d) := by rw [← HD.out]; exact HC.out.doc.c41 r hr40
    have HB : Hid (t.begin' (m : Int) = ⟨t.wide, up t.many m (t.many m + 1), up t.dirty r true⟩ ∧ t.beginB (m : Int) = !d) := by
      refine ⟨?_, ?_⟩
      · unfold Itn.begin'
        rw [if_neg (noC_of hm40), Int.toNat_natCast, HR.out]
      · unfold Itn.beginB
        rw [if_neg (noC_of hm40), Int.toNat_natCast, HR.out, HD.out]
    go_upto_region 28 with fail
    go_quiet (fail)
    have S1 := HC.out.drewN nq
    have V1 := HV.out.old (below_drewN (Below.refl wc.heap.size wc) nq)
    generalize wc.drewN nq = wd at *
    have HS1 : Hid (PI w p b g t t N wd) := S1
    have HV1 : Hid (VN w (PF p b g) q 2 wd v) := V1
    clear S1 V1 HC HV cd c1 c0
    have c1 : wd.cell? ⟨q, 1, none⟩ = some (.int .i64 (m : Int)) := by rw [← HM.out]; exact HV1.out.at 1 (by omega)
    have cd : wd.cell? ⟨g, 41 + r, none⟩ = some (.bool d) := by rw [← HD.out]; exact HS1.out.doc.c41 r hr40
    have fd := HS1.out.doc.frozen (41 + r)
    have HS2 : Hid (∀ n, PI w p b g t ⟨t.wide, t.many, up t.dirty r true⟩ N ((wd.drewN n).setCell ⟨g, 41 + r, none⟩ (.bool true))) := fun n => (HS1.out.drewN n).onD ((HS1.out.drewN n).doc.putD r true) ((But.refl (· = g) _).setCell (p := ⟨g, 41 + r, none⟩) rfl _)
    have HV2 : Hid (∀ n, VN w (PF p b g) q 2 ((wd.drewN n).setCell ⟨g, 41 + r, none⟩ (.bool true)) v) := fun n => (HV1.out.old (below_drewN (Below.refl _ _) n)).but ((But.refl (· = g) _).setCell (p := ⟨g, 41 + r, none⟩) rfl _) (fun _ => eq_PF)
    go_upto_region 29 with fail
    refine region_last 8 (by kernel_rfl) (by kernel_rfl) ?_
    simp only [List.take_succ_cons, List.take_zero, List.drop_succ_cons, List.drop_zero]
    repeat (go_big_quiet_step (fail))
    refine wpQuiet_nil ?_
    intro w9 hw9
    obtain ⟨n9, rfl⟩ := hw9
    have S3 := HS2.out n9
    have V3 := HV2.out n9
    have HS3 : Hid (PI w p b g t ⟨t.wide, t.many, up t.dirty r true⟩ N ((wd.drewN n9).setCell ⟨g, 41 + r, none⟩ (.bool true))) := S3
    have HV3 : Hid (VN w (PF p b g) q 2 ((wd.drewN n9).setCell ⟨g, 41 + r, none⟩ (.bool true)) v) := V3
    clear S3 V3 HS2 HV2 HS1 HV1
    go_upto_region 30 with fail
    generalize (wd.drewN n9).setCell ⟨g, 41 + r, none⟩ (.bool true) = we at *
    clear cd fd c1
    have c1 : we.cell? ⟨q, 1, none⟩ = some (.int .i64 (m : Int)) := by rw [← HM.out]; exact HV3.out.at 1 (by omega)
    have cm : we.cell? ⟨g, 1 + m, none⟩ = some (.int .i64 ((t.many m : Nat) : Int)) := HS3.out.doc.c1 m hm40
    have fm := HS3.out.doc.frozen (1 + m)
    have HS4 : Hid (∀ n, PI w p b g t (t.begin' (m : Int)) N ((we.drewN n).setCell ⟨g, 1 + m, none⟩ (.int .i64 ((t.many m + 1 : Nat) : Int)))) := fun n => by rw [HB.out.1]; exact (HS3.out.drewN n).onD ((HS3.out.drewN n).doc.putM m (t.many m + 1) hm40) ((But.refl (· = g) _).setCell (p := ⟨g, 1 + m, none⟩) rfl _)
    have HV4 : Hid (∀ n, VN w (PF p b g) q 2 ((we.drewN n).setCell ⟨g, 1 + m, none⟩ (.int .i64 ((t.many m + 1 : Nat) : Int))) v) := fun n => (HV3.out.old (below_drewN (Below.refl _ _) n)).but ((But.refl (· = g) _).setCell (p := ⟨g, 1 + m, none⟩) rfl _) (fun _ => eq_PF)
    have hmy : ((t.many m : Nat) : Int) ≤ 1000 := by omega
    clear HS3 HV3
    obtain ⟨mm, hmm⟩ : ∃ mm, t.many m = mm := ⟨_, rfl⟩
    rw [hmm] at cm HS4 HV4 hmy
    clear hmm hle
    refine region_last 11 (by kernel_rfl) (by kernel_rfl) ?_
    simp only [List.take_succ_cons, List.take_zero, List.drop_succ_cons, List.drop_zero]
    repeat (go_big_quiet_step (fail))
    refine wpQuiet_nil ?_
    intro w8 hw8
    obtain ⟨n8, rfl⟩ := hw8
    have S5 := HS4.out n8
    have V5 := HV4.out n8
    have HS5 : Hid (PI w p b g t (t.begin' (m : Int)) N ((we.drewN n8).setCell ⟨g, 1 + m, none⟩ (.int .i64 ((mm + 1 : Nat) : Int)))) := S5
    have HV5 : Hid (VN w (PF p b g) q 2 ((we.drewN n8).setCell ⟨g, 1 + m, none⟩ (.int .i64 ((mm + 1 : Nat) : Int))) v) := V5
    clear S5 V5 HS4 HV4
    have hN1 : ((mm + 1 : Nat) : Int) = (mm : Int) + 1 := by omega
    rw [hN1] at HS5 HV5
    clear hN1
    go_upto_region 31 with fail
    generalize (we.drewN n8).setCell ⟨g, 1 + m, none⟩ (.int .i64 ((mm : Int) + 1)) = wf at *
    clear cm fm c1
    have c1 : wf.cell? ⟨q, 1, none⟩ = some (.int .i64 (m : Int)) := by rw [← HM.out]; exact HV5.out.at 1 (by omega)
    have C := ibegin_ok HS5.out.il.int (by omega) m hm40
    rw [HB.out.2, e5] at C
    generalize hev : errV 0 = ev at C
    go_wp2_with fail
    refine C.mono ?_
    rintro e w2 ⟨rfl, hI2, hb2⟩
    have HS2 : Hid (PX w p b g wide (t.begin' (m : Int)) (N + 1) w2) := ⟨HS5.out.on hI2 hb2, by rw [HB.out.1]; exact HW.out⟩
    have E2 := HE.out 0 w2 HS2.out.1.low
    rw [hev] at E2
    clear C hI2 hb2 HS5 HV5 HE HW HD HB HR HM c1 e5 hev
    go_wp2_with fail
    refine E2.mono ?_
    rintro e w3 ⟨rfl, hB3⟩
    have HS3 : Hid (PX w p b g wide (t.begin' (m : Int)) (N + 1) w3) := ⟨HS2.out.1.old hB3, HS2.out.2⟩
    clear E2 hB3 HS2
    go_wp2
    exact HQ.out _ _ _ _ _ _ _ _ _ _ _ _ _ _ _ _ _ _ _ _ _ _ _ _ _ _ _ _ _ _ _ _ _ _ _ _ _ _ _ _ _ _ _ _ _ _ _ _ _ _ _ _ _ _ _ _ _ _ _ _ _ _ _ _ _ _ _ _ _ _ _ _ _ _ _ _ _ _ _ _ _ _ _ _ _ _ _ _ _ _ _ _ _ _ _ _ _ _ _ _ _ _ _ _ _ _ _ _ _ _ _ _ _ _ _ _ _ _ _ _ _ _ _ _ _ _ _ _ _ _ _ HS3.out (Nat.le_refl _)

set_option linter.unusedVariables false in
set_option maxRecDepth 1000000 in
set_option maxHeartbeats 4000000 in
theorem p_begin1 (wide n1 c1 p b g : Nat) (a1 : Option Addr) (w : World) (k q N : Nat) (t : Itn) (v : Nat → Int) (u2 u3 u4 u7 u8 u12 u14 u15 u16 u17 u18 u19 u20 u21 u22 u23 u24 u25 u26 u27 u28 u29 u30 u31 u32 u33 u34 u35 u36 u37 u38 u39 u40 u41 u42 u43 u44 u45 u46 u47 u48 u49 u50 u51 u52 u53 u54 u55 u56 u57 u58 u59 u60 u61 u62 u63 u64 u65 u66 u67 u68 u69 u70 u71 u72 u73 u74 u75 u76 u77 u78 u79 u80 u81 u82 u83 u84 u85 u86 u87 u88 u89 u90 u91 u92 u93 u94 u95 u96 u97 u98 u99 u100 u101 u102 u103 u104 u105 u106 u107 u108 u109 u110 u111 u112 u113 u114 u115 u116 u117 u118 u119 u120 u121 u122 u123 u124 u125 u126 u127 u128 u129 u130 u131 u132 u133 u134 u135 u136 u137 u138 u139 u140 u141 u142 u143 u144 u145 u146 u147 u148 u149 u150 u151 u152 u153 u154 u155 u156 u157 u158 u159 u160 u161 u162 u163 u164 u165 u166 u167 u168 u169 u170 u171 u172 u173 u174 u175 u176 u177 u178 u179 u180 u181 u182 u183 u184 u185 u186 u187 u188 u189 u190 u191 u192 u193 u194 u195 u196 u197 u198 u199 u200 u201 u202 u203 u204 u205 u206 u207 u208 u209 u210 u211 u212 u213 u214 u215 u216 u217 u218 : Value) (wc : World) (Q : Exit → Act → World → Prop)
    (h1 : 1 ≤ wide) (h2 : wide ≤ 40) (hN : N ≤ 900) (HG : Hid (Handle w)) (hS : PX w p b g wide t N wc) (hV : VN w (PF p b g) q 2 wc v) (h0 : v 0 = 1)
    (hQ : ∀ (x5 x14 x15 x16 x17 x18 x19 x87 x88 x89 x90 x91 x92 x93 x94 x95 x96 x97 x98 x99 x100 x101 x102 x103 x104 x105 x106 x107 x108 x109 x110 x111 x112 x113 x114 x115 x116 x117 x118 x119 x120 x121 x122 x123 x124 x125 x126 x127 x128 x129 x130 x131 x132 x133 x134 x135 x136 x137 x138 x139 x140 x141 x142 x143 x144 x145 x146 x147 x148 x149 x150 x151 x152 x153 x154 x155 x156 x157 x158 x159 x160 x161 x162 x163 x164 x165 x166 x167 x168 x169 x170 x171 x172 x173 x174 x175 x176 x177 x178 x179 x180 x181 x182 x183 x184 x185 x186 x187 x188 x189 x190 x191 x192 x193 x194 x195 x196 x197 x198 x199 x200 x201 x202 x203 x204 x205 x206 x207 : Value) (t' : Itn) (N' : Nat) (w1 : World), PX w p b g wide t' N' w1 → N' ≤ N + 1 → Q .normal ⟨#[.int .i64 wide, .slice a1 n1 c1, u2, u3, u4, x5, .pointer (some ⟨p, 0, none⟩), u7, .bool true, .pointer (some ⟨g, 0, none⟩), .int .i64 ((k : Nat) : Int), .pointer (some ⟨q, 0, none⟩), u12, .bool (!decide (Itn.noC (v 1))), x14, x15, x16, x17, x18, x19, u20, u21, u22, u23, u24, u25, u26, u27, u28, u29, u30, u31, u32, u33, u34, u35, u36, u37, u38, u39, u40, u41, u42, u43, u44, u45, u46, u47, u48, u49, u50, u51, u52, u53, u54, u55, u56, u57, u58, u59, u60, u61, u62, u63, u64, u65, u66, u67, u68, u69, u70, u71, u72, u73, u74, u75, u76, u77, u78, u79, u80, u81, u82, u83, u84, u85, u86, x87, x88, x89, x90, x91, x92, x93, x94, x95, x96, x97, x98, x99, x100, x101, x102, x103, x104, x105, x106, x107, x108, x109, x110, x111, x112, x113, x114, x115, x116, x117, x118, x119, x120, x121, x122, x123, x124, x125, x126, x127, x128, x129, x130, x131, x132, x133, x134, x135, x136, x137, x138, x139, x140, x141, x142, x143, x144, x145, x146, x147, x148, x149, x150, x151, x152, x153, x154, x155, x156, x157, x158, x159, x160, x161, x162, x163, x164, x165, x166, x167, x168, x169, x170, x171, x172, x173, x174, x175, x176, x177, x178, x179, x180, x181, x182, x183, x184, x185, x186, x187, x188, x189, x190, x191, x192, x193, x194, x195, x196, x197, x198, x199, x200, x201, x202, x203, x204, x205, x206, x207, u208, u209, u210, u211, u212, u213, u214, u215, u216, u217, u218], []⟩ w1) :
    Code.wp Tryd.prog (cut [1, 1, 1, 1, 1, 1, 1, 0, 1, 2, 5, 1, 0, 2, 1, 1, 1, 1, 1, 0] (Tryd.f3.body.getD .skip)) Q ⟨#[.int .i64 wide, .slice a1 n1 c1, u2, u3, u4, .int .i64 ((Itn.beginE (v 1) : Nat) : Int), .pointer (some ⟨p, 0, none⟩), u7, u8, .pointer (some ⟨g, 0, none⟩), .int .i64 ((k : Nat) : Int), .pointer (some ⟨q, 0, none⟩), u12, .bool (!decide (Itn.noC (v 1))), u14, u15, u16, u17, u18, u19, u20, u21, u22, u23, u24, u25, u26, u27, u28, u29, u30, u31, u32, u33, u34, u35, u36, u37, u38, u39, u40, u41, u42, u43, u44, u45, u46, u47, u48, u49, u50, u51, u52, u53, u54, u55, u56, u57, u58, u59, u60, u61, u62, u63, u64, u65, u66, u67, u68, u69, u70, u71, u72, u73, u74, u75, u76, u77, u78, u79, u80, u81, u82, u83, u84, u85, u86, u87, u88, u89, u90, u91, u92, u93, u94, u95, u96, u97, u98, u99, u100, u101, u102, u103, u104, u105, u106, u107, u108, u109, u110, u111, u112, u113, u114, u115, u116, u117, u118, u119, u120, u121, u122, u123, u124, u125, u126, u127, u128, u129, u130, u131, u132, u133, u134, u135, u136, u137, u138, u139, u140, u141, u142, u143, u144, u145, u146, u147, u148, u149, u150, u151, u152, u153, u154, u155, u156, u157, u158, u159, u160, u161, u162, u163, u164, u165, u166, u167, u168, u169, u170, u171, u172, u173, u174, u175, u176, u177, u178, u179, u180, u181, u182, u183, u184, u185, u186, u187, u188, u189, u190, u191, u192, u193, u194, u195, u196, u197, u198, u199, u200, u201, u202, u203, u204, u205, u206, u207, u208, u209, u210, u211, u212, u213, u214, u215, u216, u217, u218], []⟩ wc := by
  conv => arg 2; whnf
  have c0 := hV.at 0 (by omega)
  have c1 := hV.at 1 (by omega)
  obtain ⟨hC, hw⟩ := hS
  have HQ : Hid _ := hQ
  have HC : Hid (PI w p b g t t N wc) := hC
  have HW : Hid (t.wide = wide) := hw
  have HV : Hid (VN w (PF p b g) q 2 wc v) := hV
  have HE : Hid (∀ (kk : Nat) (w2 : World), Below w.heap.size w w2 → Calls Tryd.prog 8 #[errV kk, .int .i64 kk] w2 fun e w' => e = .returned (.bool true) ∧ Below w2.heap.size w2 w') := fun kk w2 h => err_v kk w2 (HG.out.old h)
  clear hQ hC hw hV
  rw [h0] at c0
  clear h0

  by_cases hno : Itn.noC (v 1)
  · have C := ibegin_no wc p t (v 1) hno
    have e3 : Itn.beginE (v 1) = 1 := if_pos hno
    have e4 : t.beginB (v 1) = false := if_pos hno
    rw [e3, e4] at C
    rw [decide_eq_true hno] at HQ ⊢
    rw [e3]
    have E2 := HE.out 1 wc HC.out.low
    have HS2 : Hid (PX w p b g wide t N wc) := ⟨HC.out, HW.out⟩
    clear e3 e4 hno HE HC HW
    generalize v 1 = z at *
    generalize errV 1 = ev at *
    go_wp2_with fail
    refine C.mono ?_
    rintro e w2 ⟨rfl, hw2⟩
    obtain rfl := hw2.symm
    clear C hw2
    go_wp2_with fail
    refine E2.mono ?_
    rintro e w3 ⟨rfl, hB3⟩
    have HS3 : Hid (PX w p b g wide t N w3) := ⟨HS2.out.1.old hB3, HS2.out.2⟩
    clear E2 hB3 HS2
    go_wp2
    exact HQ.out _ _ _ _ _ _ _ _ _ _ _ _ _ _ _ _ _ _ _ _ _ _ _ _ _ _ _ _ _ _ _ _ _ _ _ _ _ _ _ _ _ _ _ _ _ _ _ _ _ _ _ _ _ _ _ _ _ _ _ _ _ _ _ _ _ _ _ _ _ _ _ _ _ _ _ _ _ _ _ _ _ _ _ _ _ _ _ _ _ _ _ _ _ _ _ _ _ _ _ _ _ _ _ _ _ _ _ _ _ _ _ _ _ _ _ _ _ _ _ _ _ _ _ _ _ _ _ _ _ _ _ HS3.out (Nat.le_succ _)
  · obtain ⟨m, hm, hm40⟩ := Itn.noC_nat hno
    have e3 : Itn.beginE (v 1) = 0 := if_neg hno
    have e5 : Itn.beginE (m : Int) = 0 := if_neg (noC_of hm40)
    rw [decide_eq_false hno] at HQ ⊢
    rw [e3]
    have HM : Hid (v 1 = (m : Int)) := hm
    rw [hm] at c1
    clear e3 hno hm
    have hle := HC.out.il.int.le m
    have hmz : (m : Int) < 40 := by omega
    have hq := quo_nat m wide
    have hql : m / wide ≤ m := Nat.div_le_self _ _
    obtain ⟨r, hr⟩ : ∃ r, m / wide = r := ⟨_, rfl⟩
    have HR : Hid (t.reg m = r) := by (show _ = _); unfold Itn.reg; rw [HW.out]; exact hr
    rw [hr] at hq hql
    have hr40 : r < 40 := by omega
    have hrz : (r : Int) < 40 := by omega
    have hr0 : (0 : Int) ≤ (r : Int) := Int.natCast_nonneg _
    have hwz : ((wide : Int) == 0) = false := by simp; omega
    have hww : (wide : Int) ≤ 40 := by omega
    have hw1 : (1 : Int) ≤ (wide : Int) := by omega
    clear hr
    obtain ⟨d, hd⟩ : ∃ d, t.dirty r = d := ⟨_, rfl⟩
    have HD : Hid (t.dirty r = d) := hd
    clear hd
    have cd : wc.cell? ⟨g, 41 + r, none⟩ = some (.bool d) := by rw [← HD.out]; exact HC.out.doc.c41 r hr40
    have HB : Hid (t.begin' (m : Int) = ⟨t.wide, up t.many m (t.many m + 1), up t.dirty r true⟩ ∧ t.beginB (m : Int) = !d) := by
      refine ⟨?_, ?_⟩
      · unfold Itn.begin'
        rw [if_neg (noC_of hm40), Int.toNat_natCast, HR.out]
      · unfold Itn.beginB
        rw [if_neg (noC_of hm40), Int.toNat_natCast, HR.out, HD.out]
    go_upto_region 28 with fail
    go_quiet (fail)
    have S1 := HC.out.drewN nq
    have V1 := HV.out.old (below_drewN (Below.refl wc.heap.size wc) nq)
    generalize wc.drewN nq = wd at *
    have HS1 : Hid (PI w p b g t t N wd) := S1
    have HV1 : Hid (VN w (PF p b g) q 2 wd v) := V1
    clear S1 V1 HC HV cd c1 c0
    have c1 : wd.cell? ⟨q, 1, none⟩ = some (.int .i64 (m : Int)) := by rw [← HM.out]; exact HV1.out.at 1 (by omega)
    have cd : wd.cell? ⟨g, 41 + r, none⟩ = some (.bool d) := by rw [← HD.out]; exact HS1.out.doc.c41 r hr40
    have fd := HS1.out.doc.frozen (41 + r)
    have HS2 : Hid (∀ n, PI w p b g t ⟨t.wide, t.many, up t.dirty r true⟩ N ((wd.drewN n).setCell ⟨g, 41 + r, none⟩ (.bool true))) := fun n => (HS1.out.drewN n).onD ((HS1.out.drewN n).doc.putD r true) ((But.refl (· = g) _).setCell (p := ⟨g, 41 + r, none⟩) rfl _)
    have HV2 : Hid (∀ n, VN w (PF p b g) q 2 ((wd.drewN n).setCell ⟨g, 41 + r, none⟩ (.bool true)) v) := fun n => (HV1.out.old (below_drewN (Below.refl _ _) n)).but ((But.refl (· = g) _).setCell (p := ⟨g, 41 + r, none⟩) rfl _) (fun _ => eq_PF)
    go_upto_region 29 with fail
    refine region_last 8 (by kernel_rfl) (by kernel_rfl) ?_
    simp only [List.take_succ_cons, List.take_zero, List.drop_succ_cons, List.drop_zero]
    repeat (go_big_quiet_step (fail))
    refine wpQuiet_nil ?_
    intro w9 hw9
    obtain ⟨n9, rfl⟩ := hw9
    have S3 := HS2.out n9
    have V3 := HV2.out n9
    have HS3 : Hid (PI w p b g t ⟨t.wide, t.many, up t.dirty r true⟩ N ((wd.drewN n9).setCell ⟨g, 41 + r, none⟩ (.bool true))) := S3
    have HV3 : Hid (VN w (PF p b g) q 2 ((wd.drewN n9).setCell ⟨g, 41 + r, none⟩ (.bool true)) v) := V3
    clear S3 V3 HS2 HV2 HS1 HV1
    go_upto_region 30 with fail
    generalize (wd.drewN n9).setCell ⟨g, 41 + r, none⟩ (.bool true) = we at *
    clear cd fd c1
    have c1 : we.cell? ⟨q, 1, none⟩ = some (.int .i64 (m : Int)) := by rw [← HM.out]; exact HV3.out.at 1 (by omega)
    have cm : we.cell? ⟨g, 1 + m, none⟩ = some (.int .i64 ((t.many m : Nat) : Int)) := HS3.out.doc.c1 m hm40
    have fm := HS3.out.doc.frozen (1 + m)
    have HS4 : Hid (∀ n, PI w p b g t (t.begin' (m : Int)) N ((we.drewN n).setCell ⟨g, 1 + m, none⟩ (.int .i64 ((t.many m + 1 : Nat) : Int)))) := fun n => by rw [HB.out.1]; exact (HS3.out.drewN n).onD ((HS3.out.drewN n).doc.putM m (t.many m + 1) hm40) ((But.refl (· = g) _).setCell (p := ⟨g, 1 + m, none⟩) rfl _)
    have HV4 : Hid (∀ n, VN w (PF p b g) q 2 ((we.drewN n).setCell ⟨g, 1 + m, none⟩ (.int .i64 ((t.many m + 1 : Nat) : Int))) v) := fun n => (HV3.out.old (below_drewN (Below.refl _ _) n)).but ((But.refl (· = g) _).setCell (p := ⟨g, 1 + m, none⟩) rfl _) (fun _ => eq_PF)
    have hmy : ((t.many m : Nat) : Int) ≤ 1000 := by omega
    clear HS3 HV3
    obtain ⟨mm, hmm⟩ : ∃ mm, t.many m = mm := ⟨_, rfl⟩
    rw [hmm] at cm HS4 HV4 hmy
    clear hmm hle
    refine region_last 11 (by kernel_rfl) (by kernel_rfl) ?_
    simp only [List.take_succ_cons, List.take_zero, List.drop_succ_cons, List.drop_zero]
    repeat (go_big_quiet_step (fail))
    refine wpQuiet_nil ?_
    intro w8 hw8
    obtain ⟨n8, rfl⟩ := hw8
    have S5 := HS4.out n8
    have V5 := HV4.out n8
    have HS5 : Hid (PI w p b g t (t.begin' (m : Int)) N ((we.drewN n8).setCell ⟨g, 1 + m, none⟩ (.int .i64 ((mm + 1 : Nat) : Int)))) := S5
    have HV5 : Hid (VN w (PF p b g) q 2 ((we.drewN n8).setCell ⟨g, 1 + m, none⟩ (.int .i64 ((mm + 1 : Nat) : Int))) v) := V5
    clear S5 V5 HS4 HV4
    have hN1 : ((mm + 1 : Nat) : Int) = (mm : Int) + 1 := by omega
    rw [hN1] at HS5 HV5
    clear hN1
    go_upto_region 31 with fail
    generalize (we.drewN n8).setCell ⟨g, 1 + m, none⟩ (.int .i64 ((mm : Int) + 1)) = wf at *
    clear cm fm c1
    have c1 : wf.cell? ⟨q, 1, none⟩ = some (.int .i64 (m : Int)) := by rw [← HM.out]; exact HV5.out.at 1 (by omega)
    have C := ibegin_ok HS5.out.il.int (by omega) m hm40
    rw [HB.out.2, e5] at C
    generalize hev : errV 0 = ev at C
    go_wp2_with fail
    refine C.mono ?_
    rintro e w2 ⟨rfl, hI2, hb2⟩
    have HS2 : Hid (PX w p b g wide (t.begin' (m : Int)) (N + 1) w2) := ⟨HS5.out.on hI2 hb2, by rw [HB.out.1]; exact HW.out⟩
    have E2 := HE.out 0 w2 HS2.out.1.low
    rw [hev] at E2
    clear C hI2 hb2 HS5 HV5 HE HW HD HB HR HM c1 e5 hev
    go_wp2_with fail
    refine E2.mono ?_
    rintro e w3 ⟨rfl, hB3⟩
    have HS3 : Hid (PX w p b g wide (t.begin' (m : Int)) (N + 1) w3) := ⟨HS2.out.1.old hB3, HS2.out.2⟩
    clear E2 hB3 HS2
    go_wp2
    exact HQ.out _ _ _ _ _ _ _ _ _ _ _ _ _ _ _ _ _ _ _ _ _ _ _ _ _ _ _ _ _ _ _ _ _ _ _ _ _ _ _ _ _ _ _ _ _ _ _ _ _ _ _ _ _ _ _ _ _ _ _ _ _ _ _ _ _ _ _ _ _ _ _ _ _ _ _ _ _ _ _ _ _ _ _ _ _ _ _ _ _ _ _ _ _ _ _ _ _ _ _ _ _ _ _ _ _ _ _ _ _ _ _ _ _ _ _ _ _ _ _ _ _ _ _ _ _ _ _ _ _ _ _ HS3.out (Nat.le_refl _)
end Go.Proofs.YtacfafbnimhibaaDoor
