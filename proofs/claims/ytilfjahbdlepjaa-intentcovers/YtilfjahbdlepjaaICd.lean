/- IntentCovers, a piece: walks over the program. -/
import Derived.Test.YtilfjahbdlepjaaICb
import Derived.Test.YtilfjahbdlepjaaItC
namespace Go.Proofs.Ytilfjahbdlepjaa
open Go.RowKit Go.Maps
set_option linter.unusedVariables false in
set_option maxRecDepth 1000000 in
set_option maxHeartbeats 4000000 in
theorem c_clean (wide n1 c1 p b g : Nat) (a1 : Option Addr) (w : World) (k q N : Nat) (t : Itn) (v : Nat → Int) (u2 u3 u4 u5 u6 u7 u8 u10 u14 u15 u16 u17 u18 u19 u20 u21 u22 u23 u24 u25 u26 u27 u28 u29 u30 u31 u32 u33 u34 u35 u36 u37 u38 u39 u40 u41 u42 u43 u44 u45 u46 u47 u48 u49 u50 u51 u52 u53 u54 u55 u56 u57 u58 u59 u60 u61 u62 u63 u64 u65 u66 u67 u68 u69 u70 u71 u72 u73 u74 u75 u76 u77 u78 u79 u80 u81 u82 u83 u84 u85 u86 u87 u88 u89 u90 u91 u92 u93 u94 u95 u96 u97 u98 u99 u100 u101 u102 u103 u104 u105 u106 u107 u108 u109 u110 u111 u112 u113 u114 u115 u116 u117 u118 u119 u120 u121 u122 u123 u124 u125 u126 u127 u128 u129 u130 u131 u132 u133 u134 u135 u136 u137 u138 u139 u140 u141 u142 u143 u144 u145 u146 u147 u148 u149 u150 u151 u152 u153 u154 u155 u156 u157 u158 u159 u160 u161 u162 u163 u164 u165 u166 u167 u168 u169 u170 u171 u172 u173 u174 u175 u176 u177 u178 u179 u180 u181 u182 u183 u184 u185 u186 u187 u188 u189 u190 u191 u192 u193 u194 u195 u196 u197 u198 u199 u200 u201 u202 u203 u204 u205 u206 u207 u208 u209 u210 u211 u212 u213 u214 u215 u216 u217 u218 u219 u220 u221 : Value) (wc : World) (Q : Exit → Act → World → Prop)
    (h1 : 1 ≤ wide) (h2 : wide ≤ 40) (hN : N ≤ 900) (hS : CX w p b g wide t N wc) (hV : VN w (CF p b g) q 2 wc v) (h0 : v 0 ≠ 0 ∧ v 0 ≠ 1 ∧ v 0 ≠ 2)
    (hQ : ∀ (x4 x15 x16 x17 x18 x19 x105 x106 x107 x108 x109 x110 x111 x112 x113 x114 x115 x116 x117 x118 x119 x120 x121 x122 x123 x124 x125 x126 x127 x128 x129 x130 x131 x132 x133 x134 x135 x136 x137 x138 x139 x140 x141 x142 x143 x144 x145 x146 x147 x148 x149 x150 x151 x152 x153 x154 x155 x156 x157 x158 x159 x160 x161 x162 x163 x164 x165 x166 x167 x168 x169 x170 x171 x172 x173 x174 x175 x176 x177 x178 x179 x180 x181 x182 x183 x184 x185 x186 x187 x188 x189 x190 : Value) (t' : Itn) (N' : Nat) (w1 : World), CX w p b g wide t' N' w1 → N' ≤ N + 1 → Q .normal ⟨#[.int .i64 wide, .slice a1 n1 c1, u2, u3, x4, u5, u6, u7, u8, .pointer (some ⟨p, 0, none⟩), u10, .pointer (some ⟨g, 0, none⟩), .int .i64 ((k : Nat) : Int), .pointer (some ⟨q, 0, none⟩), u14, x15, x16, x17, x18, x19, u20, u21, u22, u23, u24, u25, u26, u27, u28, u29, u30, u31, u32, u33, u34, u35, u36, u37, u38, u39, u40, u41, u42, u43, u44, u45, u46, u47, u48, u49, u50, u51, u52, u53, u54, u55, u56, u57, u58, u59, u60, u61, u62, u63, u64, u65, u66, u67, u68, u69, u70, u71, u72, u73, u74, u75, u76, u77, u78, u79, u80, u81, u82, u83, u84, u85, u86, u87, u88, u89, u90, u91, u92, u93, u94, u95, u96, u97, u98, u99, u100, u101, u102, u103, u104, x105, x106, x107, x108, x109, x110, x111, x112, x113, x114, x115, x116, x117, x118, x119, x120, x121, x122, x123, x124, x125, x126, x127, x128, x129, x130, x131, x132, x133, x134, x135, x136, x137, x138, x139, x140, x141, x142, x143, x144, x145, x146, x147, x148, x149, x150, x151, x152, x153, x154, x155, x156, x157, x158, x159, x160, x161, x162, x163, x164, x165, x166, x167, x168, x169, x170, x171, x172, x173, x174, x175, x176, x177, x178, x179, x180, x181, x182, x183, x184, x185, x186, x187, x188, x189, x190, u191, u192, u193, u194, u195, u196, u197, u198, u199, u200, u201, u202, u203, u204, u205, u206, u207, u208, u209, u210, u211, u212, u213, u214, u215, u216, u217, u218, u219, u220, u221], []⟩ w1) :
    Code.wp Try.prog (cut [1, 1, 1, 1, 1, 1, 1, 1, 1, 1, 0, 1, 2, 5, 1, 0, 2, 1, 1, 0] (Try.f3.body.getD .skip)) Q ⟨#[.int .i64 wide, .slice a1 n1 c1, u2, u3, u4, u5, u6, u7, u8, .pointer (some ⟨p, 0, none⟩), u10, .pointer (some ⟨g, 0, none⟩), .int .i64 ((k : Nat) : Int), .pointer (some ⟨q, 0, none⟩), u14, u15, u16, u17, u18, u19, u20, u21, u22, u23, u24, u25, u26, u27, u28, u29, u30, u31, u32, u33, u34, u35, u36, u37, u38, u39, u40, u41, u42, u43, u44, u45, u46, u47, u48, u49, u50, u51, u52, u53, u54, u55, u56, u57, u58, u59, u60, u61, u62, u63, u64, u65, u66, u67, u68, u69, u70, u71, u72, u73, u74, u75, u76, u77, u78, u79, u80, u81, u82, u83, u84, u85, u86, u87, u88, u89, u90, u91, u92, u93, u94, u95, u96, u97, u98, u99, u100, u101, u102, u103, u104, u105, u106, u107, u108, u109, u110, u111, u112, u113, u114, u115, u116, u117, u118, u119, u120, u121, u122, u123, u124, u125, u126, u127, u128, u129, u130, u131, u132, u133, u134, u135, u136, u137, u138, u139, u140, u141, u142, u143, u144, u145, u146, u147, u148, u149, u150, u151, u152, u153, u154, u155, u156, u157, u158, u159, u160, u161, u162, u163, u164, u165, u166, u167, u168, u169, u170, u171, u172, u173, u174, u175, u176, u177, u178, u179, u180, u181, u182, u183, u184, u185, u186, u187, u188, u189, u190, u191, u192, u193, u194, u195, u196, u197, u198, u199, u200, u201, u202, u203, u204, u205, u206, u207, u208, u209, u210, u211, u212, u213, u214, u215, u216, u217, u218, u219, u220, u221], []⟩ wc := by
  conv => arg 2; whnf
  have c0 := hV.at 0 (by omega)
  have c1 := hV.at 1 (by omega)
  obtain ⟨hC, hCov, hw⟩ := hS
  have HQ : Hid _ := hQ
  have HC : Hid (CS w p b g t N t.many wc) := hC
  have HCov : Hid (Itn.Cov t) := hCov
  have HW : Hid (t.wide = wide) := hw
  have HV : Hid (VN w (CF p b g) q 2 wc v) := hV
  clear hQ hC hCov hw hV
  generalize v 0 = y0 at c0 h0
  obtain ⟨p0, p1, p2⟩ := h0
  have e0 : (y0 == 0) = false := by rw [beq_eq_false_iff_ne]; exact p0
  have e1 : (y0 == 1) = false := by rw [beq_eq_false_iff_ne]; exact p1
  have e2 : (y0 == 2) = false := by rw [beq_eq_false_iff_ne]; exact p2
  clear p0 p1 p2

  have C := iclean HC.out.il.int (v 1)
  have hcw : (t.clean (v 1)).wide = wide := by
    unfold Itn.clean
    split
    · exact HW.out
    · exact HW.out
  have hcm : (t.clean (v 1)).many = t.many := by
    unfold Itn.clean
    split <;> rfl
  have HX : Hid (∀ w2, IsI w2 p b (t.clean (v 1)) N → But (IF p b) wc w2 → CX w p b g wide (t.clean (v 1)) N w2) := fun w2 hI hb => ⟨by rw [hcm]; exact HC.out.on hI hb, HCov.out.clean _, hcw⟩
  clear hcw
  by_cases hcl : t.cleanB (v 1) = true
  · have hng : ¬ t.noG (v 1) := fun q => by unfold Itn.cleanB at hcl; rw [if_pos q] at hcl; exact Bool.false_ne_true hcl
    have he : t.cleanE (v 1) = 0 := if_neg hng
    obtain ⟨r, hr⟩ : ∃ r : Nat, v 1 = (r : Int) := ⟨(v 1).toNat, by unfold Itn.noG at hng; omega⟩
    have hbz : t.busy r = false := by
      have := hcl
      unfold Itn.cleanB at this
      rw [if_neg hng, hr, Int.toNat_natCast, Bool.and_eq_true, Bool.not_eq_true'] at this
      exact this.2
    have HBZ : Hid (∀ c, c < 40 → c / wide = r → t.many c = 0) := fun c hc e => Itn.busy_not hbz hc (by unfold Itn.reg; rw [HW.out]; exact e)
    have HM : Hid (v 1 = (r : Int)) := hr
    rw [hcl, he, errV, if_pos rfl] at C
    have HN : Hid (∀ w2, CX w p b g wide (t.clean (v 1)) N w2 → ∀ c, c < 40 → w2.cell? ⟨g, c, none⟩ = some (.int .i64 ((t.many c : Nat) : Int))) := fun w2 h c hc => by
      have := (h.1.row.2 c hc).1
      rw [hcm] at this
      exact this
    rw [hr] at c1
    clear hcl hng he hbz hcm
    have hwz : ((wide : Int) == 0) = false := by simp; omega
    have hw40 : (wide : Int) ≤ 40 := by omega
    rw [hr] at C
    clear hr
    go_wp2_with fail
    refine C.mono ?_
    rintro e w2 ⟨rfl, hI2, hb2⟩
    have hX2 : CX w p b g wide (t.clean (v 1)) N w2 := HX.out w2 (by rw [HM.out]; exact hI2) hb2
    have HX2 : Hid (CX w p b g wide (t.clean (v 1)) N w2) := hX2
    have HV2 : Hid (VN w (CF p b g) q 2 w2 v) := HV.out.but hb2 (fun _ => IF_CF)
    clear C hI2 hb2 hX2 HX HC HV c0
    go_wp2
    go_loopw [19] (fun c wr => ∃ k : Nat, k ≤ 40 ∧ c = .int .i64 k ∧ CX w p b g wide (t.clean (v 1)) N wr ∧ VN w (CF p b g) q 2 wr v) (fun c _ => 40 - (intOf c).toNat)
    case atStart => exact ⟨0, Nat.zero_le _, rfl, HX2.out, HV2.out⟩
    case round =>
      obtain ⟨c, hc, rfl, hX3, hV3⟩ := hrel
      have HX3 : Hid (CX w p b g wide (t.clean (v 1)) N wr) := hX3
      have HV3 : Hid (VN w (CF p b g) q 2 wr v) := hV3
      clear hX3 hV3 HX2 HV2
      by_cases hlt : c < 40
      · have hcz : (c : Int) < 40 := by omega
        have hcg := HN.out wr HX3.out c hlt
        have hc1 := HV3.out.at 1 (by omega)
        rw [HM.out] at hc1
        have hq := quo_nat c wide
        have hql : c / wide ≤ c := Nat.div_le_self _ _
        have HAB : Hid (c / wide = r → t.many c = 0) := fun e => HBZ.out c hlt e
        have hqz : ((c / wide : Nat) : Int) < 40 := by omega
        have hq0 : (0 : Int) ≤ ((c / wide : Nat) : Int) := Int.natCast_nonneg _
        have q1 : (0 : Int) ≤ (c : Int) / (wide : Int) := by rw [hq]; exact hq0
        have q2 : (c : Int) / (wide : Int) < 40 := by rw [hq]; exact hqz
        generalize c / wide = rc at *
        by_cases e : rc = r
        · have hm0 := HAB.out e
          rw [hm0] at hcg
          subst e
          clear hm0 HAB
          have hb1 : (((rc : Nat) : Int) == ((rc : Nat) : Int)) = true := by simp
          go_wp2
          go_quiet (fail)
          have HX4 : Hid (CX w p b g wide (t.clean (v 1)) N (wr.drewN nq)) := ⟨HX3.out.1.old (below_drewN (Below.refl _ _) nq), HX3.out.2⟩
          have HV4 : Hid (VN w (CF p b g) q 2 (wr.drewN nq) v) := HV3.out.old (below_drewN (Below.refl _ _) nq)
          clear HX3 HV3
          go_wp2
          go_roundw
          case rel => exact ⟨c + 1, by omega, by go_num, HX4.out, HV4.out⟩
          case measure => simp [intOf]; omega
        · have hb1 : (((rc : Nat) : Int) == ((r : Nat) : Int)) = false := by rw [beq_eq_false_iff_ne]; omega
          have hb2 : ¬ ((rc : Nat) : Int) = ((r : Nat) : Int) := by omega
          clear e HAB
          go_wp2
          go_quiet (fail)
          have HX4 : Hid (CX w p b g wide (t.clean (v 1)) N (wr.drewN nq)) := ⟨HX3.out.1.old (below_drewN (Below.refl _ _) nq), HX3.out.2⟩
          have HV4 : Hid (VN w (CF p b g) q 2 (wr.drewN nq) v) := HV3.out.old (below_drewN (Below.refl _ _) nq)
          clear HX3 HV3
          go_wp2
          go_roundw
          case rel => exact ⟨c + 1, by omega, by go_num, HX4.out, HV4.out⟩
          case measure => simp [intOf]; omega
      · have hcz : (40 : Int) ≤ (c : Int) := by omega
        go_wp2
        exact HQ.out _ _ _ _ _ _ _ _ _ _ _ _ _ _ _ _ _ _ _ _ _ _ _ _ _ _ _ _ _ _ _ _ _ _ _ _ _ _ _ _ _ _ _ _ _ _ _ _ _ _ _ _ _ _ _ _ _ _ _ _ _ _ _ _ _ _ _ _ _ _ _ _ _ _ _ _ _ _ _ _ _ _ _ _ _ _ _ _ _ _ _ _ _ _ _ HX3.out (Nat.le_succ _)
  · have hcl' : t.cleanB (v 1) = false := by cases h : t.cleanB (v 1) with
      | false => rfl
      | true => exact absurd h hcl
    rw [hcl'] at C
    have hev : errV (t.cleanE (v 1)) = .nilIface ∨ errV (t.cleanE (v 1)) = .iface 38 (.int .i64 1) := by
      unfold Itn.cleanE
      split
      · exact .inr rfl
      · exact .inl rfl
    have HX2 : Hid _ := HX
    generalize t.clean (v 1) = t2 at *
    clear hcl hcl' hcm
    generalize errV (t.cleanE (v 1)) = ev at *
    generalize v 1 = z at *
    rcases hev with rfl | rfl
    · go_wp2_with fail
      refine C.mono ?_
      rintro e w2 ⟨rfl, hI2, hb2⟩
      have HX3 : Hid (CX w p b g wide t2 N w2) := HX.out w2 hI2 hb2
      clear C hI2 hb2 HX HX2 HC HV
      go_wp2
      refine wp_loop_rounds 1 ?_
      rw [rounds_succ]
      go_wp2
      exact HQ.out _ _ _ _ _ _ _ _ _ _ _ _ _ _ _ _ _ _ _ _ _ _ _ _ _ _ _ _ _ _ _ _ _ _ _ _ _ _ _ _ _ _ _ _ _ _ _ _ _ _ _ _ _ _ _ _ _ _ _ _ _ _ _ _ _ _ _ _ _ _ _ _ _ _ _ _ _ _ _ _ _ _ _ _ _ _ _ _ _ _ _ _ _ _ _ HX3.out (Nat.le_succ _)
    · go_wp2_with fail
      refine C.mono ?_
      rintro e w2 ⟨rfl, hI2, hb2⟩
      have HX3 : Hid (CX w p b g wide t2 N w2) := HX.out w2 hI2 hb2
      clear C hI2 hb2 HX HX2 HC HV
      go_wp2
      refine wp_loop_rounds 1 ?_
      rw [rounds_succ]
      go_wp2
      exact HQ.out _ _ _ _ _ _ _ _ _ _ _ _ _ _ _ _ _ _ _ _ _ _ _ _ _ _ _ _ _ _ _ _ _ _ _ _ _ _ _ _ _ _ _ _ _ _ _ _ _ _ _ _ _ _ _ _ _ _ _ _ _ _ _ _ _ _ _ _ _ _ _ _ _ _ _ _ _ _ _ _ _ _ _ _ _ _ _ _ _ _ _ _ _ _ _ HX3.out (Nat.le_succ _)
end Go.Proofs.Ytilfjahbdlepjaa
