/- PoolSlots, a piece: walks over the program. -/
import Derived.Test.YticgapgggoklfaaSLb
namespace Go.Proofs.Yticgapgggoklfaa
open Go.RowKit
set_option linter.unusedVariables false in
set_option maxRecDepth 1000000 in
set_option maxHeartbeats 4000000 in
theorem s_slots (a b n n1 c1 : Nat) (x : PP) (a1 : Option Addr) (w : World) (k q g cl cs : Nat) (al at1 : Option Addr) (t : Plo) (u3 u4 u5 u6 u7 u8 u9 u10 u12 u15 u20 u21 u22 u23 u24 u25 u26 u27 u28 u29 u30 u31 u32 u33 u34 u35 u36 u37 u38 u39 u40 u41 u42 u43 u44 u45 u46 u47 u48 u49 u50 u51 u52 u53 u54 u55 u56 u57 u58 u59 u60 u61 u62 u63 u64 u65 u66 u67 u68 u69 u70 u71 u72 u73 u74 u75 u76 u77 u78 u79 u80 u81 u82 u83 u84 u85 u86 u87 u88 u89 u90 u91 u92 u93 u94 u95 u96 u97 u98 u99 u100 u101 u102 u103 u104 u105 u106 u107 u108 u109 u110 u111 u112 u113 u114 u115 u116 u117 u118 u119 u120 u121 u122 u123 u124 u125 u126 u127 u128 u129 u130 u131 u132 u133 u134 u135 u136 u137 u138 u139 u140 u141 u142 u143 u144 u145 u146 u147 u148 u149 u150 u151 u152 u153 u154 u155 u156 u157 u158 u159 u160 u161 u162 u163 u164 u165 u166 u167 u168 u169 u170 u171 u172 u173 u174 u175 u176 u177 u178 u179 u180 u181 u182 u183 u184 u185 u186 u187 u188 u189 u190 u191 u192 u193 u194 u195 u196 u197 u198 u199 u200 u201 u202 u203 u204 u205 u206 u207 u208 u209 u210 u211 u212 u213 u214 u215 u216 u217 u218 u219 u220 : Value) (wc : World) (Q : Exit → Act → World → Prop)
    (hS : SJ w x a n t g al cl at1 cs (t.has 0) wc)
    (hQ : ∀ (x6 x20 x21 x146 x147 x148 x149 x150 x151 x152 x153 x154 x155 x156 x157 x158 x159 x160 x161 x162 x163 x164 x165 x166 x167 x168 x169 x170 x171 x172 x173 x174 x175 x176 x177 x178 x179 x180 x181 x182 x183 x184 x185 x186 : Value)  (w1 : World), SJ w x a n t g al cl at1 cs (t.has a) w1 → Q .normal ⟨#[.int .i64 ((a : Nat) : Int), .int .i64 ((b : Nat) : Int), .slice a1 n1 c1, u3, u4, u5, x6, u7, u8, u9, u10, .pointer (some ⟨x.p, 0, none⟩), u12, .int .i64 ((k : Nat) : Int), .pointer (some ⟨q, 0, none⟩), u15, .slice al a cl, .slice at1 n cs, .pointer (some ⟨g, 0, none⟩), .bool (t.opn a), x20, x21, u22, u23, u24, u25, u26, u27, u28, u29, u30, u31, u32, u33, u34, u35, u36, u37, u38, u39, u40, u41, u42, u43, u44, u45, u46, u47, u48, u49, u50, u51, u52, u53, u54, u55, u56, u57, u58, u59, u60, u61, u62, u63, u64, u65, u66, u67, u68, u69, u70, u71, u72, u73, u74, u75, u76, u77, u78, u79, u80, u81, u82, u83, u84, u85, u86, u87, u88, u89, u90, u91, u92, u93, u94, u95, u96, u97, u98, u99, u100, u101, u102, u103, u104, u105, u106, u107, u108, u109, u110, u111, u112, u113, u114, u115, u116, u117, u118, u119, u120, u121, u122, u123, u124, u125, u126, u127, u128, u129, u130, u131, u132, u133, u134, u135, u136, u137, u138, u139, u140, u141, u142, u143, u144, u145, x146, x147, x148, x149, x150, x151, x152, x153, x154, x155, x156, x157, x158, x159, x160, x161, x162, x163, x164, x165, x166, x167, x168, x169, x170, x171, x172, x173, x174, x175, x176, x177, x178, x179, x180, x181, x182, x183, x184, x185, x186, u187, u188, u189, u190, u191, u192, u193, u194, u195, u196, u197, u198, u199, u200, u201, u202, u203, u204, u205, u206, u207, u208, u209, u210, u211, u212, u213, u214, u215, u216, u217, u218, u219, u220], []⟩ w1) :
    Code.wp Try.prog (cut [1, 1, 1, 1, 1, 1, 1, 1, 0, 1, 2, 5, 1, 0, 2, 1, 1, 1, 1, 1, 1, 1, 1, 0] (Try.f3.body.getD .skip)) Q ⟨#[.int .i64 ((a : Nat) : Int), .int .i64 ((b : Nat) : Int), .slice a1 n1 c1, u3, u4, u5, u6, u7, u8, u9, u10, .pointer (some ⟨x.p, 0, none⟩), u12, .int .i64 ((k : Nat) : Int), .pointer (some ⟨q, 0, none⟩), u15, .slice al a cl, .slice at1 n cs, .pointer (some ⟨g, 0, none⟩), .bool false, u20, u21, u22, u23, u24, u25, u26, u27, u28, u29, u30, u31, u32, u33, u34, u35, u36, u37, u38, u39, u40, u41, u42, u43, u44, u45, u46, u47, u48, u49, u50, u51, u52, u53, u54, u55, u56, u57, u58, u59, u60, u61, u62, u63, u64, u65, u66, u67, u68, u69, u70, u71, u72, u73, u74, u75, u76, u77, u78, u79, u80, u81, u82, u83, u84, u85, u86, u87, u88, u89, u90, u91, u92, u93, u94, u95, u96, u97, u98, u99, u100, u101, u102, u103, u104, u105, u106, u107, u108, u109, u110, u111, u112, u113, u114, u115, u116, u117, u118, u119, u120, u121, u122, u123, u124, u125, u126, u127, u128, u129, u130, u131, u132, u133, u134, u135, u136, u137, u138, u139, u140, u141, u142, u143, u144, u145, u146, u147, u148, u149, u150, u151, u152, u153, u154, u155, u156, u157, u158, u159, u160, u161, u162, u163, u164, u165, u166, u167, u168, u169, u170, u171, u172, u173, u174, u175, u176, u177, u178, u179, u180, u181, u182, u183, u184, u185, u186, u187, u188, u189, u190, u191, u192, u193, u194, u195, u196, u197, u198, u199, u200, u201, u202, u203, u204, u205, u206, u207, u208, u209, u210, u211, u212, u213, u214, u215, u216, u217, u218, u219, u220], []⟩ wc := by
  conv => arg 2; whnf
  have HQ : Hid _ := hQ
  have HS : Hid (SJ w x a n t g al cl at1 cs (t.has 0) wc) := hS
  clear hQ hS
  have HO : Hid t.ok := HS.out.pn.pl.ok
  have a10 : a ≤ 10 := by rw [← HS.out.pn.wk]; exact HO.out.hw
  have n20 : n ≤ 20 := by rw [← HS.out.pn.n]; exact HO.out.hn
  have n20z : (n : Int) ≤ 20 := by omega
  have HW : Hid (t.wk = a) := HS.out.pn.wk
  have HN : Hid (t.n = n) := HS.out.pn.n
  go_wp2
  go_loopw [19, 20] (fun o c wr => ∃ i : Nat, i ≤ a ∧ c = .int .i64 (i : Int) ∧ o = .bool (t.opn i) ∧ Hid (SJ w x a n t g al cl at1 cs (t.has i) wr)) (fun _ c _ => a - (intOf c).toNat)
  case atStart => exact ⟨0, Nat.zero_le _, rfl, rfl, HS⟩
  case round =>
    obtain ⟨i, hi, rfl, rfl, HJ⟩ := hrel
    clear HS
    by_cases hlt : i < a
    · have hiz : (i : Int) < (a : Int) := by omega
      obtain ⟨ad, had, hc⟩ := HJ.out.rl.at i hlt
      subst had
      rcases HO.out.slot i (by rw [HW.out]; exact hlt) with hq | ⟨d, hd, hq, hst⟩
      · have HJ2 : Hid (SJ w x a n t g (some ad) cl at1 cs (t.has (i + 1)) wr) := HJ.out.congr (fun d => Plo.has_none hq d)
        have HP2 : Hid (t.opn (i + 1) = true) := Plo.opn_none hq
        rw [hq] at hc
        clear hq HJ
        generalize t.opn i = o1 at *
        go_wp2
        go_roundw
        case rel => exact ⟨i + 1, by omega, by go_num, by rw [HP2.out], HJ2⟩
        case measure => simp [intOf]; omega
      · have hdn : d < n := by rw [← HN.out]; exact hd
        have hdz : (d : Int) < (n : Int) := by omega
        have hd20 : (d : Int) < 20 := by omega
        have e1 : ((d : Int) == -1) = false := by rw [beq_eq_false_iff_ne]; omega
        have e2 : decide ((d : Int) < 0) = false := decide_eq_false (by omega)
        have e3 : decide ((n : Int) ≤ (d : Int)) = false := decide_eq_false (by omega)
        have hno := Plo.has_not HO.out (by rw [HW.out]; exact hlt) hq
        obtain ⟨r1, r2⟩ := HJ.out.row.2 d (by omega)
        dsimp only at r1
        rw [hno] at r1
        obtain ⟨ad2, had2, hc2⟩ := HJ.out.rs.at d hdn
        subst had2
        have HJ2 : Hid (SJ w x a n t g (some ad) cl (some ad2) cs (t.has (i + 1)) (wr.setCell ⟨g, d, none⟩ (.bool true))) := HJ.out.put d true (fun y _ => Plo.has_disk hq y)
        have HP2 : Hid (t.opn (i + 1) = t.opn i) := Plo.opn_disk hq
        rw [hq] at hc
        unfold vi at hc hc2
        clear hno HJ hq hd
        rcases hst with hst | hst
        · rw [hst] at hc2
          clear hst
          generalize t.opn i = o1 at *
          go_wp2
          go_roundw
          case rel => exact ⟨i + 1, by omega, by go_num, by rw [HP2.out], HJ2⟩
          case measure => simp [intOf]; omega
        · rw [hst] at hc2
          clear hst
          generalize t.opn i = o1 at *
          go_wp2
          go_roundw
          case rel => exact ⟨i + 1, by omega, by go_num, by rw [HP2.out], HJ2⟩
          case measure => simp [intOf]; omega
    · have hiz : ¬ (i : Int) < (a : Int) := by omega
      obtain rfl : i = a := by omega
      go_wp2
      exact HQ.out _ _ _ _ _ _ _ _ _ _ _ _ _ _ _ _ _ _ _ _ _ _ _ _ _ _ _ _ _ _ _ _ _ _ _ _ _ _ _ _ _ _ _ _ _ HJ.out
end Go.Proofs.Yticgapgggoklfaa
