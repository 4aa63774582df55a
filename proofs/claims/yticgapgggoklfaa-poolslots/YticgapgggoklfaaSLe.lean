/- PoolSlots, a piece: walks over the program. -/
import Derived.Test.YticgapgggoklfaaSLb
namespace Go.Proofs.Yticgapgggoklfaa
open Go.RowKit
set_option linter.unusedVariables false in
set_option maxRecDepth 1000000 in
set_option maxHeartbeats 4000000 in
theorem s_disks (a b n n1 c1 : Nat) (x : PP) (a1 : Option Addr) (w : World) (k q g cl cs : Nat) (al at1 : Option Addr) (t : Plo) (u3 u4 u5 u6 u7 u8 u9 u10 u12 u15 u20 u21 u22 u23 u24 u25 u26 u27 u28 u29 u30 u31 u32 u33 u34 u35 u36 u37 u38 u39 u40 u41 u42 u43 u44 u45 u46 u47 u48 u49 u50 u51 u52 u53 u54 u55 u56 u57 u58 u59 u60 u61 u62 u63 u64 u65 u66 u67 u68 u69 u70 u71 u72 u73 u74 u75 u76 u77 u78 u79 u80 u81 u82 u83 u84 u85 u86 u87 u88 u89 u90 u91 u92 u93 u94 u95 u96 u97 u98 u99 u100 u101 u102 u103 u104 u105 u106 u107 u108 u109 u110 u111 u112 u113 u114 u115 u116 u117 u118 u119 u120 u121 u122 u123 u124 u125 u126 u127 u128 u129 u130 u131 u132 u133 u134 u135 u136 u137 u138 u139 u140 u141 u142 u143 u144 u145 u146 u147 u148 u149 u150 u151 u152 u153 u154 u155 u156 u157 u158 u159 u160 u161 u162 u163 u164 u165 u166 u167 u168 u169 u170 u171 u172 u173 u174 u175 u176 u177 u178 u179 u180 u181 u182 u183 u184 u185 u186 u187 u188 u189 u190 u191 u192 u193 u194 u195 u196 u197 u198 u199 u200 u201 u202 u203 u204 u205 u206 u207 u208 u209 u210 u211 u212 u213 u214 u215 u216 u217 u218 u219 u220 : Value) (wc : World) (Q : Exit → Act → World → Prop)
    (hS : SJ w x a n t g al cl at1 cs (t.has a) wc)
    (hQ : ∀ (x6 x22 x187 x188 x189 x190 x191 x192 x193 x194 x195 x196 x197 x198 x199 x200 x201 x202 x203 x204 x205 x206 x207 x208 x209 x210 x211 x212 x213 x214 x215 x216 x217 x218 x219 x220 : Value)  (w1 : World), PN w x a n t w1 → Q .normal ⟨#[.int .i64 ((a : Nat) : Int), .int .i64 ((b : Nat) : Int), .slice a1 n1 c1, u3, u4, u5, x6, u7, u8, u9, u10, .pointer (some ⟨x.p, 0, none⟩), u12, .int .i64 ((k : Nat) : Int), .pointer (some ⟨q, 0, none⟩), u15, .slice al a cl, .slice at1 n cs, .pointer (some ⟨g, 0, none⟩), .bool (t.opn a), u20, u21, x22, u23, u24, u25, u26, u27, u28, u29, u30, u31, u32, u33, u34, u35, u36, u37, u38, u39, u40, u41, u42, u43, u44, u45, u46, u47, u48, u49, u50, u51, u52, u53, u54, u55, u56, u57, u58, u59, u60, u61, u62, u63, u64, u65, u66, u67, u68, u69, u70, u71, u72, u73, u74, u75, u76, u77, u78, u79, u80, u81, u82, u83, u84, u85, u86, u87, u88, u89, u90, u91, u92, u93, u94, u95, u96, u97, u98, u99, u100, u101, u102, u103, u104, u105, u106, u107, u108, u109, u110, u111, u112, u113, u114, u115, u116, u117, u118, u119, u120, u121, u122, u123, u124, u125, u126, u127, u128, u129, u130, u131, u132, u133, u134, u135, u136, u137, u138, u139, u140, u141, u142, u143, u144, u145, u146, u147, u148, u149, u150, u151, u152, u153, u154, u155, u156, u157, u158, u159, u160, u161, u162, u163, u164, u165, u166, u167, u168, u169, u170, u171, u172, u173, u174, u175, u176, u177, u178, u179, u180, u181, u182, u183, u184, u185, u186, x187, x188, x189, x190, x191, x192, x193, x194, x195, x196, x197, x198, x199, x200, x201, x202, x203, x204, x205, x206, x207, x208, x209, x210, x211, x212, x213, x214, x215, x216, x217, x218, x219, x220], []⟩ w1) :
    Code.wp Try.prog (cut [1, 1, 1, 1, 1, 1, 1, 1, 0, 1, 2, 5, 1, 0, 2, 1, 1, 1, 1, 1, 1, 1, 1, 1] (Try.f3.body.getD .skip)) Q ⟨#[.int .i64 ((a : Nat) : Int), .int .i64 ((b : Nat) : Int), .slice a1 n1 c1, u3, u4, u5, u6, u7, u8, u9, u10, .pointer (some ⟨x.p, 0, none⟩), u12, .int .i64 ((k : Nat) : Int), .pointer (some ⟨q, 0, none⟩), u15, .slice al a cl, .slice at1 n cs, .pointer (some ⟨g, 0, none⟩), .bool (t.opn a), u20, u21, u22, u23, u24, u25, u26, u27, u28, u29, u30, u31, u32, u33, u34, u35, u36, u37, u38, u39, u40, u41, u42, u43, u44, u45, u46, u47, u48, u49, u50, u51, u52, u53, u54, u55, u56, u57, u58, u59, u60, u61, u62, u63, u64, u65, u66, u67, u68, u69, u70, u71, u72, u73, u74, u75, u76, u77, u78, u79, u80, u81, u82, u83, u84, u85, u86, u87, u88, u89, u90, u91, u92, u93, u94, u95, u96, u97, u98, u99, u100, u101, u102, u103, u104, u105, u106, u107, u108, u109, u110, u111, u112, u113, u114, u115, u116, u117, u118, u119, u120, u121, u122, u123, u124, u125, u126, u127, u128, u129, u130, u131, u132, u133, u134, u135, u136, u137, u138, u139, u140, u141, u142, u143, u144, u145, u146, u147, u148, u149, u150, u151, u152, u153, u154, u155, u156, u157, u158, u159, u160, u161, u162, u163, u164, u165, u166, u167, u168, u169, u170, u171, u172, u173, u174, u175, u176, u177, u178, u179, u180, u181, u182, u183, u184, u185, u186, u187, u188, u189, u190, u191, u192, u193, u194, u195, u196, u197, u198, u199, u200, u201, u202, u203, u204, u205, u206, u207, u208, u209, u210, u211, u212, u213, u214, u215, u216, u217, u218, u219, u220], []⟩ wc := by
  conv => arg 2; whnf
  have HQ : Hid _ := hQ
  have HS : Hid (SJ w x a n t g al cl at1 cs (t.has a) wc) := hS
  clear hQ hS
  have HO : Hid t.ok := HS.out.pn.pl.ok
  have n20 : n ≤ 20 := by rw [← HS.out.pn.n]; exact HO.out.hn
  have n20z : (n : Int) ≤ 20 := by omega
  have HW : Hid (t.wk = a) := HS.out.pn.wk
  have HN : Hid (t.n = n) := HS.out.pn.n
  generalize hop : t.opn a = o1 at *
  have HOP : Hid (t.opn a = o1) := hop
  clear hop
  go_wp2
  go_loop [22] (fun c => ∃ i : Nat, i ≤ n ∧ c = .int .i64 (i : Int)) (fun c => n - (intOf c).toNat)
  case atStart => exact ⟨0, Nat.zero_le _, rfl⟩
  case round =>
    obtain ⟨i, hi, rfl⟩ := hrel
    by_cases hlt : i < n
    · have hiz : (i : Int) < (n : Int) := by omega
      have hi20 : (i : Int) < 20 := by omega
      obtain ⟨r1, r2⟩ := HS.out.row.2 i (by omega)
      obtain ⟨ad2, had2, hc2⟩ := HS.out.rs.at i hlt
      subst had2
      have HY : Hid (t.has a i = true → t.st i = 0 ∨ t.st i = 3) := fun h => Plo.has_yes HO.out (by rw [HW.out]; exact h)
      have HZ : Hid (t.has a i = false → (t.st i = 1 ∧ o1 = false) ∨ t.st i = 2) := fun h => by
        have := Plo.has_no HO.out (d := i) (by rw [HN.out]; exact hlt) (by rw [HW.out]; exact h)
        rw [HW.out, HOP.out] at this
        exact this
      unfold vi at hc2
      dsimp only at r1
      cases hb : t.has a i with
      | true =>
        rw [hb] at r1
        rcases HY.out hb with e | e
        · rw [e] at hc2
          clear e hb HY HZ
          go_wp2
          go_round
          case rel => exact ⟨i + 1, by omega, by go_num⟩
          case measure => simp [intOf]; omega
        · rw [e] at hc2
          clear e hb HY HZ
          go_wp2
          go_round
          case rel => exact ⟨i + 1, by omega, by go_num⟩
          case measure => simp [intOf]; omega
      | false =>
        rw [hb] at r1
        rcases HZ.out hb with ⟨e, e1⟩ | e
        · rw [e] at hc2
          subst e1
          clear e hb HY HZ
          go_wp2
          go_round
          case rel => exact ⟨i + 1, by omega, by go_num⟩
          case measure => simp [intOf]; omega
        · rw [e] at hc2
          clear e hb HY HZ
          go_wp2
          go_round
          case rel => exact ⟨i + 1, by omega, by go_num⟩
          case measure => simp [intOf]; omega
    · have hiz : ¬ (i : Int) < (n : Int) := by omega
      go_wp2
      exact HQ.out _ _ _ _ _ _ _ _ _ _ _ _ _ _ _ _ _ _ _ _ _ _ _ _ _ _ _ _ _ _ _ _ _ _ _ _ _ HS.out.pn
end Go.Proofs.Yticgapgggoklfaa
