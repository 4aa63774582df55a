/- ScrubMends, a piece: walks over the program. -/
import Derived.Test.YtilfjahbdlepjaaGreatDoorSMa
import Derived.Deep.Cut
import Derived.Deep.CutRange
import Derived.BigCall
import Derived.BigGuard
namespace Go.Proofs.YtilfjahbdlepjaaGreatDoor
open Go.RowKit El Pol Mx Lay
set_option linter.unusedVariables false in
set_option maxRecDepth 1000000 in
set_option maxHeartbeats 4000000 in
theorem sm1 (n rows n2 c2 n3 c3 m : Nat) (a2 a3 : Option Addr) (s4 : ByteArray) (x : PAd) (w : World) (S2 : Nat → List El) (A0 : Arr) (c0 : Nat → List El) (u5 u6 u7 u8 u9 u10 u12 u13 u14 u15 u16 u17 u18 u19 u20 u21 u22 u23 u24 u25 u26 u27 u28 u29 u30 u31 u32 u33 u34 u35 u36 u37 u38 u39 u40 u41 u42 u43 u44 u45 u46 u47 u48 u49 u50 u51 u52 u53 u54 u55 u56 u57 u58 u59 u60 u61 u62 u63 u64 u65 u66 u67 u68 u69 u70 u71 u72 u73 u74 u75 u76 u77 u78 u79 u80 u81 u82 u83 u84 u85 u86 u87 u88 u89 u90 u91 u92 u93 u94 u95 u96 u97 u98 u99 u100 u101 u102 u103 u104 u105 u106 u107 u108 u109 u110 u111 u112 u113 u114 u115 u116 u117 u118 u119 u120 u121 u122 u123 u124 u125 u126 u127 u128 u129 u130 u131 u132 u133 u134 u135 u136 u137 u138 u139 u140 u141 u142 u143 u144 u145 u146 u147 u148 u149 u150 u151 u152 u153 u154 u155 u156 u157 u158 u159 u160 u161 u162 u163 u164 u165 u166 u167 u168 u169 u170 u171 u172 u173 u174 u175 u176 u177 u178 u179 u180 u181 u182 u183 u184 u185 u186 u187 u188 u189 u190 u191 u192 u193 u194 u195 u196 u197 u198 u199 u200 u201 u202 u203 u204 u205 u206 u207 u208 u209 u210 u211 u212 u213 u214 u215 u216 u217 u218 u219 u220 u221 u222 u223 u224 u225 u226 u227 u228 u229 u230 u231 u232 u233 u234 u235 u236 u237 u238 u239 u240 u241 u242 u243 u244 u245 u246 u247 u248 u249 u250 u251 u252 u253 u254 u255 u256 u257 u258 u259 u260 u261 u262 u263 u264 u265 u266 u267 : Value) (wc : World) (Q : Exit → Act → World → Prop)
    (hS : MK w x n rows A0 c0 0 wc) (r2 : RdF w (.slice a2 n2 c2) n2 (fun i => st (S2 i))) (hn2 : n2 ≤ 8796093021952) (hn : 3 ≤ n ∧ n ≤ 10) (hr : 1 ≤ rows ∧ rows ≤ 20) (cc : Nat) (hcc : (n : Int) - 2 = (cc : Int)) (hmul : (rows : Int) * (cc : Int) = (m : Int)) (hm160 : (m : Int) ≤ 160) (hm1 : (1 : Int) ≤ (m : Int)) (hm : Hid (m = rows * (n - 2)))
    (hQ : ∀ (x10 x13 x71 x72 x73 x74 x75 x76 x77 x78 x79 x80 x81 x82 x83 x84 x85 x86 x87 x88 x89 x90 x91 x92 x93 x94 x95 x96 x97 x98 x99 x100 : Value) (A : Arr) (c : Nat → List El) (N : Nat) (w1 : World), MK w x n rows A c N w1 → N ≤ 480 → Q .normal ⟨#[.int .i64 n, .int .i64 rows, .slice a2 n2 c2, .slice a3 n3 c3, .string s4, u5, u6, u7, u8, u9, x10, .pointer (some ⟨x.p, 0, none⟩), u12, x13, u14, u15, u16, u17, u18, u19, u20, u21, u22, u23, u24, u25, u26, u27, u28, u29, u30, u31, u32, u33, u34, u35, u36, u37, u38, u39, u40, u41, u42, u43, u44, u45, u46, u47, u48, u49, u50, u51, u52, u53, u54, u55, u56, u57, u58, u59, u60, u61, u62, u63, u64, u65, u66, u67, u68, u69, u70, x71, x72, x73, x74, x75, x76, x77, x78, x79, x80, x81, x82, x83, x84, x85, x86, x87, x88, x89, x90, x91, x92, x93, x94, x95, x96, x97, x98, x99, x100, u101, u102, u103, u104, u105, u106, u107, u108, u109, u110, u111, u112, u113, u114, u115, u116, u117, u118, u119, u120, u121, u122, u123, u124, u125, u126, u127, u128, u129, u130, u131, u132, u133, u134, u135, u136, u137, u138, u139, u140, u141, u142, u143, u144, u145, u146, u147, u148, u149, u150, u151, u152, u153, u154, u155, u156, u157, u158, u159, u160, u161, u162, u163, u164, u165, u166, u167, u168, u169, u170, u171, u172, u173, u174, u175, u176, u177, u178, u179, u180, u181, u182, u183, u184, u185, u186, u187, u188, u189, u190, u191, u192, u193, u194, u195, u196, u197, u198, u199, u200, u201, u202, u203, u204, u205, u206, u207, u208, u209, u210, u211, u212, u213, u214, u215, u216, u217, u218, u219, u220, u221, u222, u223, u224, u225, u226, u227, u228, u229, u230, u231, u232, u233, u234, u235, u236, u237, u238, u239, u240, u241, u242, u243, u244, u245, u246, u247, u248, u249, u250, u251, u252, u253, u254, u255, u256, u257, u258, u259, u260, u261, u262, u263, u264, u265, u266, u267], []⟩ w1) :
    Code.wp Tryz.prog (cut [1, 1, 1, 1, 0] (Tryz.f5.body.getD .skip)) Q ⟨#[.int .i64 n, .int .i64 rows, .slice a2 n2 c2, .slice a3 n3 c3, .string s4, u5, u6, u7, u8, u9, u10, .pointer (some ⟨x.p, 0, none⟩), u12, u13, u14, u15, u16, u17, u18, u19, u20, u21, u22, u23, u24, u25, u26, u27, u28, u29, u30, u31, u32, u33, u34, u35, u36, u37, u38, u39, u40, u41, u42, u43, u44, u45, u46, u47, u48, u49, u50, u51, u52, u53, u54, u55, u56, u57, u58, u59, u60, u61, u62, u63, u64, u65, u66, u67, u68, u69, u70, u71, u72, u73, u74, u75, u76, u77, u78, u79, u80, u81, u82, u83, u84, u85, u86, u87, u88, u89, u90, u91, u92, u93, u94, u95, u96, u97, u98, u99, u100, u101, u102, u103, u104, u105, u106, u107, u108, u109, u110, u111, u112, u113, u114, u115, u116, u117, u118, u119, u120, u121, u122, u123, u124, u125, u126, u127, u128, u129, u130, u131, u132, u133, u134, u135, u136, u137, u138, u139, u140, u141, u142, u143, u144, u145, u146, u147, u148, u149, u150, u151, u152, u153, u154, u155, u156, u157, u158, u159, u160, u161, u162, u163, u164, u165, u166, u167, u168, u169, u170, u171, u172, u173, u174, u175, u176, u177, u178, u179, u180, u181, u182, u183, u184, u185, u186, u187, u188, u189, u190, u191, u192, u193, u194, u195, u196, u197, u198, u199, u200, u201, u202, u203, u204, u205, u206, u207, u208, u209, u210, u211, u212, u213, u214, u215, u216, u217, u218, u219, u220, u221, u222, u223, u224, u225, u226, u227, u228, u229, u230, u231, u232, u233, u234, u235, u236, u237, u238, u239, u240, u241, u242, u243, u244, u245, u246, u247, u248, u249, u250, u251, u252, u253, u254, u255, u256, u257, u258, u259, u260, u261, u262, u263, u264, u265, u266, u267], []⟩ wc := by
  conv => arg 2; whnf
  have HQ : Hid _ := hQ
  have HR2 : Hid (RdF w (.slice a2 n2 c2) n2 (fun i => st (S2 i))) := r2
  have HS0 : Hid (MK w x n rows A0 c0 0 wc) := hS
  have hm160' : rows * (n - 2) ≤ 160 := by rw [← hm.out]; omega
  clear hQ r2 hS
  go_wp2
  go_loopw [13] (fun t wr => ∃ (i : Nat) (A : Arr) (c : Nat → List El) (N : Nat), i ≤ m ∧ t = .int .i64 i ∧ MK w x n rows A c N wr ∧ N ≤ 3 * i) (fun t _ => m - (intOf t).toNat)
  case atStart => exact ⟨0, A0, c0, 0, Nat.zero_le _, rfl, HS0.out, Nat.le_refl _⟩
  case round =>
    clear HS0
    obtain ⟨i, A, c, N, hi, rfl, hS, hN⟩ := hrel
    have hN480 : N ≤ 480 := by omega
    by_cases h1 : i < n2
    · have h1' : (i : Int) < (n2 : Int) := by omega
      by_cases h2 : i < m
      · have h2' : (i : Int) < (m : Int) := by omega
        obtain ⟨ad, rfl, hc⟩ := (HR2.out.old hS.al.low).at i h1
        have hsz := sb_size (S2 i)
        by_cases h3 : (S2 i).length = 2
        · have W := hS.write (by omega) i (by rw [← hm.out]; exact h2) hm160' (S2 i) h3
          rw [h3] at hsz
          unfold st at W hc
          clear hS h3
          generalize sb (S2 i) = s at *
          go_wp2_with fail
          refine W.mono ?_
          rintro e w1 ⟨rfl, hS1⟩
          have HS1 : Hid (MK w x n rows (A.write (i : Int) (S2 i)) (up c i (S2 i)) (N + 3) w1) := hS1
          clear W hS1 hc
          go_wp2
          go_roundw
          case rel => exact ⟨i + 1, _, _, _, by omega, by go_num, HS1.out, by omega⟩
          case measure => simp [intOf]; omega
        · have h3' : ¬ (((S2 i).length : Nat) : Int) = 2 := by omega
          have h3b : ((((S2 i).length : Nat) : Int) == 2) = false := by rw [beq_eq_false_iff_ne]; exact h3'
          unfold st at hc
          have HS1 : Hid (MK w x n rows A c N wr) := hS
          clear hS h3
          generalize (S2 i).length = tl at *
          generalize sb (S2 i) = s at *
          go_wp2
          go_roundw
          case rel => exact ⟨i + 1, _, _, _, by omega, by go_num, HS1.out, by omega⟩
          case measure => simp [intOf]; omega
      · have h2' : (m : Int) ≤ (i : Int) := by omega
        have HS1 : Hid (MK w x n rows A c N wr) := hS
        clear hS h2
        go_wp2
        exact HQ.out _ _ _ _ _ _ _ _ _ _ _ _ _ _ _ _ _ _ _ _ _ _ _ _ _ _ _ _ _ _ _ _ _ _ _ _ HS1.out hN480
    · have h1' : (n2 : Int) ≤ (i : Int) := by omega
      have HS1 : Hid (MK w x n rows A c N wr) := hS
      clear hS h1
      go_wp2
      exact HQ.out _ _ _ _ _ _ _ _ _ _ _ _ _ _ _ _ _ _ _ _ _ _ _ _ _ _ _ _ _ _ _ _ _ _ _ _ HS1.out hN480
end Go.Proofs.YtilfjahbdlepjaaGreatDoor
