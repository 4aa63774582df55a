/- ScrubMends, a piece: walks over the program. -/
import Derived.Test.YtilfjahbdlepjaaGreatDoorSMa
import Derived.Deep.Cut
import Derived.Deep.CutRange
import Derived.BigCall
import Derived.BigGuard
namespace Go.Proofs.YtilfjahbdlepjaaGreatDoor
open Go.RowKit El Pol Mx Lay
set_option linter.unusedVariables false in
set_option maxRecDepth 1000000 in
set_option maxHeartbeats 4000000 in
theorem sm4 (n rows n2 c2 n3 c3 m : Nat) (a2 a3 : Option Addr) (s4 : ByteArray) (x : PAd) (w : World) (g0 c0 g1 c1 r d : Nat) (Pf : Nat → List El) (t4 : List El) (u5 u6 u7 u8 u9 u10 u12 u13 u14 u15 u16 u17 u18 u19 u22 u23 u25 u27 u28 u29 u30 u31 u32 u33 u34 u35 u36 u37 u38 u39 u40 u41 u42 u43 u44 u45 u46 u47 u48 u49 u50 u51 u52 u53 u54 u55 u56 u57 u58 u59 u60 u61 u62 u63 u64 u65 u66 u67 u68 u69 u70 u71 u72 u73 u74 u75 u76 u77 u78 u79 u80 u81 u82 u83 u84 u85 u86 u87 u88 u89 u90 u91 u92 u93 u94 u95 u96 u97 u98 u99 u100 u101 u102 u103 u104 u105 u106 u107 u108 u109 u110 u111 u112 u113 u114 u115 u116 u117 u118 u119 u120 u121 u122 u123 u124 u125 u126 u127 u128 u129 u130 u131 u132 u133 u134 u135 u136 u137 u138 u139 u140 u141 u142 u143 u144 u145 u146 u147 u148 u149 u150 u151 u152 u153 u154 u155 u156 u157 u158 u159 u160 u161 u162 u163 u164 u165 u166 u167 u168 u169 u170 u171 u172 u173 u174 u175 u176 u177 u178 u179 u180 u181 u182 u183 u184 u185 u186 u187 u188 u189 u190 u191 u192 u193 u194 u195 u196 u197 u198 u199 u200 u201 u202 u203 u204 u205 u206 u207 u208 u209 u210 u211 u212 u213 u214 u215 u216 u217 u218 u219 u220 u221 u222 u223 u224 u225 u226 u227 u228 u229 u230 u231 u232 u233 u234 u235 u236 u237 u238 u239 u240 u241 u242 u243 u244 u245 u246 u247 u248 u249 u250 u251 u252 u253 u254 u255 u256 u257 u258 u259 u260 u261 u262 u263 u264 u265 u266 u267 : Value) (wc : World) (Q : Exit → Act → World → Prop)
    (hn : 3 ≤ n ∧ n ≤ 10) (hd : d < n) (hs4 : s4 = sb t4) (h0 : RowAt wc g0 n (fun j => vi ((ord n r j : Nat) : Int))) (h1 : RowAt wc g1 n (fun j => st (Pf j)))
    (hQ : ∀ (x27 x179 x180 x181 x182 x183 x184 x185 x186 x187 x188 x189 x190 x191 x192 x193 x194 x195 x196 x197 x198 x199 x200 : Value)  (w1 : World), w1 = wc → Q .normal ⟨#[.int .i64 n, .int .i64 rows, .slice a2 n2 c2, .slice a3 n3 c3, .string s4, u5, u6, u7, u8, u9, u10, .pointer (some ⟨x.p, 0, none⟩), u12, u13, u14, u15, u16, u17, u18, u19, .int .i64 (d : Int), .slice (some ⟨g1, 0, none⟩) n c1, u22, u23, .slice (some ⟨g0, 0, none⟩) n c0, u25, .bool (decide (Pf (pos n r d) = t4)), x27, u28, u29, u30, u31, u32, u33, u34, u35, u36, u37, u38, u39, u40, u41, u42, u43, u44, u45, u46, u47, u48, u49, u50, u51, u52, u53, u54, u55, u56, u57, u58, u59, u60, u61, u62, u63, u64, u65, u66, u67, u68, u69, u70, u71, u72, u73, u74, u75, u76, u77, u78, u79, u80, u81, u82, u83, u84, u85, u86, u87, u88, u89, u90, u91, u92, u93, u94, u95, u96, u97, u98, u99, u100, u101, u102, u103, u104, u105, u106, u107, u108, u109, u110, u111, u112, u113, u114, u115, u116, u117, u118, u119, u120, u121, u122, u123, u124, u125, u126, u127, u128, u129, u130, u131, u132, u133, u134, u135, u136, u137, u138, u139, u140, u141, u142, u143, u144, u145, u146, u147, u148, u149, u150, u151, u152, u153, u154, u155, u156, u157, u158, u159, u160, u161, u162, u163, u164, u165, u166, u167, u168, u169, u170, u171, u172, u173, u174, u175, u176, u177, u178, x179, x180, x181, x182, x183, x184, x185, x186, x187, x188, x189, x190, x191, x192, x193, x194, x195, x196, x197, x198, x199, x200, u201, u202, u203, u204, u205, u206, u207, u208, u209, u210, u211, u212, u213, u214, u215, u216, u217, u218, u219, u220, u221, u222, u223, u224, u225, u226, u227, u228, u229, u230, u231, u232, u233, u234, u235, u236, u237, u238, u239, u240, u241, u242, u243, u244, u245, u246, u247, u248, u249, u250, u251, u252, u253, u254, u255, u256, u257, u258, u259, u260, u261, u262, u263, u264, u265, u266, u267], []⟩ w1) :
    Code.wp Tryz.prog (cut [1, 1, 1, 1, 1, 1, 1, 1, 0, 1, 2, 5, 1, 0, 2, 1, 1, 1, 1, 1, 1, 0] (Tryz.f5.body.getD .skip)) Q ⟨#[.int .i64 n, .int .i64 rows, .slice a2 n2 c2, .slice a3 n3 c3, .string s4, u5, u6, u7, u8, u9, u10, .pointer (some ⟨x.p, 0, none⟩), u12, u13, u14, u15, u16, u17, u18, u19, .int .i64 (d : Int), .slice (some ⟨g1, 0, none⟩) n c1, u22, u23, .slice (some ⟨g0, 0, none⟩) n c0, u25, .bool false, u27, u28, u29, u30, u31, u32, u33, u34, u35, u36, u37, u38, u39, u40, u41, u42, u43, u44, u45, u46, u47, u48, u49, u50, u51, u52, u53, u54, u55, u56, u57, u58, u59, u60, u61, u62, u63, u64, u65, u66, u67, u68, u69, u70, u71, u72, u73, u74, u75, u76, u77, u78, u79, u80, u81, u82, u83, u84, u85, u86, u87, u88, u89, u90, u91, u92, u93, u94, u95, u96, u97, u98, u99, u100, u101, u102, u103, u104, u105, u106, u107, u108, u109, u110, u111, u112, u113, u114, u115, u116, u117, u118, u119, u120, u121, u122, u123, u124, u125, u126, u127, u128, u129, u130, u131, u132, u133, u134, u135, u136, u137, u138, u139, u140, u141, u142, u143, u144, u145, u146, u147, u148, u149, u150, u151, u152, u153, u154, u155, u156, u157, u158, u159, u160, u161, u162, u163, u164, u165, u166, u167, u168, u169, u170, u171, u172, u173, u174, u175, u176, u177, u178, u179, u180, u181, u182, u183, u184, u185, u186, u187, u188, u189, u190, u191, u192, u193, u194, u195, u196, u197, u198, u199, u200, u201, u202, u203, u204, u205, u206, u207, u208, u209, u210, u211, u212, u213, u214, u215, u216, u217, u218, u219, u220, u221, u222, u223, u224, u225, u226, u227, u228, u229, u230, u231, u232, u233, u234, u235, u236, u237, u238, u239, u240, u241, u242, u243, u244, u245, u246, u247, u248, u249, u250, u251, u252, u253, u254, u255, u256, u257, u258, u259, u260, u261, u262, u263, u264, u265, u266, u267], []⟩ wc := by
  conv => arg 2; whnf
  have HQ : Hid _ := hQ
  have HR0 : Hid (∀ j, j < n → wc.cell? ⟨g0, j, none⟩ = some (.int .i64 ((ord n r j : Nat) : Int))) := fun j hj => (h0.2 j hj).1
  have HR1 : Hid (∀ j, j < n → wc.cell? ⟨g1, j, none⟩ = some (.string (sb (Pf j)))) := fun j hj => (h1.2 j hj).1
  have hp : pos n r d < n := pos_lt hn.1
  have HI : Hid (∀ j, j < n → ((ord n r j = d) ↔ j = pos n r d)) := fun j hj => ⟨fun e => by rw [← e, pos_ord hn.1 hn.2 hj], fun e => by rw [e, ord_pos hn.1 hn.2 hd]⟩
  have HSS := sb_same (Pf (pos n r d)) t4
  rw [← hs4] at HSS
  obtain ⟨b, hb⟩ : ∃ b, b = decide (Pf (pos n r d) = t4) := ⟨_, rfl⟩
  rw [← hb] at HSS HQ
  obtain ⟨sp, hsp⟩ : ∃ sp, sp = sb (Pf (pos n r d)) := ⟨_, rfl⟩
  have HSP : Hid (sp = sb (Pf (pos n r d))) := hsp
  rw [← hsp] at HSS
  clear hQ h0 h1 hs4 hb hsp
  obtain ⟨p, hpp⟩ : ∃ p, p = pos n r d := ⟨_, rfl⟩
  rw [← hpp] at hp HI HSP
  clear hpp
  go_wp2
  go_loop [26, 27] (fun v t => ∃ j : Nat, j ≤ n ∧ t = .int .i64 j ∧ v = .bool (decide (p < j) && b)) (fun _ t => n - (intOf t).toNat)
  case atStart => exact ⟨0, Nat.zero_le _, rfl, by rw [decide_eq_false (by omega)]; rfl⟩
  case round =>
    obtain ⟨j, hj, rfl, rfl⟩ := hrel
    by_cases hlt : j < n
    · have hlt' : (j : Int) < (n : Int) := by omega
      have k0 := HR0.out j hlt
      have k1 := HR1.out j hlt
      have hi := HI.out j hlt
      by_cases hjp : j = p
      · have e1 : (((ord n r j : Nat) : Int) == (d : Int)) = true := by rw [beq_iff_eq]; have := hi.2 hjp; omega
        have e2 : (decide (p < j) && b) = false := by rw [decide_eq_false (by omega)]; rfl
        have HE : Hid ((decide (p < j + 1) && b) = b) := by (show _ = _); rw [decide_eq_true (by omega)]; rfl
        rw [hjp, ← HSP.out] at k1
        rw [← hjp] at k1
        generalize ((ord n r j : Nat) : Int) = y at *
        rw [e2]
        clear e2 hi hjp
        cases b
        all_goals
          go_wp2
          go_round
          case rel => exact ⟨j + 1, by omega, by go_num, by rw [HE.out]⟩
          case measure => simp [intOf]; omega
      · have e1 : (((ord n r j : Nat) : Int) == (d : Int)) = false := by rw [beq_eq_false_iff_ne]; intro e; exact hjp (hi.1 (by omega))
        have HE : Hid ((decide (p < j + 1) && b) = (decide (p < j) && b)) := by
          (show _ = _)
          by_cases q : p < j
          · rw [decide_eq_true q, decide_eq_true (by omega)]
          · rw [decide_eq_false q, decide_eq_false (by omega)]
        generalize ((ord n r j : Nat) : Int) = y at *
        generalize sb (Pf j) = sj at *
        clear hi hjp
        obtain ⟨bb, hbb⟩ : ∃ bb, bb = (decide (p < j) && b) := ⟨_, rfl⟩
        rw [← hbb] at HE ⊢
        clear hbb
        cases bb
        all_goals
          go_wp2
          go_round
          case rel => exact ⟨j + 1, by omega, by go_num, by rw [HE.out]⟩
          case measure => simp [intOf]; omega
    · have e : (decide (p < j) && b) = b := by rw [decide_eq_true (by omega)]; rfl
      have hge : (n : Int) ≤ (j : Int) := by omega
      rw [e]
      clear e
      go_wp2
      exact HQ.out _ _ _ _ _ _ _ _ _ _ _ _ _ _ _ _ _ _ _ _ _ _ _ _ rfl
end Go.Proofs.YtilfjahbdlepjaaGreatDoor
