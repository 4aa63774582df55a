/- CacheSame, a piece: walks over the program. -/
import Derived.Test.YtacfafbnimhibaaSCb
namespace Go.Proofs.Ytacfafbnimhibaa
open Go.RowKit Go.Maps El Pol
set_option linter.unusedVariables false in
set_option maxRecDepth 1000000 in
set_option maxHeartbeats 4000000 in
theorem s_tail (n0 c0 R n2 c2 n3 c3 cn : Nat) (a0 a2 a3 an : Option Addr) (x : CP) (w : World) (k q N : Nat) (c : Che) (u4 u5 u6 u7 u8 u9 u10 u11 u12 u14 u18 u19 u20 u21 u22 u23 u24 u25 u26 u27 u28 u29 u30 u31 u32 u33 u34 u35 u36 u37 u38 u39 u40 u41 u42 u43 u44 u45 u46 u47 u48 u49 u50 u51 u52 u53 u54 u55 u56 u57 u58 u59 u60 u61 u62 u63 u64 u65 u66 u67 u68 u69 u70 u71 u72 u73 u74 u75 u76 u77 u78 u79 u80 u81 u82 u83 u84 u85 u86 u87 u88 u89 u90 u91 u92 u93 u94 u95 u96 u97 u98 u99 u100 u101 u102 u103 u104 u105 u106 u107 u108 u109 u110 u111 u112 u113 u114 u115 u116 u117 u118 u119 u120 u121 u122 u123 u124 u125 u126 u127 u128 u129 u130 u131 u132 u133 u134 u135 u136 u137 u138 u139 u140 u141 u142 u143 u144 u145 u146 u147 u148 u149 u150 u151 u152 u153 u154 u155 u156 u157 u158 u159 u160 u161 u162 u163 u164 u165 u166 u167 u168 u169 u170 u171 u172 u173 u174 u175 u176 u177 u178 u179 u180 u181 u182 u183 u184 u185 u186 u187 u188 u189 u190 u191 u192 u193 u194 u195 u196 u197 u198 u199 u200 u201 u202 u203 u204 u205 u206 u207 u208 u209 u210 u211 u212 u213 u214 u215 u216 u217 u218 u219 u220 u221 u222 u223 u224 u225 u226 u227 u228 u229 u230 u231 u232 u233 u234 u235 u236 u237 u238 u239 u240 u241 u242 u243 u244 u245 u246 u247 u248 u249 u250 u251 u252 u253 u254 u255 u256 u257 u258 u259 u260 u261 u262 u263 : Value) (wc : World) (Q : Exit → Act → World → Prop)
    (hS : CW w x an cn n0 R c N wc)
    (hQ : ∀ (x8 x22 x23 x24 x25 x182 x183 x184 x185 x186 x187 x188 x189 x190 x191 x192 x193 x194 x195 x196 x197 x198 x199 x200 x201 x202 x203 x204 x205 x206 x207 x208 x209 x210 x211 x212 x213 x214 x215 x216 x217 x218 x219 : Value)  (w1 : World), CW w x an cn n0 R c N w1 → Q .normal ⟨#[.slice a0 n0 c0, .int .i64 ((R : Nat) : Int), .slice a2 n2 c2, .slice a3 n3 c3, u4, u5, u6, u7, x8, u9, u10, u11, u12, .pointer (some ⟨x.p, 0, none⟩), u14, .slice an n0 cn, .int .i64 ((k : Nat) : Int), .pointer (some ⟨q, 0, none⟩), u18, u19, u20, u21, x22, x23, x24, x25, u26, u27, u28, u29, u30, u31, u32, u33, u34, u35, u36, u37, u38, u39, u40, u41, u42, u43, u44, u45, u46, u47, u48, u49, u50, u51, u52, u53, u54, u55, u56, u57, u58, u59, u60, u61, u62, u63, u64, u65, u66, u67, u68, u69, u70, u71, u72, u73, u74, u75, u76, u77, u78, u79, u80, u81, u82, u83, u84, u85, u86, u87, u88, u89, u90, u91, u92, u93, u94, u95, u96, u97, u98, u99, u100, u101, u102, u103, u104, u105, u106, u107, u108, u109, u110, u111, u112, u113, u114, u115, u116, u117, u118, u119, u120, u121, u122, u123, u124, u125, u126, u127, u128, u129, u130, u131, u132, u133, u134, u135, u136, u137, u138, u139, u140, u141, u142, u143, u144, u145, u146, u147, u148, u149, u150, u151, u152, u153, u154, u155, u156, u157, u158, u159, u160, u161, u162, u163, u164, u165, u166, u167, u168, u169, u170, u171, u172, u173, u174, u175, u176, u177, u178, u179, u180, u181, x182, x183, x184, x185, x186, x187, x188, x189, x190, x191, x192, x193, x194, x195, x196, x197, x198, x199, x200, x201, x202, x203, x204, x205, x206, x207, x208, x209, x210, x211, x212, x213, x214, x215, x216, x217, x218, x219, u220, u221, u222, u223, u224, u225, u226, u227, u228, u229, u230, u231, u232, u233, u234, u235, u236, u237, u238, u239, u240, u241, u242, u243, u244, u245, u246, u247, u248, u249, u250, u251, u252, u253, u254, u255, u256, u257, u258, u259, u260, u261, u262, u263], []⟩ w1) :
    Code.wp Try.prog (cut [1, 1, 1, 1, 1, 1, 1, 1, 1, 1, 0, 1, 2, 5, 1, 0, 2, 1, 1, 1] (Try.f4.body.getD .skip)) Q ⟨#[.slice a0 n0 c0, .int .i64 ((R : Nat) : Int), .slice a2 n2 c2, .slice a3 n3 c3, u4, u5, u6, u7, u8, u9, u10, u11, u12, .pointer (some ⟨x.p, 0, none⟩), u14, .slice an n0 cn, .int .i64 ((k : Nat) : Int), .pointer (some ⟨q, 0, none⟩), u18, u19, u20, u21, u22, u23, u24, u25, u26, u27, u28, u29, u30, u31, u32, u33, u34, u35, u36, u37, u38, u39, u40, u41, u42, u43, u44, u45, u46, u47, u48, u49, u50, u51, u52, u53, u54, u55, u56, u57, u58, u59, u60, u61, u62, u63, u64, u65, u66, u67, u68, u69, u70, u71, u72, u73, u74, u75, u76, u77, u78, u79, u80, u81, u82, u83, u84, u85, u86, u87, u88, u89, u90, u91, u92, u93, u94, u95, u96, u97, u98, u99, u100, u101, u102, u103, u104, u105, u106, u107, u108, u109, u110, u111, u112, u113, u114, u115, u116, u117, u118, u119, u120, u121, u122, u123, u124, u125, u126, u127, u128, u129, u130, u131, u132, u133, u134, u135, u136, u137, u138, u139, u140, u141, u142, u143, u144, u145, u146, u147, u148, u149, u150, u151, u152, u153, u154, u155, u156, u157, u158, u159, u160, u161, u162, u163, u164, u165, u166, u167, u168, u169, u170, u171, u172, u173, u174, u175, u176, u177, u178, u179, u180, u181, u182, u183, u184, u185, u186, u187, u188, u189, u190, u191, u192, u193, u194, u195, u196, u197, u198, u199, u200, u201, u202, u203, u204, u205, u206, u207, u208, u209, u210, u211, u212, u213, u214, u215, u216, u217, u218, u219, u220, u221, u222, u223, u224, u225, u226, u227, u228, u229, u230, u231, u232, u233, u234, u235, u236, u237, u238, u239, u240, u241, u242, u243, u244, u245, u246, u247, u248, u249, u250, u251, u252, u253, u254, u255, u256, u257, u258, u259, u260, u261, u262, u263], []⟩ wc := by
  conv => arg 2; whnf
  have HQ : Hid _ := hQ
  have HS : Hid (CW w x an cn n0 R c N wc) := hS
  have hn40 : n0 ≤ 40 := by rw [← hS.hn]; exact hS.mc.ok.n40
  have C := cbelows_any hS.mc
  rw [hS.hn] at C
  clear hQ hS
  go_wp2_with fail
  refine C.mono ?_
  rintro e w2 ⟨ub, rfl, hO2, hB2⟩
  have HS2 : Hid (CW w x an cn n0 R c N w2) := HS.out.old hB2
  obtain ⟨ab, cb, rfl⟩ := OwT.len hO2
  have HO2 : Hid (OwT wc.heap.size w2 (.slice ab n0 cb) n0 c.below) := hO2
  obtain ⟨us, si, T, hM2, _⟩ := HS2.out.mc.is
  have D := cdirty_any hM2 HS2.out.mc.ok
  clear C hO2 hB2 HS hM2
  go_wp2_with fail
  refine D.mono ?_
  rintro e w3 ⟨vd, rfl, hO3, hB3⟩
  have HS3 : Hid (CW w x an cn n0 R c N w3) := HS2.out.old hB3
  obtain ⟨ad, cd, rfl⟩ := OwN.len hO3
  have HO3 : Hid (OwN w2.heap.size w3 (.slice ad c.dirty.length cd) c.dirty) := hO3
  have HP3 : Hid (OwT wc.heap.size w3 (.slice ab n0 cb) n0 c.below) := ownsRow_old HO2.out hB3
  obtain ⟨us3, si3, T3, hM3, _⟩ := HS3.out.mc.is
  have H := chas_any hM3 (Nat.le_trans HS3.out.mc.ok.len HS3.out.mc.ok.r12)
  clear D hO3 hB3 HO2 HS2 hM3
  have hdl : c.dirty.length ≤ 40 := by
    have h1 := len_sub HS3.out.mc.ok.dnd HS3.out.mc.ok.nd HS3.out.mc.ok.dsub
    have h2 := HS3.out.mc.ok.len
    have h3 := HS3.out.mc.ok.r12
    omega
  have hrl : c.row.length ≤ R := by rw [← HS3.out.hr]; exact HS3.out.mc.ok.len
  go_wp2_with fail
  refine H.mono ?_
  rintro e w4 ⟨vh, rfl, hO4, hB4⟩
  have HS4 : Hid (CW w x an cn n0 R c N w4) := HS3.out.old hB4
  have HO4 : Hid (OwN w2.heap.size w4 (.slice ad c.dirty.length cd) c.dirty) := ownsRow_old HO3.out hB4
  have HP4 : Hid (OwT wc.heap.size w4 (.slice ab n0 cb) n0 c.below) := ownsRow_old HP3.out hB4
  obtain ⟨ah, ch, rfl⟩ := OwN.len hO4
  have hrz : ((c.row.length : Nat) : Int) ≤ (R : Int) := by omega
  have hrz2 : ¬ (R : Int) < ((c.row.length : Nat) : Int) := by omega
  have HI : Hid (∀ (j m : Nat), Calls Try.prog 18 #[.slice ad c.dirty.length cd, .int .i64 (j : Int)] (w4.drewN m) fun e w' => e = .returned (.bool (decide (j ∈ c.dirty))) ∧ w' = w4.drewN m) := fun j m => in_any _ c.dirty j _ ((OwN.rd HO4.out).old (below_drewN (Below.refl _ _) m)) (by omega)
  have HCB : Hid (∀ (j m : Nat), j < n0 → ∃ d e : Addr, ab = some d ∧ an = some e ∧ (w4.drewN m).cell? (d.add j) = some (.string (sb (c.below j))) ∧ (w4.drewN m).cell? (e.add j) = some (.string (sb (c.now j)))) := fun j m hj => by
    obtain ⟨d, hd, h1⟩ := (OwT.rd (ownsRow_old HP4.out (below_drewN (Below.refl _ _) m))).at j hj
    obtain ⟨e, he, h2⟩ := (OwT.rd (ownsRow_old HS4.out.nw (below_drewN (Below.refl _ _) m))).at j hj
    exact ⟨d, e, hd, he, h1, h2⟩
  have HEq : Hid (∀ j, j ∉ c.dirty → c.below j = c.now j) := fun j hj => Che.below_now HS4.out.mc.ok hj
  clear H hO4 hB4 HS3 HO3 HP3 HO4 HP4
  generalize c.dirty.length = dl at *
  generalize c.row.length = rl at *
  have hrz3 : decide (R < rl) = false := decide_eq_false (by omega)
  go_wp2
  go_loopw [24] (fun cc wr => ∃ j : Nat, j ≤ n0 ∧ cc = .int .i64 j ∧ Hid (∃ m, wr = w4.drewN m)) (fun cc _ => n0 - (intOf cc).toNat)
  case atStart => exact ⟨0, Nat.zero_le _, rfl, ⟨0, rfl⟩⟩
  case round =>
    obtain ⟨j, hj, rfl, HW⟩ := hrel
    obtain ⟨m, rfl⟩ := HW.out
    clear HW
    by_cases hlt : j < n0
    · have hjz : (j : Int) < (n0 : Int) := by omega
      obtain ⟨d, e, rfl, rfl, g1, g2⟩ := HCB.out j m hlt
      have C := HI.out j m
      have HDr : Hid (∀ q, (w4.drewN m).drewN q = w4.drewN (m + q)) := fun q => World.drewN_drewN _ _ _
      by_cases hd : j ∈ c.dirty
      · rw [decide_eq_true hd] at C
        clear hd g1 g2
        generalize w4.drewN m = wm at *
        go_wp2_with fail
        refine C.mono ?_
        rintro e w5 ⟨rfl, hw5⟩
        obtain rfl := hw5.symm
        clear C hw5
        go_wp2_with fail
        go_quiet (fail)
        go_wp2
        go_roundw
        case rel => exact ⟨j + 1, by omega, by go_num, ⟨_, HDr.out _⟩⟩
        case measure => simp [intOf]; omega
      · rw [decide_eq_false hd] at C
        rw [HEq.out j hd] at g1
        clear hd
        generalize sb (c.now j) = sx at *
        generalize w4.drewN m = wm at *
        go_wp2_with fail
        refine C.mono ?_
        rintro e w5 ⟨rfl, hw5⟩
        obtain rfl := hw5.symm
        clear C hw5
        go_wp2_with fail
        go_quiet (fail)
        go_wp2
        go_roundw
        case rel => exact ⟨j + 1, by omega, by go_num, ⟨_, HDr.out _⟩⟩
        case measure => simp [intOf]; omega
    · have hjz : ¬ (j : Int) < (n0 : Int) := by omega
      have HS5 : Hid (CW w x an cn n0 R c N (w4.drewN m)) := HS4.out.drewN m
      clear HS4 HI HCB HEq
      generalize w4.drewN m = wm at *
      go_wp2
      exact HQ.out _ _ _ _ _ _ _ _ _ _ _ _ _ _ _ _ _ _ _ _ _ _ _ _ _ _ _ _ _ _ _ _ _ _ _ _ _ _ _ _ _ _ _ _ HS5.out
end Go.Proofs.Ytacfafbnimhibaa
