/- ScrubMends, a piece: walks over the program. -/
import Derived.Test.YtilfjahbdlepjaaGreatDoorSMa
import Derived.Deep.Cut
import Derived.Deep.CutRange
import Derived.BigCall
import Derived.BigGuard
namespace Go.Proofs.YtilfjahbdlepjaaGreatDoor
open Go.RowKit El Pol Mx Lay
theorem owns_len3 {B : Nat} {T : TypeId} {w : World} {v : Value} {n : Nat} {xs : List Value} (h : w.ownsRow B T 1 v n xs) : ∃ ao cap, v = .slice ao n cap := by
  rcases h.2 with ⟨rfl, e⟩ | ⟨g, cap, cur, rfl, _⟩
  · exact ⟨none, 0, by rw [e]⟩
  · exact ⟨_, cap, rfl⟩

set_option linter.unusedVariables false in
set_option maxRecDepth 1000000 in
set_option maxHeartbeats 4000000 in
theorem sm2 (n rows n2 c2 n3 c3 m : Nat) (a2 a3 : Option Addr) (s4 : ByteArray) (x : PAd) (w : World) (A : Arr) (c : Nat → List El) (N : Nat) (u5 u6 u7 u8 u9 u10 u12 u13 u15 u16 u17 u18 u19 u20 u21 u22 u23 u24 u25 u26 u27 u28 u29 u30 u31 u32 u33 u34 u35 u36 u37 u38 u39 u40 u41 u42 u43 u44 u45 u46 u47 u48 u49 u50 u51 u52 u53 u54 u55 u56 u57 u58 u59 u60 u61 u62 u63 u64 u65 u66 u67 u68 u69 u70 u71 u72 u73 u74 u75 u76 u77 u78 u79 u80 u81 u82 u83 u84 u85 u86 u87 u88 u89 u90 u91 u92 u93 u94 u95 u96 u97 u98 u99 u100 u101 u102 u103 u104 u105 u106 u107 u108 u109 u110 u111 u112 u113 u114 u115 u116 u117 u118 u119 u120 u121 u122 u123 u124 u125 u126 u127 u128 u129 u130 u131 u132 u133 u134 u135 u136 u137 u138 u139 u140 u141 u142 u143 u144 u145 u146 u147 u148 u149 u150 u151 u152 u153 u154 u155 u156 u157 u158 u159 u160 u161 u162 u163 u164 u165 u166 u167 u168 u169 u170 u171 u172 u173 u174 u175 u176 u177 u178 u179 u180 u181 u182 u183 u184 u185 u186 u187 u188 u189 u190 u191 u192 u193 u194 u195 u196 u197 u198 u199 u200 u201 u202 u203 u204 u205 u206 u207 u208 u209 u210 u211 u212 u213 u214 u215 u216 u217 u218 u219 u220 u221 u222 u223 u224 u225 u226 u227 u228 u229 u230 u231 u232 u233 u234 u235 u236 u237 u238 u239 u240 u241 u242 u243 u244 u245 u246 u247 u248 u249 u250 u251 u252 u253 u254 u255 u256 u257 u258 u259 u260 u261 u262 u263 u264 u265 u266 u267 : Value) (wc : World) (Q : Exit → Act → World → Prop)
    (hS : MK w x n rows A c N wc) (hn : 3 ≤ n ∧ n ≤ 10) (hr : 1 ≤ rows ∧ rows ≤ 20) (cc : Nat) (hcc : (n : Int) - 2 = (cc : Int)) (hmul : (rows : Int) * (cc : Int) = (m : Int)) (hm160 : (m : Int) ≤ 160) (hm1 : (1 : Int) ≤ (m : Int)) (hm : Hid (m = rows * (n - 2)))
    (hQ : ∀ (x10 x15 x16 x17 x101 x102 x103 x104 x105 x106 x107 x108 x109 x110 x111 x112 x113 x114 x115 x116 x117 x118 x119 x120 : Value) (g cap : Nat) (w1 : World), MK w x n rows A c N w1 → MG w x n g m c w1 → g < w1.heap.size → Q .normal ⟨#[.int .i64 n, .int .i64 rows, .slice a2 n2 c2, .slice a3 n3 c3, .string s4, u5, u6, u7, u8, u9, x10, .pointer (some ⟨x.p, 0, none⟩), u12, u13, .slice (some ⟨g, 0, none⟩) m cap, x15, x16, x17, u18, u19, u20, u21, u22, u23, u24, u25, u26, u27, u28, u29, u30, u31, u32, u33, u34, u35, u36, u37, u38, u39, u40, u41, u42, u43, u44, u45, u46, u47, u48, u49, u50, u51, u52, u53, u54, u55, u56, u57, u58, u59, u60, u61, u62, u63, u64, u65, u66, u67, u68, u69, u70, u71, u72, u73, u74, u75, u76, u77, u78, u79, u80, u81, u82, u83, u84, u85, u86, u87, u88, u89, u90, u91, u92, u93, u94, u95, u96, u97, u98, u99, u100, x101, x102, x103, x104, x105, x106, x107, x108, x109, x110, x111, x112, x113, x114, x115, x116, x117, x118, x119, x120, u121, u122, u123, u124, u125, u126, u127, u128, u129, u130, u131, u132, u133, u134, u135, u136, u137, u138, u139, u140, u141, u142, u143, u144, u145, u146, u147, u148, u149, u150, u151, u152, u153, u154, u155, u156, u157, u158, u159, u160, u161, u162, u163, u164, u165, u166, u167, u168, u169, u170, u171, u172, u173, u174, u175, u176, u177, u178, u179, u180, u181, u182, u183, u184, u185, u186, u187, u188, u189, u190, u191, u192, u193, u194, u195, u196, u197, u198, u199, u200, u201, u202, u203, u204, u205, u206, u207, u208, u209, u210, u211, u212, u213, u214, u215, u216, u217, u218, u219, u220, u221, u222, u223, u224, u225, u226, u227, u228, u229, u230, u231, u232, u233, u234, u235, u236, u237, u238, u239, u240, u241, u242, u243, u244, u245, u246, u247, u248, u249, u250, u251, u252, u253, u254, u255, u256, u257, u258, u259, u260, u261, u262, u263, u264, u265, u266, u267], []⟩ w1) :
    Code.wp Tryz.prog (cut [1, 1, 1, 1, 1, 1, 0] (Tryz.f5.body.getD .skip)) Q ⟨#[.int .i64 n, .int .i64 rows, .slice a2 n2 c2, .slice a3 n3 c3, .string s4, u5, u6, u7, u8, u9, u10, .pointer (some ⟨x.p, 0, none⟩), u12, u13, .slice none 0 0, u15, u16, u17, u18, u19, u20, u21, u22, u23, u24, u25, u26, u27, u28, u29, u30, u31, u32, u33, u34, u35, u36, u37, u38, u39, u40, u41, u42, u43, u44, u45, u46, u47, u48, u49, u50, u51, u52, u53, u54, u55, u56, u57, u58, u59, u60, u61, u62, u63, u64, u65, u66, u67, u68, u69, u70, u71, u72, u73, u74, u75, u76, u77, u78, u79, u80, u81, u82, u83, u84, u85, u86, u87, u88, u89, u90, u91, u92, u93, u94, u95, u96, u97, u98, u99, u100, u101, u102, u103, u104, u105, u106, u107, u108, u109, u110, u111, u112, u113, u114, u115, u116, u117, u118, u119, u120, u121, u122, u123, u124, u125, u126, u127, u128, u129, u130, u131, u132, u133, u134, u135, u136, u137, u138, u139, u140, u141, u142, u143, u144, u145, u146, u147, u148, u149, u150, u151, u152, u153, u154, u155, u156, u157, u158, u159, u160, u161, u162, u163, u164, u165, u166, u167, u168, u169, u170, u171, u172, u173, u174, u175, u176, u177, u178, u179, u180, u181, u182, u183, u184, u185, u186, u187, u188, u189, u190, u191, u192, u193, u194, u195, u196, u197, u198, u199, u200, u201, u202, u203, u204, u205, u206, u207, u208, u209, u210, u211, u212, u213, u214, u215, u216, u217, u218, u219, u220, u221, u222, u223, u224, u225, u226, u227, u228, u229, u230, u231, u232, u233, u234, u235, u236, u237, u238, u239, u240, u241, u242, u243, u244, u245, u246, u247, u248, u249, u250, u251, u252, u253, u254, u255, u256, u257, u258, u259, u260, u261, u262, u263, u264, u265, u266, u267], []⟩ wc := by
  conv => arg 2; whnf
  have HQ : Hid _ := hQ
  have HS0 : Hid (MK w x n rows A c N wc) := hS
  have hm160' : rows * (n - 2) ≤ 160 := by rw [← hm.out]; omega
  have HLT : Hid (∀ i, x.F n i → i < wc.heap.size) := fun i hi => hS.al.pa.lt i (by rw [hS.hn]; exact hi)
  have hlow := hS.al.low.size
  obtain ⟨i0, hi0, hz0, hz1, hz2⟩ := info_parts infoT
  clear hQ hS
  go_wp2
  go_loopw [14, 15] (fun v t wr => ∃ i : Nat, i ≤ m ∧ t = .int .i64 i ∧ MK w x n rows A c N wr ∧ wr.ownsRow wc.heap.size 9 1 v i ((List.range i).map (fun j => st (c j))) ∧ wc.heap.size ≤ wr.heap.size) (fun _ t _ => m - (intOf t).toNat)
  case atStart => exact ⟨0, Nat.zero_le _, rfl, HS0.out, World.ownsRow_nil _ _ _ _, Nat.le_refl _⟩
  case round =>
    clear HS0
    obtain ⟨i, hi, rfl, hS, hO, hsz⟩ := hrel
    obtain ⟨av, cv, hv⟩ := owns_len3 hO
    subst hv
    by_cases h2 : i < m
    · have h2' : (i : Int) < (m : Int) := by omega
      have R := hS.read i (by rw [← hm.out]; exact h2) hm160'
      obtain ⟨s, hs⟩ : ∃ s, s = sb (c i) := ⟨_, rfl⟩
      have HSS : Hid (s = sb (c i)) := hs
      unfold st at R
      rw [← hs] at R
      have HS : Hid (MK w x n rows A c N wr) := hS
      have HO : Hid (wr.ownsRow wc.heap.size 9 1 (.slice av i cv) i ((List.range i).map (fun j => st (c j)))) := hO
      clear hS hO hs
      go_wp2_with fail
      refine R.mono ?_
      rintro e w1 ⟨rfl, hB1⟩
      have hO1 := ownsRow_old HO.out hB1
      have HS1 : Hid (MK w x n rows A c N w1) := HS.out.old hB1
      have hsz1 : wc.heap.size ≤ w1.heap.size := Nat.le_trans hsz hB1.size
      clear R hB1 HS HO
      go_wp2_with (first | (at_builtin; refine wpList_append_own _ rfl _ _ 48 rfl wc.heap.size 9 i0 (.string ⟨#[]⟩) 1 16 Tryz.underlying48 hi0 hz0 hz1 hz2 rfl (by decide) _ _ _ rfl (World.ownsRow.alloc hO1 _) ⟨w1.heap.size, 0, none⟩ 1 1 [.string s] rfl rfl (one_cell _) (by intro u hu; simp at hu; subst hu; rfl) (by unfold maxLen; omega) (by omega) (by simp; omega) ?_))
      intro v3 w3 hown3 hgrow3 _
      have HN : Hid (MK w x n rows A c N w3 ∧ w3.ownsRow wc.heap.size 9 1 v3 (i + 1) ((List.range (i + 1)).map (fun j => st (c j))) ∧ wc.heap.size ≤ w3.heap.size) := by
        have hal := HS1.out.al.old (al_below w1 (.cells #[.string s] 9))
        have hlo : ∀ g, (Value.slice av i cv).ownBlock = some g → wc.heap.size ≤ g := fun g hg => (World.ownsRow.lt hO1 g hg).1
        have h := HS1.out
        refine ⟨⟨hal.grown hgrow3 (fun g hg => ⟨by have := hlo g hg; omega, fun q => ?_⟩), h.keep, h.hn, h.hr, h.hs, h.nl⟩, ?_, Nat.le_trans hsz1 (Nat.le_trans (al_below w1 _).size hgrow3.size)⟩
        · rw [h.hn] at q
          have := HLT.out g q
          have := hlo g hg
          omega
        · rw [List.range_succ, List.map_append, List.map_cons, List.map_nil]
          unfold st
          rw [← HSS.out]
          exact hown3
      clear hown3 hgrow3 hO1 HS1
      go_wp2
      go_roundw
      case rel => exact ⟨i + 1, by omega, by go_num, HN.out⟩
      case measure => simp [intOf]; omega
    · have e : i = m := by omega
      have h2' : (m : Int) ≤ (i : Int) := by omega
      subst e
      obtain ⟨g, cap, hv, _, _, hg, hR⟩ := rowAt_own hO (by omega)
      cases hv
      have HS : Hid (MK w x n rows A c N wr) := hS
      have HM : Hid (MG w x n g i c wr) := ⟨hR, fun q => by have := HLT.out g q; omega, by omega⟩
      have hgl := hR.1
      clear hS hO hR
      go_wp2
      exact HQ.out _ _ _ _ _ _ _ _ _ _ _ _ _ _ _ _ _ _ _ _ _ _ _ _ _ _ _ HS.out HM.out hgl
end Go.Proofs.YtilfjahbdlepjaaGreatDoor
