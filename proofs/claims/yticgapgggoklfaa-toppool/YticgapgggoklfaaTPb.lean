/- TopPool, a piece: walks over the program. -/
import Derived.Test.YticgapgggoklfaaTPa
import Derived.Test.YticgapgggoklfaaBlkT
import Derived.Test.YticgapgggoklfaaMkT
import Derived.Test.YticgapgggoklfaaVw
import Derived.Test.YticgapgggoklfaaGe
import Derived.Deep.Cut
import Derived.Deep.CutRange
import Derived.BigCall
import Derived.BigGuard
namespace Go.Proofs.Yticgapgggoklfaa
open Go.RowKit El Pol Mx Lay
set_option linter.unusedVariables false in
set_option maxRecDepth 1000000 in
set_option maxHeartbeats 4000000 in
theorem t_cells (n rows sp m g n3 c3 n4 c4 : Nat) (a3 a4 : Option Addr) (x : PAd) (y : PP) (w : World) (u5 u6 u7 u8 u9 u10 u11 u13 u15 u17 u18 u19 u20 u21 u22 u23 u24 u25 u26 u27 u28 u29 u30 u31 u32 u33 u34 u35 u36 u37 u38 u39 u40 u41 u42 u43 u44 u45 u46 u47 u48 u49 u50 u51 u52 u53 u54 u55 u56 u57 u58 u59 u60 u61 u62 u63 u64 u65 u66 u67 u68 u69 u70 u71 u72 u73 u74 u75 u76 u77 u78 u79 u80 u81 u82 u83 u84 u85 u86 u87 u88 u89 u90 u91 u92 u93 u94 u95 u96 u97 u98 u99 u100 u101 u102 u103 u104 u105 u106 u107 u108 u109 u110 u111 u112 u113 u114 u115 u116 u117 u118 u119 u120 u121 u122 u123 u124 u125 u126 u127 u128 u129 u130 u131 u132 u133 u134 u135 u136 u137 u138 u139 u140 u141 u142 u143 u144 u145 u146 u147 u148 u149 u150 u151 u152 u153 u154 u155 u156 u157 u158 u159 u160 u161 u162 u163 u164 u165 u166 u167 u168 u169 u170 u171 u172 u173 u174 u175 u176 u177 u178 u179 u180 u181 u182 u183 u184 u185 u186 u187 u188 u189 u190 u191 u192 u193 u194 u195 u196 u197 u198 u199 u200 u201 u202 u203 u204 u205 u206 u207 u208 u209 u210 u211 u212 u213 u214 u215 u216 u217 u218 u219 u220 u221 u222 u223 u224 u225 u226 u227 u228 u229 u230 u231 u232 u233 u234 u235 u236 u237 u238 u239 u240 u241 u242 u243 u244 u245 u246 u247 u248 u249 u250 u251 u252 u253 u254 u255 u256 u257 u258 : Value) (wc : World) (Q : Exit → Act → World → Prop)
    (hm160 : m ≤ 160) (hR : RowAt wc g m (fun _ => .string ⟨#[]⟩))
    (hQ : ∀ (x17 x101 x102 x103 x104 x105 x106 x107 x108 x109 : Value)  (w1 : World), RowAt w1 g m (fun _ => .string ⟨#[0, 0]⟩) → But (· = g) wc w1 → Q .normal ⟨#[.int .i64 ((n : Nat) : Int), .int .i64 ((rows : Nat) : Int), .int .i64 ((sp : Nat) : Int), .slice a3 n3 c3, .slice a4 n4 c4, u5, u6, u7, u8, u9, u10, u11, .pointer (some ⟨x.p, 0, none⟩), u13, .pointer (some ⟨y.p, 0, none⟩), u15, .slice (some ⟨g, 0, none⟩) m m, x17, u18, u19, u20, u21, u22, u23, u24, u25, u26, u27, u28, u29, u30, u31, u32, u33, u34, u35, u36, u37, u38, u39, u40, u41, u42, u43, u44, u45, u46, u47, u48, u49, u50, u51, u52, u53, u54, u55, u56, u57, u58, u59, u60, u61, u62, u63, u64, u65, u66, u67, u68, u69, u70, u71, u72, u73, u74, u75, u76, u77, u78, u79, u80, u81, u82, u83, u84, u85, u86, u87, u88, u89, u90, u91, u92, u93, u94, u95, u96, u97, u98, u99, u100, x101, x102, x103, x104, x105, x106, x107, x108, x109, u110, u111, u112, u113, u114, u115, u116, u117, u118, u119, u120, u121, u122, u123, u124, u125, u126, u127, u128, u129, u130, u131, u132, u133, u134, u135, u136, u137, u138, u139, u140, u141, u142, u143, u144, u145, u146, u147, u148, u149, u150, u151, u152, u153, u154, u155, u156, u157, u158, u159, u160, u161, u162, u163, u164, u165, u166, u167, u168, u169, u170, u171, u172, u173, u174, u175, u176, u177, u178, u179, u180, u181, u182, u183, u184, u185, u186, u187, u188, u189, u190, u191, u192, u193, u194, u195, u196, u197, u198, u199, u200, u201, u202, u203, u204, u205, u206, u207, u208, u209, u210, u211, u212, u213, u214, u215, u216, u217, u218, u219, u220, u221, u222, u223, u224, u225, u226, u227, u228, u229, u230, u231, u232, u233, u234, u235, u236, u237, u238, u239, u240, u241, u242, u243, u244, u245, u246, u247, u248, u249, u250, u251, u252, u253, u254, u255, u256, u257, u258], []⟩ w1) :
    Code.wp Try.prog (cut [1, 1, 1, 1, 1, 1, 1, 1, 0] (Try.f5.body.getD .skip)) Q ⟨#[.int .i64 ((n : Nat) : Int), .int .i64 ((rows : Nat) : Int), .int .i64 ((sp : Nat) : Int), .slice a3 n3 c3, .slice a4 n4 c4, u5, u6, u7, u8, u9, u10, u11, .pointer (some ⟨x.p, 0, none⟩), u13, .pointer (some ⟨y.p, 0, none⟩), u15, .slice (some ⟨g, 0, none⟩) m m, u17, u18, u19, u20, u21, u22, u23, u24, u25, u26, u27, u28, u29, u30, u31, u32, u33, u34, u35, u36, u37, u38, u39, u40, u41, u42, u43, u44, u45, u46, u47, u48, u49, u50, u51, u52, u53, u54, u55, u56, u57, u58, u59, u60, u61, u62, u63, u64, u65, u66, u67, u68, u69, u70, u71, u72, u73, u74, u75, u76, u77, u78, u79, u80, u81, u82, u83, u84, u85, u86, u87, u88, u89, u90, u91, u92, u93, u94, u95, u96, u97, u98, u99, u100, u101, u102, u103, u104, u105, u106, u107, u108, u109, u110, u111, u112, u113, u114, u115, u116, u117, u118, u119, u120, u121, u122, u123, u124, u125, u126, u127, u128, u129, u130, u131, u132, u133, u134, u135, u136, u137, u138, u139, u140, u141, u142, u143, u144, u145, u146, u147, u148, u149, u150, u151, u152, u153, u154, u155, u156, u157, u158, u159, u160, u161, u162, u163, u164, u165, u166, u167, u168, u169, u170, u171, u172, u173, u174, u175, u176, u177, u178, u179, u180, u181, u182, u183, u184, u185, u186, u187, u188, u189, u190, u191, u192, u193, u194, u195, u196, u197, u198, u199, u200, u201, u202, u203, u204, u205, u206, u207, u208, u209, u210, u211, u212, u213, u214, u215, u216, u217, u218, u219, u220, u221, u222, u223, u224, u225, u226, u227, u228, u229, u230, u231, u232, u233, u234, u235, u236, u237, u238, u239, u240, u241, u242, u243, u244, u245, u246, u247, u248, u249, u250, u251, u252, u253, u254, u255, u256, u257, u258], []⟩ wc := by
  conv => arg 2; whnf
  have HQ : Hid _ := hQ
  have HR : Hid (RowAt wc g m (fun _ => .string ⟨#[]⟩)) := hR
  clear hQ hR
  go_wp2
  go_loopw [17] (fun t wr => ∃ i : Nat, i ≤ m ∧ t = .int .i64 (i : Int) ∧ Hid (RowAt wr g m (fun b => if b < i then .string ⟨#[0, 0]⟩ else .string ⟨#[]⟩)) ∧ Hid (But (· = g) wc wr)) (fun t _ => m - (intOf t).toNat)
  case atStart => exact ⟨0, Nat.zero_le _, rfl, HR.out.congr (fun b _ => by rw [if_neg (by omega)]), But.refl _ _⟩
  case round =>
    obtain ⟨i, hi, rfl, HR1, HB1⟩ := hrel
    by_cases hlt : i < m
    · have hiz : (i : Int) < (m : Int) := by omega
      obtain ⟨p1, p2⟩ := HR1.out.2 i hlt
      dsimp only at p1
      rw [if_neg (by omega)] at p1
      have HR2 : Hid (RowAt (wr.setCell ⟨g, i, none⟩ (.string ⟨#[0, 0]⟩)) g m (fun b => if b < i + 1 then .string ⟨#[0, 0]⟩ else .string ⟨#[]⟩)) := (HR1.out.put i (.string ⟨#[0, 0]⟩)).1.congr (fun b _ => by
        by_cases e : b = i
        · rw [e, up_at, if_pos (by omega)]
        · rw [up_ne _ _ e]
          by_cases e2 : b < i
          · rw [if_pos e2, if_pos (by omega)]
          · rw [if_neg e2, if_neg (by omega)])
      have HB2 : Hid (But (· = g) wc (wr.setCell ⟨g, i, none⟩ (.string ⟨#[0, 0]⟩))) := HB1.out.setCell (p := ⟨g, i, none⟩) rfl _
      clear HR1 HB1 HR
      go_wp2
      go_roundw
      case rel => exact ⟨i + 1, by omega, by go_num, HR2, HB2⟩
      case measure => simp [intOf]; omega
    · have hiz : ¬ (i : Int) < (m : Int) := by omega
      have HR2 : Hid (RowAt wr g m (fun _ => .string ⟨#[0, 0]⟩)) := HR1.out.congr (fun b hb => by rw [if_pos (by omega)])
      clear HR1 HR
      go_wp2
      exact HQ.out _ _ _ _ _ _ _ _ _ _ _ HR2.out HB1.out
end Go.Proofs.Yticgapgggoklfaa
