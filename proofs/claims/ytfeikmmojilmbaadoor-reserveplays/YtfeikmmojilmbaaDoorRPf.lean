/- ReservePlays, a piece: walks over the program. -/
import Derived.Test.YtfeikmmojilmbaaDoorRPb
namespace Go.Proofs.YtfeikmmojilmbaaDoor
open Go.RowKit
set_option linter.unusedVariables false in
set_option maxRecDepth 1000000 in
set_option maxHeartbeats 4000000 in
theorem r_keys (n1 c1 p g : Nat) (a1 : Option Addr) (w : World) (k q : Nat) (t : Rsv) (u1 u2 u7 u9 u10 u11 u12 u13 u14 u15 u16 u17 u19 u22 u23 u24 u25 u26 u27 u28 u29 u30 u31 u32 u33 u34 u35 u36 u37 u38 u39 u40 u41 u42 u43 u44 u45 u46 u47 u48 u49 u50 u51 u52 u53 u54 u55 u56 u57 u58 u59 u60 u61 u62 u63 u64 u65 u66 u67 u68 u69 u70 u71 u72 u73 u74 u75 u76 u77 u78 u79 u80 u81 u82 u83 u84 u85 u86 u87 u88 u89 u90 u91 u92 u93 u94 u95 u96 u97 u98 u99 u100 u101 u102 u103 u104 u105 u106 u107 u108 u109 u110 u111 u112 u113 u114 u115 u116 u117 u118 u119 u120 u121 u122 u123 u124 u125 u126 u127 u128 u129 u130 u131 u132 u133 u134 u135 u136 u137 u138 u139 u140 u141 u142 u143 u144 u145 u146 u147 u148 u149 u150 u151 u152 u153 u154 u155 u156 u157 u158 u159 u160 u161 u162 u163 u164 u165 u166 u167 u168 u169 u170 u171 u172 u173 u174 u175 u176 u177 u178 u179 u180 u181 u182 u183 u184 u185 u186 u187 u188 u189 u190 u191 u192 u193 u194 u195 u196 u197 u198 u199 u200 u201 u202 u203 u204 u205 u206 u207 u208 u209 u210 u211 u212 u213 u214 u215 u216 u217 u218 u219 u220 u221 u222 u223 u224 u225 u226 u227 u228 u229 u230 u231 u232 u233 u234 u235 u236 u237 u238 u239 u240 : Value) (wc : World) (Q : Exit → Act → World → Prop)
    (hS : WL w p g t t wc)
    (hQ : ∀ (x22 x202 x203 x204 x205 x206 x207 x208 x209 x210 x211 x212 x213 x214 : Value) (ao : Option Addr) (cap : Nat) (w1 : World), WL w p g t t w1 → RdF w1 (.slice ao 9 cap) 9 (fun j => vi (t.key (j + 1))) → Q .normal ⟨#[.slice a1 n1 c1, u1, u2, .pointer (some ⟨p, 0, none⟩), .pointer (some ⟨g, 0, none⟩), .int .i64 ((k : Nat) : Int), .pointer (some ⟨q, 0, none⟩), u7, .bool true, u9, u10, u11, u12, u13, u14, u15, u16, u17, .bool true, u19, .bool true, .slice ao 9 cap, x22, u23, u24, u25, u26, u27, u28, u29, u30, u31, u32, u33, u34, u35, u36, u37, u38, u39, u40, u41, u42, u43, u44, u45, u46, u47, u48, u49, u50, u51, u52, u53, u54, u55, u56, u57, u58, u59, u60, u61, u62, u63, u64, u65, u66, u67, u68, u69, u70, u71, u72, u73, u74, u75, u76, u77, u78, u79, u80, u81, u82, u83, u84, u85, u86, u87, u88, u89, u90, u91, u92, u93, u94, u95, u96, u97, u98, u99, u100, u101, u102, u103, u104, u105, u106, u107, u108, u109, u110, u111, u112, u113, u114, u115, u116, u117, u118, u119, u120, u121, u122, u123, u124, u125, u126, u127, u128, u129, u130, u131, u132, u133, u134, u135, u136, u137, u138, u139, u140, u141, u142, u143, u144, u145, u146, u147, u148, u149, u150, u151, u152, u153, u154, u155, u156, u157, u158, u159, u160, u161, u162, u163, u164, u165, u166, u167, u168, u169, u170, u171, u172, u173, u174, u175, u176, u177, u178, u179, u180, u181, u182, u183, u184, u185, u186, u187, u188, u189, u190, u191, u192, u193, u194, u195, u196, u197, u198, u199, u200, u201, x202, x203, x204, x205, x206, x207, x208, x209, x210, x211, x212, x213, x214, u215, u216, u217, u218, u219, u220, u221, u222, u223, u224, u225, u226, u227, u228, u229, u230, u231, u232, u233, u234, u235, u236, u237, u238, u239, u240], []⟩ w1) :
    Code.wp Tryd.prog (cut [1, 1, 1, 0, 1, 2, 5, 1, 0, 2, 1, 1, 1, 1, 1, 1, 1, 1, 1, 1, 1, 1, 1, 0] (Tryd.f4.body.getD .skip)) Q ⟨#[.slice a1 n1 c1, u1, u2, .pointer (some ⟨p, 0, none⟩), .pointer (some ⟨g, 0, none⟩), .int .i64 ((k : Nat) : Int), .pointer (some ⟨q, 0, none⟩), u7, .bool true, u9, u10, u11, u12, u13, u14, u15, u16, u17, .bool true, u19, .bool true, .slice none 0 0, u22, u23, u24, u25, u26, u27, u28, u29, u30, u31, u32, u33, u34, u35, u36, u37, u38, u39, u40, u41, u42, u43, u44, u45, u46, u47, u48, u49, u50, u51, u52, u53, u54, u55, u56, u57, u58, u59, u60, u61, u62, u63, u64, u65, u66, u67, u68, u69, u70, u71, u72, u73, u74, u75, u76, u77, u78, u79, u80, u81, u82, u83, u84, u85, u86, u87, u88, u89, u90, u91, u92, u93, u94, u95, u96, u97, u98, u99, u100, u101, u102, u103, u104, u105, u106, u107, u108, u109, u110, u111, u112, u113, u114, u115, u116, u117, u118, u119, u120, u121, u122, u123, u124, u125, u126, u127, u128, u129, u130, u131, u132, u133, u134, u135, u136, u137, u138, u139, u140, u141, u142, u143, u144, u145, u146, u147, u148, u149, u150, u151, u152, u153, u154, u155, u156, u157, u158, u159, u160, u161, u162, u163, u164, u165, u166, u167, u168, u169, u170, u171, u172, u173, u174, u175, u176, u177, u178, u179, u180, u181, u182, u183, u184, u185, u186, u187, u188, u189, u190, u191, u192, u193, u194, u195, u196, u197, u198, u199, u200, u201, u202, u203, u204, u205, u206, u207, u208, u209, u210, u211, u212, u213, u214, u215, u216, u217, u218, u219, u220, u221, u222, u223, u224, u225, u226, u227, u228, u229, u230, u231, u232, u233, u234, u235, u236, u237, u238, u239, u240], []⟩ wc := by
  conv => arg 2; whnf
  have HQ : Hid _ := hQ
  have HS : Hid (WL w p g t t wc) := hS
  clear hQ hS
  obtain ⟨j0, hj, hy0, hy1, hy2⟩ := info_parts infoI
  go_wp2
  go_loopw [21, 22] (fun o c wr => ∃ i : Nat, 1 ≤ i ∧ i ≤ 10 ∧ c = .int .i64 (i : Int) ∧ OwI wc.heap.size wr o (i - 1) (fun j => t.key (j + 1)) ∧ Below wc.heap.size wc wr) (fun _ c _ => 10 - (intOf c).toNat)
  case atStart => exact ⟨1, by omega, by omega, rfl, World.ownsRow_nil _ _ _ _, Below.refl _ _⟩
  case round =>
    obtain ⟨i, i1, i10, rfl, hO, hB⟩ := hrel
    obtain ⟨ao, co, rfl⟩ := OwI.len hO
    have hsz := hB.size
    by_cases hlt : i ≤ 9
    · have hiz : (i : Int) ≤ 9 := by omega
      have hi1 : (1 : Int) ≤ (i : Int) := by omega
      have hx := (HS.out.old hB).doc.key i (by omega)
      obtain ⟨e, he⟩ : ∃ e, i - 1 = e := ⟨_, rfl⟩
      rw [he] at hO ⊢
      have HK : Hid (t.key i = (fun j => t.key (j + 1)) e ∧ e + 1 = i ∧ e ≤ 8) := ⟨by (show t.key i = t.key (e + 1)); rw [show e + 1 = i by omega], by omega, by omega⟩
      have he8 : e ≤ 8 := by omega
      clear he
      unfold OwI at hO
      generalize t.key i = ki at *
      go_wp2_with (first | (at_builtin; refine wpList_append_own _ rfl _ _ 34 rfl wc.heap.size 3 j0 (.int .i64 0) 1 8 Tryd.underlying34 hj hy0 hy1 hy2 rfl (by decide) _ _ _ rfl (World.ownsRow.alloc hO _) ⟨wr.heap.size, 0, none⟩ 1 1 [.int .i64 ki] rfl rfl (one_cell _) (by intro u hu; simp at hu; subst hu; rfl) (by unfold maxLen; omega) (by omega) (by simp; omega) ?_))
      intro v' w3 hown hgrow _
      have HO3 : Hid (OwI wc.heap.size w3 v' (i + 1 - 1) (fun j => t.key (j + 1))) := by
        (show OwI _ _ _ _ _)
        rw [Nat.add_sub_cancel, ← HK.out.2.1]
        exact own_snocI hown HK.out.1
      have hB3 : Below wc.heap.size wc w3 := (hB.alloc hsz _).grown hgrow (by simp; omega) (fun g hg => (World.ownsRow.lt hO g hg).1)
      clear hown hgrow hO hB hx
      go_wp2
      go_roundw
      case rel => exact ⟨i + 1, by omega, by omega, by go_num, HO3.out, hB3⟩
      case measure => simp [intOf]; omega
    · have hiz : ¬ (i : Int) ≤ 9 := by omega
      have ei : i - 1 = 9 := by omega
      rw [ei] at hO ⊢
      have HR : Hid (RdF wr (.slice ao 9 co) 9 (fun j => vi (t.key (j + 1)))) := OwI.rd hO
      have HS3 : Hid (WL w p g t t wr) := HS.out.old hB
      clear hO hB ei HS
      go_wp2
      exact HQ.out _ _ _ _ _ _ _ _ _ _ _ _ _ _ _ _ _ HS3.out HR.out
end Go.Proofs.YtfeikmmojilmbaaDoor
