/- TopPool, a piece: walks over the program. -/
import Derived.Test.YticgapgggoklfaaTPb
namespace Go.Proofs.Yticgapgggoklfaa
open Go.RowKit El Pol Mx Lay
set_option linter.unusedVariables false in
set_option maxRecDepth 1000000 in
set_option maxHeartbeats 4000000 in
theorem t_build (n rows sp m g n3 c3 n4 c4 : Nat) (a3 a4 : Option Addr) (x : PAd) (y : PP) (w : World) (k op N kd : Nat) (A : Arr) (t t2 : Plo) (c : Nat → List El) (u5 u6 u7 u8 u9 u10 u11 u13 u15 u17 u20 u21 u23 u24 u25 u26 u27 u28 u29 u30 u31 u32 u33 u34 u35 u36 u37 u38 u39 u40 u41 u42 u43 u44 u45 u46 u47 u48 u49 u50 u51 u52 u53 u54 u55 u56 u57 u58 u59 u60 u61 u62 u63 u64 u65 u66 u67 u68 u69 u70 u71 u72 u73 u74 u75 u76 u77 u78 u79 u80 u81 u82 u83 u84 u85 u86 u87 u88 u89 u90 u91 u92 u93 u94 u95 u96 u97 u98 u99 u100 u101 u102 u103 u104 u105 u106 u107 u108 u109 u110 u111 u112 u113 u114 u115 u116 u117 u118 u119 u120 u121 u122 u123 u124 u125 u126 u127 u128 u129 u130 u131 u132 u133 u134 u135 u136 u137 u138 u139 u140 u141 u142 u143 u144 u145 u146 u147 u148 u149 u150 u151 u152 u153 u154 u155 u156 u157 u158 u159 u160 u161 u162 u163 u164 u165 u166 u167 u168 u169 u170 u171 u172 u173 u174 u175 u176 u177 u178 u179 u180 u181 u182 u183 u184 u185 u186 u187 u188 u189 u190 u191 u192 u193 u194 u195 u196 u197 u198 u199 u200 u201 u202 u203 u204 u205 u206 u207 u208 u209 u210 u211 u212 u213 u214 u215 u216 u217 u218 u219 u220 u221 u222 u223 u224 u225 u226 u227 u228 u229 u230 u231 u232 u233 u234 u235 u236 u237 u238 u239 u240 u241 u242 u243 u244 u245 u246 u247 u248 u249 u250 u251 u252 u253 u254 u255 u256 u257 u258 : Value) (wc : World) (Q : Exit → Act → World → Prop)
    (hm : Hid (m = rows * (n - 2))) (hm1 : 1 ≤ m) (hm160 : m ≤ 160) (hn : 3 ≤ n ∧ n ≤ 10) (hr : 1 ≤ rows ∧ rows ≤ 20) (hkd : kd < n) (hs : 0 ≤ t.sl kd) (h2 : op < 2) (hnr : A.n = n ∧ A.rows = rows) (hS : TW w x y g n rows (rb A kd 0) (t2) (c) (N) (wc)) (hT : TP A t c op) (hN : N + rows < 900000)
    (hQ : ∀ (x10 x25 x26 x27 x212 x213 x214 x215 x216 x217 x218 x219 x220 x221 x222 x223 x224 x225 x226 x227 x228 x229 x230 x231 x232 : Value)  (w1 : World), TW w x y g n rows (rb A kd rows) (t2) (c) (N + rows) (w1) → Q .normal ⟨#[.int .i64 ((n : Nat) : Int), .int .i64 ((rows : Nat) : Int), .int .i64 ((sp : Nat) : Int), .slice a3 n3 c3, .slice a4 n4 c4, u5, u6, u7, u8, u9, x10, u11, .pointer (some ⟨x.p, 0, none⟩), u13, .pointer (some ⟨y.p, 0, none⟩), u15, .slice (some ⟨g, 0, none⟩) m m, u17, .int .i64 ((op : Nat) : Int), .int .i64 ((k : Nat) : Int), u20, u21, .int .i64 ((kd : Nat) : Int), u23, u24, x25, x26, x27, u28, u29, u30, u31, u32, u33, u34, u35, u36, u37, u38, u39, u40, u41, u42, u43, u44, u45, u46, u47, u48, u49, u50, u51, u52, u53, u54, u55, u56, u57, u58, u59, u60, u61, u62, u63, u64, u65, u66, u67, u68, u69, u70, u71, u72, u73, u74, u75, u76, u77, u78, u79, u80, u81, u82, u83, u84, u85, u86, u87, u88, u89, u90, u91, u92, u93, u94, u95, u96, u97, u98, u99, u100, u101, u102, u103, u104, u105, u106, u107, u108, u109, u110, u111, u112, u113, u114, u115, u116, u117, u118, u119, u120, u121, u122, u123, u124, u125, u126, u127, u128, u129, u130, u131, u132, u133, u134, u135, u136, u137, u138, u139, u140, u141, u142, u143, u144, u145, u146, u147, u148, u149, u150, u151, u152, u153, u154, u155, u156, u157, u158, u159, u160, u161, u162, u163, u164, u165, u166, u167, u168, u169, u170, u171, u172, u173, u174, u175, u176, u177, u178, u179, u180, u181, u182, u183, u184, u185, u186, u187, u188, u189, u190, u191, u192, u193, u194, u195, u196, u197, u198, u199, u200, u201, u202, u203, u204, u205, u206, u207, u208, u209, u210, u211, x212, x213, x214, x215, x216, x217, x218, x219, x220, x221, x222, x223, x224, x225, x226, x227, x228, x229, x230, x231, x232, u233, u234, u235, u236, u237, u238, u239, u240, u241, u242, u243, u244, u245, u246, u247, u248, u249, u250, u251, u252, u253, u254, u255, u256, u257, u258], []⟩ w1) :
    Code.wp Try.prog (cut [1, 1, 1, 1, 1, 1, 1, 1, 1, 1, 0, 1, 2, 5, 1, 0, 2, 1, 1, 3, 1, 1, 1, 1, 1, 1, 1, 1, 0] (Try.f5.body.getD .skip)) Q ⟨#[.int .i64 ((n : Nat) : Int), .int .i64 ((rows : Nat) : Int), .int .i64 ((sp : Nat) : Int), .slice a3 n3 c3, .slice a4 n4 c4, u5, u6, u7, u8, u9, u10, u11, .pointer (some ⟨x.p, 0, none⟩), u13, .pointer (some ⟨y.p, 0, none⟩), u15, .slice (some ⟨g, 0, none⟩) m m, u17, .int .i64 ((op : Nat) : Int), .int .i64 ((k : Nat) : Int), u20, u21, .int .i64 ((kd : Nat) : Int), u23, u24, u25, u26, u27, u28, u29, u30, u31, u32, u33, u34, u35, u36, u37, u38, u39, u40, u41, u42, u43, u44, u45, u46, u47, u48, u49, u50, u51, u52, u53, u54, u55, u56, u57, u58, u59, u60, u61, u62, u63, u64, u65, u66, u67, u68, u69, u70, u71, u72, u73, u74, u75, u76, u77, u78, u79, u80, u81, u82, u83, u84, u85, u86, u87, u88, u89, u90, u91, u92, u93, u94, u95, u96, u97, u98, u99, u100, u101, u102, u103, u104, u105, u106, u107, u108, u109, u110, u111, u112, u113, u114, u115, u116, u117, u118, u119, u120, u121, u122, u123, u124, u125, u126, u127, u128, u129, u130, u131, u132, u133, u134, u135, u136, u137, u138, u139, u140, u141, u142, u143, u144, u145, u146, u147, u148, u149, u150, u151, u152, u153, u154, u155, u156, u157, u158, u159, u160, u161, u162, u163, u164, u165, u166, u167, u168, u169, u170, u171, u172, u173, u174, u175, u176, u177, u178, u179, u180, u181, u182, u183, u184, u185, u186, u187, u188, u189, u190, u191, u192, u193, u194, u195, u196, u197, u198, u199, u200, u201, u202, u203, u204, u205, u206, u207, u208, u209, u210, u211, u212, u213, u214, u215, u216, u217, u218, u219, u220, u221, u222, u223, u224, u225, u226, u227, u228, u229, u230, u231, u232, u233, u234, u235, u236, u237, u238, u239, u240, u241, u242, u243, u244, u245, u246, u247, u248, u249, u250, u251, u252, u253, u254, u255, u256, u257, u258], []⟩ wc := by
  conv => arg 2; whnf
  have HQ : Hid _ := hQ
  have HS : Hid (TW w x y g n rows (rb A kd 0) (t2) (c) (N) (wc)) := hS
  have HT : Hid (TP A t c op) := hT
  have HNR : Hid (A.n = n ∧ A.rows = rows) := hnr
  clear hQ hS hT hnr
  have HK : Hid (∀ r, r < rows → Keep (rb A kd r) c ∧ (rb A kd r).rebuildE (kd : Int) = 0 ∧ (rb A kd r).rebuildN (kd : Int) = rows - (r + 1)) := fun r hr' => by
    have hk' : kd < A.n := by rw [HNR.out.1]; exact hkd
    have hr2 : r < A.rows := by rw [HNR.out.2]; exact hr'
    have e := HT.out.anewE hk' hs h2 hr2
    rw [HNR.out.2] at e
    exact ⟨(HT.out.anew hk' hs h2 r (by omega)).1, e⟩
  go_wp2
  go_loopw [25] (fun s wr => ∃ r : Nat, r ≤ rows ∧ s = .int .i64 (r : Int) ∧ Hid (TW w x y g n rows (rb A kd r) (t2) (c) (N + r) (wr))) (fun s _ => rows - (intOf s).toNat)
  case atStart => exact ⟨0, Nat.zero_le _, rfl, HS⟩
  case round =>
    obtain ⟨r, hr1, rfl, HR⟩ := hrel
    clear HS
    by_cases hlt : r < rows
    · have hrz : (r : Int) < (rows : Int) := by omega
      obtain ⟨hK, hE, hN'⟩ := HK.out r hlt
      have C := HR.out.rebuild hK (by omega) kd hE hN'
      obtain ⟨lf, hlf⟩ : ∃ lf : Nat, rows - (r + 1) = lf := ⟨_, rfl⟩
      rw [hlf] at C
      have hl1 : (rows : Int) - (r : Int) - 1 = (lf : Int) := by omega
      have hl2 : 0 ≤ (rows : Int) - (r : Int) := by omega
      clear hK hE hN' hlf HR
      go_wp2_with fail
      refine C.mono ?_
      rintro e w2 ⟨rfl, hS2⟩
      have HR2 : Hid (TW w x y g n rows (rb A kd (r + 1)) (t2) (c) (N + (r + 1)) (w2)) := hS2
      clear C hS2
      go_wp2
      go_roundw
      case rel => exact ⟨r + 1, by omega, by go_num, HR2⟩
      case measure => simp [intOf]; omega
    · have hrz : ¬ (r : Int) < (rows : Int) := by omega
      obtain rfl : r = rows := by omega
      go_wp2
      exact HQ.out _ _ _ _ _ _ _ _ _ _ _ _ _ _ _ _ _ _ _ _ _ _ _ _ _ _ HR.out
end Go.Proofs.Yticgapgggoklfaa
