/- TopPool, a piece: walks over the program. -/
import Derived.Test.YticgapgggoklfaaTPb
namespace Go.Proofs.Yticgapgggoklfaa
open Go.RowKit El Pol Mx Lay
set_option linter.unusedVariables false in
set_option maxRecDepth 1000000 in
set_option maxHeartbeats 4000000 in
theorem t_write (n rows sp m g n3 c3 n4 c4 : Nat) (a3 a4 : Option Addr) (x : PAd) (y : PP) (w : World) (k op N : Nat) (A : Arr) (t : Plo) (c : Nat → List El) (f3 : Nat → Int) (u5 u6 u7 u8 u9 u10 u11 u13 u15 u17 u20 u21 u22 u23 u24 u25 u26 u27 u28 u29 u30 u31 u32 u33 u34 u35 u36 u37 u38 u39 u40 u41 u42 u43 u44 u45 u46 u47 u48 u49 u50 u51 u52 u53 u54 u55 u56 u57 u58 u59 u60 u61 u62 u63 u64 u65 u66 u67 u68 u69 u70 u71 u72 u73 u74 u75 u76 u77 u78 u79 u80 u81 u82 u83 u84 u85 u86 u87 u88 u89 u90 u91 u92 u93 u94 u95 u96 u97 u98 u99 u100 u101 u102 u103 u104 u105 u106 u107 u108 u109 u110 u111 u112 u113 u114 u115 u116 u117 u118 u119 u120 u121 u122 u123 u124 u125 u126 u127 u128 u129 u130 u131 u132 u133 u134 u135 u136 u137 u138 u139 u140 u141 u142 u143 u144 u145 u146 u147 u148 u149 u150 u151 u152 u153 u154 u155 u156 u157 u158 u159 u160 u161 u162 u163 u164 u165 u166 u167 u168 u169 u170 u171 u172 u173 u174 u175 u176 u177 u178 u179 u180 u181 u182 u183 u184 u185 u186 u187 u188 u189 u190 u191 u192 u193 u194 u195 u196 u197 u198 u199 u200 u201 u202 u203 u204 u205 u206 u207 u208 u209 u210 u211 u212 u213 u214 u215 u216 u217 u218 u219 u220 u221 u222 u223 u224 u225 u226 u227 u228 u229 u230 u231 u232 u233 u234 u235 u236 u237 u238 u239 u240 u241 u242 u243 u244 u245 u246 u247 u248 u249 u250 u251 u252 u253 u254 u255 u256 u257 u258 : Value) (wc : World) (Q : Exit → Act → World → Prop)
    (hm : Hid (m = rows * (n - 2))) (hm1 : 1 ≤ m) (hm160 : m ≤ 160) (hn : 3 ≤ n ∧ n ≤ 10) (hr : 1 ≤ rows ∧ rows ≤ 20) (r3 : RdF w (.slice a3 n3 c3) n3 (fun i => .int .i64 (f3 i))) (q3 : ∀ i, i < n3 → (Lit.int .i64 (f3 i)).wf = true) (hk : k < n3) (hS : TW w x y g n rows (A) (t) (c) (N) (wc)) (hT : TP A t c op) (hN : N < 900000)
    (hQ : ∀ (x10 x20 x120 x121 x122 x123 x124 x125 x126 x127 x128 x129 x130 x131 x132 x133 x134 x135 x136 x137 x138 x139 x140 x141 x142 x143 x144 x145 x146 x147 x148 : Value) (A' : Arr) (c' : Nat → List El) (N' : Nat) (w1 : World), TW w x y g n rows (A') (t) (c') (N') (w1) → TP A' t c' op → N' ≤ N + 3 → Q .normal ⟨#[.int .i64 ((n : Nat) : Int), .int .i64 ((rows : Nat) : Int), .int .i64 ((sp : Nat) : Int), .slice a3 n3 c3, .slice a4 n4 c4, u5, u6, u7, u8, u9, x10, u11, .pointer (some ⟨x.p, 0, none⟩), u13, .pointer (some ⟨y.p, 0, none⟩), u15, .slice (some ⟨g, 0, none⟩) m m, u17, .int .i64 ((op : Nat) : Int), .int .i64 ((k : Nat) : Int), x20, u21, u22, u23, u24, u25, u26, u27, u28, u29, u30, u31, u32, u33, u34, u35, u36, u37, u38, u39, u40, u41, u42, u43, u44, u45, u46, u47, u48, u49, u50, u51, u52, u53, u54, u55, u56, u57, u58, u59, u60, u61, u62, u63, u64, u65, u66, u67, u68, u69, u70, u71, u72, u73, u74, u75, u76, u77, u78, u79, u80, u81, u82, u83, u84, u85, u86, u87, u88, u89, u90, u91, u92, u93, u94, u95, u96, u97, u98, u99, u100, u101, u102, u103, u104, u105, u106, u107, u108, u109, u110, u111, u112, u113, u114, u115, u116, u117, u118, u119, x120, x121, x122, x123, x124, x125, x126, x127, x128, x129, x130, x131, x132, x133, x134, x135, x136, x137, x138, x139, x140, x141, x142, x143, x144, x145, x146, x147, x148, u149, u150, u151, u152, u153, u154, u155, u156, u157, u158, u159, u160, u161, u162, u163, u164, u165, u166, u167, u168, u169, u170, u171, u172, u173, u174, u175, u176, u177, u178, u179, u180, u181, u182, u183, u184, u185, u186, u187, u188, u189, u190, u191, u192, u193, u194, u195, u196, u197, u198, u199, u200, u201, u202, u203, u204, u205, u206, u207, u208, u209, u210, u211, u212, u213, u214, u215, u216, u217, u218, u219, u220, u221, u222, u223, u224, u225, u226, u227, u228, u229, u230, u231, u232, u233, u234, u235, u236, u237, u238, u239, u240, u241, u242, u243, u244, u245, u246, u247, u248, u249, u250, u251, u252, u253, u254, u255, u256, u257, u258], []⟩ w1) :
    Code.wp Try.prog (cut [1, 1, 1, 1, 1, 1, 1, 1, 1, 1, 0, 1, 2, 5, 1, 0, 2, 0] (Try.f5.body.getD .skip)) Q ⟨#[.int .i64 ((n : Nat) : Int), .int .i64 ((rows : Nat) : Int), .int .i64 ((sp : Nat) : Int), .slice a3 n3 c3, .slice a4 n4 c4, u5, u6, u7, u8, u9, u10, u11, .pointer (some ⟨x.p, 0, none⟩), u13, .pointer (some ⟨y.p, 0, none⟩), u15, .slice (some ⟨g, 0, none⟩) m m, u17, .int .i64 ((op : Nat) : Int), .int .i64 ((k : Nat) : Int), u20, u21, u22, u23, u24, u25, u26, u27, u28, u29, u30, u31, u32, u33, u34, u35, u36, u37, u38, u39, u40, u41, u42, u43, u44, u45, u46, u47, u48, u49, u50, u51, u52, u53, u54, u55, u56, u57, u58, u59, u60, u61, u62, u63, u64, u65, u66, u67, u68, u69, u70, u71, u72, u73, u74, u75, u76, u77, u78, u79, u80, u81, u82, u83, u84, u85, u86, u87, u88, u89, u90, u91, u92, u93, u94, u95, u96, u97, u98, u99, u100, u101, u102, u103, u104, u105, u106, u107, u108, u109, u110, u111, u112, u113, u114, u115, u116, u117, u118, u119, u120, u121, u122, u123, u124, u125, u126, u127, u128, u129, u130, u131, u132, u133, u134, u135, u136, u137, u138, u139, u140, u141, u142, u143, u144, u145, u146, u147, u148, u149, u150, u151, u152, u153, u154, u155, u156, u157, u158, u159, u160, u161, u162, u163, u164, u165, u166, u167, u168, u169, u170, u171, u172, u173, u174, u175, u176, u177, u178, u179, u180, u181, u182, u183, u184, u185, u186, u187, u188, u189, u190, u191, u192, u193, u194, u195, u196, u197, u198, u199, u200, u201, u202, u203, u204, u205, u206, u207, u208, u209, u210, u211, u212, u213, u214, u215, u216, u217, u218, u219, u220, u221, u222, u223, u224, u225, u226, u227, u228, u229, u230, u231, u232, u233, u234, u235, u236, u237, u238, u239, u240, u241, u242, u243, u244, u245, u246, u247, u248, u249, u250, u251, u252, u253, u254, u255, u256, u257, u258], []⟩ wc := by
  conv => arg 2; whnf
  have HQ : Hid _ := hQ
  have HS : Hid (TW w x y g n rows (A) (t) (c) (N) (wc)) := hS
  have HT : Hid (TP A t c op) := hT
  obtain ⟨ad, had, hc⟩ := r3.at k hk
  subst had
  have hbd := bounds_i64 (q3 k hk)
  have HC : Hid (∀ W, Below w.heap.size w W → W.cell? (ad.add k) = some (.int .i64 (f3 k))) := fun W hb => by rw [hb.cell (World.block_lt_of_cell? w _ hc)]; exact hc
  clear hQ hS hT r3 q3 hc
  generalize f3 k = z at *
  have hcc := HC.out wc HS.out.low
  have hkz : (k : Int) < (n3 : Int) := by omega
  by_cases h0 : 0 ≤ z
  · have h1 : z ≤ 9223372036854775807 := hbd.2
    have hm0 : ((m : Int) == 0) = false := by rw [beq_eq_false_iff_ne]; omega
    have hmn : ¬ (m : Int) = 0 := by omega
    have p1 : 0 ≤ z % (m : Int) := Int.emod_nonneg _ hmn
    have p2 : z % (m : Int) < (m : Int) := Int.emod_lt_of_pos _ (by omega)
    obtain ⟨b, hb⟩ : ∃ b : Nat, z % (m : Int) = (b : Int) := ⟨(z % (m : Int)).toNat, by omega⟩
    have hbm : b < m := by omega
    have hbz : (b : Int) < (m : Int) := by omega
    have hbr : b < rows * (n - 2) := by rw [← hm.out]; exact hbm
    have C := tblk h0 h1 wc
    have HC2 : Hid (∀ W, Calls Try.prog 16 #[.int .i64 z] W fun e w' => e = .returned (st (bk z)) ∧ Below W.heap.size W w') := fun W => tblk h0 h1 W
    have hlen : (bk z).length = 2 := rfl
    generalize bk z = v at *
    clear hbd p1 p2
    go_wp2_with fail
    refine C.mono ?_
    rintro e w1 ⟨rfl, hB1⟩
    have HS1 : Hid (TW w x y g n rows (A) (t) (c) (N) (w1)) := HS.out.old hB1
    have W := HS1.out.write HT.out (by omega) hr.2 hn.2 b hbr v hlen
    clear C hB1 HS hcc
    go_wp2_with fail
    refine W.mono ?_
    rintro e w2 ⟨rfl, hS2, hT2⟩
    have HS2 : Hid (TW w x y g n rows (A.write (b : Int) v) (t) (c) (N + 3) (w2)) := hS2
    have HT2 : Hid (TP (A.write (b : Int) v) t (up c b v) op) := hT2
    have hcc := HC.out w2 hS2.low
    have C := HC2.out w2
    clear W hS2 hT2 HS1 HT HC HC2
    go_wp2_with fail
    refine C.mono ?_
    rintro e w3 ⟨rfl, hB3⟩
    have S3 := HS2.out.old hB3
    obtain ⟨g1, g2⟩ := S3.row.2 b hbr
    have HS3 : Hid (TW w x y g n rows (A.write (b : Int) v) (t) (up c b v) (N + 3) (w3.setCell ⟨g, b, none⟩ (st v))) := S3.onG b v
    clear C hB3 S3 HS2 hcc
    dsimp only at g1
    generalize c b = cb at *
    go_wp2
    exact HQ.out _ _ _ _ _ _ _ _ _ _ _ _ _ _ _ _ _ _ _ _ _ _ _ _ _ _ _ _ _ _ _ _ _ _ _ HS3.out HT2.out (Nat.le_refl _)
  · have d0 : decide (0 ≤ z) = false := decide_eq_false h0
    go_wp2
    exact HQ.out _ _ _ _ _ _ _ _ _ _ _ _ _ _ _ _ _ _ _ _ _ _ _ _ _ _ _ _ _ _ _ _ _ _ _ HS.out HT.out (Nat.le_add_right _ _)
end Go.Proofs.Yticgapgggoklfaa
