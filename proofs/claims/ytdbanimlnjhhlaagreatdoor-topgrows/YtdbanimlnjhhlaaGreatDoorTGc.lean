/- TopGrows, a part of it: walks over the program. -/
import Derived.Test.YtdbanimlnjhhlaaGreatDoorTGd
namespace Go.Proofs.YtdbanimlnjhhlaaGreatDoor
open Go.RowKit El Pol Mx Lay
set_option linter.unusedVariables false in
set_option maxRecDepth 1000000 in
set_option maxHeartbeats 8000000 in
theorem tg_c (n rows m cc n2 c2 n3 c3 : Nat) (a2 a3 : Option Addr) (x : PAd) (w : World) (N B cp : Nat) (ac : Option Addr) (A : Arr) (c : Nat → List El) (D : Nat → Nat) (T : Nat → List El) (u4 u5 u6 u7 u8 u9 u11 u13 u14 u15 u16 u17 u18 u19 u20 u21 u22 u23 u24 u25 u26 u27 u28 u29 u30 u31 u32 u33 u34 u35 u36 u37 u38 u39 u40 u41 u42 u43 u44 u45 u46 u47 u48 u49 u50 u51 u52 u53 u54 u55 u56 u57 u58 u59 u60 u61 u62 u63 u64 u65 u66 u67 u68 u69 u70 u71 u72 u73 u74 u75 u76 u77 u78 u79 u80 u81 u82 u83 u84 u85 u86 u87 u88 u89 u90 u91 u92 u93 u94 u95 u96 u97 u98 u99 u100 u101 u102 u103 u104 u105 u106 u107 u108 u109 u110 u111 u112 u113 u114 u115 u116 u117 u118 u119 u120 u121 u122 u123 u124 u125 u126 u127 u128 u129 u130 u131 u132 u133 u134 u135 u136 u137 u138 u139 u140 u141 u142 u143 u144 u145 u146 u147 u148 u149 u150 u151 u152 u153 u154 u155 u156 u157 u158 u159 u160 u161 u162 u163 u164 u165 u166 u167 u168 u169 u170 u171 u172 u173 u174 u175 u176 u177 u178 u179 u180 u181 u182 u183 u184 u185 u186 u187 u188 u189 u190 u191 u192 u193 u194 u195 u196 u197 u198 u199 u200 u201 u202 u203 u204 u205 u206 u207 u208 u209 : Value) (wc : World) (HG : Hid (Handle w)) (hn : 3 ≤ n ∧ n ≤ 10) (hr : 1 ≤ rows ∧ rows ≤ 20) (hcc : Hid (n - 2 = cc)) (hm : Hid (m = rows * (n - 2))) (hm40 : m ≤ 40) (hl : ∀ b, b < rows * (n - 2) → (c b).length = 2) (hN : N ≤ 500) (hH : TH w x n rows B m rows N (.slice ac m cp) A c D T wc) :
    Code.wp Tryz.prog (cut [1, 1, 1, 1, 1, 1, 1, 1, 1] (Tryz.f3.body.getD .skip)) (bodyPost Tryz.prog Tryz.f3 fun e w' => e = .returned (.bool true) ∧ Below w.heap.size w w') ⟨#[.int .i64 ((n : Nat) : Int), .int .i64 ((rows : Nat) : Int), .slice a2 n2 c2, .slice a3 n3 c3, u4, u5, u6, u7, u8, u9, .pointer (some ⟨x.p, 0, none⟩), u11, .slice ac m cp, u13, u14, u15, u16, u17, u18, u19, u20, u21, u22, u23, u24, u25, u26, u27, u28, u29, u30, u31, u32, u33, u34, u35, u36, u37, u38, u39, u40, u41, u42, u43, u44, u45, u46, u47, u48, u49, u50, u51, u52, u53, u54, u55, u56, u57, u58, u59, u60, u61, u62, u63, u64, u65, u66, u67, u68, u69, u70, u71, u72, u73, u74, u75, u76, u77, u78, u79, u80, u81, u82, u83, u84, u85, u86, u87, u88, u89, u90, u91, u92, u93, u94, u95, u96, u97, u98, u99, u100, u101, u102, u103, u104, u105, u106, u107, u108, u109, u110, u111, u112, u113, u114, u115, u116, u117, u118, u119, u120, u121, u122, u123, u124, u125, u126, u127, u128, u129, u130, u131, u132, u133, u134, u135, u136, u137, u138, u139, u140, u141, u142, u143, u144, u145, u146, u147, u148, u149, u150, u151, u152, u153, u154, u155, u156, u157, u158, u159, u160, u161, u162, u163, u164, u165, u166, u167, u168, u169, u170, u171, u172, u173, u174, u175, u176, u177, u178, u179, u180, u181, u182, u183, u184, u185, u186, u187, u188, u189, u190, u191, u192, u193, u194, u195, u196, u197, u198, u199, u200, u201, u202, u203, u204, u205, u206, u207, u208, u209], []⟩ wc := by
  conv => arg 2; whnf
  have hs : (n : Int) - 2 = (cc : Int) := by have := hcc.out; omega
  have hmul : (rows : Int) * (cc : Int) = (m : Int) := by rw [hm.out, hcc.out, Int.natCast_mul]
  have n10 : (n : Int) ≤ 10 := by omega
  have r20 : (rows : Int) ≤ 20 := by omega
  have m40 : (m : Int) ≤ 40 := by omega
  have h160 : rows * (n - 2) ≤ 160 := by rw [← hm.out]; omega

  have HL : Hid (∀ b, b < rows * (n - 2) → (c b).length = 2) := hl
  have S1 := hH.scrub (by omega) HG hl
  have hle : cellsE m c = 0 := by
    unfold cellsE
    rw [if_neg (by omega), if_neg]
    rw [Bool.not_eq_true, anyB_false]
    intro i hi
    have := hl i (by rw [← hm.out]; exact hi)
    simp [this]
  have HCE : Hid (cellsE m c = 0) := hle
  have HXB : Hid ((∀ i, x.F n i → i < B) ∧ w.heap.size ≤ B) := ⟨hH.xB, hH.wB⟩
  have hcc1 : 1 ≤ cc := by have := hcc.out; omega
  have hcc9 : cc ≤ 9 := by have := hcc.out; omega
  clear hH hl hle
  refine wp_seq_k fun K hK => ?_
  have HK : Hid _ := hK
  clear hK
  go_wp2_with fail
  refine S1.mono ?_
  rintro e w1 ⟨u, rfl, hA, hO, hB⟩
  have HA : Hid (AL w x (A.all rows) (N + rows) w1 ∧ Keep (A.all rows) c ∧ (A.all rows).n = n ∧ (A.all rows).rows = rows) := hA
  have HO : Hid (OwT B w1 (.slice ac m cp) m c) := hO
  have HB : Hid (B ≤ w1.heap.size) := hB
  clear S1 hA hO hB
  go_wp2
  refine HK.out _ _ ?_
  clear HK K
  have G := gnew_ok (.slice ac m cp) m c cc w1 (OwT.rd HO.out) HCE.out hcc1 hcc9
  refine wp_seq_k fun K hK => ?_
  have HK : Hid _ := hK
  clear hK
  go_wp2_with fail
  refine G.mono ?_
  rintro e w2 ⟨y, rfl, hG2, hB2⟩
  have HQ2 : Hid (TQ w x n rows (N + rows) (A.all rows) c y ⟨cc, m, 0, c⟩ w2) := by
    obtain ⟨a1, a2, a3, a4⟩ := HA.out
    refine ⟨a1.old hB2, a2, a3, a4, hG2.base a1.low.size, Grw.ok.fresh hcc1 hcc9 hm40 (fun i hi => ?_), fun k hx hy => ?_⟩
    · rw [HL.out i (by rw [← hm.out]; exact hi)]; omega
    · have := HXB.out.1 k hx
      have := hG2.low k hy
      have := HB.out
      omega
  clear G hG2 hB2 HO HA HB HXB HL HCE
  go_wp2
  refine HK.out _ _ ?_
  clear HK K
  refine wp_seq_k fun K hK => ?_
  have HK : Hid _ := hK
  clear hK
  go_wp2
  refine HK.out _ _ ?_
  clear HK K
  exact tg_d n rows m cc n2 c2 n3 c3 a2 a3 x w _ _ _ _ _ _ _ _ _ _ _ _ _ _ _ _ _ _ _ _ _ _ _ _ _ _ _ _ _ _ _ _ _ _ _ _ _ _ _ _ _ _ _ _ _ _ _ _ _ _ _ _ _ _ _ _ _ _ _ _ _ _ _ _ _ _ _ _ _ _ _ _ _ _ _ _ _ _ _ _ _ _ _ _ _ _ _ _ _ _ _ _ _ _ _ _ _ _ _ _ _ _ _ _ _ _ _ _ _ _ _ _ _ _ _ _ _ _ _ _ _ _ _ _ _ _ _ _ _ _ _ _ _ _ _ _ _ _ _ _ _ _ _ _ _ _ _ _ _ _ _ _ _ _ _ _ _ _ _ _ _ _ _ _ _ _ _ _ _ _ _ _ _ _ _ _ _ _ _ _ _ _ _ _ _ _ _ _ _ _ _ _ _ _ _ _ _ _ _ _ _ _ _ _ _ _ _ _ _ _ HG hn hr hcc hm hm40 HQ2.out
end Go.Proofs.YtdbanimlnjhhlaaGreatDoor
