/- TopGrows, a part of it: walks over the program. -/
import Derived.Test.YtdbanimlnjhhlaaGreatDoorTGa
import Derived.BigCall
import Derived.BigGuard
namespace Go.Proofs.YtdbanimlnjhhlaaGreatDoor
open Go.RowKit El Pol Mx Lay
set_option linter.unusedVariables false in
set_option maxRecDepth 1000000 in
set_option maxHeartbeats 8000000 in
theorem tg_d (n rows m cc n2 c2 n3 c3 : Nat) (a2 a3 : Option Addr) (x : PAd) (w : World) (N cp : Nat) (ac : Option Addr) (A : Arr) (c : Nat → List El) (y : GP) (u4 u5 u6 u7 u8 u9 u11 u13 u14 u15 u17 u18 u19 u20 u21 u22 u23 u24 u25 u26 u27 u28 u29 u30 u31 u32 u33 u34 u35 u36 u37 u38 u39 u40 u41 u42 u43 u44 u45 u46 u47 u48 u49 u50 u51 u52 u53 u54 u55 u56 u57 u58 u59 u60 u61 u62 u63 u64 u65 u66 u67 u68 u69 u70 u71 u72 u73 u74 u75 u76 u77 u78 u79 u80 u81 u82 u83 u84 u85 u86 u87 u88 u89 u90 u91 u92 u93 u94 u95 u96 u97 u98 u99 u100 u101 u102 u103 u104 u105 u106 u107 u108 u109 u110 u111 u112 u113 u114 u115 u116 u117 u118 u119 u120 u121 u122 u123 u124 u125 u126 u127 u128 u129 u130 u131 u132 u133 u134 u135 u136 u137 u138 u139 u140 u141 u142 u143 u144 u145 u146 u147 u148 u149 u150 u151 u152 u153 u154 u155 u156 u157 u158 u159 u160 u161 u162 u163 u164 u165 u166 u167 u168 u169 u170 u171 u172 u173 u174 u175 u176 u177 u178 u179 u180 u181 u182 u183 u184 u185 u186 u187 u188 u189 u190 u191 u192 u193 u194 u195 u196 u197 u198 u199 u200 u201 u202 u203 u204 u205 u206 u207 u208 u209 : Value) (wc : World) (HG : Hid (Handle w)) (hn : 3 ≤ n ∧ n ≤ 10) (hr : 1 ≤ rows ∧ rows ≤ 20) (hcc : Hid (n - 2 = cc)) (hm : Hid (m = rows * (n - 2))) (hm40 : m ≤ 40) (hQ : TQ w x n rows N A c y ⟨cc, m, 0, c⟩ wc) :
    Code.wp Tryz.prog (cut [1, 1, 1, 1, 1, 1, 1, 1, 1, 1, 1, 1] (Tryz.f3.body.getD .skip)) (bodyPost Tryz.prog Tryz.f3 fun e w' => e = .returned (.bool true) ∧ Below w.heap.size w w') ⟨#[.int .i64 ((n : Nat) : Int), .int .i64 ((rows : Nat) : Int), .slice a2 n2 c2, .slice a3 n3 c3, u4, u5, u6, u7, u8, u9, .pointer (some ⟨x.p, 0, none⟩), u11, .slice ac m cp, u13, u14, u15, .pointer (some ⟨y.p, 0, none⟩), u17, u18, u19, u20, u21, u22, u23, u24, u25, u26, u27, u28, u29, u30, u31, u32, u33, u34, u35, u36, u37, u38, u39, u40, u41, u42, u43, u44, u45, u46, u47, u48, u49, u50, u51, u52, u53, u54, u55, u56, u57, u58, u59, u60, u61, u62, u63, u64, u65, u66, u67, u68, u69, u70, u71, u72, u73, u74, u75, u76, u77, u78, u79, u80, u81, u82, u83, u84, u85, u86, u87, u88, u89, u90, u91, u92, u93, u94, u95, u96, u97, u98, u99, u100, u101, u102, u103, u104, u105, u106, u107, u108, u109, u110, u111, u112, u113, u114, u115, u116, u117, u118, u119, u120, u121, u122, u123, u124, u125, u126, u127, u128, u129, u130, u131, u132, u133, u134, u135, u136, u137, u138, u139, u140, u141, u142, u143, u144, u145, u146, u147, u148, u149, u150, u151, u152, u153, u154, u155, u156, u157, u158, u159, u160, u161, u162, u163, u164, u165, u166, u167, u168, u169, u170, u171, u172, u173, u174, u175, u176, u177, u178, u179, u180, u181, u182, u183, u184, u185, u186, u187, u188, u189, u190, u191, u192, u193, u194, u195, u196, u197, u198, u199, u200, u201, u202, u203, u204, u205, u206, u207, u208, u209], []⟩ wc := by
  conv => arg 2; whnf
  have hs : (n : Int) - 2 = (cc : Int) := by have := hcc.out; omega
  have hmul : (rows : Int) * (cc : Int) = (m : Int) := by rw [hm.out, hcc.out, Int.natCast_mul]
  have n10 : (n : Int) ≤ 10 := by omega
  have r20 : (rows : Int) ≤ 20 := by omega
  have m40 : (m : Int) ≤ 40 := by omega
  have h160 : rows * (n - 2) ≤ 160 := by rw [← hm.out]; omega

  have HQ0 : Hid (TQ w x n rows N A c y ⟨cc, m, 0, c⟩ wc) := hQ
  clear hQ
  go_wp2
  go_loopw [18] (fun s wr => ∃ i : Nat, i ≤ m ∧ s = .int .i64 (i : Int) ∧ Hid (TQ w x n rows N A c y ⟨cc, m, i, c⟩ wr)) (fun s _ => m - (intOf s).toNat)
  case atStart => exact ⟨0, Nat.zero_le _, rfl, HQ0⟩
  case round =>
    clear HQ0
    obtain ⟨i, hi, rfl, HT⟩ := hrel
    by_cases hlt : i < m
    · have hiz : (i : Int) < (m : Int) := by omega
      have C := HT.out.step
      rw [Grw.step_more (show i < m from hlt), Grw.stepE_more (show i < m from hlt), errV, if_pos rfl] at C
      have HI : Hid (i < rows * (n - 2)) := by (show i < rows * (n - 2)); rw [← hm.out]; exact hlt
      clear HT
      go_wp2_with fail
      refine C.mono ?_
      rintro e w1 ⟨rfl, hT1⟩
      have HT1 : Hid (TQ w x n rows N A c y ⟨cc, m, i + 1, c⟩ w1) := hT1
      have R := hT1.read (i : Int)
      rw [Grw.readE_nat (show i < m from hlt), Grw.readT_nat (show i < m from hlt), errV, if_pos rfl] at R
      dsimp only at R
      clear C hT1
      generalize (Grw.mk cc m i c).more = bm at *
      go_wp2_with fail
      refine R.mono ?_
      rintro e w2 ⟨rfl, hB2⟩
      have HT2 : Hid (TQ w x n rows N A c y ⟨cc, m, i + 1, c⟩ w2) := HT1.out.old hB2
      have R2 := HT2.out.aread i HI.out h160
      clear R hB2 HT1
      unfold st at R2 ⊢
      generalize sb (c i) = s at *
      go_wp2_with fail
      refine R2.mono ?_
      rintro e w3 ⟨rfl, hB3⟩
      have HT3 : Hid (TQ w x n rows N A c y ⟨cc, m, i + 1, c⟩ w3) := HT2.out.old hB3
      clear R2 hB3 HT2
      go_wp2
      go_roundw
      case rel => exact ⟨i + 1, by omega, by go_num, HT3⟩
      case measure => simp [intOf]; omega
    · have hiz : ¬ (i : Int) < (m : Int) := by omega
      have HL : Hid (Below w.heap.size w wr) := HT.out.al.low
      clear HT
      go_wp2
      go_ret
      exact ⟨rfl, HL.out⟩
end Go.Proofs.YtdbanimlnjhhlaaGreatDoor
