/- TopGrows, a part of it: walks over the program. -/
import Derived.Test.YtdbanimlnjhhlaaGreatDoorTGc
namespace Go.Proofs.YtdbanimlnjhhlaaGreatDoor
open Go.RowKit El Pol Mx Lay
theorem TH.all {w wr : World} {x : PAd} {n rows B k m N : Nat} {v : Value} {A : Arr} {c : Nat → List El} {D : Nat → Nat} {T : Nat → List El} (h : TH w x n rows B m k N v A c D T wr) (_ : k ≤ rows) : TH w x n rows B m rows N v A c D T wr :=
  ⟨h.al, h.hurt, h.hn, h.hr, h.hs, fun r h1 h2 => absurd h2 (by omega), h.own, h.xB, h.wB, h.Bw⟩

set_option linter.unusedVariables false in
set_option maxRecDepth 1000000 in
set_option maxHeartbeats 8000000 in
theorem tg_b (n rows m cc n2 c2 n3 c3 : Nat) (a2 a3 : Option Addr) (x : PAd) (w : World) (N B cp : Nat) (ac : Option Addr) (A : Arr) (c : Nat → List El) (f3 : Nat → Int) (u4 u5 u6 u7 u8 u9 u11 u13 u14 u15 u16 u17 u18 u19 u20 u21 u22 u23 u24 u25 u26 u27 u28 u29 u30 u31 u32 u33 u34 u35 u36 u37 u38 u39 u40 u41 u42 u43 u44 u45 u46 u47 u48 u49 u50 u51 u52 u53 u54 u55 u56 u57 u58 u59 u60 u61 u62 u63 u64 u65 u66 u67 u68 u69 u70 u71 u72 u73 u74 u75 u76 u77 u78 u79 u80 u81 u82 u83 u84 u85 u86 u87 u88 u89 u90 u91 u92 u93 u94 u95 u96 u97 u98 u99 u100 u101 u102 u103 u104 u105 u106 u107 u108 u109 u110 u111 u112 u113 u114 u115 u116 u117 u118 u119 u120 u121 u122 u123 u124 u125 u126 u127 u128 u129 u130 u131 u132 u133 u134 u135 u136 u137 u138 u139 u140 u141 u142 u143 u144 u145 u146 u147 u148 u149 u150 u151 u152 u153 u154 u155 u156 u157 u158 u159 u160 u161 u162 u163 u164 u165 u166 u167 u168 u169 u170 u171 u172 u173 u174 u175 u176 u177 u178 u179 u180 u181 u182 u183 u184 u185 u186 u187 u188 u189 u190 u191 u192 u193 u194 u195 u196 u197 u198 u199 u200 u201 u202 u203 u204 u205 u206 u207 u208 u209 : Value) (wc : World) (HG : Hid (Handle w)) (hn : 3 ≤ n ∧ n ≤ 10) (hr : 1 ≤ rows ∧ rows ≤ 20) (hcc : Hid (n - 2 = cc)) (hm : Hid (m = rows * (n - 2))) (hm40 : m ≤ 40) (r3 : RdF w (.slice a3 n3 c3) n3 (fun i => .int .i64 (f3 i))) (hl : ∀ b, b < rows * (n - 2) → (c b).length = 2) (hN : N ≤ 400) (hH : TG w x n rows B m N (.slice ac m cp) A c wc) :
    Code.wp Tryz.prog (cut [1, 1, 1, 1, 1, 1, 1, 1] (Tryz.f3.body.getD .skip)) (bodyPost Tryz.prog Tryz.f3 fun e w' => e = .returned (.bool true) ∧ Below w.heap.size w w') ⟨#[.int .i64 ((n : Nat) : Int), .int .i64 ((rows : Nat) : Int), .slice a2 n2 c2, .slice a3 n3 c3, u4, u5, u6, u7, u8, u9, .pointer (some ⟨x.p, 0, none⟩), u11, .slice ac m cp, u13, u14, u15, u16, u17, u18, u19, u20, u21, u22, u23, u24, u25, u26, u27, u28, u29, u30, u31, u32, u33, u34, u35, u36, u37, u38, u39, u40, u41, u42, u43, u44, u45, u46, u47, u48, u49, u50, u51, u52, u53, u54, u55, u56, u57, u58, u59, u60, u61, u62, u63, u64, u65, u66, u67, u68, u69, u70, u71, u72, u73, u74, u75, u76, u77, u78, u79, u80, u81, u82, u83, u84, u85, u86, u87, u88, u89, u90, u91, u92, u93, u94, u95, u96, u97, u98, u99, u100, u101, u102, u103, u104, u105, u106, u107, u108, u109, u110, u111, u112, u113, u114, u115, u116, u117, u118, u119, u120, u121, u122, u123, u124, u125, u126, u127, u128, u129, u130, u131, u132, u133, u134, u135, u136, u137, u138, u139, u140, u141, u142, u143, u144, u145, u146, u147, u148, u149, u150, u151, u152, u153, u154, u155, u156, u157, u158, u159, u160, u161, u162, u163, u164, u165, u166, u167, u168, u169, u170, u171, u172, u173, u174, u175, u176, u177, u178, u179, u180, u181, u182, u183, u184, u185, u186, u187, u188, u189, u190, u191, u192, u193, u194, u195, u196, u197, u198, u199, u200, u201, u202, u203, u204, u205, u206, u207, u208, u209], []⟩ wc := by
  conv => arg 2; whnf
  have hs : (n : Int) - 2 = (cc : Int) := by have := hcc.out; omega
  have hmul : (rows : Int) * (cc : Int) = (m : Int) := by rw [hm.out, hcc.out, Int.natCast_mul]
  have n10 : (n : Int) ≤ 10 := by omega
  have r20 : (rows : Int) ≤ 20 := by omega
  have m40 : (m : Int) ≤ 40 := by omega
  have h160 : rows * (n - 2) ≤ 160 := by rw [← hm.out]; omega

  have HR3 : Hid (RdF w (.slice a3 n3 c3) n3 (fun i => .int .i64 (f3 i))) := r3
  have HL : Hid (∀ b, b < rows * (n - 2) → (c b).length = 2) := hl
  have HH0 : Hid (TH w x n rows B m 0 N (.slice ac m cp) A c (fun _ => 0) (fun r => rt A c r 0) wc) := TH.start hH
  clear r3 hl hH
  refine wp_seq_k fun K hK => ?_
  have HK : Hid _ := hK
  clear hK
  go_wp2
  go_loopw [15] (fun s wr => ∃ k : Nat, k ≤ rows ∧ k ≤ n3 ∧ s = .int .i64 (k : Int) ∧ Hid (∃ A D T, TH w x n rows B m k (N + k) (.slice ac m cp) A c D T wr)) (fun s _ => rows - (intOf s).toNat)
  case atStart => exact ⟨0, Nat.zero_le _, Nat.zero_le _, rfl, ⟨_, _, _, HH0.out⟩⟩
  case round =>
    clear HH0
    obtain ⟨k, hk1, hk2, rfl, HE⟩ := hrel
    obtain ⟨A', D', T', hT⟩ := HE.out
    have HT : Hid (TH w x n rows B m k (N + k) (.slice ac m cp) A' c D' T' wr) := hT
    clear HE
    by_cases hlt : k < rows
    · have hkz : (k : Int) < (rows : Int) := by omega
      by_cases hlt3 : k < n3
      · have hk3 : (k : Int) < (n3 : Int) := by omega
        obtain ⟨ad, had, hc⟩ := HR3.out.at k hlt3
        subst had
        have hc2 := (hT.al.low.cell (World.block_lt_of_cell? w _ hc)).trans hc
        clear hT hc
        by_cases h1 : f3 k < 0
        · have d1 : decide (0 ≤ f3 k) = false := decide_eq_false (by omega)
          have HS : Hid (∃ A D T, TH w x n rows B m (k + 1) (N + (k + 1)) (.slice ac m cp) A c D T wr) := ⟨_, _, _, HT.out.skip⟩
          generalize f3 k = z at *
          clear HT
          go_wp2
          go_roundw
          case rel => exact ⟨k + 1, by omega, by omega, by go_num, HS⟩
          case measure => simp [intOf]; omega
        · have d1 : decide (0 ≤ f3 k) = true := decide_eq_true (by omega)
          by_cases h2 : (n : Int) ≤ f3 k
          · have d2 : decide (f3 k < (n : Int)) = false := decide_eq_false (by omega)
            have HS : Hid (∃ A D T, TH w x n rows B m (k + 1) (N + (k + 1)) (.slice ac m cp) A c D T wr) := ⟨_, _, _, HT.out.skip⟩
            generalize f3 k = z at *
            clear HT
            go_wp2
            go_roundw
            case rel => exact ⟨k + 1, by omega, by omega, by go_num, HS⟩
            case measure => simp [intOf]; omega
          · have d2 : decide (f3 k < (n : Int)) = true := decide_eq_true (by omega)
            obtain ⟨d, hd⟩ : ∃ d : Nat, f3 k = (d : Int) := ⟨(f3 k).toNat, by omega⟩
            rw [hd] at hc2 d1 d2 h1 h2
            have P := HT.out.poke (by omega) hlt (d := d) (by omega) (t := [7, 9]) rfl
            rw [show st ([7, 9] : List El) = .string ⟨#[7, 9]⟩ from rfl] at P
            have hdz : (d : Int) < (n : Int) := by omega
            clear hd HT
            go_wp2_with fail
            refine P.mono ?_
            rintro e w2 ⟨rfl, hT2⟩
            have HS : Hid (∃ A D T, TH w x n rows B m (k + 1) (N + (k + 1)) (.slice ac m cp) A c D T w2) := ⟨_, _, _, hT2⟩
            clear P hT2 hc2
            go_wp2
            go_roundw
            case rel => exact ⟨k + 1, by omega, by omega, by go_num, HS⟩
            case measure => simp [intOf]; omega
      · have hk3 : ¬ (k : Int) < (n3 : Int) := by omega
        have HX : Hid (TH w x n rows B m rows (N + k) (.slice ac m cp) A' c D' T' wr) := hT.all hk1
        clear hT HT
        go_wp2
        refine HK.out _ _ ?_
        exact tg_c n rows m cc n2 c2 n3 c3 a2 a3 x w (N + k) B cp ac A' c D' T' _ _ _ _ _ _ _ _ _ _ _ _ _ _ _ _ _ _ _ _ _ _ _ _ _ _ _ _ _ _ _ _ _ _ _ _ _ _ _ _ _ _ _ _ _ _ _ _ _ _ _ _ _ _ _ _ _ _ _ _ _ _ _ _ _ _ _ _ _ _ _ _ _ _ _ _ _ _ _ _ _ _ _ _ _ _ _ _ _ _ _ _ _ _ _ _ _ _ _ _ _ _ _ _ _ _ _ _ _ _ _ _ _ _ _ _ _ _ _ _ _ _ _ _ _ _ _ _ _ _ _ _ _ _ _ _ _ _ _ _ _ _ _ _ _ _ _ _ _ _ _ _ _ _ _ _ _ _ _ _ _ _ _ _ _ _ _ _ _ _ _ _ _ _ _ _ _ _ _ _ _ _ _ _ _ _ _ _ _ _ _ _ _ _ _ _ _ _ _ _ _ _ _ _ _ HG hn hr hcc hm hm40 HL.out (by omega) HX.out
    · have hkz : ¬ (k : Int) < (rows : Int) := by omega
      have HX : Hid (TH w x n rows B m rows (N + k) (.slice ac m cp) A' c D' T' wr) := hT.all hk1
      clear hT HT
      go_wp2
      refine HK.out _ _ ?_
      exact tg_c n rows m cc n2 c2 n3 c3 a2 a3 x w (N + k) B cp ac A' c D' T' _ _ _ _ _ _ _ _ _ _ _ _ _ _ _ _ _ _ _ _ _ _ _ _ _ _ _ _ _ _ _ _ _ _ _ _ _ _ _ _ _ _ _ _ _ _ _ _ _ _ _ _ _ _ _ _ _ _ _ _ _ _ _ _ _ _ _ _ _ _ _ _ _ _ _ _ _ _ _ _ _ _ _ _ _ _ _ _ _ _ _ _ _ _ _ _ _ _ _ _ _ _ _ _ _ _ _ _ _ _ _ _ _ _ _ _ _ _ _ _ _ _ _ _ _ _ _ _ _ _ _ _ _ _ _ _ _ _ _ _ _ _ _ _ _ _ _ _ _ _ _ _ _ _ _ _ _ _ _ _ _ _ _ _ _ _ _ _ _ _ _ _ _ _ _ _ _ _ _ _ _ _ _ _ _ _ _ _ _ _ _ _ _ _ _ _ _ _ _ _ _ _ _ _ _ HG hn hr hcc hm hm40 HL.out (by omega) HX.out
end Go.Proofs.YtdbanimlnjhhlaaGreatDoor
