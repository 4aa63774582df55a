/- TopGrows, a part of it: walks over the program. -/
import Derived.Test.YtdbanimlnjhhlaaGreatDoorTGb
import Derived.BigCall
import Derived.BigGuard
namespace Go.Proofs.YtdbanimlnjhhlaaGreatDoor
open Go.RowKit El Pol Mx Lay
set_option linter.unusedVariables false in
set_option maxRecDepth 1000000 in
set_option maxHeartbeats 8000000 in
theorem tg_a (n rows m cc n2 c2 n3 c3 : Nat) (a2 a3 : Option Addr) (x : PAd) (w : World) (B : Nat) (A : Arr) (c : Nat → List El) (S2 : Nat → List El) (f3 : Nat → Int) (u4 u5 u6 u7 u8 u9 u11 u13 u14 u15 u16 u17 u18 u19 u20 u21 u22 u23 u24 u25 u26 u27 u28 u29 u30 u31 u32 u33 u34 u35 u36 u37 u38 u39 u40 u41 u42 u43 u44 u45 u46 u47 u48 u49 u50 u51 u52 u53 u54 u55 u56 u57 u58 u59 u60 u61 u62 u63 u64 u65 u66 u67 u68 u69 u70 u71 u72 u73 u74 u75 u76 u77 u78 u79 u80 u81 u82 u83 u84 u85 u86 u87 u88 u89 u90 u91 u92 u93 u94 u95 u96 u97 u98 u99 u100 u101 u102 u103 u104 u105 u106 u107 u108 u109 u110 u111 u112 u113 u114 u115 u116 u117 u118 u119 u120 u121 u122 u123 u124 u125 u126 u127 u128 u129 u130 u131 u132 u133 u134 u135 u136 u137 u138 u139 u140 u141 u142 u143 u144 u145 u146 u147 u148 u149 u150 u151 u152 u153 u154 u155 u156 u157 u158 u159 u160 u161 u162 u163 u164 u165 u166 u167 u168 u169 u170 u171 u172 u173 u174 u175 u176 u177 u178 u179 u180 u181 u182 u183 u184 u185 u186 u187 u188 u189 u190 u191 u192 u193 u194 u195 u196 u197 u198 u199 u200 u201 u202 u203 u204 u205 u206 u207 u208 u209 : Value) (wc : World) (HG : Hid (Handle w)) (hn : 3 ≤ n ∧ n ≤ 10) (hr : 1 ≤ rows ∧ rows ≤ 20) (hcc : Hid (n - 2 = cc)) (hm : Hid (m = rows * (n - 2))) (hm40 : m ≤ 40) (r2 : RdT w (.slice a2 n2 c2) n2 S2) (r3 : RdF w (.slice a3 n3 c3) n3 (fun i => .int .i64 (f3 i))) (hl : ∀ b, (c b).length = 2) (hH : TG w x n rows B 0 0 (.slice none 0 0) A c wc) :
    Code.wp Tryz.prog (cut [1, 1, 1, 1, 1, 1, 1] (Tryz.f3.body.getD .skip)) (bodyPost Tryz.prog Tryz.f3 fun e w' => e = .returned (.bool true) ∧ Below w.heap.size w w') ⟨#[.int .i64 ((n : Nat) : Int), .int .i64 ((rows : Nat) : Int), .slice a2 n2 c2, .slice a3 n3 c3, u4, u5, u6, u7, u8, u9, .pointer (some ⟨x.p, 0, none⟩), u11, .slice none 0 0, u13, u14, u15, u16, u17, u18, u19, u20, u21, u22, u23, u24, u25, u26, u27, u28, u29, u30, u31, u32, u33, u34, u35, u36, u37, u38, u39, u40, u41, u42, u43, u44, u45, u46, u47, u48, u49, u50, u51, u52, u53, u54, u55, u56, u57, u58, u59, u60, u61, u62, u63, u64, u65, u66, u67, u68, u69, u70, u71, u72, u73, u74, u75, u76, u77, u78, u79, u80, u81, u82, u83, u84, u85, u86, u87, u88, u89, u90, u91, u92, u93, u94, u95, u96, u97, u98, u99, u100, u101, u102, u103, u104, u105, u106, u107, u108, u109, u110, u111, u112, u113, u114, u115, u116, u117, u118, u119, u120, u121, u122, u123, u124, u125, u126, u127, u128, u129, u130, u131, u132, u133, u134, u135, u136, u137, u138, u139, u140, u141, u142, u143, u144, u145, u146, u147, u148, u149, u150, u151, u152, u153, u154, u155, u156, u157, u158, u159, u160, u161, u162, u163, u164, u165, u166, u167, u168, u169, u170, u171, u172, u173, u174, u175, u176, u177, u178, u179, u180, u181, u182, u183, u184, u185, u186, u187, u188, u189, u190, u191, u192, u193, u194, u195, u196, u197, u198, u199, u200, u201, u202, u203, u204, u205, u206, u207, u208, u209], []⟩ wc := by
  conv => arg 2; whnf
  have hs : (n : Int) - 2 = (cc : Int) := by have := hcc.out; omega
  have hmul : (rows : Int) * (cc : Int) = (m : Int) := by rw [hm.out, hcc.out, Int.natCast_mul]
  have n10 : (n : Int) ≤ 10 := by omega
  have r20 : (rows : Int) ≤ 20 := by omega
  have m40 : (m : Int) ≤ 40 := by omega
  have h160 : rows * (n - 2) ≤ 160 := by rw [← hm.out]; omega

  obtain ⟨j0, hj, hy0, hy1, hy2⟩ := info_parts infoT
  have HR2 : Hid (RdT w (.slice a2 n2 c2) n2 S2) := r2
  have HR3 : Hid (RdF w (.slice a3 n3 c3) n3 (fun i => .int .i64 (f3 i))) := r3
  have HG0 : Hid (TG w x n rows B 0 0 (.slice none 0 0) A c wc) := hH
  have HL0 : Hid (∀ b, (c b).length = 2) := hl
  clear r2 r3 hH hl
  refine wp_seq_k fun K hK => ?_
  have HK : Hid _ := hK
  clear hK
  go_wp2
  go_loopw [12, 13] (fun o s wr => ∃ k : Nat, k ≤ m ∧ s = .int .i64 (k : Int) ∧ (∃ ao co, o = .slice ao k co) ∧ Hid (∃ A c, TG w x n rows B k (3 * k) o A c wr ∧ ∀ b, (c b).length = 2)) (fun _ s _ => m - (intOf s).toNat)
  case atStart => exact ⟨0, Nat.zero_le _, rfl, ⟨none, 0, rfl⟩, ⟨_, _, HG0.out, HL0.out⟩⟩
  case round =>
    clear HG0 HL0
    obtain ⟨k, hk, rfl, ⟨ao, co, rfl⟩, HE⟩ := hrel
    obtain ⟨A', c', hT, hL⟩ := HE.out
    have HT : Hid (TG w x n rows B k (3 * k) (.slice ao k co) A' c' wr) := hT
    have HL : Hid (∀ b, (c' b).length = 2) := hL
    have HLow : Hid (Below w.heap.size w wr) := hT.kp.al.low
    clear HE hT hL
    by_cases hlt : k < m
    · have hkz : (k : Int) < (m : Int) := by omega
      have HI : Hid (k < rows * (n - 2)) := by (show k < rows * (n - 2)); rw [← hm.out]; exact hlt
      by_cases h2 : k < n2
      · have hk2 : (k : Int) < (n2 : Int) := by omega
        have dk : decide ((k : Int) < (n2 : Int)) = true := decide_eq_true hk2
        obtain ⟨ad, had, hc⟩ := HR2.out.at k h2
        subst had
        have hc2 := (HLow.out.cell (World.block_lt_of_cell? w _ hc)).trans hc
        have hsz := sb_size (S2 k)
        clear hc
        by_cases h3 : (S2 k).length = 2
        · have hz2 : ((sb (S2 k)).size : Int) = 2 := by omega
          have C := HT.out.write (by omega) HI.out h160 (S2 k) h3
          have HLen : Hid ((S2 k).length = 2) := h3
          obtain ⟨tt, htt⟩ : ∃ tt, S2 k = tt := ⟨_, rfl⟩
          rw [htt] at C HLen hz2 hc2 hsz
          unfold st at C hc2
          obtain ⟨s, hs'⟩ : ∃ s, sb tt = s := ⟨_, rfl⟩
          have HSB : Hid (st tt = .string s) := by (show st tt = .string s); rw [← hs']
          rw [hs'] at C hc2 hz2
          clear htt hs' h3 hsz
          clear HT
          go_wp2_with fail
          refine C.mono ?_
          rintro e w1 ⟨rfl, hT1⟩
          have HT1 : Hid (TG w x n rows B k (3 * k + 3) (.slice ao k co) (A'.write (k : Int) tt) (up c' k tt) w1) := hT1
          have hO := hT1.own
          have hBw := hT1.Bw
          clear C hT1
          obtain ⟨xs, hxs⟩ : ∃ xs, xs = (List.range k).map (fun i => st (up c' k tt i)) := ⟨_, rfl⟩
          have HXS : Hid (xs = (List.range k).map (fun i => st (up c' k tt i))) := hxs
          unfold OwT at hO
          rw [← hxs] at hO
          clear hxs
          go_wp2_with (first | (at_builtin; refine wpList_append_own _ rfl _ _ 22 rfl B 9 j0 (.string ⟨#[]⟩) 1 16 Tryz.underlying22 hj hy0 hy1 hy2 rfl (by decide) _ _ _ rfl (World.ownsRow.alloc hO _) ⟨w1.heap.size, 0, none⟩ 1 1 [.string s] rfl rfl (one_cell _) (by intro u hu; simp at hu; subst hu; rfl) (by unfold maxLen; omega) (by omega) (by simp; omega) ?_))
          intro v3 w3 hown hgrow _
          have hO3 : OwT B w3 v3 (k + 1) (up c' k tt) := by
            rw [HXS.out] at hown
            exact OwT.snoc hown (by rw [up_at, HSB.out])
          have HN : Hid (∃ A c, TG w x n rows B (k + 1) (3 * (k + 1)) v3 A c w3 ∧ ∀ b, (c b).length = 2) := ⟨_, _, HT1.out.more hO3 hgrow, fun b => by
            by_cases q : b = k
            · rw [q, up_at]; exact HLen.out
            · rw [up_ne _ _ q]; exact HL.out b⟩
          obtain ⟨a3', c3', rfl⟩ := OwT.len hO3
          clear hown hgrow hO HXS HSB HT1 hO3
          go_wp2
          go_roundw
          case rel => exact ⟨k + 1, by omega, by go_num, ⟨_, _, rfl⟩, HN⟩
          case measure => simp [intOf]; omega
        · have hz2 : (((sb (S2 k)).size : Int) == 2) = false := by rw [beq_eq_false_iff_ne]; omega
          have hz3 : ((sb (S2 k)).size == 2) = false := by rw [beq_eq_false_iff_ne]; omega
          unfold st at hc2
          generalize sb (S2 k) = s2 at *
          have C := HT.out.write (by omega) HI.out h160 [0, 0] rfl
          have HLen : Hid (([0, 0] : List El).length = 2) := rfl
          rw [show st ([0, 0] : List El) = .string ⟨#[0, 0]⟩ from rfl] at C
          obtain ⟨tt, htt⟩ : ∃ tt : List El, [0, 0] = tt := ⟨_, rfl⟩
          obtain ⟨s, hs'⟩ : ∃ s : ByteArray, ⟨#[0, 0]⟩ = s := ⟨_, rfl⟩
          have HSB : Hid (st tt = .string s) := by (show st tt = .string s); rw [← hs', ← htt]; rfl
          rw [htt] at C HLen
          clear htt
          rw [hs'] at C
          clear HT
          subst hs'
          go_wp2_with fail
          refine C.mono ?_
          rintro e w1 ⟨rfl, hT1⟩
          have HT1 : Hid (TG w x n rows B k (3 * k + 3) (.slice ao k co) (A'.write (k : Int) tt) (up c' k tt) w1) := hT1
          have hO := hT1.own
          have hBw := hT1.Bw
          clear C hT1
          obtain ⟨xs, hxs⟩ : ∃ xs, xs = (List.range k).map (fun i => st (up c' k tt i)) := ⟨_, rfl⟩
          have HXS : Hid (xs = (List.range k).map (fun i => st (up c' k tt i))) := hxs
          unfold OwT at hO
          rw [← hxs] at hO
          clear hxs
          go_wp2_with (first | (at_builtin; refine wpList_append_own _ rfl _ _ 22 rfl B 9 j0 (.string ⟨#[]⟩) 1 16 Tryz.underlying22 hj hy0 hy1 hy2 rfl (by decide) _ _ _ rfl (World.ownsRow.alloc hO _) ⟨w1.heap.size, 0, none⟩ 1 1 [.string ⟨#[0, 0]⟩] rfl rfl (one_cell _) (by intro u hu; simp at hu; subst hu; rfl) (by unfold maxLen; omega) (by omega) (by simp; omega) ?_))
          intro v3 w3 hown hgrow _
          have hO3 : OwT B w3 v3 (k + 1) (up c' k tt) := by
            rw [HXS.out] at hown
            exact OwT.snoc hown (by rw [up_at, HSB.out])
          have HN : Hid (∃ A c, TG w x n rows B (k + 1) (3 * (k + 1)) v3 A c w3 ∧ ∀ b, (c b).length = 2) := ⟨_, _, HT1.out.more hO3 hgrow, fun b => by
            by_cases q : b = k
            · rw [q, up_at]; exact HLen.out
            · rw [up_ne _ _ q]; exact HL.out b⟩
          obtain ⟨a3', c3', rfl⟩ := OwT.len hO3
          clear hown hgrow hO HXS HSB HT1 hO3
          go_wp2
          go_roundw
          case rel => exact ⟨k + 1, by omega, by go_num, ⟨_, _, rfl⟩, HN⟩
          case measure => simp [intOf]; omega
      · have hk2 : ¬ (k : Int) < (n2 : Int) := by omega
        have dk : decide ((k : Int) < (n2 : Int)) = false := decide_eq_false hk2
        have C := HT.out.write (by omega) HI.out h160 [0, 0] rfl
        have HLen : Hid (([0, 0] : List El).length = 2) := rfl
        rw [show st ([0, 0] : List El) = .string ⟨#[0, 0]⟩ from rfl] at C
        obtain ⟨tt, htt⟩ : ∃ tt : List El, [0, 0] = tt := ⟨_, rfl⟩
        obtain ⟨s, hs'⟩ : ∃ s : ByteArray, ⟨#[0, 0]⟩ = s := ⟨_, rfl⟩
        have HSB : Hid (st tt = .string s) := by (show st tt = .string s); rw [← hs', ← htt]; rfl
        rw [htt] at C HLen
        clear htt
        rw [hs'] at C
        clear HT
        subst hs'
        go_wp2_with fail
        refine C.mono ?_
        rintro e w1 ⟨rfl, hT1⟩
        have HT1 : Hid (TG w x n rows B k (3 * k + 3) (.slice ao k co) (A'.write (k : Int) tt) (up c' k tt) w1) := hT1
        have hO := hT1.own
        have hBw := hT1.Bw
        clear C hT1
        obtain ⟨xs, hxs⟩ : ∃ xs, xs = (List.range k).map (fun i => st (up c' k tt i)) := ⟨_, rfl⟩
        have HXS : Hid (xs = (List.range k).map (fun i => st (up c' k tt i))) := hxs
        unfold OwT at hO
        rw [← hxs] at hO
        clear hxs
        go_wp2_with (first | (at_builtin; refine wpList_append_own _ rfl _ _ 22 rfl B 9 j0 (.string ⟨#[]⟩) 1 16 Tryz.underlying22 hj hy0 hy1 hy2 rfl (by decide) _ _ _ rfl (World.ownsRow.alloc hO _) ⟨w1.heap.size, 0, none⟩ 1 1 [.string ⟨#[0, 0]⟩] rfl rfl (one_cell _) (by intro u hu; simp at hu; subst hu; rfl) (by unfold maxLen; omega) (by omega) (by simp; omega) ?_))
        intro v3 w3 hown hgrow _
        have hO3 : OwT B w3 v3 (k + 1) (up c' k tt) := by
          rw [HXS.out] at hown
          exact OwT.snoc hown (by rw [up_at, HSB.out])
        have HN : Hid (∃ A c, TG w x n rows B (k + 1) (3 * (k + 1)) v3 A c w3 ∧ ∀ b, (c b).length = 2) := ⟨_, _, HT1.out.more hO3 hgrow, fun b => by
          by_cases q : b = k
          · rw [q, up_at]; exact HLen.out
          · rw [up_ne _ _ q]; exact HL.out b⟩
        obtain ⟨a3', c3', rfl⟩ := OwT.len hO3
        clear hown hgrow hO HXS HSB HT1 hO3
        go_wp2
        go_roundw
        case rel => exact ⟨k + 1, by omega, by go_num, ⟨_, _, rfl⟩, HN⟩
        case measure => simp [intOf]; omega
    · have hkz : ¬ (k : Int) < (m : Int) := by omega
      have e : k = m := by omega
      subst e
      obtain ⟨A', c', hT, hL⟩ : ∃ A c, TG w x n rows B k (3 * k) (.slice ao k co) A c wr ∧ ∀ b, (c b).length = 2 := ⟨_, _, HT.out, HL.out⟩
      have HT2 : Hid (TG w x n rows B k (3 * k) (.slice ao k co) A' c' wr) := hT
      have HL2 : Hid (∀ b, b < rows * (n - 2) → (c' b).length = 2) := fun b _ => hL b
      clear hT hL HT HL HLow
      go_wp2
      refine HK.out _ _ ?_
      exact tg_b n rows k cc n2 c2 n3 c3 a2 a3 x w (3 * k) B co ao A' c' f3 _ _ _ _ _ _ _ _ _ _ _ _ _ _ _ _ _ _ _ _ _ _ _ _ _ _ _ _ _ _ _ _ _ _ _ _ _ _ _ _ _ _ _ _ _ _ _ _ _ _ _ _ _ _ _ _ _ _ _ _ _ _ _ _ _ _ _ _ _ _ _ _ _ _ _ _ _ _ _ _ _ _ _ _ _ _ _ _ _ _ _ _ _ _ _ _ _ _ _ _ _ _ _ _ _ _ _ _ _ _ _ _ _ _ _ _ _ _ _ _ _ _ _ _ _ _ _ _ _ _ _ _ _ _ _ _ _ _ _ _ _ _ _ _ _ _ _ _ _ _ _ _ _ _ _ _ _ _ _ _ _ _ _ _ _ _ _ _ _ _ _ _ _ _ _ _ _ _ _ _ _ _ _ _ _ _ _ _ _ _ _ _ _ _ _ _ _ _ _ _ _ _ _ _ _ HG hn hr hcc hm hm40 HR3.out HL2.out (by omega) HT2.out
end Go.Proofs.YtdbanimlnjhhlaaGreatDoor
