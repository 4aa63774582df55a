/- PlaceTells, a part of it: walks over the program. -/
import Derived.Test.YtjfhjnccjodjbaaDoorRpA
import Derived.Test.YtjfhjnccjodjbaaDoorRpC
import Derived.Test.YtjfhjnccjodjbaaDoorPlG
import Derived.Test.YtjfhjnccjodjbaaDoorErrw
import Derived.Test.YtjfhjnccjodjbaaDoorCuts
import Derived.Deep.Cut
import Derived.Deep.CutRange
import Derived.BigCall
import Derived.BigGuard
namespace Go.Proofs.YtjfhjnccjodjbaaDoor
open Go.RowKit
set_option linter.unusedVariables false in
set_option maxRecDepth 1000000 in
set_option maxHeartbeats 8000000 in
theorem tellD (n wd m0 d : Int) (n3 c3 : Nat) (a3 : Option Addr) (L : Nat → Nat) (F : Nat → Nat → Int) (w : World) (u5 u6 u7 u8 u9 u10 u11 u12 u13 u14 u16 u18 u19 u20 u21 u23 u24 u25 u27 u28 u29 u30 u31 u32 u33 u34 u35 u36 u37 u38 u39 u40 u41 u42 u43 u44 u45 u46 u47 u48 u49 u50 u51 u52 u53 u54 u55 u56 u57 u58 u59 u60 u61 u62 u63 u64 u65 u66 u67 u68 u69 u70 u71 u72 u73 u74 u75 u76 u77 u78 u79 u80 u81 u82 u83 u84 u85 u86 u87 u88 u89 u90 u91 u92 u93 u94 u95 u96 u97 u98 u99 u100 u101 u102 u103 u104 u105 u106 u107 u108 u109 u110 u111 u112 u113 u114 u115 u116 u117 u118 u119 u120 u121 u122 u123 u124 u125 u126 u127 u128 u129 u130 u131 u132 u133 u134 u135 u136 u137 u138 u139 u140 u141 u142 u143 u144 u145 u146 u147 u148 u149 u150 u151 u152 u153 u154 u155 u156 u157 u158 u159 u160 u161 u162 u163 u164 u165 u166 u167 u168 u169 u170 u171 u172 u173 u174 u175 u176 u177 u178 u179 u180 u181 u182 u183 u184 u185 u186 u187 u188 u189 u190 u191 u192 u193 u194 u195 u196 u197 u198 u199 u200 u201 u202 u203 u204 u205 u206 u207 u208 u209 u210 u211 u212 u213 u214 u215 u216 u217 u218 u219 u220 u221 u222 u223 u224 u225 u226 u227 u228 u229 u230 u231 u232 u233 u234 u235 u236 u237 u238 u239 u240 u241 u242 u243 u244 u245 u246 u247 u248 u249 u250 u251 u252 u253 u254 u255 u256 u257 u258 u259 : Value) (wc : World) (HG : Hid (Handle w)) (HR : Hid (RdII w (.slice a3 n3 c3) n3 L F)) (hn3 : n3 ≤ 5864062014634) (HB : Hid (Below w.heap.size w wc))  :
    Code.wp Tryd.prog (cut [1, 1, 1, 1, 1, 1, 1, 1, 1, 1, 1, 1, 1, 1, 1, 1, 1, 1] (Tryd.f4.body.getD .skip)) (bodyPost Tryd.prog Tryd.f4 fun e w' => e = .returned (.bool true) ∧ Below w.heap.size w w') ⟨#[.int .i64 n, .int .i64 wd, .int .i64 m0, .slice a3 n3 c3, .int .i64 d, u5, u6, u7, u8, u9, u10, u11, u12, u13, u14, .bool true, u16, .slice none 0 0, u18, u19, u20, u21, .bool true, u23, u24, u25, .bool true, u27, u28, u29, u30, u31, u32, u33, u34, u35, u36, u37, u38, u39, u40, u41, u42, u43, u44, u45, u46, u47, u48, u49, u50, u51, u52, u53, u54, u55, u56, u57, u58, u59, u60, u61, u62, u63, u64, u65, u66, u67, u68, u69, u70, u71, u72, u73, u74, u75, u76, u77, u78, u79, u80, u81, u82, u83, u84, u85, u86, u87, u88, u89, u90, u91, u92, u93, u94, u95, u96, u97, u98, u99, u100, u101, u102, u103, u104, u105, u106, u107, u108, u109, u110, u111, u112, u113, u114, u115, u116, u117, u118, u119, u120, u121, u122, u123, u124, u125, u126, u127, u128, u129, u130, u131, u132, u133, u134, u135, u136, u137, u138, u139, u140, u141, u142, u143, u144, u145, u146, u147, u148, u149, u150, u151, u152, u153, u154, u155, u156, u157, u158, u159, u160, u161, u162, u163, u164, u165, u166, u167, u168, u169, u170, u171, u172, u173, u174, u175, u176, u177, u178, u179, u180, u181, u182, u183, u184, u185, u186, u187, u188, u189, u190, u191, u192, u193, u194, u195, u196, u197, u198, u199, u200, u201, u202, u203, u204, u205, u206, u207, u208, u209, u210, u211, u212, u213, u214, u215, u216, u217, u218, u219, u220, u221, u222, u223, u224, u225, u226, u227, u228, u229, u230, u231, u232, u233, u234, u235, u236, u237, u238, u239, u240, u241, u242, u243, u244, u245, u246, u247, u248, u249, u250, u251, u252, u253, u254, u255, u256, u257, u258, u259], []⟩ wc := by
  conv => arg 2; whnf
  cases hd : noDk 10 d with
  | true =>
    have hd' := noDk_true.1 hd
    by_cases h1 : d < 0
    · have d1 : decide (d < 0) = true := decide_eq_true h1
      clear hd'
      refine wp_seq_k fun K hK => ?_
      have HK : Hid _ := hK
      clear hK
      go_wp2
      refine HK.out _ _ ?_
      clear HK K
      refine wp_seq_k fun K hK => ?_
      have HK : Hid _ := hK
      clear hK
      go_wp2
      refine HK.out _ _ ?_
      clear HK K
      refine wp_seq_k fun K hK => ?_
      have HK : Hid _ := hK
      clear hK
      go_wp2
      refine HK.out _ _ ?_
      clear HK K
      have HBx : Hid (Below w.heap.size w wc) := HB.out
      refine wp_seq_k fun K hK => ?_
      have HK : Hid _ := hK
      clear hK
      go_wp2
      refine wp_loop_rounds 1 ?_
      rw [rounds_succ]
      by_cases h0 : 0 < n3
      · have hz : (0 : Int) < (n3 : Int) := by omega
        have dz : decide ((0 : Int) < (n3 : Int)) = true := decide_eq_true hz
        go_wp2
        refine HK.out _ _ ?_
        clear HK
        refine wp_seq_k fun K hK => ?_
        have HK : Hid _ := hK
        clear hK
        go_wp2_with fail
        refine (hurt_no (HR.out.old HBx.out) hd).mono ?_
        rintro e w5 ⟨rfl, hB5⟩
        have HB5 : Hid (Below w.heap.size w w5) := HBx.out.trans (hB5.mono HBx.out.size)
        have E5 := err_v 1 w5 (HG.out.old HB5.out)

        clear hB5
        go_wp2
        refine HK.out _ _ ?_
        clear HK K
        refine wp_seq_k fun K hK => ?_
        have HK : Hid _ := hK
        clear hK
        go_wp2_with fail
        refine E5.mono ?_
        rintro e w6 ⟨rfl, hB6⟩
        have I6 := ints_qt (.slice none 0 0) (.slice none 0 0) 0 (fun _ => 0) w6 (rdf_none _ _) (rdf_none _ _)
        have HB6 : Hid (Below w.heap.size w w6) := HB5.out.trans (hB6.mono HB5.out.size)
        clear E5 hB6 HB5
        go_wp2_with fail
        refine I6.mono ?_
        rintro e w7 ⟨rfl, hq7⟩
        have HB7 : Hid (Below w.heap.size w w7) := by obtain ⟨q7, rfl⟩ := hq7; exact below_drewN HB6.out q7
        clear I6 hq7 HB6
        go_wp2
        refine HK.out _ _ ?_
        clear HK K
        go_wp2
        go_ret
        exact ⟨rfl, HB7.out⟩
      · have hz : ¬ (0 : Int) < (n3 : Int) := by omega
        have dz : decide ((0 : Int) < (n3 : Int)) = false := decide_eq_false hz
        go_wp2
        refine HK.out _ _ ?_
        clear HK
        refine wp_seq_k fun K hK => ?_
        have HK : Hid _ := hK
        clear hK
        go_wp2_with fail
        refine (hurt_no (HR.out.old HBx.out) hd).mono ?_
        rintro e w5 ⟨rfl, hB5⟩
        have HB5 : Hid (Below w.heap.size w w5) := HBx.out.trans (hB5.mono HBx.out.size)
        have E5 := err_v 1 w5 (HG.out.old HB5.out)

        clear hB5
        go_wp2
        refine HK.out _ _ ?_
        clear HK K
        refine wp_seq_k fun K hK => ?_
        have HK : Hid _ := hK
        clear hK
        go_wp2_with fail
        refine E5.mono ?_
        rintro e w6 ⟨rfl, hB6⟩
        have I6 := ints_qt (.slice none 0 0) (.slice none 0 0) 0 (fun _ => 0) w6 (rdf_none _ _) (rdf_none _ _)
        have HB6 : Hid (Below w.heap.size w w6) := HB5.out.trans (hB6.mono HB5.out.size)
        clear E5 hB6 HB5
        go_wp2_with fail
        refine I6.mono ?_
        rintro e w7 ⟨rfl, hq7⟩
        have HB7 : Hid (Below w.heap.size w w7) := by obtain ⟨q7, rfl⟩ := hq7; exact below_drewN HB6.out q7
        clear I6 hq7 HB6
        go_wp2
        refine HK.out _ _ ?_
        clear HK K
        go_wp2
        go_ret
        exact ⟨rfl, HB7.out⟩
    · have d1 : decide (d < 0) = false := decide_eq_false h1
      have h2 : 10 ≤ d := by omega
      have d2 : decide (10 ≤ d) = true := decide_eq_true h2
      clear hd'
      refine wp_seq_k fun K hK => ?_
      have HK : Hid _ := hK
      clear hK
      go_wp2
      refine HK.out _ _ ?_
      clear HK K
      refine wp_seq_k fun K hK => ?_
      have HK : Hid _ := hK
      clear hK
      go_wp2
      refine HK.out _ _ ?_
      clear HK K
      refine wp_seq_k fun K hK => ?_
      have HK : Hid _ := hK
      clear hK
      go_wp2
      refine HK.out _ _ ?_
      clear HK K
      have HBx : Hid (Below w.heap.size w wc) := HB.out
      refine wp_seq_k fun K hK => ?_
      have HK : Hid _ := hK
      clear hK
      go_wp2
      refine wp_loop_rounds 1 ?_
      rw [rounds_succ]
      by_cases h0 : 0 < n3
      · have hz : (0 : Int) < (n3 : Int) := by omega
        have dz : decide ((0 : Int) < (n3 : Int)) = true := decide_eq_true hz
        go_wp2
        refine HK.out _ _ ?_
        clear HK
        refine wp_seq_k fun K hK => ?_
        have HK : Hid _ := hK
        clear hK
        go_wp2_with fail
        refine (hurt_no (HR.out.old HBx.out) hd).mono ?_
        rintro e w5 ⟨rfl, hB5⟩
        have HB5 : Hid (Below w.heap.size w w5) := HBx.out.trans (hB5.mono HBx.out.size)
        have E5 := err_v 1 w5 (HG.out.old HB5.out)

        clear hB5
        go_wp2
        refine HK.out _ _ ?_
        clear HK K
        refine wp_seq_k fun K hK => ?_
        have HK : Hid _ := hK
        clear hK
        go_wp2_with fail
        refine E5.mono ?_
        rintro e w6 ⟨rfl, hB6⟩
        have I6 := ints_qt (.slice none 0 0) (.slice none 0 0) 0 (fun _ => 0) w6 (rdf_none _ _) (rdf_none _ _)
        have HB6 : Hid (Below w.heap.size w w6) := HB5.out.trans (hB6.mono HB5.out.size)
        clear E5 hB6 HB5
        go_wp2_with fail
        refine I6.mono ?_
        rintro e w7 ⟨rfl, hq7⟩
        have HB7 : Hid (Below w.heap.size w w7) := by obtain ⟨q7, rfl⟩ := hq7; exact below_drewN HB6.out q7
        clear I6 hq7 HB6
        go_wp2
        refine HK.out _ _ ?_
        clear HK K
        go_wp2
        go_ret
        exact ⟨rfl, HB7.out⟩
      · have hz : ¬ (0 : Int) < (n3 : Int) := by omega
        have dz : decide ((0 : Int) < (n3 : Int)) = false := decide_eq_false hz
        go_wp2
        refine HK.out _ _ ?_
        clear HK
        refine wp_seq_k fun K hK => ?_
        have HK : Hid _ := hK
        clear hK
        go_wp2_with fail
        refine (hurt_no (HR.out.old HBx.out) hd).mono ?_
        rintro e w5 ⟨rfl, hB5⟩
        have HB5 : Hid (Below w.heap.size w w5) := HBx.out.trans (hB5.mono HBx.out.size)
        have E5 := err_v 1 w5 (HG.out.old HB5.out)

        clear hB5
        go_wp2
        refine HK.out _ _ ?_
        clear HK K
        refine wp_seq_k fun K hK => ?_
        have HK : Hid _ := hK
        clear hK
        go_wp2_with fail
        refine E5.mono ?_
        rintro e w6 ⟨rfl, hB6⟩
        have I6 := ints_qt (.slice none 0 0) (.slice none 0 0) 0 (fun _ => 0) w6 (rdf_none _ _) (rdf_none _ _)
        have HB6 : Hid (Below w.heap.size w w6) := HB5.out.trans (hB6.mono HB5.out.size)
        clear E5 hB6 HB5
        go_wp2_with fail
        refine I6.mono ?_
        rintro e w7 ⟨rfl, hq7⟩
        have HB7 : Hid (Below w.heap.size w w7) := by obtain ⟨q7, rfl⟩ := hq7; exact below_drewN HB6.out q7
        clear I6 hq7 HB6
        go_wp2
        refine HK.out _ _ ?_
        clear HK K
        go_wp2
        go_ret
        exact ⟨rfl, HB7.out⟩
  | false =>
    have hd' := noDk_false.1 hd
    have d1 : decide (d < 0) = false := decide_eq_false (by omega)
    have d2 : decide (10 ≤ d) = false := decide_eq_false (by omega)
    have C := stripes_any 10 (.slice a3 n3 c3) n3 L F wc (HR.out.old HB.out)
    by_cases hc : stE 10 n3 L F = 0
    · rw [hc] at C
      have C : Calls Tryd.prog 18 #[.int .i64 10, .slice a3 n3 c3] wc fun e w' => e = .returned (.int .i64 0) ∧ Below wc.heap.size wc w' := C
      obtain ⟨q, rfl⟩ : ∃ q : Nat, d = (q : Int) := ⟨d.toNat, by omega⟩
      have hq : q < 10 := by omega
      have ho := stE_zero.1 hc
      have hm := ho.m1
      have HO : Hid (StOk 10 n3 L F) := ho
      clear hd hd' d1 hc ho
      have d2 : decide ((10 : Int) ≤ (q : Int)) = false := decide_eq_false (by omega)
      refine wp_seq_k fun K hK => ?_
      have HK : Hid _ := hK
      clear hK
      go_wp2
      refine HK.out _ _ ?_
      clear HK K
      refine wp_seq_k fun K hK => ?_
      have HK : Hid _ := hK
      clear hK
      go_wp2
      refine HK.out _ _ ?_
      clear HK K
      refine wp_seq_k fun K hK => ?_
      have HK : Hid _ := hK
      clear hK
      go_wp2_with fail
      refine C.mono ?_
      rintro e w4 ⟨rfl, hB4⟩
      have HBx : Hid (Below w.heap.size w w4) := HB.out.trans (hB4.mono HB.out.size)
      clear C hB4 HB
      go_wp2
      refine HK.out _ _ ?_
      clear HK K
      refine wp_seq_k fun K hK => ?_
      have HK : Hid _ := hK
      clear hK
      obtain ⟨j0, hj, hy0, hy1, hy2⟩ := info_parts infoI
      go_wp2
      go_loopw [17, 27] (fun o t wr => ∃ k : Nat, k ≤ n3 ∧ t = .int .i64 k ∧ OwN w.heap.size wr o (hrt (hsI L F) k q) ∧ Below w.heap.size w wr) (fun _ t _ => n3 - (intOf t).toNat)
      case atStart => exact ⟨0, Nat.zero_le _, rfl, World.ownsRow_nil _ _ _ _, HBx.out⟩
      case round =>
        clear HBx
        obtain ⟨k, hk, rfl, hO, hB⟩ := hrel
        obtain ⟨a1, c1, rfl⟩ := OwN.len hO
        by_cases hlt : k < n3
        · have hkz : (k : Int) < (n3 : Int) := by omega
          have dkz : decide ((k : Int) < (n3 : Int)) = true := decide_eq_true hkz
          obtain ⟨ad, _, _, ar, cr, e0, hc, hrk, _⟩ := row_at HR.out hB hlt
          cases e0
          have T := inI_any _ _ _ (q : Int) wr hrk
          obtain ⟨b, hb⟩ : ∃ b, b = hsI L F k q := ⟨_, rfl⟩
          rw [show isIn (L k) (F k) (q : Int) = b from hb.symm] at T
          have hle : (hrt (hsI L F) k q).length ≤ k := by rw [hrt_len]; exact lds_le _ _ _
          have HKb : Hid (b = hsI L F k q) := hb
          clear hrk hb
          have hsz := hB.size
          cases b with
          | true =>
            have HQ : Hid (hrt (hsI L F) (k + 1) q = hrt (hsI L F) k q ++ [k]) := by (show _ = _); rw [hrt_succ, ← HKb.out, if_pos rfl]
            obtain ⟨l, hl⟩ : ∃ l, l = hrt (hsI L F) k q := ⟨_, rfl⟩
            rw [← hl] at hO HQ hle ⊢
            clear hl HKb
            have hO : wr.ownsRow w.heap.size 3 1 (.slice a1 l.length c1) l.length (vn l) := hO
            have HQ2 : Hid (∀ (v' : Value) (w' : World), w'.ownsRow w.heap.size 3 1 v' (l.length + 1) (vn l ++ [.int .i64 (k : Int)]) → OwN w.heap.size w' v' (hrt (hsI L F) (k + 1) q)) := by
              intro v' w' h
              unfold OwN
              rw [HQ.out, List.length_append]
              have : vn (l ++ [k]) = vn l ++ [.int .i64 (k : Int)] := by simp [vn]
              rw [this]
              exact h
            have hvl := vn_len l
            clear HQ
            generalize vn l = xs at *
            generalize l.length = n0 at *
            generalize L k = lk at *
            go_wp2_with fail
            refine T.mono ?_
            rintro e w2 ⟨rfl, hw⟩
            obtain rfl := hw.symm
            clear T hw
            go_wp2_with (first | (at_builtin; refine wpList_append_own _ rfl _ _ 32 rfl w.heap.size 3 j0 (.int .i64 0) 1 8 Tryd.underlying32 hj hy0 hy1 hy2 rfl (by decide) _ _ _ rfl (World.ownsRow.alloc hO _) ⟨wr.heap.size, 0, none⟩ 1 1 [.int .i64 (k : Int)] rfl rfl (one_cell _) (by intro u hu; simp at hu; subst hu; rfl) (by unfold maxLen; omega) (by omega) (by simp; omega) ?_))
            intro v' w3 hown hgrow _
            have HO3 : Hid (OwN w.heap.size w3 v' (hrt (hsI L F) (k + 1) q)) := HQ2.out v' w3 hown
            have HB3 : Hid (Below w.heap.size w w3) := (hB.alloc hsz _).grown hgrow (by simp; omega) (fun g hg => (World.ownsRow.lt hO g hg).1)
            clear hown hgrow hO hB HQ2 hc
            go_wp2
            go_roundw
            case rel => exact ⟨k + 1, by omega, by go_num, HO3.out, HB3.out⟩
            case measure => simp [intOf]; omega
          | false =>
            have HQ : Hid (hrt (hsI L F) (k + 1) q = hrt (hsI L F) k q) := by (show _ = _); rw [hrt_succ, ← HKb.out, if_neg Bool.false_ne_true, List.append_nil]
            have HOk : Hid (OwN w.heap.size wr (.slice a1 (hrt (hsI L F) k q).length c1) (hrt (hsI L F) (k + 1) q)) := by rw [HQ.out]; exact hO
            clear hO HKb HQ
            generalize (hrt (hsI L F) k q).length = n0 at *
            generalize L k = lk at *
            go_wp2_with fail
            refine T.mono ?_
            rintro e w2 ⟨rfl, hw⟩
            obtain rfl := hw.symm
            clear T hw hc
            go_wp2
            go_roundw
            case rel => exact ⟨k + 1, by omega, by go_num, HOk.out, hB⟩
            case measure => simp [intOf]; omega
        · have hkz : ¬ (k : Int) < (n3 : Int) := by omega
          have dkz : decide ((k : Int) < (n3 : Int)) = false := decide_eq_false hkz
          have e3 : k = n3 := by omega
          have HOk : Hid (OwN w.heap.size wr (.slice a1 (hrt (hsI L F) k q).length c1) (hrt (hsI L F) n3 q)) := by rw [← e3]; exact hO
          have HBx : Hid (Below w.heap.size w wr) := hB
          have hln : (hrt (hsI L F) k q).length = (hrt (hsI L F) n3 q).length := by rw [e3]
          clear hO hB e3
          rw [hln] at HOk ⊢
          clear hln
          have HLN : Hid ((hrt (hsI L F) n3 q).length = (hrt (hsI L F) n3 q).length) := rfl
          have C := hurt_ok (d := q) (HR.out.old HBx.out) HO.out hq
          go_wp2
          refine HK.out _ _ ?_
          clear HK
          refine wp_seq_k fun K hK => ?_
          have HK : Hid _ := hK
          clear hK
          go_wp2_with fail
          refine (C).mono ?_
          rintro e w5 ⟨r5, rfl, hO5, hB5⟩
          have HB5 : Hid (Below w.heap.size w w5) := HBx.out.trans (hB5.mono HBx.out.size)
          have E5 := err_v 0 w5 (HG.out.old HB5.out)
          have E5 : Calls Tryd.prog 6 #[.nilIface, .int .i64 0] w5 fun e w' => e = .returned (.bool true) ∧ Below w5.heap.size w5 w' := E5
          have HO5 := ownsRow_old HOk.out hB5
          have HO5 : Hid (OwN w.heap.size w5 (.slice a1 (hrt (hsI L F) n3 q).length c1) (hrt (hsI L F) n3 q)) := HO5
          clear C HOk
          clear hB5
          go_wp2
          refine HK.out _ _ ?_
          clear HK K
          refine wp_seq_k fun K hK => ?_
          have HK : Hid _ := hK
          clear hK
          go_wp2_with fail
          refine E5.mono ?_
          rintro e w6 ⟨rfl, hB6⟩
          have I6 := ints_qt _ _ _ _ w6 (OwN.rd (ownsRow_old hO5 hB6)) (OwN.rd (ownsRow_old HO5.out hB6))
          have HB6 : Hid (Below w.heap.size w w6) := HB5.out.trans (hB6.mono HB5.out.size)
          clear E5 hB6 HB5
          go_wp2_with fail
          refine I6.mono ?_
          rintro e w7 ⟨rfl, hq7⟩
          have HB7 : Hid (Below w.heap.size w w7) := by obtain ⟨q7, rfl⟩ := hq7; exact below_drewN HB6.out q7
          clear I6 hq7 HB6
          go_wp2
          refine HK.out _ _ ?_
          clear HK K
          go_wp2
          go_ret
          exact ⟨rfl, HB7.out⟩
    · obtain ⟨c, hcc⟩ : ∃ c, c = stE 10 n3 L F := ⟨_, rfl⟩
      have HC : Hid (c = stE 10 n3 L F) := hcc
      rw [← hcc] at C hc
      have hz1 : ((c : Int) == 0) = false := by rw [beq_eq_false_iff_ne]; omega
      have hz2 : ¬ (c : Int) = 0 := by omega
      clear hcc hd'
      refine wp_seq_k fun K hK => ?_
      have HK : Hid _ := hK
      clear hK
      go_wp2
      refine HK.out _ _ ?_
      clear HK K
      refine wp_seq_k fun K hK => ?_
      have HK : Hid _ := hK
      clear hK
      go_wp2
      refine HK.out _ _ ?_
      clear HK K
      refine wp_seq_k fun K hK => ?_
      have HK : Hid _ := hK
      clear hK
      go_wp2_with fail
      refine C.mono ?_
      rintro e w4 ⟨rfl, hB4⟩
      have HBx : Hid (Below w.heap.size w w4) := HB.out.trans (hB4.mono HB.out.size)
      clear C hB4 HB
      go_wp2
      refine HK.out _ _ ?_
      clear HK K
      refine wp_seq_k fun K hK => ?_
      have HK : Hid _ := hK
      clear hK
      go_wp2
      refine wp_loop_rounds 1 ?_
      rw [rounds_succ]
      by_cases h0 : 0 < n3
      · have hz : (0 : Int) < (n3 : Int) := by omega
        have dz : decide ((0 : Int) < (n3 : Int)) = true := decide_eq_true hz
        go_wp2
        refine HK.out _ _ ?_
        clear HK
        refine wp_seq_k fun K hK => ?_
        have HK : Hid _ := hK
        clear hK
        go_wp2_with fail
        refine (hurt_bad (HR.out.old HBx.out) hd (by rw [← HC.out]; exact hc)).mono ?_
        rw [← HC.out]
        rintro e w5 ⟨rfl, hB5⟩
        have HB5 : Hid (Below w.heap.size w w5) := HBx.out.trans (hB5.mono HBx.out.size)
        have E5 := err_v c w5 (HG.out.old HB5.out)

        clear hB5
        go_wp2
        refine HK.out _ _ ?_
        clear HK K
        refine wp_seq_k fun K hK => ?_
        have HK : Hid _ := hK
        clear hK
        go_wp2_with fail
        refine E5.mono ?_
        rintro e w6 ⟨rfl, hB6⟩
        have I6 := ints_qt (.slice none 0 0) (.slice none 0 0) 0 (fun _ => 0) w6 (rdf_none _ _) (rdf_none _ _)
        have HB6 : Hid (Below w.heap.size w w6) := HB5.out.trans (hB6.mono HB5.out.size)
        clear E5 hB6 HB5
        go_wp2_with fail
        refine I6.mono ?_
        rintro e w7 ⟨rfl, hq7⟩
        have HB7 : Hid (Below w.heap.size w w7) := by obtain ⟨q7, rfl⟩ := hq7; exact below_drewN HB6.out q7
        clear I6 hq7 HB6
        go_wp2
        refine HK.out _ _ ?_
        clear HK K
        go_wp2
        go_ret
        exact ⟨rfl, HB7.out⟩
      · have hz : ¬ (0 : Int) < (n3 : Int) := by omega
        have dz : decide ((0 : Int) < (n3 : Int)) = false := decide_eq_false hz
        go_wp2
        refine HK.out _ _ ?_
        clear HK
        refine wp_seq_k fun K hK => ?_
        have HK : Hid _ := hK
        clear hK
        go_wp2_with fail
        refine (hurt_bad (HR.out.old HBx.out) hd (by rw [← HC.out]; exact hc)).mono ?_
        rw [← HC.out]
        rintro e w5 ⟨rfl, hB5⟩
        have HB5 : Hid (Below w.heap.size w w5) := HBx.out.trans (hB5.mono HBx.out.size)
        have E5 := err_v c w5 (HG.out.old HB5.out)

        clear hB5
        go_wp2
        refine HK.out _ _ ?_
        clear HK K
        refine wp_seq_k fun K hK => ?_
        have HK : Hid _ := hK
        clear hK
        go_wp2_with fail
        refine E5.mono ?_
        rintro e w6 ⟨rfl, hB6⟩
        have I6 := ints_qt (.slice none 0 0) (.slice none 0 0) 0 (fun _ => 0) w6 (rdf_none _ _) (rdf_none _ _)
        have HB6 : Hid (Below w.heap.size w w6) := HB5.out.trans (hB6.mono HB5.out.size)
        clear E5 hB6 HB5
        go_wp2_with fail
        refine I6.mono ?_
        rintro e w7 ⟨rfl, hq7⟩
        have HB7 : Hid (Below w.heap.size w w7) := by obtain ⟨q7, rfl⟩ := hq7; exact below_drewN HB6.out q7
        clear I6 hq7 HB6
        go_wp2
        refine HK.out _ _ ?_
        clear HK K
        go_wp2
        go_ret
        exact ⟨rfl, HB7.out⟩
end Go.Proofs.YtjfhjnccjodjbaaDoor
