/- PlaceTells, a part of it: walks over the program. -/
import Derived.Test.YtjfhjnccjodjbaaDoorPkC
import Derived.Test.YtjfhjnccjodjbaaDoorPlD
namespace Go.Proofs.YtjfhjnccjodjbaaDoor
open Go.RowKit
set_option linter.unusedVariables false in
set_option maxRecDepth 1000000 in
set_option maxHeartbeats 8000000 in
theorem tellB (n wd m0 d : Int) (n3 c3 : Nat) (a3 : Option Addr) (L : Nat → Nat) (F : Nat → Nat → Int) (w : World) (u5 u6 u7 u8 u9 u10 u11 u12 u13 u14 u16 u17 u18 u19 u20 u21 u22 u23 u24 u25 u26 u27 u28 u29 u30 u31 u32 u33 u34 u35 u36 u37 u38 u39 u40 u41 u42 u43 u44 u45 u46 u47 u48 u49 u50 u51 u52 u53 u54 u55 u56 u57 u58 u59 u60 u61 u62 u63 u64 u65 u66 u67 u68 u69 u70 u71 u72 u73 u74 u75 u76 u77 u78 u79 u80 u81 u82 u83 u84 u85 u86 u87 u88 u89 u90 u91 u92 u93 u94 u95 u96 u97 u98 u99 u100 u101 u102 u103 u104 u105 u106 u107 u108 u109 u110 u111 u112 u113 u114 u115 u116 u117 u118 u119 u120 u121 u122 u123 u124 u125 u126 u127 u128 u129 u130 u131 u132 u133 u134 u135 u136 u137 u138 u139 u140 u141 u142 u143 u144 u145 u146 u147 u148 u149 u150 u151 u152 u153 u154 u155 u156 u157 u158 u159 u160 u161 u162 u163 u164 u165 u166 u167 u168 u169 u170 u171 u172 u173 u174 u175 u176 u177 u178 u179 u180 u181 u182 u183 u184 u185 u186 u187 u188 u189 u190 u191 u192 u193 u194 u195 u196 u197 u198 u199 u200 u201 u202 u203 u204 u205 u206 u207 u208 u209 u210 u211 u212 u213 u214 u215 u216 u217 u218 u219 u220 u221 u222 u223 u224 u225 u226 u227 u228 u229 u230 u231 u232 u233 u234 u235 u236 u237 u238 u239 u240 u241 u242 u243 u244 u245 u246 u247 u248 u249 u250 u251 u252 u253 u254 u255 u256 u257 u258 u259 : Value) (wc : World) (HG : Hid (Handle w)) (HR : Hid (RdII w (.slice a3 n3 c3) n3 L F)) (hn3 : n3 ≤ 5864062014634) (HB : Hid (Below w.heap.size w wc))  :
    Code.wp Tryd.prog (cut [1, 1, 1, 1, 1, 1, 1] (Tryd.f4.body.getD .skip)) (bodyPost Tryd.prog Tryd.f4 fun e w' => e = .returned (.bool true) ∧ Below w.heap.size w w') ⟨#[.int .i64 n, .int .i64 wd, .int .i64 m0, .slice a3 n3 c3, .int .i64 d, u5, u6, u7, u8, u9, u10, u11, u12, u13, u14, .bool true, u16, u17, u18, u19, u20, u21, u22, u23, u24, u25, u26, u27, u28, u29, u30, u31, u32, u33, u34, u35, u36, u37, u38, u39, u40, u41, u42, u43, u44, u45, u46, u47, u48, u49, u50, u51, u52, u53, u54, u55, u56, u57, u58, u59, u60, u61, u62, u63, u64, u65, u66, u67, u68, u69, u70, u71, u72, u73, u74, u75, u76, u77, u78, u79, u80, u81, u82, u83, u84, u85, u86, u87, u88, u89, u90, u91, u92, u93, u94, u95, u96, u97, u98, u99, u100, u101, u102, u103, u104, u105, u106, u107, u108, u109, u110, u111, u112, u113, u114, u115, u116, u117, u118, u119, u120, u121, u122, u123, u124, u125, u126, u127, u128, u129, u130, u131, u132, u133, u134, u135, u136, u137, u138, u139, u140, u141, u142, u143, u144, u145, u146, u147, u148, u149, u150, u151, u152, u153, u154, u155, u156, u157, u158, u159, u160, u161, u162, u163, u164, u165, u166, u167, u168, u169, u170, u171, u172, u173, u174, u175, u176, u177, u178, u179, u180, u181, u182, u183, u184, u185, u186, u187, u188, u189, u190, u191, u192, u193, u194, u195, u196, u197, u198, u199, u200, u201, u202, u203, u204, u205, u206, u207, u208, u209, u210, u211, u212, u213, u214, u215, u216, u217, u218, u219, u220, u221, u222, u223, u224, u225, u226, u227, u228, u229, u230, u231, u232, u233, u234, u235, u236, u237, u238, u239, u240, u241, u242, u243, u244, u245, u246, u247, u248, u249, u250, u251, u252, u253, u254, u255, u256, u257, u258, u259], []⟩ wc := by
  conv => arg 2; whnf
  have C := stripes_any n (.slice a3 n3 c3) n3 L F wc (HR.out.old HB.out)
  by_cases hc : stE n n3 L F = 0
  · have HC0 : Hid ((0 : Int) = ((stE n n3 L F : Nat) : Int)) := by (show _ = _); rw [hc]; rfl
    rw [hc] at C
    have C : Calls Tryd.prog 18 #[.int .i64 n, .slice a3 n3 c3] wc fun e w' => e = .returned (.int .i64 0) ∧ Below wc.heap.size wc w' := C
    have ho := stE_zero.1 hc
    have hn1 := ho.n1
    have hn2 := ho.n2
    have hm := ho.m1
    obtain ⟨nn, rfl⟩ : ∃ nn : Nat, n = (nn : Int) := ⟨n.toNat, by omega⟩
    have HO : Hid (StOk (nn : Int) n3 L F) := ho
    clear hc ho
    refine wp_seq_k fun K hK => ?_
    have HK : Hid _ := hK
    clear hK
    go_wp2_with fail
    refine C.mono ?_
    rintro e w4 ⟨rfl, hB4⟩
    have HBx : Hid (Below w.heap.size w w4) := HB.out.trans (hB4.mono HB.out.size)
    clear C hB4 HB
    go_wp2
    refine HK.out _ _ ?_
    clear HK K
    refine wp_seq_k fun K hK => ?_
    have HK : Hid _ := hK
    clear hK
    go_wp2
    refine HK.out _ _ ?_
    clear HK K
    refine wp_seq_k fun K hK => ?_
    have HK : Hid _ := hK
    clear hK
    obtain ⟨j0, hj, hy0, hy1, hy2⟩ := info_parts infoI
    have hs0 := HBx.out.size
    go_wp2_with (first | (at_make; refine wpList_make_full _ rfl _ _ 32 rfl w.heap.size 3 j0 (.int .i64 0) 1 Tryd.underlying32 hj hy0 hy1 _ _ _ _ nn rfl rfl rfl rfl (by rw [hy2]; omega) (by unfold maxLen; omega) hs0 ?_))
    intro w1 hown hgrow
    obtain ⟨g, hg⟩ : ∃ g, g = w4.heap.size := ⟨_, rfl⟩
    rw [← hg] at hown ⊢
    have HO1 : Hid (OwC w.heap.size w1 g nn nn (lds (hsI L F) 0)) := OwI.made hown
    have HB1 : Hid (Below w.heap.size w w1) := HBx.out.trans ((below_of_grown hgrow).mono hs0)
    have hgw : w.heap.size ≤ g := by omega
    clear hown hgrow hg hs0 HBx hj hy0 hy1 hy2
    go_wp2
    refine HK.out _ _ ?_
    clear HK K
    refine wp_seq_k fun K hK => ?_
    have HK : Hid _ := hK
    clear hK
    go_wp2
    go_loopw [19] (fun t wr => ∃ k : Nat, k ≤ n3 ∧ t = .int .i64 k ∧ OwC w.heap.size wr g nn nn (lds (hsI L F) k) ∧ Below w.heap.size w wr) (fun t _ => n3 - (intOf t).toNat)
    case atStart => exact ⟨0, Nat.zero_le _, rfl, HO1.out, HB1.out⟩
    case round =>
      clear HO1 HB1
      obtain ⟨k, hk, rfl, hO, hB⟩ := hrel
      by_cases hlt : k < n3
      · have hkz : (k : Int) < (n3 : Int) := by omega
        have dkz : decide ((k : Int) < (n3 : Int)) = true := decide_eq_true hkz
        have HROW : Hid (RowOk (nn : Int) (L k) (F k)) := HO.out.row k hlt
        have HOk : Hid (OwC w.heap.size wr g nn nn (lds (hsI L F) k)) := hO
        have HBk : Hid (Below w.heap.size w wr) := hB
        have hpl : ∀ i, lds (hsI L F) k i ≤ 40 := fun i => by have := lds_le (hsI L F) k i; omega
        have HPL : Hid (∀ i, lds (hsI L F) k i ≤ 40) := hpl
        have hsl : L k ≤ 9223372036854775807 := by
          obtain ⟨ad', _, _, ar', cr', e', _, hrk', _⟩ := row_at HR.out hB hlt
          obtain ⟨_, _, _, z1, z2⟩ := hrk'.len
          omega
        clear hO hB hpl
        go_wp2
        obtain ⟨w0, hw0⟩ : ∃ w0, w0 = wr := ⟨_, rfl⟩
        rw [← hw0] at HOk HBk ⊢
        clear hw0
        go_loopw [20] (fun t wr => ∃ j : Nat, j ≤ L k ∧ t = .int .i64 j ∧ OwC w.heap.size wr g nn nn (ctd (lds (hsI L F) k) j (F k)) ∧ Below w.heap.size w wr) (fun t _ => L k - (intOf t).toNat)
        case atStart => exact ⟨0, Nat.zero_le _, rfl, OwI.congr HOk.out (fun i _ => by rw [ctd_zero]), HBk.out⟩
        case round =>
          clear HOk HBk
          obtain ⟨j, hj, rfl, hO, hB⟩ := hrel
          obtain ⟨ad', _, _, ar, cr, e', hc, hrk, hap⟩ := row_at HR.out hB hlt
          cases e'
          by_cases hjl : j < L k
          · have hjz : (j : Int) < (L k : Int) := by omega
            obtain ⟨ar', rfl, hcj⟩ := hrk.at j hjl
            unfold vi at hcj
            obtain ⟨x, hx⟩ : ∃ x : Nat, F k j = (x : Int) := ⟨(F k j).toNat, by have := HROW.out.lo j hjl; omega⟩
            have hxn : x < nn := by have := HROW.out.hi j hjl; omega
            have hxz : (x : Int) < (nn : Int) := by omega
            rw [hx] at hcj
            have hsz := hB.size
            have hcx := OwI.cell hO x hxn
            have hfx := OwI.free hO x
            unfold vi at hcx
            obtain ⟨y, hy⟩ : ∃ y, y = ctd (lds (hsI L F) k) j (F k) x := ⟨_, rfl⟩
            have hyl : y ≤ 41 := by rw [hy]; have := ctd_le (lds (hsI L F) k) j (F k) x; have := HPL.out x; omega
            have S := OwC.up hO (d := x) (y + 1) (f' := ctd (lds (hsI L F) k) (j + 1) (F k)) (fun i => by rw [hy]; exact (ctd_succ HROW.out hjl hx i).symm)
            rw [← hy] at hcx
            have HO2 : Hid (OwC w.heap.size (wr.setCell ⟨g, x, none⟩ (.int .i64 ((y : Int) + 1))) g nn nn (ctd (lds (hsI L F) k) (j + 1) (F k))) := S.1
            have HB3 : Hid (Below w.heap.size w (wr.setCell ⟨g, x, none⟩ (.int .i64 ((y : Int) + 1)))) := hB.trans (below_of_grownAt S.2 hsz hgw)
            clear hO hB hx hrk hap S hy
            generalize L k = lk at *
            go_wp2
            generalize wr.setCell ⟨g, x, none⟩ (.int .i64 ((y : Int) + 1)) = w6 at *
            go_roundw
            case rel => exact ⟨j + 1, by omega, by go_num, HO2.out, HB3.out⟩
            case measure => simp [intOf]; omega
          · have hjz : ¬ (j : Int) < (L k : Int) := by omega
            have ejl : j = L k := by omega
            have HO2 : Hid (OwC w.heap.size wr g nn nn (lds (hsI L F) (k + 1))) := by rw [ejl] at hO; exact hO
            have HB2 : Hid (Below w.heap.size w wr) := hB
            clear hO hB hrk hap ejl
            generalize L k = lk at *
            go_wp2
            go_roundw
            case rel => exact ⟨k + 1, by omega, by go_num, HO2.out, HB2.out⟩
            case measure => simp [intOf]; omega
      · have hkz : ¬ (k : Int) < (n3 : Int) := by omega
        have dkz : decide ((k : Int) < (n3 : Int)) = false := decide_eq_false hkz
        have e3 : k = n3 := by omega
        have HOk : Hid (OwC w.heap.size wr g nn nn (lds (hsI L F) n3)) := by rw [← e3]; exact hO
        have HBx : Hid (Below w.heap.size w wr) := hB
        clear hO hB e3
        have C := loads_ok (HR.out.old HBx.out) HO.out
        go_wp2
        refine HK.out _ _ ?_
        clear HK
        refine wp_seq_k fun K hK => ?_
        have HK : Hid _ := hK
        clear hK
        go_wp2_with fail
        refine (C).mono ?_
        rintro e w5 ⟨gp, cp, rfl, hO5, hB5⟩
        have HB5 : Hid (Below w.heap.size w w5) := HBx.out.trans (hB5.mono HBx.out.size)
        have E5 := err_v 0 w5 (HG.out.old HB5.out)
        have E5 : Calls Tryd.prog 6 #[.nilIface, .int .i64 0] w5 fun e w' => e = .returned (.bool true) ∧ Below w5.heap.size w5 w' := E5
        have HO5 : Hid (OwC w.heap.size w5 g nn nn (lds (hsI L F) n3)) := ownsRow_old HOk.out hB5
        have HP5 : Hid (OwC wr.heap.size w5 gp nn cp (lds (hsI L F) n3)) := hO5
        clear C HOk hO5
        clear hB5
        go_wp2
        refine HK.out _ _ ?_
        clear HK K
        refine wp_seq_k fun K hK => ?_
        have HK : Hid _ := hK
        clear hK
        go_wp2_with fail
        refine E5.mono ?_
        rintro e w6 ⟨rfl, hB6⟩
        have I6 := ints_qt _ _ _ _ w6 (OwI.rd (ownsRow_old HP5.out hB6)) (OwI.rd (ownsRow_old HO5.out hB6))
        have HB6 : Hid (Below w.heap.size w w6) := HB5.out.trans (hB6.mono HB5.out.size)
        clear E5 hB6 HB5
        go_wp2_with fail
        refine I6.mono ?_
        rintro e w7 ⟨rfl, hq7⟩
        have HB7 : Hid (Below w.heap.size w w7) := by obtain ⟨q7, rfl⟩ := hq7; exact below_drewN HB6.out q7
        clear I6 hq7 HB6
        go_wp2
        refine HK.out _ _ ?_
        clear HK K
        exact tellC _ wd m0 d n3 c3 a3 L F w 0 _ _ _ _ _ _ _ _ _ _ _ _ _ _ _ _ _ _ _ _ _ _ _ _ _ _ _ _ _ _ _ _ _ _ _ _ _ _ _ _ _ _ _ _ _ _ _ _ _ _ _ _ _ _ _ _ _ _ _ _ _ _ _ _ _ _ _ _ _ _ _ _ _ _ _ _ _ _ _ _ _ _ _ _ _ _ _ _ _ _ _ _ _ _ _ _ _ _ _ _ _ _ _ _ _ _ _ _ _ _ _ _ _ _ _ _ _ _ _ _ _ _ _ _ _ _ _ _ _ _ _ _ _ _ _ _ _ _ _ _ _ _ _ _ _ _ _ _ _ _ _ _ _ _ _ _ _ _ _ _ _ _ _ _ _ _ _ _ _ _ _ _ _ _ _ _ _ _ _ _ _ _ _ _ _ _ _ _ _ _ _ _ _ _ _ _ _ _ _ _ _ _ _ _ _ _ _ _ _ _ _ _ _ _ _ _ _ _ _ _ _ _ _ _ _ _ _ _ _ _ _ _ _ _ _ _ _ _ _ _ _ _ _ _ _ _ _ _ _ _ _ HG HR hn3 HB7 HC0
  · obtain ⟨c, hcc⟩ : ∃ c, c = stE n n3 L F := ⟨_, rfl⟩
    have HCC : Hid (c = stE n n3 L F) := hcc
    have HC1 : Hid ((c : Int) = ((stE n n3 L F : Nat) : Int)) := by (show _ = _); rw [hcc]
    rw [← hcc] at hc C
    have hz1 : ((c : Int) == 0) = false := by rw [beq_eq_false_iff_ne]; omega
    have hz2 : ¬ (c : Int) = 0 := by omega
    clear hcc
    refine wp_seq_k fun K hK => ?_
    have HK : Hid _ := hK
    clear hK
    go_wp2_with fail
    refine C.mono ?_
    rintro e w4 ⟨rfl, hB4⟩
    have HBx : Hid (Below w.heap.size w w4) := HB.out.trans (hB4.mono HB.out.size)
    clear C hB4 HB
    go_wp2
    refine HK.out _ _ ?_
    clear HK K
    refine wp_seq_k fun K hK => ?_
    have HK : Hid _ := hK
    clear hK
    go_wp2
    refine HK.out _ _ ?_
    clear HK K
    refine wp_seq_k fun K hK => ?_
    have HK : Hid _ := hK
    clear hK
    go_wp2
    refine HK.out _ _ ?_
    clear HK K
    refine wp_seq_k fun K hK => ?_
    have HK : Hid _ := hK
    clear hK
    go_wp2
    refine wp_loop_rounds 1 ?_
    rw [rounds_succ]
    by_cases h0 : 0 < n3
    · have hz : (0 : Int) < (n3 : Int) := by omega
      have dz : decide ((0 : Int) < (n3 : Int)) = true := decide_eq_true hz
      go_wp2
      refine HK.out _ _ ?_
      clear HK
      refine wp_seq_k fun K hK => ?_
      have HK : Hid _ := hK
      clear hK
      go_wp2_with fail
      refine (loads_bad n (HR.out.old HBx.out) (by rw [← HCC.out]; exact hc)).mono ?_
      rw [← HCC.out]
      rintro e w5 ⟨rfl, hB5⟩
      have HB5 : Hid (Below w.heap.size w w5) := HBx.out.trans (hB5.mono HBx.out.size)
      have E5 := err_v c w5 (HG.out.old HB5.out)

      clear hB5
      go_wp2
      refine HK.out _ _ ?_
      clear HK K
      refine wp_seq_k fun K hK => ?_
      have HK : Hid _ := hK
      clear hK
      go_wp2_with fail
      refine E5.mono ?_
      rintro e w6 ⟨rfl, hB6⟩
      have I6 := ints_qt (.slice none 0 0) (.slice none 0 0) 0 (fun _ => 0) w6 (rdf_none _ _) (rdf_none _ _)
      have HB6 : Hid (Below w.heap.size w w6) := HB5.out.trans (hB6.mono HB5.out.size)
      clear E5 hB6 HB5
      go_wp2_with fail
      refine I6.mono ?_
      rintro e w7 ⟨rfl, hq7⟩
      have HB7 : Hid (Below w.heap.size w w7) := by obtain ⟨q7, rfl⟩ := hq7; exact below_drewN HB6.out q7
      clear I6 hq7 HB6
      go_wp2
      refine HK.out _ _ ?_
      clear HK K
      exact tellC n wd m0 d n3 c3 a3 L F w (c : Int) _ _ _ _ _ _ _ _ _ _ _ _ _ _ _ _ _ _ _ _ _ _ _ _ _ _ _ _ _ _ _ _ _ _ _ _ _ _ _ _ _ _ _ _ _ _ _ _ _ _ _ _ _ _ _ _ _ _ _ _ _ _ _ _ _ _ _ _ _ _ _ _ _ _ _ _ _ _ _ _ _ _ _ _ _ _ _ _ _ _ _ _ _ _ _ _ _ _ _ _ _ _ _ _ _ _ _ _ _ _ _ _ _ _ _ _ _ _ _ _ _ _ _ _ _ _ _ _ _ _ _ _ _ _ _ _ _ _ _ _ _ _ _ _ _ _ _ _ _ _ _ _ _ _ _ _ _ _ _ _ _ _ _ _ _ _ _ _ _ _ _ _ _ _ _ _ _ _ _ _ _ _ _ _ _ _ _ _ _ _ _ _ _ _ _ _ _ _ _ _ _ _ _ _ _ _ _ _ _ _ _ _ _ _ _ _ _ _ _ _ _ _ _ _ _ _ _ _ _ _ _ _ _ _ _ _ _ _ _ _ _ _ _ _ _ _ _ _ _ _ _ HG HR hn3 HB7 HC1
    · have hz : ¬ (0 : Int) < (n3 : Int) := by omega
      have dz : decide ((0 : Int) < (n3 : Int)) = false := decide_eq_false hz
      go_wp2
      refine HK.out _ _ ?_
      clear HK
      refine wp_seq_k fun K hK => ?_
      have HK : Hid _ := hK
      clear hK
      go_wp2_with fail
      refine (loads_bad n (HR.out.old HBx.out) (by rw [← HCC.out]; exact hc)).mono ?_
      rw [← HCC.out]
      rintro e w5 ⟨rfl, hB5⟩
      have HB5 : Hid (Below w.heap.size w w5) := HBx.out.trans (hB5.mono HBx.out.size)
      have E5 := err_v c w5 (HG.out.old HB5.out)

      clear hB5
      go_wp2
      refine HK.out _ _ ?_
      clear HK K
      refine wp_seq_k fun K hK => ?_
      have HK : Hid _ := hK
      clear hK
      go_wp2_with fail
      refine E5.mono ?_
      rintro e w6 ⟨rfl, hB6⟩
      have I6 := ints_qt (.slice none 0 0) (.slice none 0 0) 0 (fun _ => 0) w6 (rdf_none _ _) (rdf_none _ _)
      have HB6 : Hid (Below w.heap.size w w6) := HB5.out.trans (hB6.mono HB5.out.size)
      clear E5 hB6 HB5
      go_wp2_with fail
      refine I6.mono ?_
      rintro e w7 ⟨rfl, hq7⟩
      have HB7 : Hid (Below w.heap.size w w7) := by obtain ⟨q7, rfl⟩ := hq7; exact below_drewN HB6.out q7
      clear I6 hq7 HB6
      go_wp2
      refine HK.out _ _ ?_
      clear HK K
      exact tellC n wd m0 d n3 c3 a3 L F w (c : Int) _ _ _ _ _ _ _ _ _ _ _ _ _ _ _ _ _ _ _ _ _ _ _ _ _ _ _ _ _ _ _ _ _ _ _ _ _ _ _ _ _ _ _ _ _ _ _ _ _ _ _ _ _ _ _ _ _ _ _ _ _ _ _ _ _ _ _ _ _ _ _ _ _ _ _ _ _ _ _ _ _ _ _ _ _ _ _ _ _ _ _ _ _ _ _ _ _ _ _ _ _ _ _ _ _ _ _ _ _ _ _ _ _ _ _ _ _ _ _ _ _ _ _ _ _ _ _ _ _ _ _ _ _ _ _ _ _ _ _ _ _ _ _ _ _ _ _ _ _ _ _ _ _ _ _ _ _ _ _ _ _ _ _ _ _ _ _ _ _ _ _ _ _ _ _ _ _ _ _ _ _ _ _ _ _ _ _ _ _ _ _ _ _ _ _ _ _ _ _ _ _ _ _ _ _ _ _ _ _ _ _ _ _ _ _ _ _ _ _ _ _ _ _ _ _ _ _ _ _ _ _ _ _ _ _ _ _ _ _ _ _ _ _ _ _ _ _ _ _ _ _ HG HR hn3 HB7 HC1
end Go.Proofs.YtjfhjnccjodjbaaDoor
