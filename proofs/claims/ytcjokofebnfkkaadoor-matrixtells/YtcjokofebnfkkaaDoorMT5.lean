/- The fourth and the fifth part of MatrixTells: ranks, identities. -/
import Derived.Test.YtcjokofebnfkkaaDoorMT6
namespace Go.Proofs.YtcjokofebnfkkaaDoor
open Go.ChangeShapes Go.WideShapes Go.ChangeAt Go.RowKit El Pol Mx
theorem identity_uni (i : Int) (f : Nat) (hf : f = if i < 1 ∨ 12 < i then 1 else 0) (w : World) :
    Calls Tryd.prog 16 #[.int .i64 i] w fun e w' => ∃ v', e = .returned (.tuple #[v', errV f]) ∧ RdM w' v' (cnt f i.toNat) (rws one i.toNat) ∧ Below w.heap.size w w' := by
  by_cases h : i < 1 ∨ 12 < i
  · rw [if_pos h] at hf
    subst hf
    exact (identity_bad i h w).mono fun e w' ⟨he, hw⟩ => ⟨.slice none 0 0, he, rd_none _ _, by rw [hw]; exact Below.refl _ _⟩
  · rw [if_neg h] at hf
    subst hf
    obtain ⟨n, rfl⟩ : ∃ n : Nat, i = n := ⟨i.toNat, by omega⟩
    exact (identity_ok n (by omega) (by omega) w).mono fun e w' ⟨v', rv, he, ho, hB⟩ => ⟨v', he, ho.rd, hB⟩
set_option linter.unusedVariables false in
set_option maxRecDepth 1000000 in
set_option maxHeartbeats 8000000 in
theorem mt5 (a0 : Option Addr) (n0 c0 : Nat) (R0 : Nat → List El) (a1 : Option Addr) (n1 c1 : Nat) (R1 : Nat → List El) (i2 : Int) (hi2 : -9223372036854775808 ≤ i2 ∧ i2 ≤ 9223372036854775807)
    (a3 : Option Addr) (n3 c3 : Nat) (xs : List El) (a4 : Option Addr) (n4 c4 : Nat) (ys : List El) (w : World) (HG : Hid (Handle w)) (HA : Hid (RdM w (.slice a0 n0 c0) n0 R0)) (z0 : n0 ≤ 5864062014634) (HB : Hid (RdM w (.slice a1 n1 c1) n1 R1)) (z1 : n1 ≤ 5864062014634)
    (HX : Hid (Rd w (.slice a3 n3 c3) xs)) (HLX : Hid (n3 = xs.length)) (z3 : n3 ≤ 140737488351232) (HY : Hid (Rd w (.slice a4 n4 c4) ys)) (HLY : Hid (n4 = ys.length)) (z4 : n4 ≤ 140737488351232)  (u5 u6 u7 u8 u9 u10 u11 u13 u14 u15 u16 u18 u19 u21 u22 u24 u25 u26 u27 u28 u29 u30 u31 u32 u33 u34 u35 u36 u37 u38 u39 u40 u41 u42 u43 u44 u45 u46 u47 u48 u49 u50 u51 u52 u53 u54 u55 u56 u57 u58 u59 u60 u61 u62 u63 u64 u65 u66 u67 u68 u69 u70 u71 u72 u73 u74 u75 u76 u77 u78 u79 u80 u81 u82 u83 u84 u85 u86 u87 u88 u89 u90 u91 u92 u93 u94 u95 u96 u97 u98 u99 u100 u101 u102 u103 u104 u105 u106 u107 u108 u109 u110 u111 u112 u113 u114 u115 u116 u117 u118 u119 u120 u121 u122 u123 u124 u125 u126 u127 u128 u129 u130 u131 u132 u133 u134 u135 u136 u137 u138 u139 u140 u141 u142 u143 u144 u145 u146 u147 u148 u149 u150 u151 u152 u153 u154 u155 u156 u157 u158 u159 u160 u161 u162 u163 u164 u165 u166 u167 u168 u169 u170 u171 u172 u173 u174 u175 u176 u177 u178 u179 u180 u181 u182 u183 u184 u185 u186 u187 u188 u189 u190 u191 u192 u193 u194 u195 u196 u197 u198 u199 u200 u201 u202 u203 u204 u205 u206 u207 u208 u209 u210 u211 u212 u213 u214 u215 u216 u217 u218 u219 u220 u221 u222 u223 u224 u225 u226 u227 u228 u229 u230 u231 u232 u233 u234 u235 u236 u237 u238 u239 u240 u241 u242 u243 u244 u245 u246 u247 u248 u249 u250 u251 u252 u253 u254 u255 u256 u257 u258 u259 u260 u261 u262 u263 u264 u265 u266 u267 u268 : Value) (wc : World) (hW : Below w.heap.size w wc)  :
    Code.wp Tryd.prog (dropS 19 (Tryd.f3.body.getD .skip)) (bodyPost Tryd.prog Tryd.f3 fun e w' => e = .returned (.bool true) ∧ Below w.heap.size w w') ⟨#[.slice a0 n0 c0, .slice a1 n1 c1, .int .i64 i2, .slice a3 n3 c3, .slice a4 n4 c4, u5, u6, u7, u8, u9, u10, u11, .bool true, u13, u14, u15, u16, .bool true, u18, u19, .bool true, u21, u22, .bool true, u24, u25, u26, u27, u28, u29, u30, u31, u32, u33, u34, u35, u36, u37, u38, u39, u40, u41, u42, u43, u44, u45, u46, u47, u48, u49, u50, u51, u52, u53, u54, u55, u56, u57, u58, u59, u60, u61, u62, u63, u64, u65, u66, u67, u68, u69, u70, u71, u72, u73, u74, u75, u76, u77, u78, u79, u80, u81, u82, u83, u84, u85, u86, u87, u88, u89, u90, u91, u92, u93, u94, u95, u96, u97, u98, u99, u100, u101, u102, u103, u104, u105, u106, u107, u108, u109, u110, u111, u112, u113, u114, u115, u116, u117, u118, u119, u120, u121, u122, u123, u124, u125, u126, u127, u128, u129, u130, u131, u132, u133, u134, u135, u136, u137, u138, u139, u140, u141, u142, u143, u144, u145, u146, u147, u148, u149, u150, u151, u152, u153, u154, u155, u156, u157, u158, u159, u160, u161, u162, u163, u164, u165, u166, u167, u168, u169, u170, u171, u172, u173, u174, u175, u176, u177, u178, u179, u180, u181, u182, u183, u184, u185, u186, u187, u188, u189, u190, u191, u192, u193, u194, u195, u196, u197, u198, u199, u200, u201, u202, u203, u204, u205, u206, u207, u208, u209, u210, u211, u212, u213, u214, u215, u216, u217, u218, u219, u220, u221, u222, u223, u224, u225, u226, u227, u228, u229, u230, u231, u232, u233, u234, u235, u236, u237, u238, u239, u240, u241, u242, u243, u244, u245, u246, u247, u248, u249, u250, u251, u252, u253, u254, u255, u256, u257, u258, u259, u260, u261, u262, u263, u264, u265, u266, u267, u268], []⟩ wc := by
  conv => arg 2; whnf
  obtain ⟨f5, hf5⟩ : ∃ f, f = if i2 < 1 ∨ 12 < i2 then 1 else 0 := ⟨_, rfl⟩
  have HF5 : Hid (f5 = if i2 < 1 ∨ 12 < i2 then 1 else 0) := hf5
  clear hf5
  go_upto_region 31 with fail
  go_cut [153] from 153 to 153 (fun sx wx => sx = .bool (decide (i2 < 1 ∨ 12 < i2)) ∧ Below w.heap.size w wx)
  case first =>
    by_cases h1 : i2 < 1
    · have HT : Hid (decide (i2 < 1 ∨ 12 < i2) = true) := decide_eq_true (.inl h1)
      go_wp2
      go_meet
      case rel => exact ⟨by rw [HT.out], hW⟩
    · by_cases h2 : 12 < i2
      · have HT : Hid (decide (i2 < 1 ∨ 12 < i2) = true) := decide_eq_true (.inr h2)
        go_wp2
        go_meet
        case rel => exact ⟨by rw [HT.out], hW⟩
      · have HT : Hid (decide (i2 < 1 ∨ 12 < i2) = false) := decide_eq_false (by omega)
        go_wp2
        go_meet
        case rel => exact ⟨by rw [HT.out], hW⟩
  case rest =>
    clear hW
    obtain ⟨rfl, hW⟩ := hcut
    go_upto_if 153 with fail
    go_cut [11, 14] from 153 to 153 (fun s11 s14 wx => s11 = .int .i64 (f5 : Nat) ∧ RdM wx s14 (cnt f5 i2.toNat) (rws one i2.toNat) ∧ Below w.heap.size w wx)
    case first =>
      by_cases hc : i2 < 1 ∨ 12 < i2
      · have HF : Hid (f5 = 1) := by (show f5 = 1); rw [HF5.out, if_pos hc]
        rw [decide_eq_true hc]
        clear hc
        go_wp2
        go_meet
        case rel => exact ⟨by rw [HF.out]; rfl, by rw [HF.out]; exact rd_none _ _, hW⟩
      · have HF : Hid (f5 = 0) := by (show f5 = 0); rw [HF5.out, if_neg hc]
        rw [decide_eq_false hc]
        obtain ⟨n, rfl⟩ : ∃ n : Nat, i2 = n := ⟨i2.toNat, by omega⟩
        have C := runit_any n wc (by omega)
        clear hc
        go_wp2_with fail
        refine C.mono ?_
        rintro e w5 ⟨v5, rv5, rfl, hO5, hB⟩
        replace hW := hW.trans (hB.mono hW.size)
        clear hB
        clear C
        go_wp2
        go_meet
        case rel => exact ⟨by rw [HF.out]; rfl, by rw [HF.out]; exact hO5.rd, hW⟩
    case rest =>
      clear hW
      obtain ⟨rfl, hRw, hW⟩ := hcut
      go_wp2_with fail
      refine (identity_uni i2 f5 HF5.out _).mono ?_
      rintro e w6 ⟨v6, rfl, hR6, hB⟩
      replace hRw := hRw.old hB
      replace hW := hW.trans (hB.mono hW.size)
      clear hB
      go_upto_region 35 with fail
      go_cut [24] from 24 to 24 (fun sx wx => sx = .bool true ∧ Below w.heap.size w wx)
      case first =>
        go_wp2_with fail
        refine (err_V f5 _ (HG.out.old hW)).mono ?_
        rintro e w7 ⟨rfl, hB⟩
        replace hRw := hRw.old hB
        replace hR6 := hR6.old hB
        replace hW := hW.trans (hB.mono hW.size)
        clear hB
        go_wp2_with fail
        refine (rows_same _ _ _ _ _ hR6 hRw).mono ?_
        rintro e w8 ⟨rfl, hB⟩
        replace hW := hW.trans (hB.mono hW.size)
        clear hB
        go_wp2
        go_meet
        case rel => exact ⟨rfl, hW⟩
      case rest =>
        clear hW
        obtain ⟨rfl, hW⟩ := hcut
        rename ∀ (a : Act) (w : World), Code.wp _ _ _ a w → _ => hK
        refine hK _ _ ?_
        exact mt6 a0 n0 c0 R0 a1 n1 c1 R1 i2 hi2 a3 n3 c3 xs a4 n4 c4 ys w HG HA z0 HB z1 HX HLX z3 HY HLY z4  _ _ _ _ _ _ _ _ _ _ _ _ _ _ _ _ _ _ _ _ _ _ _ _ _ _ _ _ _ _ _ _ _ _ _ _ _ _ _ _ _ _ _ _ _ _ _ _ _ _ _ _ _ _ _ _ _ _ _ _ _ _ _ _ _ _ _ _ _ _ _ _ _ _ _ _ _ _ _ _ _ _ _ _ _ _ _ _ _ _ _ _ _ _ _ _ _ _ _ _ _ _ _ _ _ _ _ _ _ _ _ _ _ _ _ _ _ _ _ _ _ _ _ _ _ _ _ _ _ _ _ _ _ _ _ _ _ _ _ _ _ _ _ _ _ _ _ _ _ _ _ _ _ _ _ _ _ _ _ _ _ _ _ _ _ _ _ _ _ _ _ _ _ _ _ _ _ _ _ _ _ _ _ _ _ _ _ _ _ _ _ _ _ _ _ _ _ _ _ _ _ _ _ _ _ _ _ _ _ _ _ _ _ _ _ _ _ _ _ _ _ _ _ _ _ _ _ _ _ _ _ _ _ _ _ _ _ _ _ _ _ _ _ _ _ _ _ _ _ _ _ _ _ _ _ _ _ _ _ _ hW 
set_option linter.unusedVariables false in
set_option maxRecDepth 1000000 in
set_option maxHeartbeats 8000000 in
theorem mt4 (a0 : Option Addr) (n0 c0 : Nat) (R0 : Nat → List El) (a1 : Option Addr) (n1 c1 : Nat) (R1 : Nat → List El) (i2 : Int) (hi2 : -9223372036854775808 ≤ i2 ∧ i2 ≤ 9223372036854775807)
    (a3 : Option Addr) (n3 c3 : Nat) (xs : List El) (a4 : Option Addr) (n4 c4 : Nat) (ys : List El) (w : World) (HG : Hid (Handle w)) (HA : Hid (RdM w (.slice a0 n0 c0) n0 R0)) (z0 : n0 ≤ 5864062014634) (HB : Hid (RdM w (.slice a1 n1 c1) n1 R1)) (z1 : n1 ≤ 5864062014634)
    (HX : Hid (Rd w (.slice a3 n3 c3) xs)) (HLX : Hid (n3 = xs.length)) (z3 : n3 ≤ 140737488351232) (HY : Hid (Rd w (.slice a4 n4 c4) ys)) (HLY : Hid (n4 = ys.length)) (z4 : n4 ≤ 140737488351232) (ea : Nat) (HEA : Hid (ea = bad n0 R0)) (hea4 : ea ≤ 4) (u5 u6 u7 u8 u9 u10 u13 u14 u15 u16 u18 u19 u21 u22 u23 u24 u25 u26 u27 u28 u29 u30 u31 u32 u33 u34 u35 u36 u37 u38 u39 u40 u41 u42 u43 u44 u45 u46 u47 u48 u49 u50 u51 u52 u53 u54 u55 u56 u57 u58 u59 u60 u61 u62 u63 u64 u65 u66 u67 u68 u69 u70 u71 u72 u73 u74 u75 u76 u77 u78 u79 u80 u81 u82 u83 u84 u85 u86 u87 u88 u89 u90 u91 u92 u93 u94 u95 u96 u97 u98 u99 u100 u101 u102 u103 u104 u105 u106 u107 u108 u109 u110 u111 u112 u113 u114 u115 u116 u117 u118 u119 u120 u121 u122 u123 u124 u125 u126 u127 u128 u129 u130 u131 u132 u133 u134 u135 u136 u137 u138 u139 u140 u141 u142 u143 u144 u145 u146 u147 u148 u149 u150 u151 u152 u153 u154 u155 u156 u157 u158 u159 u160 u161 u162 u163 u164 u165 u166 u167 u168 u169 u170 u171 u172 u173 u174 u175 u176 u177 u178 u179 u180 u181 u182 u183 u184 u185 u186 u187 u188 u189 u190 u191 u192 u193 u194 u195 u196 u197 u198 u199 u200 u201 u202 u203 u204 u205 u206 u207 u208 u209 u210 u211 u212 u213 u214 u215 u216 u217 u218 u219 u220 u221 u222 u223 u224 u225 u226 u227 u228 u229 u230 u231 u232 u233 u234 u235 u236 u237 u238 u239 u240 u241 u242 u243 u244 u245 u246 u247 u248 u249 u250 u251 u252 u253 u254 u255 u256 u257 u258 u259 u260 u261 u262 u263 u264 u265 u266 u267 u268 : Value) (wc : World) (hW : Below w.heap.size w wc)  :
    Code.wp Tryd.prog (dropS 15 (Tryd.f3.body.getD .skip)) (bodyPost Tryd.prog Tryd.f3 fun e w' => e = .returned (.bool true) ∧ Below w.heap.size w w') ⟨#[.slice a0 n0 c0, .slice a1 n1 c1, .int .i64 i2, .slice a3 n3 c3, .slice a4 n4 c4, u5, u6, u7, u8, u9, u10, .int .i64 ((ea : Nat) : Int), .bool true, u13, u14, u15, u16, .bool true, u18, u19, .bool true, u21, u22, u23, u24, u25, u26, u27, u28, u29, u30, u31, u32, u33, u34, u35, u36, u37, u38, u39, u40, u41, u42, u43, u44, u45, u46, u47, u48, u49, u50, u51, u52, u53, u54, u55, u56, u57, u58, u59, u60, u61, u62, u63, u64, u65, u66, u67, u68, u69, u70, u71, u72, u73, u74, u75, u76, u77, u78, u79, u80, u81, u82, u83, u84, u85, u86, u87, u88, u89, u90, u91, u92, u93, u94, u95, u96, u97, u98, u99, u100, u101, u102, u103, u104, u105, u106, u107, u108, u109, u110, u111, u112, u113, u114, u115, u116, u117, u118, u119, u120, u121, u122, u123, u124, u125, u126, u127, u128, u129, u130, u131, u132, u133, u134, u135, u136, u137, u138, u139, u140, u141, u142, u143, u144, u145, u146, u147, u148, u149, u150, u151, u152, u153, u154, u155, u156, u157, u158, u159, u160, u161, u162, u163, u164, u165, u166, u167, u168, u169, u170, u171, u172, u173, u174, u175, u176, u177, u178, u179, u180, u181, u182, u183, u184, u185, u186, u187, u188, u189, u190, u191, u192, u193, u194, u195, u196, u197, u198, u199, u200, u201, u202, u203, u204, u205, u206, u207, u208, u209, u210, u211, u212, u213, u214, u215, u216, u217, u218, u219, u220, u221, u222, u223, u224, u225, u226, u227, u228, u229, u230, u231, u232, u233, u234, u235, u236, u237, u238, u239, u240, u241, u242, u243, u244, u245, u246, u247, u248, u249, u250, u251, u252, u253, u254, u255, u256, u257, u258, u259, u260, u261, u262, u263, u264, u265, u266, u267, u268], []⟩ wc := by
  conv => arg 2; whnf
  obtain ⟨rk, hrk⟩ := rkF_is n0 R0
  have HRK : Hid (RkF n0 R0 rk) := hrk
  clear hrk
  go_upto_region 25 with fail
  go_cut [125] from 125 to 125 (fun sx wx => sx = .bool (decide (ea = 0 ∧ 0 < n0)) ∧ Below w.heap.size w wx)
  case first =>
    by_cases h1 : ea = 0
    · have hb : ((ea : Int) == 0) = true := by rw [h1]; rfl
      by_cases h2 : 0 < n0
      · have h2' : (0 : Int) < (n0 : Int) := by omega
        have HT : Hid (decide (ea = 0 ∧ 0 < n0) = true) := decide_eq_true ⟨h1, h2⟩
        clear h1
        go_wp2
        go_meet
        case rel => exact ⟨by rw [HT.out], hW⟩
      · have h2' : ¬ (0 : Int) < (n0 : Int) := by omega
        have HT : Hid (decide (ea = 0 ∧ 0 < n0) = false) := decide_eq_false (fun q => h2 q.2)
        clear h1
        go_wp2
        go_meet
        case rel => exact ⟨by rw [HT.out], hW⟩
    · have hb : ((ea : Int) == 0) = false := by rw [beq_eq_false_iff_ne]; omega
      have HT : Hid (decide (ea = 0 ∧ 0 < n0) = false) := decide_eq_false (fun q => h1 q.1)
      clear h1
      go_wp2
      go_meet
      case rel => exact ⟨by rw [HT.out], hW⟩
  case rest =>
    clear hW
    obtain ⟨rfl, hW⟩ := hcut
    go_upto_if 125 with fail
    go_cut [21] from 125 to 125 (fun s21 wx => s21 = .int .i64 ((rk : Nat) : Int) ∧ Below w.heap.size w wx)
    case first =>
      by_cases hc : ea = 0 ∧ 0 < n0
      · rw [decide_eq_true hc]
        obtain ⟨ad, av, cv, rfl, hcell, _⟩ := (HA.out.old hW).some 0 hc.2
        rw [add_zero, show (R0 0).length = wd n0 R0 from by unfold wd; rw [if_neg (by omega)]] at hcell
        have C := rstairs_uni (.slice (some ad) n0 c0) n0 R0 rk HRK.out (by rw [← HEA.out]; exact hc.1) wc (HA.out.old hW)
        have hn := hc.2
        generalize wd n0 R0 = q0 at *
        clear hc
        go_wp2_with fail
        refine C.mono ?_
        rintro e w5 ⟨v5, rfl, hB⟩
        replace hW := hW.trans (hB.mono hW.size)
        clear hB
        clear C hcell
        go_wp2
        go_meet
        case rel => exact ⟨rfl, hW⟩
      · rw [decide_eq_false hc]
        have HZ : Hid (rk = 0) := by
          (show rk = 0)
          by_cases h1 : ea = 0
          · have h0 : n0 = 0 := by omega
            have := HRK.out
            rw [h0] at this
            exact rkF_none this
          · rcases HRK.out with ⟨_, q⟩ | ⟨q, _⟩
            · exact q
            · exact absurd (by rw [HEA.out]; exact q) h1
        clear hc
        go_wp2
        go_meet
        case rel => exact ⟨by rw [HZ.out]; rfl, hW⟩
    case rest =>
      clear hW
      obtain ⟨rfl, hW⟩ := hcut
      have C := rank_uni (.slice a0 n0 c0) n0 R0 rk HRK.out wc (HA.out.old hW)
      rw [← HEA.out] at C
      go_wp2_with fail
      refine C.mono ?_
      rintro e w6 ⟨rfl, hB⟩
      replace hW := hW.trans (hB.mono hW.size)
      clear hB
      clear C
      have hrr : ((rk : Int) == (rk : Int)) = true := by simp
      go_upto_region 28 with fail
      go_cut [23] from 23 to 23 (fun sx wx => sx = .bool true ∧ Below w.heap.size w wx)
      case first =>
        go_wp2_with fail
        refine (err_V ea _ (HG.out.old hW)).mono ?_
        rintro e w7 ⟨rfl, hB⟩
        replace hW := hW.trans (hB.mono hW.size)
        clear hB
        go_wp2
        go_meet
        case rel => exact ⟨rfl, hW⟩
      case rest =>
        clear hW
        obtain ⟨rfl, hW⟩ := hcut
        rename ∀ (a : Act) (w : World), Code.wp _ _ _ a w → _ => hK
        refine hK _ _ ?_
        exact mt5 a0 n0 c0 R0 a1 n1 c1 R1 i2 hi2 a3 n3 c3 xs a4 n4 c4 ys w HG HA z0 HB z1 HX HLX z3 HY HLY z4  _ _ _ _ _ _ _ _ _ _ _ _ _ _ _ _ _ _ _ _ _ _ _ _ _ _ _ _ _ _ _ _ _ _ _ _ _ _ _ _ _ _ _ _ _ _ _ _ _ _ _ _ _ _ _ _ _ _ _ _ _ _ _ _ _ _ _ _ _ _ _ _ _ _ _ _ _ _ _ _ _ _ _ _ _ _ _ _ _ _ _ _ _ _ _ _ _ _ _ _ _ _ _ _ _ _ _ _ _ _ _ _ _ _ _ _ _ _ _ _ _ _ _ _ _ _ _ _ _ _ _ _ _ _ _ _ _ _ _ _ _ _ _ _ _ _ _ _ _ _ _ _ _ _ _ _ _ _ _ _ _ _ _ _ _ _ _ _ _ _ _ _ _ _ _ _ _ _ _ _ _ _ _ _ _ _ _ _ _ _ _ _ _ _ _ _ _ _ _ _ _ _ _ _ _ _ _ _ _ _ _ _ _ _ _ _ _ _ _ _ _ _ _ _ _ _ _ _ _ _ _ _ _ _ _ _ _ _ _ _ _ _ _ _ _ _ _ _ _ _ _ _ _ _ _ _ _ _ _ _ _ hW 
end Go.Proofs.YtcjokofebnfkkaaDoor
