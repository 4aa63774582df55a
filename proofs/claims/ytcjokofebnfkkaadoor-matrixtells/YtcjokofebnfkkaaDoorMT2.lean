/- The second and the third part of MatrixTells: products, inverses. -/
import Derived.Test.YtcjokofebnfkkaaDoorMT5
namespace Go.Proofs.YtcjokofebnfkkaaDoor
open Go.ChangeShapes Go.WideShapes Go.ChangeAt Go.RowKit El Pol Mx
set_option linter.unusedVariables false in
set_option maxRecDepth 1000000 in
set_option maxHeartbeats 8000000 in
theorem mt3 (a0 : Option Addr) (n0 c0 : Nat) (R0 : Nat → List El) (a1 : Option Addr) (n1 c1 : Nat) (R1 : Nat → List El) (i2 : Int) (hi2 : -9223372036854775808 ≤ i2 ∧ i2 ≤ 9223372036854775807)
    (a3 : Option Addr) (n3 c3 : Nat) (xs : List El) (a4 : Option Addr) (n4 c4 : Nat) (ys : List El) (w : World) (HG : Hid (Handle w)) (HA : Hid (RdM w (.slice a0 n0 c0) n0 R0)) (z0 : n0 ≤ 5864062014634) (HB : Hid (RdM w (.slice a1 n1 c1) n1 R1)) (z1 : n1 ≤ 5864062014634)
    (HX : Hid (Rd w (.slice a3 n3 c3) xs)) (HLX : Hid (n3 = xs.length)) (z3 : n3 ≤ 140737488351232) (HY : Hid (Rd w (.slice a4 n4 c4) ys)) (HLY : Hid (n4 = ys.length)) (z4 : n4 ≤ 140737488351232) (ea : Nat) (HEA : Hid (ea = bad n0 R0)) (hea4 : ea ≤ 4) (u5 u6 u7 u8 u9 u10 u13 u14 u15 u16 u18 u19 u20 u21 u22 u23 u24 u25 u26 u27 u28 u29 u30 u31 u32 u33 u34 u35 u36 u37 u38 u39 u40 u41 u42 u43 u44 u45 u46 u47 u48 u49 u50 u51 u52 u53 u54 u55 u56 u57 u58 u59 u60 u61 u62 u63 u64 u65 u66 u67 u68 u69 u70 u71 u72 u73 u74 u75 u76 u77 u78 u79 u80 u81 u82 u83 u84 u85 u86 u87 u88 u89 u90 u91 u92 u93 u94 u95 u96 u97 u98 u99 u100 u101 u102 u103 u104 u105 u106 u107 u108 u109 u110 u111 u112 u113 u114 u115 u116 u117 u118 u119 u120 u121 u122 u123 u124 u125 u126 u127 u128 u129 u130 u131 u132 u133 u134 u135 u136 u137 u138 u139 u140 u141 u142 u143 u144 u145 u146 u147 u148 u149 u150 u151 u152 u153 u154 u155 u156 u157 u158 u159 u160 u161 u162 u163 u164 u165 u166 u167 u168 u169 u170 u171 u172 u173 u174 u175 u176 u177 u178 u179 u180 u181 u182 u183 u184 u185 u186 u187 u188 u189 u190 u191 u192 u193 u194 u195 u196 u197 u198 u199 u200 u201 u202 u203 u204 u205 u206 u207 u208 u209 u210 u211 u212 u213 u214 u215 u216 u217 u218 u219 u220 u221 u222 u223 u224 u225 u226 u227 u228 u229 u230 u231 u232 u233 u234 u235 u236 u237 u238 u239 u240 u241 u242 u243 u244 u245 u246 u247 u248 u249 u250 u251 u252 u253 u254 u255 u256 u257 u258 u259 u260 u261 u262 u263 u264 u265 u266 u267 u268 : Value) (wc : World) (hW : Below w.heap.size w wc)  :
    Code.wp Tryd.prog (dropS 10 (Tryd.f3.body.getD .skip)) (bodyPost Tryd.prog Tryd.f3 fun e w' => e = .returned (.bool true) ∧ Below w.heap.size w w') ⟨#[.slice a0 n0 c0, .slice a1 n1 c1, .int .i64 i2, .slice a3 n3 c3, .slice a4 n4 c4, u5, u6, u7, u8, u9, u10, .int .i64 ((ea : Nat) : Int), .bool true, u13, u14, u15, u16, .bool true, u18, u19, u20, u21, u22, u23, u24, u25, u26, u27, u28, u29, u30, u31, u32, u33, u34, u35, u36, u37, u38, u39, u40, u41, u42, u43, u44, u45, u46, u47, u48, u49, u50, u51, u52, u53, u54, u55, u56, u57, u58, u59, u60, u61, u62, u63, u64, u65, u66, u67, u68, u69, u70, u71, u72, u73, u74, u75, u76, u77, u78, u79, u80, u81, u82, u83, u84, u85, u86, u87, u88, u89, u90, u91, u92, u93, u94, u95, u96, u97, u98, u99, u100, u101, u102, u103, u104, u105, u106, u107, u108, u109, u110, u111, u112, u113, u114, u115, u116, u117, u118, u119, u120, u121, u122, u123, u124, u125, u126, u127, u128, u129, u130, u131, u132, u133, u134, u135, u136, u137, u138, u139, u140, u141, u142, u143, u144, u145, u146, u147, u148, u149, u150, u151, u152, u153, u154, u155, u156, u157, u158, u159, u160, u161, u162, u163, u164, u165, u166, u167, u168, u169, u170, u171, u172, u173, u174, u175, u176, u177, u178, u179, u180, u181, u182, u183, u184, u185, u186, u187, u188, u189, u190, u191, u192, u193, u194, u195, u196, u197, u198, u199, u200, u201, u202, u203, u204, u205, u206, u207, u208, u209, u210, u211, u212, u213, u214, u215, u216, u217, u218, u219, u220, u221, u222, u223, u224, u225, u226, u227, u228, u229, u230, u231, u232, u233, u234, u235, u236, u237, u238, u239, u240, u241, u242, u243, u244, u245, u246, u247, u248, u249, u250, u251, u252, u253, u254, u255, u256, u257, u258, u259, u260, u261, u262, u263, u264, u265, u266, u267, u268], []⟩ wc := by
  conv => arg 2; whnf
  obtain ⟨f3, T3, hf3⟩ := invF_is n0 R0
  have HF3 : Hid (InvF n0 R0 f3 T3) := hf3
  clear hf3
  obtain ⟨q0, hq0⟩ : ∃ q, q = wd n0 R0 := ⟨_, rfl⟩
  have HQ0 : Hid (q0 = wd n0 R0) := hq0
  clear hq0
  have HL0 : Hid (0 < n0 → (R0 0).length = q0) := fun h => by rw [HQ0.out]; unfold wd; rw [if_neg (by omega)]
  go_upto_region 15 with fail
  go_cut [95] from 95 to 95 (fun sx wx => sx = .bool (decide (ea = 0 ∧ (n0 = 0 ∨ q0 ≠ n0))) ∧ Below w.heap.size w wx)
  case first =>
    by_cases h1 : ea = 0
    · have hb : ((ea : Int) == 0) = true := by rw [h1]; rfl
      by_cases h2 : n0 = 0
      · have h2' : ((n0 : Int) == 0) = true := by rw [h2]; rfl
        have HT : Hid (decide (ea = 0 ∧ (n0 = 0 ∨ q0 ≠ n0)) = true) := decide_eq_true ⟨h1, .inl h2⟩
        clear h1 h2
        go_wp2
        go_meet
        case rel => exact ⟨by rw [HT.out], hW⟩
      · have h2' : ((n0 : Int) == 0) = false := by rw [beq_eq_false_iff_ne]; omega
        have hn : 0 < n0 := by omega
        obtain ⟨ad, av, cv, rfl, hc, _⟩ := (HA.out.old hW).some 0 hn
        rw [add_zero, HL0.out hn] at hc
        by_cases hq : q0 = n0
        · have hne : ((q0 : Int) != (n0 : Int)) = false := by rw [hq]; simp
          have HT : Hid (decide (ea = 0 ∧ (n0 = 0 ∨ q0 ≠ n0)) = false) := decide_eq_false (by omega)
          clear h1 h2 hq
          go_wp2
          go_meet
          case rel => exact ⟨by rw [HT.out], hW⟩
        · have hne : ((q0 : Int) != (n0 : Int)) = true := by rw [bne_iff_ne]; omega
          have HT : Hid (decide (ea = 0 ∧ (n0 = 0 ∨ q0 ≠ n0)) = true) := decide_eq_true ⟨h1, .inr hq⟩
          clear h1 h2 hq
          go_wp2
          go_meet
          case rel => exact ⟨by rw [HT.out], hW⟩
    · have hb : ((ea : Int) == 0) = false := by rw [beq_eq_false_iff_ne]; omega
      have HT : Hid (decide (ea = 0 ∧ (n0 = 0 ∨ q0 ≠ n0)) = false) := decide_eq_false (fun q => h1 q.1)
      clear h1
      go_wp2
      go_meet
      case rel => exact ⟨by rw [HT.out], hW⟩
  case rest =>
    clear hW
    obtain ⟨rfl, hW⟩ := hcut
    go_upto_if 95 with fail
    go_cut [13, 14] from 95 to 97 (fun s13 s14 wx => s13 = .int .i64 ((f3 : Nat) : Int) ∧ RdM wx s14 (cnt f3 n0) (rws T3 n0) ∧ Below w.heap.size w wx)
    case first =>
      by_cases hc : ea = 0 ∧ (n0 = 0 ∨ q0 ≠ n0)
      · have HF : Hid (f3 = 3) := by
          (show f3 = 3)
          rcases HF3.out with ⟨q, _⟩ | ⟨_, _, q⟩ | ⟨_, q1, q2, _⟩ | ⟨_, q1, q2, _⟩
          · exact absurd (by rw [← HEA.out]; exact hc.1) q
          · exact q
          · have := HQ0.out; omega
          · have := HQ0.out; omega
        rw [decide_eq_true hc]
        clear hc
        go_wp2
        go_meet
        case rel => exact ⟨by rw [HF.out]; rfl, by rw [HF.out]; exact rd_none _ _, hW⟩
      · rw [decide_eq_false hc]
        by_cases h1 : ea = 0
        · have hb : ((ea : Int) == 0) = true := by rw [h1]; rfl
          have C := rinverse_uni (.slice a0 n0 c0) n0 R0 f3 T3 HF3.out (by rw [← HEA.out]; exact h1) (by omega) (by rw [← HQ0.out]; omega) wc (HA.out.old hW)
          have HE0 : Hid (ea = 0) := h1
          clear hc h1
          go_wp2_with fail
          refine C.mono ?_
          rintro e w5 ⟨v5, rfl, hR5, hf05, hB⟩
          replace hW := hW.trans (hB.mono hW.size)
          clear hB
          clear C
          rcases hf05 with hf0 | hf5
          · have HF : Hid (f3 = 0) := hf0
            rw [decide_eq_true hf0]
            clear hf0
            go_wp2
            go_meet
            case rel => exact ⟨by rw [HF.out, HE0.out], hR5, hW⟩
          · have HF : Hid (f3 = 5) := hf5
            rw [decide_eq_false (show ¬ f3 = 0 by omega)]
            clear hf5
            go_wp2
            go_meet
            case rel => exact ⟨by rw [HF.out]; rfl, hR5, hW⟩
        · have hb : ((ea : Int) == 0) = false := by rw [beq_eq_false_iff_ne]; omega
          have HF : Hid (f3 = ea) := by
            (show f3 = ea)
            rcases HF3.out with ⟨_, q⟩ | ⟨q, _⟩ | ⟨q, _⟩ | ⟨q, _⟩
            · rw [HEA.out]; exact q
            · exact absurd (by rw [HEA.out]; exact q) h1
            · exact absurd (by rw [HEA.out]; exact q) h1
            · exact absurd (by rw [HEA.out]; exact q) h1
          have HC0 : Hid (cnt f3 n0 = 0) := by (show cnt f3 n0 = 0); rw [cnt, if_neg (by rw [HF.out]; exact h1)]
          clear hc h1
          go_wp2
          go_meet
          case rel => exact ⟨by rw [HF.out], by rw [HC0.out]; exact rd_none _ _, hW⟩
    case rest =>
      clear hW
      obtain ⟨rfl, hRw, hW⟩ := hcut
      go_wp2_with fail
      refine (inverse_uni (.slice a0 n0 c0) n0 R0 f3 T3 HF3.out _ (HA.out.old hW)).mono ?_
      rintro e w6 ⟨v6, rfl, hR6, hB⟩
      replace hRw := hRw.old hB
      replace hW := hW.trans (hB.mono hW.size)
      clear hB
      go_upto_region 23 with fail
      go_cut [20] from 20 to 20 (fun sx wx => sx = .bool true ∧ Below w.heap.size w wx)
      case first =>
        go_wp2_with fail
        refine (err_V f3 _ (HG.out.old hW)).mono ?_
        rintro e w7 ⟨rfl, hB⟩
        replace hRw := hRw.old hB
        replace hR6 := hR6.old hB
        replace hW := hW.trans (hB.mono hW.size)
        clear hB
        go_wp2_with fail
        refine (rows_same _ _ _ _ _ hR6 hRw).mono ?_
        rintro e w8 ⟨rfl, hB⟩
        replace hW := hW.trans (hB.mono hW.size)
        clear hB
        go_wp2
        go_meet
        case rel => exact ⟨rfl, hW⟩
      case rest =>
        clear hW
        obtain ⟨rfl, hW⟩ := hcut
        rename ∀ (a : Act) (w : World), Code.wp _ _ _ a w → _ => hK
        refine hK _ _ ?_
        exact mt4 a0 n0 c0 R0 a1 n1 c1 R1 i2 hi2 a3 n3 c3 xs a4 n4 c4 ys w HG HA z0 HB z1 HX HLX z3 HY HLY z4 ea HEA hea4 _ _ _ _ _ _ _ _ _ _ _ _ _ _ _ _ _ _ _ _ _ _ _ _ _ _ _ _ _ _ _ _ _ _ _ _ _ _ _ _ _ _ _ _ _ _ _ _ _ _ _ _ _ _ _ _ _ _ _ _ _ _ _ _ _ _ _ _ _ _ _ _ _ _ _ _ _ _ _ _ _ _ _ _ _ _ _ _ _ _ _ _ _ _ _ _ _ _ _ _ _ _ _ _ _ _ _ _ _ _ _ _ _ _ _ _ _ _ _ _ _ _ _ _ _ _ _ _ _ _ _ _ _ _ _ _ _ _ _ _ _ _ _ _ _ _ _ _ _ _ _ _ _ _ _ _ _ _ _ _ _ _ _ _ _ _ _ _ _ _ _ _ _ _ _ _ _ _ _ _ _ _ _ _ _ _ _ _ _ _ _ _ _ _ _ _ _ _ _ _ _ _ _ _ _ _ _ _ _ _ _ _ _ _ _ _ _ _ _ _ _ _ _ _ _ _ _ _ _ _ _ _ _ _ _ _ _ _ _ _ _ _ _ _ _ _ _ _ _ _ _ _ _ _ _ _ _ _ _ _ _ hW 
set_option linter.unusedVariables false in
set_option maxRecDepth 1000000 in
set_option maxHeartbeats 8000000 in
theorem mt2 (a0 : Option Addr) (n0 c0 : Nat) (R0 : Nat → List El) (a1 : Option Addr) (n1 c1 : Nat) (R1 : Nat → List El) (i2 : Int) (hi2 : -9223372036854775808 ≤ i2 ∧ i2 ≤ 9223372036854775807)
    (a3 : Option Addr) (n3 c3 : Nat) (xs : List El) (a4 : Option Addr) (n4 c4 : Nat) (ys : List El) (w : World) (HG : Hid (Handle w)) (HA : Hid (RdM w (.slice a0 n0 c0) n0 R0)) (z0 : n0 ≤ 5864062014634) (HB : Hid (RdM w (.slice a1 n1 c1) n1 R1)) (z1 : n1 ≤ 5864062014634)
    (HX : Hid (Rd w (.slice a3 n3 c3) xs)) (HLX : Hid (n3 = xs.length)) (z3 : n3 ≤ 140737488351232) (HY : Hid (Rd w (.slice a4 n4 c4) ys)) (HLY : Hid (n4 = ys.length)) (z4 : n4 ≤ 140737488351232) (ea : Nat) (HEA : Hid (ea = bad n0 R0)) (hea4 : ea ≤ 4) (u5 u6 u7 u8 u9 u10 u13 u14 u15 u16 u17 u18 u19 u20 u21 u22 u23 u24 u25 u26 u27 u28 u29 u30 u31 u32 u33 u34 u35 u36 u37 u38 u39 u40 u41 u42 u43 u44 u45 u46 u47 u48 u49 u50 u51 u52 u53 u54 u55 u56 u57 u58 u59 u60 u61 u62 u63 u64 u65 u66 u67 u68 u69 u70 u71 u72 u73 u74 u75 u76 u77 u78 u79 u80 u81 u82 u83 u84 u85 u86 u87 u88 u89 u90 u91 u92 u93 u94 u95 u96 u97 u98 u99 u100 u101 u102 u103 u104 u105 u106 u107 u108 u109 u110 u111 u112 u113 u114 u115 u116 u117 u118 u119 u120 u121 u122 u123 u124 u125 u126 u127 u128 u129 u130 u131 u132 u133 u134 u135 u136 u137 u138 u139 u140 u141 u142 u143 u144 u145 u146 u147 u148 u149 u150 u151 u152 u153 u154 u155 u156 u157 u158 u159 u160 u161 u162 u163 u164 u165 u166 u167 u168 u169 u170 u171 u172 u173 u174 u175 u176 u177 u178 u179 u180 u181 u182 u183 u184 u185 u186 u187 u188 u189 u190 u191 u192 u193 u194 u195 u196 u197 u198 u199 u200 u201 u202 u203 u204 u205 u206 u207 u208 u209 u210 u211 u212 u213 u214 u215 u216 u217 u218 u219 u220 u221 u222 u223 u224 u225 u226 u227 u228 u229 u230 u231 u232 u233 u234 u235 u236 u237 u238 u239 u240 u241 u242 u243 u244 u245 u246 u247 u248 u249 u250 u251 u252 u253 u254 u255 u256 u257 u258 u259 u260 u261 u262 u263 u264 u265 u266 u267 u268 : Value) (wc : World) (hW : Below w.heap.size w wc)  :
    Code.wp Tryd.prog (dropS 3 (Tryd.f3.body.getD .skip)) (bodyPost Tryd.prog Tryd.f3 fun e w' => e = .returned (.bool true) ∧ Below w.heap.size w w') ⟨#[.slice a0 n0 c0, .slice a1 n1 c1, .int .i64 i2, .slice a3 n3 c3, .slice a4 n4 c4, u5, u6, u7, u8, u9, u10, .int .i64 ((ea : Nat) : Int), .bool true, u13, u14, u15, u16, u17, u18, u19, u20, u21, u22, u23, u24, u25, u26, u27, u28, u29, u30, u31, u32, u33, u34, u35, u36, u37, u38, u39, u40, u41, u42, u43, u44, u45, u46, u47, u48, u49, u50, u51, u52, u53, u54, u55, u56, u57, u58, u59, u60, u61, u62, u63, u64, u65, u66, u67, u68, u69, u70, u71, u72, u73, u74, u75, u76, u77, u78, u79, u80, u81, u82, u83, u84, u85, u86, u87, u88, u89, u90, u91, u92, u93, u94, u95, u96, u97, u98, u99, u100, u101, u102, u103, u104, u105, u106, u107, u108, u109, u110, u111, u112, u113, u114, u115, u116, u117, u118, u119, u120, u121, u122, u123, u124, u125, u126, u127, u128, u129, u130, u131, u132, u133, u134, u135, u136, u137, u138, u139, u140, u141, u142, u143, u144, u145, u146, u147, u148, u149, u150, u151, u152, u153, u154, u155, u156, u157, u158, u159, u160, u161, u162, u163, u164, u165, u166, u167, u168, u169, u170, u171, u172, u173, u174, u175, u176, u177, u178, u179, u180, u181, u182, u183, u184, u185, u186, u187, u188, u189, u190, u191, u192, u193, u194, u195, u196, u197, u198, u199, u200, u201, u202, u203, u204, u205, u206, u207, u208, u209, u210, u211, u212, u213, u214, u215, u216, u217, u218, u219, u220, u221, u222, u223, u224, u225, u226, u227, u228, u229, u230, u231, u232, u233, u234, u235, u236, u237, u238, u239, u240, u241, u242, u243, u244, u245, u246, u247, u248, u249, u250, u251, u252, u253, u254, u255, u256, u257, u258, u259, u260, u261, u262, u263, u264, u265, u266, u267, u268], []⟩ wc := by
  conv => arg 2; whnf
  obtain ⟨eb, heb⟩ : ∃ e, e = bad n1 R1 := ⟨_, rfl⟩
  have HEB : Hid (eb = bad n1 R1) := heb
  have heb4 : eb ≤ 4 := by rcases bad_ne (n := n1) (R := R1) with q | q | q <;> omega
  clear heb
  obtain ⟨f1, hf1⟩ : ∃ f, f = if ea = 0 then eb else ea := ⟨_, rfl⟩
  have HF1 : Hid (f1 = if ea = 0 then eb else ea) := hf1
  clear hf1
  go_upto_if 41 with fail
  go_cut [13] from 41 to 41 (fun s13 wx => s13 = .int .i64 (f1 : Nat) ∧ Below w.heap.size w wx)
  case first =>
    by_cases he : ea = 0
    · have hb : ((ea : Int) == 0) = true := by rw [he]; rfl
      have HF : Hid (f1 = eb) := by (show f1 = eb); rw [HF1.out, if_pos he]
      clear he
      go_wp2_with fail
      refine (rmatrix_any _ n1 R1 _ (HB.out.old hW)).mono ?_
      rintro e w4 ⟨rfl, hB⟩
      rw [← HEB.out, ← HF.out]
      replace hW := hW.trans (hB.mono hW.size)
      clear hB
      go_wp2
      go_meet
      case rel => exact ⟨rfl, hW⟩
    · have hb : ((ea : Int) == 0) = false := by rw [beq_eq_false_iff_ne]; omega
      have HF : Hid (f1 = ea) := by (show f1 = ea); rw [HF1.out, if_neg he]
      clear he
      go_wp2
      go_meet
      case rel => exact ⟨by rw [HF.out], hW⟩
  case rest =>
    clear hW
    obtain ⟨rfl, hW⟩ := hcut
    obtain ⟨q0, hq0⟩ : ∃ q, q = wd n0 R0 := ⟨_, rfl⟩
    have HQ0 : Hid (q0 = wd n0 R0) := hq0
    clear hq0
    have HL0 : Hid (0 < n0 → (R0 0).length = q0) := fun h => by rw [HQ0.out]; unfold wd; rw [if_neg (by omega)]
    go_upto_region 6 with fail
    go_cut [59] from 59 to 59 (fun s59 wx => s59 = .bool (decide (f1 = 0 ∧ 0 < n0 ∧ q0 ≠ n1)) ∧ Below w.heap.size w wx)
    case first =>
      by_cases hf : f1 = 0
      · have hb : ((f1 : Int) == 0) = true := by rw [hf]; rfl
        by_cases hn : 0 < n0
        · have hn' : (0 : Int) < (n0 : Int) := by omega
          obtain ⟨ad, av, cv, rfl, hc, _⟩ := (HA.out.old hW).some 0 hn
          rw [add_zero, HL0.out hn] at hc
          by_cases hq : q0 = n1
          · have hne : ((q0 : Int) != (n1 : Int)) = false := by rw [hq]; simp
            have HT : Hid (decide (f1 = 0 ∧ 0 < n0 ∧ q0 ≠ n1) = false) := decide_eq_false (fun q => q.2.2 hq)
            clear hf hq
            go_wp2
            go_meet
            case rel => exact ⟨by rw [HT.out], hW⟩
          · have hne : ((q0 : Int) != (n1 : Int)) = true := by rw [bne_iff_ne]; omega
            have HT : Hid (decide (f1 = 0 ∧ 0 < n0 ∧ q0 ≠ n1) = true) := decide_eq_true ⟨hf, hn, hq⟩
            clear hf hq
            go_wp2
            go_meet
            case rel => exact ⟨by rw [HT.out], hW⟩
        · have hn' : ¬ (0 : Int) < (n0 : Int) := by omega
          have HT : Hid (decide (f1 = 0 ∧ 0 < n0 ∧ q0 ≠ n1) = false) := decide_eq_false (fun q => hn q.2.1)
          clear hf
          go_wp2
          go_meet
          case rel => exact ⟨by rw [HT.out], hW⟩
      · have hb : ((f1 : Int) == 0) = false := by rw [beq_eq_false_iff_ne]; omega
        have HT : Hid (decide (f1 = 0 ∧ 0 < n0 ∧ q0 ≠ n1) = false) := decide_eq_false (fun q => hf q.1)
        clear hf
        go_wp2
        go_meet
        case rel => exact ⟨by rw [HT.out], hW⟩
    case rest =>
      clear hW
      obtain ⟨rfl, hW⟩ := hcut
      obtain ⟨f2, hf2⟩ : ∃ f, f = mf n0 n1 R0 R1 := ⟨_, rfl⟩
      have HF2 : Hid (f2 = mf n0 n1 R0 R1) := hf2
      have HF21 : Hid (f2 = if f1 = 0 ∧ 0 < n0 ∧ q0 ≠ n1 then 3 else f1) := by
        (show f2 = _)
        rw [hf2, HF1.out, HQ0.out]
        unfold mf
        rw [← HEA.out, ← HEB.out]
        by_cases h1 : ea = 0
        · rw [if_neg (by simpa using h1), if_pos h1]
          by_cases h2 : eb = 0
          · rw [if_neg (by simpa using h2)]
            by_cases h3 : n0 ≠ 0 ∧ wd n0 R0 ≠ n1
            · rw [if_pos h3, if_pos ⟨h2, by omega, h3.2⟩]
            · rw [if_neg h3, if_neg (by omega), h2]
          · rw [if_pos h2, if_neg (fun q => h2 q.1)]
        · rw [if_pos h1, if_neg (fun q => h1 (by have := q.1; rw [if_neg h1] at this; exact this)), if_neg h1]
      clear hf2
      go_upto_if 59 with fail
      go_cut [13] from 59 to 59 (fun s13 wx => s13 = .int .i64 (f2 : Nat) ∧ Below w.heap.size w wx)
      case first =>
        by_cases hc : f1 = 0 ∧ 0 < n0 ∧ q0 ≠ n1
        · have HF : Hid (f2 = 3) := by (show f2 = 3); rw [HF21.out, if_pos hc]
          rw [decide_eq_true hc]
          clear hc
          go_wp2
          go_meet
          case rel => exact ⟨by rw [HF.out]; rfl, hW⟩
        · have HF : Hid (f2 = f1) := by (show f2 = f1); rw [HF21.out, if_neg hc]
          rw [decide_eq_false hc]
          clear hc
          go_wp2
          go_meet
          case rel => exact ⟨by rw [HF.out], hW⟩
      case rest =>
        clear hW
        obtain ⟨rfl, hW⟩ := hcut
        have HR2 : Hid (f2 = 0 → bad n0 R0 = 0 ∧ bad n1 R1 = 0 ∧ (n0 = 0 ∨ wd n0 R0 = n1)) := fun h => by
          rw [HF2.out] at h
          unfold mf at h
          split at h
          · omega
          · rename_i q1
            split at h
            · omega
            · rename_i q2
              split at h
              · omega
              · rename_i q3
                exact ⟨by simpa using q1, by simpa using q2, by omega⟩
        go_upto_if 61 with fail
        go_cut [14] from 61 to 61 (fun s14 wx => RdM wx s14 (cnt f2 n0) (rws (mm (wd n0 R0) (mx R0) (mx R1)) (wd n1 R1)) ∧ Below w.heap.size w wx)
        case first =>
          by_cases hf : f2 = 0
          · have hb : ((f2 : Int) == 0) = true := by rw [hf]; rfl
            obtain ⟨b1, b2, b3⟩ := HR2.out hf
            have C := rmat_any (.slice a0 n0 c0) (.slice a1 n1 c1) n0 (wd n0 R0) n1 (wd n1 R1) (mx R0) (mx R1) _ (Mt.rows (HA.out.old hW) b1 rfl) (Mt.rows (HB.out.old hW) b2 rfl) b3
            have HC : Hid (cnt f2 n0 = n0) := by (show cnt f2 n0 = n0); rw [cnt, if_pos hf]
            clear hf b1 b2 b3
            go_wp2_with fail
            refine C.mono ?_
            rintro e w5 ⟨v5, rv5, rfl, hO5, hB⟩
            replace hW := hW.trans (hB.mono hW.size)
            clear hB
            clear C
            go_wp2
            go_meet
            case rel => exact ⟨by rw [HC.out]; exact hO5.rd, hW⟩
          · have hb : ((f2 : Int) == 0) = false := by rw [beq_eq_false_iff_ne]; omega
            have HC : Hid (cnt f2 n0 = 0) := by (show cnt f2 n0 = 0); rw [cnt, if_neg hf]
            clear hf
            go_wp2
            go_meet
            case rel => exact ⟨by rw [HC.out]; exact rd_none _ _, hW⟩
        case rest =>
          clear hW
          obtain ⟨hRw, hW⟩ := hcut
          have C := mul_uni (.slice a0 n0 c0) (.slice a1 n1 c1) n0 n1 R0 R1 _ (HA.out.old hW) (HB.out.old hW)
          rw [← HF2.out] at C
          go_wp2_with fail
          refine C.mono ?_
          rintro e w6 ⟨v6, rfl, hR6, hB⟩
          replace hRw := hRw.old hB
          replace hW := hW.trans (hB.mono hW.size)
          clear hB
          clear C
          go_upto_region 12 with fail
          go_cut [17] from 17 to 17 (fun sx wx => sx = .bool true ∧ Below w.heap.size w wx)
          case first =>
            go_wp2_with fail
            refine (err_V f2 _ (HG.out.old hW)).mono ?_
            rintro e w7 ⟨rfl, hB⟩
            replace hRw := hRw.old hB
            replace hR6 := hR6.old hB
            replace hW := hW.trans (hB.mono hW.size)
            clear hB
            go_wp2_with fail
            refine (rows_same _ _ _ _ _ hR6 hRw).mono ?_
            rintro e w8 ⟨rfl, hB⟩
            replace hW := hW.trans (hB.mono hW.size)
            clear hB
            go_wp2
            go_meet
            case rel => exact ⟨rfl, hW⟩
          case rest =>
            clear hW
            obtain ⟨rfl, hW⟩ := hcut
            rename ∀ (a : Act) (w : World), Code.wp _ _ _ a w → _ => hK
            refine hK _ _ ?_
            exact mt3 a0 n0 c0 R0 a1 n1 c1 R1 i2 hi2 a3 n3 c3 xs a4 n4 c4 ys w HG HA z0 HB z1 HX HLX z3 HY HLY z4 ea HEA hea4 _ _ _ _ _ _ _ _ _ _ _ _ _ _ _ _ _ _ _ _ _ _ _ _ _ _ _ _ _ _ _ _ _ _ _ _ _ _ _ _ _ _ _ _ _ _ _ _ _ _ _ _ _ _ _ _ _ _ _ _ _ _ _ _ _ _ _ _ _ _ _ _ _ _ _ _ _ _ _ _ _ _ _ _ _ _ _ _ _ _ _ _ _ _ _ _ _ _ _ _ _ _ _ _ _ _ _ _ _ _ _ _ _ _ _ _ _ _ _ _ _ _ _ _ _ _ _ _ _ _ _ _ _ _ _ _ _ _ _ _ _ _ _ _ _ _ _ _ _ _ _ _ _ _ _ _ _ _ _ _ _ _ _ _ _ _ _ _ _ _ _ _ _ _ _ _ _ _ _ _ _ _ _ _ _ _ _ _ _ _ _ _ _ _ _ _ _ _ _ _ _ _ _ _ _ _ _ _ _ _ _ _ _ _ _ _ _ _ _ _ _ _ _ _ _ _ _ _ _ _ _ _ _ _ _ _ _ _ _ _ _ _ _ _ _ _ _ _ _ _ _ _ _ _ _ _ _ _ _ _ _ _ hW 
end Go.Proofs.YtcjokofebnfkkaaDoor
