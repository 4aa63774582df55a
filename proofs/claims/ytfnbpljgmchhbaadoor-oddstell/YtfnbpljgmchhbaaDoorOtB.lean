/- OddsTell, a part of it: walks over the program. -/
import Derived.Test.YtfnbpljgmchhbaaDoorOtC
namespace Go.Proofs.YtfnbpljgmchhbaaDoor
open Go.RowKit
set_option linter.unusedVariables false in
set_option maxRecDepth 1000000 in
set_option maxHeartbeats 8000000 in
theorem tellB (n k m fl par : Int) (n3 c3 : Nat) (a3 : Option Addr) (L : Nat → Nat) (F : Nat → Nat → Int) (w : World) (u6 u7 u8 u9 u10 u11 u12 u13 u14 u15 u16 u17 u18 u19 u20 u22 u23 u24 u25 u26 u27 u28 u29 u30 u31 u32 u33 u34 u35 u36 u37 u38 u39 u40 u41 u42 u43 u44 u45 u46 u47 u48 u49 u50 u51 u52 u53 u54 u55 u56 u57 u58 u59 u60 u61 u62 u63 u64 u65 u66 u67 u68 u69 u70 u71 u72 u73 u74 u75 u76 u77 u78 u79 u80 u81 u82 u83 u84 u85 u86 u87 u88 u89 u90 u91 u92 u93 u94 u95 u96 u97 u98 u99 u100 u101 u102 u103 u104 u105 u106 u107 u108 u109 u110 u111 u112 u113 u114 u115 u116 u117 u118 u119 u120 u121 u122 u123 u124 u125 u126 u127 u128 u129 u130 u131 u132 u133 u134 u135 u136 u137 u138 u139 u140 u141 u142 u143 u144 u145 u146 u147 u148 u149 u150 u151 u152 u153 u154 u155 u156 u157 u158 u159 u160 u161 u162 u163 u164 u165 u166 u167 u168 u169 u170 u171 u172 u173 u174 u175 u176 u177 u178 u179 u180 u181 u182 u183 : Value) (wc : World) (HG : Hid (Handle w)) (HR : Hid (RdII w (.slice a3 n3 c3) n3 L F)) (HB : Hid (Below w.heap.size w wc))  :
    Code.wp Tryd.prog (cut [1, 1, 1, 1, 1, 1] (Tryd.f3.body.getD .skip)) (bodyPost Tryd.prog Tryd.f3 fun e w' => e = .returned (.bool true) ∧ Below w.heap.size w w') ⟨#[.int .i64 n, .int .i64 k, .int .i64 m, .slice a3 n3 c3, .int .i64 fl, .int .i64 par, u6, u7, u8, u9, u10, u11, u12, u13, u14, u15, u16, u17, u18, u19, u20, .bool true, u22, u23, u24, u25, u26, u27, u28, u29, u30, u31, u32, u33, u34, u35, u36, u37, u38, u39, u40, u41, u42, u43, u44, u45, u46, u47, u48, u49, u50, u51, u52, u53, u54, u55, u56, u57, u58, u59, u60, u61, u62, u63, u64, u65, u66, u67, u68, u69, u70, u71, u72, u73, u74, u75, u76, u77, u78, u79, u80, u81, u82, u83, u84, u85, u86, u87, u88, u89, u90, u91, u92, u93, u94, u95, u96, u97, u98, u99, u100, u101, u102, u103, u104, u105, u106, u107, u108, u109, u110, u111, u112, u113, u114, u115, u116, u117, u118, u119, u120, u121, u122, u123, u124, u125, u126, u127, u128, u129, u130, u131, u132, u133, u134, u135, u136, u137, u138, u139, u140, u141, u142, u143, u144, u145, u146, u147, u148, u149, u150, u151, u152, u153, u154, u155, u156, u157, u158, u159, u160, u161, u162, u163, u164, u165, u166, u167, u168, u169, u170, u171, u172, u173, u174, u175, u176, u177, u178, u179, u180, u181, u182, u183], []⟩ wc := by
  conv => arg 2; whnf
  have S := stripes_any m (.slice a3 n3 c3) n3 L F wc (HR.out.old HB.out)
  by_cases hc : stE m n3 L F = 0
  · have HC0 : Hid ((0 : Int) = ((stE m n3 L F : Nat) : Int)) := by (show _ = _); rw [hc]; rfl
    rw [hc] at S
    have S : Calls Tryd.prog 7 #[.int .i64 m, .slice a3 n3 c3] wc fun e w' => e = .returned (.int .i64 0) ∧ Below wc.heap.size wc w' := S
    have ho := stE_zero.1 hc
    have HO : Hid (StOk m n3 L F) := ho
    clear hc ho
    refine wp_seq_k fun K hK => ?_
    have HK : Hid _ := hK
    clear hK
    go_wp2_with fail
    refine S.mono ?_
    rintro e w4 ⟨rfl, hB4⟩
    have HBx : Hid (Below w.heap.size w w4) := HB.out.trans (hB4.mono HB.out.size)
    clear S hB4 HB
    go_wp2
    refine HK.out _ _ ?_
    clear HK K
    refine wp_seq_k fun K hK => ?_
    have HK : Hid _ := hK
    clear hK
    go_wp2
    refine HK.out _ _ ?_
    clear HK K
    by_cases q : fl < 0 ∨ m < fl ∨ par < 0 ∨ 10 < par
    · have e1 := ftE_bad HO.out q
      have C := fatal_any m fl par (HR.out.old HBx.out)
      rw [ftV_bad (by rw [e1]; omega), e1] at C
      have C : Calls Tryd.prog 9 #[.int .i64 m, .slice a3 n3 c3, .int .i64 fl, .int .i64 par] w4 fun e w' => e = .returned (.tuple #[.int .i64 0, errV 1]) ∧ Below w4.heap.size w4 w' := C
      clear e1
      by_cases h1 : fl < 0
      · have d1 : decide (fl < 0) = true := decide_eq_true h1
        clear q
        refine wp_seq_k fun K hK => ?_
        have HK : Hid _ := hK
        clear hK
        go_wp2
        refine HK.out _ _ ?_
        clear HK K
        refine wp_seq_k fun K hK => ?_
        have HK : Hid _ := hK
        clear hK
        go_wp2
        refine HK.out _ _ ?_
        clear HK K
        refine wp_seq_k fun K hK => ?_
        have HK : Hid _ := hK
        clear hK
        go_wp2
        refine HK.out _ _ ?_
        clear HK K
        refine wp_seq_k fun K hK => ?_
        have HK : Hid _ := hK
        clear hK
        go_wp2_with fail
        refine C.mono ?_
        rintro e w5 ⟨rfl, hB5⟩
        have HB5 : Hid (Below w.heap.size w w5) := HBx.out.trans (hB5.mono HBx.out.size)
        have E5 := err_v 1 w5 (HG.out.old HB5.out)
        have E5 : Calls Tryd.prog 6 #[errV 1, .int .i64 1] w5 fun e w' => e = .returned (.bool true) ∧ Below w5.heap.size w5 w' := E5
        clear C hB5
        go_wp2
        refine HK.out _ _ ?_
        clear HK
        refine wp_seq_k fun K2 hK => ?_
        have HK2 : Hid _ := hK
        clear hK
        go_wp2_with fail
        refine E5.mono ?_
        rintro e w6 ⟨rfl, hB6⟩
        have HB6 : Hid (Below w.heap.size w w6) := HB5.out.trans (hB6.mono HB5.out.size)
        clear E5 hB6 HB5
        go_wp2
        refine HK2.out _ _ ?_
        clear HK2
        exact tellC n k m fl par n3 c3 a3 L F w 0 _ _ _ _ _ _ _ _ _ _ _ _ _ _ _ _ _ _ _ _ _ _ _ _ _ _ _ _ _ _ _ _ _ _ _ _ _ _ _ _ _ _ _ _ _ _ _ _ _ _ _ _ _ _ _ _ _ _ _ _ _ _ _ _ _ _ _ _ _ _ _ _ _ _ _ _ _ _ _ _ _ _ _ _ _ _ _ _ _ _ _ _ _ _ _ _ _ _ _ _ _ _ _ _ _ _ _ _ _ _ _ _ _ _ _ _ _ _ _ _ _ _ _ _ _ _ _ _ _ _ _ _ _ _ _ _ _ _ _ _ _ _ _ _ _ _ _ _ _ _ _ _ _ _ _ _ _ _ _ _ _ _ _ _ _ _ _ _ _ _ _ _ _ _ _ _ HG HR HB6 HC0
      · have d1 : decide (fl < 0) = false := decide_eq_false h1
        by_cases h2 : m < fl
        · have d2 : decide (m < fl) = true := decide_eq_true h2
          clear q
          refine wp_seq_k fun K hK => ?_
          have HK : Hid _ := hK
          clear hK
          go_wp2
          refine HK.out _ _ ?_
          clear HK K
          refine wp_seq_k fun K hK => ?_
          have HK : Hid _ := hK
          clear hK
          go_wp2
          refine HK.out _ _ ?_
          clear HK K
          refine wp_seq_k fun K hK => ?_
          have HK : Hid _ := hK
          clear hK
          go_wp2
          refine HK.out _ _ ?_
          clear HK K
          refine wp_seq_k fun K hK => ?_
          have HK : Hid _ := hK
          clear hK
          go_wp2_with fail
          refine C.mono ?_
          rintro e w5 ⟨rfl, hB5⟩
          have HB5 : Hid (Below w.heap.size w w5) := HBx.out.trans (hB5.mono HBx.out.size)
          have E5 := err_v 1 w5 (HG.out.old HB5.out)
          have E5 : Calls Tryd.prog 6 #[errV 1, .int .i64 1] w5 fun e w' => e = .returned (.bool true) ∧ Below w5.heap.size w5 w' := E5
          clear C hB5
          go_wp2
          refine HK.out _ _ ?_
          clear HK
          refine wp_seq_k fun K2 hK => ?_
          have HK2 : Hid _ := hK
          clear hK
          go_wp2_with fail
          refine E5.mono ?_
          rintro e w6 ⟨rfl, hB6⟩
          have HB6 : Hid (Below w.heap.size w w6) := HB5.out.trans (hB6.mono HB5.out.size)
          clear E5 hB6 HB5
          go_wp2
          refine HK2.out _ _ ?_
          clear HK2
          exact tellC n k m fl par n3 c3 a3 L F w 0 _ _ _ _ _ _ _ _ _ _ _ _ _ _ _ _ _ _ _ _ _ _ _ _ _ _ _ _ _ _ _ _ _ _ _ _ _ _ _ _ _ _ _ _ _ _ _ _ _ _ _ _ _ _ _ _ _ _ _ _ _ _ _ _ _ _ _ _ _ _ _ _ _ _ _ _ _ _ _ _ _ _ _ _ _ _ _ _ _ _ _ _ _ _ _ _ _ _ _ _ _ _ _ _ _ _ _ _ _ _ _ _ _ _ _ _ _ _ _ _ _ _ _ _ _ _ _ _ _ _ _ _ _ _ _ _ _ _ _ _ _ _ _ _ _ _ _ _ _ _ _ _ _ _ _ _ _ _ _ _ _ _ _ _ _ _ _ _ _ _ _ _ _ _ _ _ HG HR HB6 HC0
        · have d2 : decide (m < fl) = false := decide_eq_false h2
          by_cases h3 : par < 0
          · have d3 : decide (par < 0) = true := decide_eq_true h3
            clear q
            refine wp_seq_k fun K hK => ?_
            have HK : Hid _ := hK
            clear hK
            go_wp2
            refine HK.out _ _ ?_
            clear HK K
            refine wp_seq_k fun K hK => ?_
            have HK : Hid _ := hK
            clear hK
            go_wp2
            refine HK.out _ _ ?_
            clear HK K
            refine wp_seq_k fun K hK => ?_
            have HK : Hid _ := hK
            clear hK
            go_wp2
            refine HK.out _ _ ?_
            clear HK K
            refine wp_seq_k fun K hK => ?_
            have HK : Hid _ := hK
            clear hK
            go_wp2_with fail
            refine C.mono ?_
            rintro e w5 ⟨rfl, hB5⟩
            have HB5 : Hid (Below w.heap.size w w5) := HBx.out.trans (hB5.mono HBx.out.size)
            have E5 := err_v 1 w5 (HG.out.old HB5.out)
            have E5 : Calls Tryd.prog 6 #[errV 1, .int .i64 1] w5 fun e w' => e = .returned (.bool true) ∧ Below w5.heap.size w5 w' := E5
            clear C hB5
            go_wp2
            refine HK.out _ _ ?_
            clear HK
            refine wp_seq_k fun K2 hK => ?_
            have HK2 : Hid _ := hK
            clear hK
            go_wp2_with fail
            refine E5.mono ?_
            rintro e w6 ⟨rfl, hB6⟩
            have HB6 : Hid (Below w.heap.size w w6) := HB5.out.trans (hB6.mono HB5.out.size)
            clear E5 hB6 HB5
            go_wp2
            refine HK2.out _ _ ?_
            clear HK2
            exact tellC n k m fl par n3 c3 a3 L F w 0 _ _ _ _ _ _ _ _ _ _ _ _ _ _ _ _ _ _ _ _ _ _ _ _ _ _ _ _ _ _ _ _ _ _ _ _ _ _ _ _ _ _ _ _ _ _ _ _ _ _ _ _ _ _ _ _ _ _ _ _ _ _ _ _ _ _ _ _ _ _ _ _ _ _ _ _ _ _ _ _ _ _ _ _ _ _ _ _ _ _ _ _ _ _ _ _ _ _ _ _ _ _ _ _ _ _ _ _ _ _ _ _ _ _ _ _ _ _ _ _ _ _ _ _ _ _ _ _ _ _ _ _ _ _ _ _ _ _ _ _ _ _ _ _ _ _ _ _ _ _ _ _ _ _ _ _ _ _ _ _ _ _ _ _ _ _ _ _ _ _ _ _ _ _ _ _ HG HR HB6 HC0
          · have d3 : decide (par < 0) = false := decide_eq_false h3
            have h4 : 10 < par := by omega
            have d4 : decide (10 < par) = true := decide_eq_true h4
            clear q
            refine wp_seq_k fun K hK => ?_
            have HK : Hid _ := hK
            clear hK
            go_wp2
            refine HK.out _ _ ?_
            clear HK K
            refine wp_seq_k fun K hK => ?_
            have HK : Hid _ := hK
            clear hK
            go_wp2
            refine HK.out _ _ ?_
            clear HK K
            refine wp_seq_k fun K hK => ?_
            have HK : Hid _ := hK
            clear hK
            go_wp2
            refine HK.out _ _ ?_
            clear HK K
            refine wp_seq_k fun K hK => ?_
            have HK : Hid _ := hK
            clear hK
            go_wp2_with fail
            refine C.mono ?_
            rintro e w5 ⟨rfl, hB5⟩
            have HB5 : Hid (Below w.heap.size w w5) := HBx.out.trans (hB5.mono HBx.out.size)
            have E5 := err_v 1 w5 (HG.out.old HB5.out)
            have E5 : Calls Tryd.prog 6 #[errV 1, .int .i64 1] w5 fun e w' => e = .returned (.bool true) ∧ Below w5.heap.size w5 w' := E5
            clear C hB5
            go_wp2
            refine HK.out _ _ ?_
            clear HK
            refine wp_seq_k fun K2 hK => ?_
            have HK2 : Hid _ := hK
            clear hK
            go_wp2_with fail
            refine E5.mono ?_
            rintro e w6 ⟨rfl, hB6⟩
            have HB6 : Hid (Below w.heap.size w w6) := HB5.out.trans (hB6.mono HB5.out.size)
            clear E5 hB6 HB5
            go_wp2
            refine HK2.out _ _ ?_
            clear HK2
            exact tellC n k m fl par n3 c3 a3 L F w 0 _ _ _ _ _ _ _ _ _ _ _ _ _ _ _ _ _ _ _ _ _ _ _ _ _ _ _ _ _ _ _ _ _ _ _ _ _ _ _ _ _ _ _ _ _ _ _ _ _ _ _ _ _ _ _ _ _ _ _ _ _ _ _ _ _ _ _ _ _ _ _ _ _ _ _ _ _ _ _ _ _ _ _ _ _ _ _ _ _ _ _ _ _ _ _ _ _ _ _ _ _ _ _ _ _ _ _ _ _ _ _ _ _ _ _ _ _ _ _ _ _ _ _ _ _ _ _ _ _ _ _ _ _ _ _ _ _ _ _ _ _ _ _ _ _ _ _ _ _ _ _ _ _ _ _ _ _ _ _ _ _ _ _ _ _ _ _ _ _ _ _ _ _ _ _ _ HG HR HB6 HC0
    · have e1 := ftE_ok HO.out q
      have C := fatal_any m fl par (HR.out.old HBx.out)
      rw [ftV_ok e1, e1] at C
      have hn1 := HO.out.n1
      have hn2 := HO.out.n2
      obtain ⟨nn, rfl⟩ : ∃ nn : Nat, m = (nn : Int) := ⟨m.toNat, by omega⟩
      obtain ⟨f, rfl⟩ : ∃ f : Nat, fl = (f : Int) := ⟨fl.toNat, by omega⟩
      obtain ⟨p, rfl⟩ : ∃ p : Nat, par = (p : Int) := ⟨par.toNat, by omega⟩
      simp only [Int.toNat_natCast] at C
      have d1 : decide ((f : Int) < 0) = false := decide_eq_false (by omega)
      have d2 : decide ((nn : Int) < (f : Int)) = false := decide_eq_false (by omega)
      have hnf : ¬ nn < f := by omega
      have hfn : f ≤ nn := by omega
      have d2' : decide (nn < f) = false := decide_eq_false hnf
      have d3 : decide ((p : Int) < 0) = false := decide_eq_false (by omega)
      have d4 : decide ((10 : Int) < (p : Int)) = false := decide_eq_false (by omega)
      have T := rfatal_ok (n := nn) (f := f) (p := p) (HR.out.old HBx.out) HO.out
      obtain ⟨c, hcc⟩ : ∃ c, c = ftn (hsI L F) n3 nn f p := ⟨_, rfl⟩
      have HCC : Hid (c = ftn (hsI L F) n3 nn f p) := hcc
      have HQ : Hid (¬ ((f : Int) < 0 ∨ (nn : Int) < (f : Int) ∨ (p : Int) < 0 ∨ 10 < (p : Int))) := q
      rw [← hcc] at T
      clear e1 q hcc C
      refine wp_seq_k fun K hK => ?_
      have HK : Hid _ := hK
      clear hK
      go_wp2
      refine HK.out _ _ ?_
      clear HK K
      refine wp_seq_k fun K hK => ?_
      have HK : Hid _ := hK
      clear hK
      go_wp2
      refine HK.out _ _ ?_
      clear HK K
      refine wp_seq_k fun K hK => ?_
      have HK : Hid _ := hK
      clear hK
      go_wp2_with fail
      refine T.mono ?_
      rintro e w9 ⟨rfl, hB9⟩
      have HB9 : Hid (Below w.heap.size w w9) := HBx.out.trans (hB9.mono HBx.out.size)
      have C := fatal_any (nn : Int) (f : Int) (p : Int) (HR.out.old HB9.out)
      rw [ftV_ok (ftE_ok HO.out HQ.out), ftE_ok HO.out HQ.out] at C
      simp only [Int.toNat_natCast] at C
      rw [← HCC.out] at C
      have C : Calls Tryd.prog 9 #[.int .i64 (nn : Int), .slice a3 n3 c3, .int .i64 (f : Int), .int .i64 (p : Int)] w9 fun e w' => e = .returned (.tuple #[.int .i64 (c : Int), .nilIface]) ∧ Below w9.heap.size w9 w' := C
      clear T hB9 HBx HCC
      have HBx : Hid (Below w.heap.size w w9) := HB9.out
      clear HB9
      go_wp2
      refine HK.out _ _ ?_
      clear HK
      refine wp_seq_k fun K hK => ?_
      have HK : Hid _ := hK
      clear hK
      go_wp2_with fail
      refine C.mono ?_
      rintro e w5 ⟨rfl, hB5⟩
      have HB5 : Hid (Below w.heap.size w w5) := HBx.out.trans (hB5.mono HBx.out.size)
      have E5 := err_v 0 w5 (HG.out.old HB5.out)
      have E5 : Calls Tryd.prog 6 #[.nilIface, .int .i64 0] w5 fun e w' => e = .returned (.bool true) ∧ Below w5.heap.size w5 w' := E5
      clear C hB5
      go_wp2
      refine HK.out _ _ ?_
      clear HK
      refine wp_seq_k fun K2 hK => ?_
      have HK2 : Hid _ := hK
      clear hK
      go_wp2_with fail
      refine E5.mono ?_
      rintro e w6 ⟨rfl, hB6⟩
      have HB6 : Hid (Below w.heap.size w w6) := HB5.out.trans (hB6.mono HB5.out.size)
      clear E5 hB6 HB5
      go_wp2
      refine HK2.out _ _ ?_
      clear HK2
      exact tellC n k _ _ _ n3 c3 a3 L F w 0 _ _ _ _ _ _ _ _ _ _ _ _ _ _ _ _ _ _ _ _ _ _ _ _ _ _ _ _ _ _ _ _ _ _ _ _ _ _ _ _ _ _ _ _ _ _ _ _ _ _ _ _ _ _ _ _ _ _ _ _ _ _ _ _ _ _ _ _ _ _ _ _ _ _ _ _ _ _ _ _ _ _ _ _ _ _ _ _ _ _ _ _ _ _ _ _ _ _ _ _ _ _ _ _ _ _ _ _ _ _ _ _ _ _ _ _ _ _ _ _ _ _ _ _ _ _ _ _ _ _ _ _ _ _ _ _ _ _ _ _ _ _ _ _ _ _ _ _ _ _ _ _ _ _ _ _ _ _ _ _ _ _ _ _ _ _ _ _ _ _ _ _ _ _ _ _ HG HR HB6 HC0
  · obtain ⟨c, hcc⟩ : ∃ c, c = stE m n3 L F := ⟨_, rfl⟩
    have HC1 : Hid ((c : Int) = ((stE m n3 L F : Nat) : Int)) := by (show _ = _); rw [hcc]
    have HCC : Hid (c = stE m n3 L F) := hcc
    have HN : Hid (stE m n3 L F ≠ 0) := hc
    rw [← hcc] at hc S
    have hz1 : ((c : Int) == 0) = false := by rw [beq_eq_false_iff_ne]; omega
    have hz2 : ¬ (c : Int) = 0 := by omega
    clear hcc
    refine wp_seq_k fun K hK => ?_
    have HK : Hid _ := hK
    clear hK
    go_wp2_with fail
    refine S.mono ?_
    rintro e w4 ⟨rfl, hB4⟩
    have HBx : Hid (Below w.heap.size w w4) := HB.out.trans (hB4.mono HB.out.size)
    clear S hB4 HB
    go_wp2
    refine HK.out _ _ ?_
    clear HK K
    have C := fatal_any m fl par (HR.out.old HBx.out)
    rw [ftV_bad (by rw [ftE_st HN.out]; exact HN.out), ftE_st HN.out, ← HCC.out] at C
    have C : Calls Tryd.prog 9 #[.int .i64 m, .slice a3 n3 c3, .int .i64 fl, .int .i64 par] w4 fun e w' => e = .returned (.tuple #[.int .i64 0, errV c]) ∧ Below w4.heap.size w4 w' := C
    refine wp_seq_k fun K hK => ?_
    have HK : Hid _ := hK
    clear hK
    go_wp2
    refine HK.out _ _ ?_
    clear HK K
    refine wp_seq_k fun K hK => ?_
    have HK : Hid _ := hK
    clear hK
    go_wp2
    refine HK.out _ _ ?_
    clear HK K
    refine wp_seq_k fun K hK => ?_
    have HK : Hid _ := hK
    clear hK
    go_wp2
    refine HK.out _ _ ?_
    clear HK K
    refine wp_seq_k fun K hK => ?_
    have HK : Hid _ := hK
    clear hK
    go_wp2
    refine HK.out _ _ ?_
    clear HK K
    refine wp_seq_k fun K hK => ?_
    have HK : Hid _ := hK
    clear hK
    go_wp2_with fail
    refine C.mono ?_
    rintro e w5 ⟨rfl, hB5⟩
    have HB5 : Hid (Below w.heap.size w w5) := HBx.out.trans (hB5.mono HBx.out.size)
    have E5 := err_v c w5 (HG.out.old HB5.out)
    have E5 : Calls Tryd.prog 6 #[errV c, .int .i64 c] w5 fun e w' => e = .returned (.bool true) ∧ Below w5.heap.size w5 w' := E5
    clear C hB5
    go_wp2
    refine HK.out _ _ ?_
    clear HK
    refine wp_seq_k fun K2 hK => ?_
    have HK2 : Hid _ := hK
    clear hK
    go_wp2_with fail
    refine E5.mono ?_
    rintro e w6 ⟨rfl, hB6⟩
    have HB6 : Hid (Below w.heap.size w w6) := HB5.out.trans (hB6.mono HB5.out.size)
    clear E5 hB6 HB5
    go_wp2
    refine HK2.out _ _ ?_
    clear HK2
    exact tellC n k m fl par n3 c3 a3 L F w (c : Int) _ _ _ _ _ _ _ _ _ _ _ _ _ _ _ _ _ _ _ _ _ _ _ _ _ _ _ _ _ _ _ _ _ _ _ _ _ _ _ _ _ _ _ _ _ _ _ _ _ _ _ _ _ _ _ _ _ _ _ _ _ _ _ _ _ _ _ _ _ _ _ _ _ _ _ _ _ _ _ _ _ _ _ _ _ _ _ _ _ _ _ _ _ _ _ _ _ _ _ _ _ _ _ _ _ _ _ _ _ _ _ _ _ _ _ _ _ _ _ _ _ _ _ _ _ _ _ _ _ _ _ _ _ _ _ _ _ _ _ _ _ _ _ _ _ _ _ _ _ _ _ _ _ _ _ _ _ _ _ _ _ _ _ _ _ _ _ _ _ _ _ _ _ _ _ _ HG HR HB6 HC1
end Go.Proofs.YtfnbpljgmchhbaaDoor
