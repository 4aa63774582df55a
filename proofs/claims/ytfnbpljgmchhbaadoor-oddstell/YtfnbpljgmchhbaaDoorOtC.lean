/- OddsTell, a part of it: walks over the program. -/
import Derived.Test.YtfnbpljgmchhbaaDoorRfF
import Derived.Test.YtfnbpljgmchhbaaDoorRpS
import Derived.Test.YtfnbpljgmchhbaaDoorOdWo
import Derived.Test.YtfnbpljgmchhbaaDoorErrw
import Derived.Test.YtfnbpljgmchhbaaDoorCuts
import Derived.Deep.Cut
import Derived.Deep.CutRange
import Derived.BigCall
import Derived.BigGuard
namespace Go.Proofs.YtfnbpljgmchhbaaDoor
open Go.RowKit
theorem fsz_neg (p : Nat → Bool) (n : Nat) (h : fsz p n < 0) : fsz p n = -1 := by
  rcases fsz_ways p n with ⟨e, _⟩ | ⟨i, _, e, _⟩
  · exact e
  · omega
theorem fsz_stays {p : Nat → Bool} {i : Nat} (h : 0 ≤ fsz p i) : ∀ {n}, i ≤ n → fsz p i = fsz p n := by
  intro n hn
  obtain ⟨d, rfl⟩ : ∃ d, n = i + d := ⟨n - i, by omega⟩
  clear hn
  induction d with
  | zero => rfl
  | succ d ih => show _ = (if 0 ≤ fsz p (i + d) then fsz p (i + d) else _); rw [if_pos (by omega)]; exact ih

set_option linter.unusedVariables false in
set_option maxRecDepth 1000000 in
set_option maxHeartbeats 8000000 in
theorem tellC (n k m fl par : Int) (n3 c3 : Nat) (a3 : Option Addr) (L : Nat → Nat) (F : Nat → Nat → Int) (w : World) (e0 : Int) (u6 u7 u8 u9 u10 u11 u12 u13 u14 u15 u16 u17 u18 u19 u20 u24 u25 u26 u27 u28 u29 u30 u31 u32 u33 u34 u35 u36 u37 u38 u39 u40 u41 u42 u43 u44 u45 u46 u47 u48 u49 u50 u51 u52 u53 u54 u55 u56 u57 u58 u59 u60 u61 u62 u63 u64 u65 u66 u67 u68 u69 u70 u71 u72 u73 u74 u75 u76 u77 u78 u79 u80 u81 u82 u83 u84 u85 u86 u87 u88 u89 u90 u91 u92 u93 u94 u95 u96 u97 u98 u99 u100 u101 u102 u103 u104 u105 u106 u107 u108 u109 u110 u111 u112 u113 u114 u115 u116 u117 u118 u119 u120 u121 u122 u123 u124 u125 u126 u127 u128 u129 u130 u131 u132 u133 u134 u135 u136 u137 u138 u139 u140 u141 u142 u143 u144 u145 u146 u147 u148 u149 u150 u151 u152 u153 u154 u155 u156 u157 u158 u159 u160 u161 u162 u163 u164 u165 u166 u167 u168 u169 u170 u171 u172 u173 u174 u175 u176 u177 u178 u179 u180 u181 u182 u183 : Value) (wc : World) (HG : Hid (Handle w)) (HR : Hid (RdII w (.slice a3 n3 c3) n3 L F)) (HB : Hid (Below w.heap.size w wc)) (HC : Hid (e0 = ((stE m n3 L F : Nat) : Int))) :
    Code.wp Tryd.prog (cut [1, 1, 1, 1, 1, 1, 1, 1, 1, 1, 1, 1, 1] (Tryd.f3.body.getD .skip)) (bodyPost Tryd.prog Tryd.f3 fun e w' => e = .returned (.bool true) ∧ Below w.heap.size w w') ⟨#[.int .i64 n, .int .i64 k, .int .i64 m, .slice a3 n3 c3, .int .i64 fl, .int .i64 par, u6, u7, u8, u9, u10, u11, u12, u13, u14, u15, u16, u17, u18, u19, u20, .bool true, .int .i64 e0, .bool true, u24, u25, u26, u27, u28, u29, u30, u31, u32, u33, u34, u35, u36, u37, u38, u39, u40, u41, u42, u43, u44, u45, u46, u47, u48, u49, u50, u51, u52, u53, u54, u55, u56, u57, u58, u59, u60, u61, u62, u63, u64, u65, u66, u67, u68, u69, u70, u71, u72, u73, u74, u75, u76, u77, u78, u79, u80, u81, u82, u83, u84, u85, u86, u87, u88, u89, u90, u91, u92, u93, u94, u95, u96, u97, u98, u99, u100, u101, u102, u103, u104, u105, u106, u107, u108, u109, u110, u111, u112, u113, u114, u115, u116, u117, u118, u119, u120, u121, u122, u123, u124, u125, u126, u127, u128, u129, u130, u131, u132, u133, u134, u135, u136, u137, u138, u139, u140, u141, u142, u143, u144, u145, u146, u147, u148, u149, u150, u151, u152, u153, u154, u155, u156, u157, u158, u159, u160, u161, u162, u163, u164, u165, u166, u167, u168, u169, u170, u171, u172, u173, u174, u175, u176, u177, u178, u179, u180, u181, u182, u183], []⟩ wc := by
  conv => arg 2; whnf
  by_cases hc : stE m n3 L F = 0
  · obtain rfl : e0 = 0 := by rw [HC.out, hc]; rfl
    have ho := stE_zero.1 hc
    by_cases hp : par < 0 ∨ 10 < par
    · have e1 := wsE_bad ho hp
      have HBx : Hid (Below w.heap.size w wc) := HB.out
      have C := worst_any m par (HR.out.old HBx.out)
      rw [wsV_bad (by rw [e1]; omega), e1] at C
      clear e1 ho hc HB
      by_cases h1 : par < 0
      · have d1 : decide (par < 0) = true := decide_eq_true h1
        clear hp
        refine wp_seq_k fun K hK => ?_
        have HK : Hid _ := hK
        clear hK
        go_wp2
        refine HK.out _ _ ?_
        clear HK K
        refine wp_seq_k fun K hK => ?_
        have HK : Hid _ := hK
        clear hK
        go_wp2
        refine HK.out _ _ ?_
        clear HK K
        refine wp_seq_k fun K hK => ?_
        have HK : Hid _ := hK
        clear hK
        go_wp2
        refine HK.out _ _ ?_
        clear HK K
        refine wp_seq_k fun K hK => ?_
        have HK : Hid _ := hK
        clear hK
        go_wp2_with fail
        refine C.mono ?_
        rintro e w5 ⟨rfl, hB5⟩
        have HB5 : Hid (Below w.heap.size w w5) := HBx.out.trans (hB5.mono HBx.out.size)
        have E5 := err_v 1 w5 (HG.out.old HB5.out)
        have E5 : Calls Tryd.prog 6 #[errV 1, .int .i64 1] w5 fun e w' => e = .returned (.bool true) ∧ Below w5.heap.size w5 w' := E5
        clear C hB5
        go_wp2
        refine HK.out _ _ ?_
        clear HK
        refine wp_seq_k fun K2 hK => ?_
        have HK2 : Hid _ := hK
        clear hK
        go_wp2_with fail
        refine E5.mono ?_
        rintro e w6 ⟨rfl, hB6⟩
        have HB6 : Hid (Below w.heap.size w w6) := HB5.out.trans (hB6.mono HB5.out.size)
        clear E5 hB6 HB5
        go_wp2
        refine HK2.out _ _ ?_
        clear HK2
        go_wp2
        go_ret
        exact ⟨rfl, HB6.out⟩
      · have d1 : decide (par < 0) = false := decide_eq_false h1
        have h2 : 10 < par := by omega
        have d2 : decide (10 < par) = true := decide_eq_true h2
        clear hp
        refine wp_seq_k fun K hK => ?_
        have HK : Hid _ := hK
        clear hK
        go_wp2
        refine HK.out _ _ ?_
        clear HK K
        refine wp_seq_k fun K hK => ?_
        have HK : Hid _ := hK
        clear hK
        go_wp2
        refine HK.out _ _ ?_
        clear HK K
        refine wp_seq_k fun K hK => ?_
        have HK : Hid _ := hK
        clear hK
        go_wp2
        refine HK.out _ _ ?_
        clear HK K
        refine wp_seq_k fun K hK => ?_
        have HK : Hid _ := hK
        clear hK
        go_wp2_with fail
        refine C.mono ?_
        rintro e w5 ⟨rfl, hB5⟩
        have HB5 : Hid (Below w.heap.size w w5) := HBx.out.trans (hB5.mono HBx.out.size)
        have E5 := err_v 1 w5 (HG.out.old HB5.out)
        have E5 : Calls Tryd.prog 6 #[errV 1, .int .i64 1] w5 fun e w' => e = .returned (.bool true) ∧ Below w5.heap.size w5 w' := E5
        clear C hB5
        go_wp2
        refine HK.out _ _ ?_
        clear HK
        refine wp_seq_k fun K2 hK => ?_
        have HK2 : Hid _ := hK
        clear hK
        go_wp2_with fail
        refine E5.mono ?_
        rintro e w6 ⟨rfl, hB6⟩
        have HB6 : Hid (Below w.heap.size w w6) := HB5.out.trans (hB6.mono HB5.out.size)
        clear E5 hB6 HB5
        go_wp2
        refine HK2.out _ _ ?_
        clear HK2
        go_wp2
        go_ret
        exact ⟨rfl, HB6.out⟩
    · have e1 := wsE_ok ho hp
      have hn1 := ho.n1
      have hn2 := ho.n2
      have hm := ho.m1
      obtain ⟨nn, rfl⟩ : ∃ nn : Nat, m = (nn : Int) := ⟨m.toNat, by omega⟩
      obtain ⟨p, rfl⟩ : ∃ p : Nat, par = (p : Int) := ⟨par.toNat, by omega⟩
      have d1 : decide ((p : Int) < 0) = false := decide_eq_false (by omega)
      have d2 : decide ((10 : Int) < (p : Int)) = false := decide_eq_false (by omega)
      have HO : Hid (StOk (nn : Int) n3 L F) := ho
      have HW : Hid (wsV (nn : Int) n3 L F (p : Int) = fsz (fun f => decide (0 < ftn (hsI L F) n3 nn f p)) (nn + 1)) := by (show _ = _); rw [wsV_ok e1, Int.toNat_natCast, Int.toNat_natCast]; rfl
      have HE : Hid (wsE (nn : Int) n3 L F (p : Int) = 0) := e1
      clear e1 ho hc hp
      refine wp_seq_k fun K hK => ?_
      have HK : Hid _ := hK
      clear hK
      go_wp2
      refine HK.out _ _ ?_
      clear HK K
      refine wp_seq_k fun K hK => ?_
      have HK : Hid _ := hK
      clear hK
      go_wp2
      refine HK.out _ _ ?_
      clear HK K
      refine wp_seq_k fun K hK => ?_
      have HK : Hid _ := hK
      clear hK
      go_wp2
      go_loopw [14, 24] (fun o t wr => ∃ i : Nat, i ≤ nn + 1 ∧ o = .int .i64 (fsz (fun f => decide (0 < ftn (hsI L F) n3 nn f p)) i) ∧ t = .int .i64 i ∧ Below w.heap.size w wr) (fun _ t _ => nn + 1 - (intOf t).toNat)
      case atStart => exact ⟨0, Nat.zero_le _, rfl, rfl, HB.out⟩
      case round =>
        clear HB
        obtain ⟨i, hi, rfl, rfl, hB⟩ := hrel
        have HBr : Hid (Below w.heap.size w wr) := hB
        have HF : Hid (fsz (fun f => decide (0 < ftn (hsI L F) n3 nn f p)) (i + 1) = if 0 ≤ fsz (fun f => decide (0 < ftn (hsI L F) n3 nn f p)) i then fsz (fun f => decide (0 < ftn (hsI L F) n3 nn f p)) i else if decide (0 < ftn (hsI L F) n3 nn i p) = true then (i : Int) else -1) := rfl
        have HL : Hid (0 ≤ fsz (fun f => decide (0 < ftn (hsI L F) n3 nn f p)) i → fsz (fun f => decide (0 < ftn (hsI L F) n3 nn f p)) i = fsz (fun f => decide (0 < ftn (hsI L F) n3 nn f p)) (nn + 1)) := fun h => fsz_stays h hi
        have HLe : Hid (i = nn + 1 → fsz (fun f => decide (0 < ftn (hsI L F) n3 nn f p)) i = fsz (fun f => decide (0 < ftn (hsI L F) n3 nn f p)) (nn + 1)) := fun h => by rw [h]
        have hx1 : fsz (fun f => decide (0 < ftn (hsI L F) n3 nn f p)) i < 0 → fsz (fun f => decide (0 < ftn (hsI L F) n3 nn f p)) i = -1 := fsz_neg _ _
        have T := rfatal_ok (n := nn) (f := i) (p := p) (HR.out.old hB) HO.out
        have hcl : ftn (hsI L F) n3 nn i p ≤ 2 ^ nn := cn_le _ _
        have hpw : 2 ^ nn ≤ 2 ^ 10 := Nat.pow_le_pow_right (n := 2) (by omega) (by omega)
        have hcl : ftn (hsI L F) n3 nn i p ≤ 1024 := Nat.le_trans hcl hpw
        clear hB hpw
        obtain ⟨x, hx⟩ : ∃ x, x = fsz (fun f => decide (0 < ftn (hsI L F) n3 nn f p)) i := ⟨_, rfl⟩
        obtain ⟨c, hc⟩ : ∃ c, c = ftn (hsI L F) n3 nn i p := ⟨_, rfl⟩
        rw [← hx] at HF HL HLe hx1 ⊢
        rw [← hc] at HF T hcl
        clear hx hc
        by_cases hin : i ≤ nn
        · have hiz : (i : Int) ≤ (nn : Int) := by omega
          have diz : decide ((i : Int) ≤ (nn : Int)) = true := decide_eq_true hiz
          by_cases hxn : x < 0
          · obtain rfl : x = -1 := hx1 hxn
            clear HL HLe hx1 hxn
            by_cases hc0 : 0 < c
            · have HF2 : Hid (fsz (fun f => decide (0 < ftn (hsI L F) n3 nn f p)) (i + 1) = (i : Int)) := by (show _ = _); rw [HF.out, if_neg (by omega), decide_eq_true hc0, if_pos rfl]
              have dc1 : decide (0 < c) = true := decide_eq_true hc0
              have dc2 : decide ((0 : Int) < (c : Int)) = true := decide_eq_true (by omega)
              have hcz : (0 : Int) < (c : Int) := by omega
              clear HF
              go_wp2_with fail
              refine T.mono ?_
              rintro e w5 ⟨rfl, hB5⟩
              have HB5 : Hid (Below w.heap.size w w5) := HBr.out.trans (hB5.mono HBr.out.size)
              clear T hB5 HBr
              go_wp2
              go_roundw
              case rel => exact ⟨i + 1, by omega, by rw [HF2.out], by go_num, HB5.out⟩
              case measure => simp [intOf]; omega
            · have HF2 : Hid (fsz (fun f => decide (0 < ftn (hsI L F) n3 nn f p)) (i + 1) = -1) := by (show _ = _); rw [HF.out, if_neg (by omega), decide_eq_false hc0, if_neg (by simp)]
              obtain rfl : c = 0 := by omega
              clear HF hc0
              go_wp2_with fail
              refine T.mono ?_
              rintro e w5 ⟨rfl, hB5⟩
              have HB5 : Hid (Below w.heap.size w w5) := HBr.out.trans (hB5.mono HBr.out.size)
              clear T hB5 HBr
              go_wp2
              go_roundw
              case rel => exact ⟨i + 1, by omega, by rw [HF2.out], by go_num, HB5.out⟩
              case measure => simp [intOf]; omega
          · have hx0 : (0 : Int) ≤ x := by omega
            have dx : decide (x < 0) = false := decide_eq_false hxn
            have HX : Hid (x = fsz (fun f => decide (0 < ftn (hsI L F) n3 nn f p)) (nn + 1)) := HL.out hx0
            clear HF HL HLe hx1 T
            have C := worst_any (nn : Int) (p : Int) (HR.out.old HBr.out)
            rw [HW.out, HE.out, ← HX.out] at C
            have C : Calls Tryd.prog 10 #[.int .i64 (nn : Int), .slice a3 n3 c3, .int .i64 (p : Int)] wr fun e w' => e = .returned (.tuple #[.int .i64 x, .nilIface]) ∧ Below wr.heap.size wr w' := C
            have HBx : Hid (Below w.heap.size w wr) := HBr.out
            clear HX HW HE HBr
            go_wp2
            refine HK.out _ _ ?_
            clear HK
            refine wp_seq_k fun K hK => ?_
            have HK : Hid _ := hK
            clear hK
            go_wp2_with fail
            refine C.mono ?_
            rintro e w5 ⟨rfl, hB5⟩
            have HB5 : Hid (Below w.heap.size w w5) := HBx.out.trans (hB5.mono HBx.out.size)
            have E5 := err_v 0 w5 (HG.out.old HB5.out)
            have E5 : Calls Tryd.prog 6 #[.nilIface, .int .i64 0] w5 fun e w' => e = .returned (.bool true) ∧ Below w5.heap.size w5 w' := E5
            clear C hB5
            go_wp2
            refine HK.out _ _ ?_
            clear HK
            refine wp_seq_k fun K2 hK => ?_
            have HK2 : Hid _ := hK
            clear hK
            go_wp2_with fail
            refine E5.mono ?_
            rintro e w6 ⟨rfl, hB6⟩
            have HB6 : Hid (Below w.heap.size w w6) := HB5.out.trans (hB6.mono HB5.out.size)
            clear E5 hB6 HB5
            go_wp2
            refine HK2.out _ _ ?_
            clear HK2
            go_wp2
            go_ret
            exact ⟨rfl, HB6.out⟩
        · have hiz : ¬ (i : Int) ≤ (nn : Int) := by omega
          have diz : decide ((i : Int) ≤ (nn : Int)) = false := decide_eq_false hiz
          have HX : Hid (x = fsz (fun f => decide (0 < ftn (hsI L F) n3 nn f p)) (nn + 1)) := HLe.out (by omega)
          clear HF HL HLe hx1 T
          have C := worst_any (nn : Int) (p : Int) (HR.out.old HBr.out)
          rw [HW.out, HE.out, ← HX.out] at C
          have C : Calls Tryd.prog 10 #[.int .i64 (nn : Int), .slice a3 n3 c3, .int .i64 (p : Int)] wr fun e w' => e = .returned (.tuple #[.int .i64 x, .nilIface]) ∧ Below wr.heap.size wr w' := C
          have HBx : Hid (Below w.heap.size w wr) := HBr.out
          clear HX HW HE HBr
          go_wp2
          refine HK.out _ _ ?_
          clear HK
          refine wp_seq_k fun K hK => ?_
          have HK : Hid _ := hK
          clear hK
          go_wp2_with fail
          refine C.mono ?_
          rintro e w5 ⟨rfl, hB5⟩
          have HB5 : Hid (Below w.heap.size w w5) := HBx.out.trans (hB5.mono HBx.out.size)
          have E5 := err_v 0 w5 (HG.out.old HB5.out)
          have E5 : Calls Tryd.prog 6 #[.nilIface, .int .i64 0] w5 fun e w' => e = .returned (.bool true) ∧ Below w5.heap.size w5 w' := E5
          clear C hB5
          go_wp2
          refine HK.out _ _ ?_
          clear HK
          refine wp_seq_k fun K2 hK => ?_
          have HK2 : Hid _ := hK
          clear hK
          go_wp2_with fail
          refine E5.mono ?_
          rintro e w6 ⟨rfl, hB6⟩
          have HB6 : Hid (Below w.heap.size w w6) := HB5.out.trans (hB6.mono HB5.out.size)
          clear E5 hB6 HB5
          go_wp2
          refine HK2.out _ _ ?_
          clear HK2
          go_wp2
          go_ret
          exact ⟨rfl, HB6.out⟩
  · obtain ⟨c, hcc⟩ : ∃ c, c = stE m n3 L F := ⟨_, rfl⟩
    obtain rfl : e0 = (c : Int) := by rw [HC.out, hcc]
    have HBx : Hid (Below w.heap.size w wc) := HB.out
    have C := worst_any m par (HR.out.old HBx.out)
    rw [wsV_bad (by rw [wsE_st hc]; exact hc), wsE_st hc, ← hcc] at C
    rw [← hcc] at hc
    have hz1 : ((c : Int) == 0) = false := by rw [beq_eq_false_iff_ne]; omega
    have hz2 : ¬ (c : Int) = 0 := by omega
    clear hcc HB
    refine wp_seq_k fun K hK => ?_
    have HK : Hid _ := hK
    clear hK
    go_wp2
    refine HK.out _ _ ?_
    clear HK K
    refine wp_seq_k fun K hK => ?_
    have HK : Hid _ := hK
    clear hK
    go_wp2
    refine HK.out _ _ ?_
    clear HK K
    refine wp_seq_k fun K hK => ?_
    have HK : Hid _ := hK
    clear hK
    go_wp2
    refine HK.out _ _ ?_
    clear HK K
    refine wp_seq_k fun K hK => ?_
    have HK : Hid _ := hK
    clear hK
    go_wp2_with fail
    refine C.mono ?_
    rintro e w5 ⟨rfl, hB5⟩
    have HB5 : Hid (Below w.heap.size w w5) := HBx.out.trans (hB5.mono HBx.out.size)
    have E5 := err_v c w5 (HG.out.old HB5.out)
    have E5 : Calls Tryd.prog 6 #[errV c, .int .i64 c] w5 fun e w' => e = .returned (.bool true) ∧ Below w5.heap.size w5 w' := E5
    clear C hB5
    go_wp2
    refine HK.out _ _ ?_
    clear HK
    refine wp_seq_k fun K2 hK => ?_
    have HK2 : Hid _ := hK
    clear hK
    go_wp2_with fail
    refine E5.mono ?_
    rintro e w6 ⟨rfl, hB6⟩
    have HB6 : Hid (Below w.heap.size w w6) := HB5.out.trans (hB6.mono HB5.out.size)
    clear E5 hB6 HB5
    go_wp2
    refine HK2.out _ _ ?_
    clear HK2
    go_wp2
    go_ret
    exact ⟨rfl, HB6.out⟩
end Go.Proofs.YtfnbpljgmchhbaaDoor
