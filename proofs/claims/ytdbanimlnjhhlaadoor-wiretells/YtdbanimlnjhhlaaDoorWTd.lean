/- WireTells, a part of it: walks over the program. -/
import Derived.Test.YtdbanimlnjhhlaaDoorWTe
import Derived.Deep.Cut
import Derived.Deep.CutRange
import Derived.BigCall
import Derived.BigGuard
namespace Go.Proofs.YtdbanimlnjhhlaaDoor
open Go.ChangeShapes Go.WideShapes Go.ChangeAt Go.RowKit El Pol
set_option linter.unusedVariables false in
set_option maxRecDepth 1000000 in
set_option maxHeartbeats 8000000 in
theorem wtD (row a : Int) (n c1 : Nat) (a1 : Option Addr) (f : Nat → List El) (t : List El) (s : ByteArray) (w : World) (u4 u5 u6 u7 u8 u9 u10 u11 u12 u14 u15 u16 u17 u18 u21 u22 u23 u24 u25 u26 u27 u28 u29 u30 u31 u32 u33 u34 u35 u36 u37 u38 u39 u40 u41 u42 u43 u44 u45 u46 u47 u48 u49 u50 u51 u52 u53 u54 u55 u56 u57 u58 u59 u60 u61 u62 u63 u64 u65 u66 u67 u68 u69 u70 u71 u72 u73 u74 u75 u76 u77 u78 u79 u80 u81 u82 u83 u84 u85 u86 u87 u88 u89 u90 u91 u92 u93 u94 u95 u96 u97 u98 u99 u100 u101 u102 u103 u104 u105 u106 u107 u108 u109 u110 u111 u112 u113 u114 u115 u116 u117 u118 u119 u120 u121 u122 u123 u124 u125 u126 u127 u128 u129 u130 u131 u132 u133 u134 u135 u136 u137 u138 u139 u140 u141 : Value) (wc : World) (HG : Hid (Handle w)) (HS : Hid (s = sb t)) (hm : t.length ≤ 9223372036854775807) (HB : Hid (Below w.heap.size w wc))  :
    Code.wp Tryd.prog (cut [1, 1, 1, 1, 1, 1, 1, 1, 1, 1, 1, 1] (Tryd.f6.body.getD .skip)) (bodyPost Tryd.prog Tryd.f6 fun e w' => e = .returned (.bool true) ∧ Below w.heap.size w w') ⟨#[.int .i64 row, .slice a1 n c1, .string s, .int .i64 a, u4, u5, u6, u7, u8, u9, u10, u11, u12, .bool true, u14, u15, u16, u17, u18, .bool true, .bool true, u21, u22, u23, u24, u25, u26, u27, u28, u29, u30, u31, u32, u33, u34, u35, u36, u37, u38, u39, u40, u41, u42, u43, u44, u45, u46, u47, u48, u49, u50, u51, u52, u53, u54, u55, u56, u57, u58, u59, u60, u61, u62, u63, u64, u65, u66, u67, u68, u69, u70, u71, u72, u73, u74, u75, u76, u77, u78, u79, u80, u81, u82, u83, u84, u85, u86, u87, u88, u89, u90, u91, u92, u93, u94, u95, u96, u97, u98, u99, u100, u101, u102, u103, u104, u105, u106, u107, u108, u109, u110, u111, u112, u113, u114, u115, u116, u117, u118, u119, u120, u121, u122, u123, u124, u125, u126, u127, u128, u129, u130, u131, u132, u133, u134, u135, u136, u137, u138, u139, u140, u141], []⟩ wc := by
  conv => arg 2; whnf
  have hs : s.size = t.length := by rw [HS.out, sb_size]
  by_cases h1 : a < 0
  · have d1 : decide (a < 0) = true := decide_eq_true h1
    clear hs
    refine wp_seq_k fun K hK => ?_
    have HK : Hid _ := hK
    clear hK
    go_wp2
    refine HK.out _ _ ?_
    clear HK K
    refine wp_seq_k fun K hK => ?_
    have HK : Hid _ := hK
    clear hK
    go_wp2
    refine HK.out _ _ ?_
    clear HK K
    refine wp_seq_k fun K hK => ?_
    have HK : Hid _ := hK
    clear hK
    go_wp2
    refine HK.out _ _ ?_
    clear HK K
    refine wp_seq_k fun K hK => ?_
    have HK : Hid _ := hK
    clear hK
    go_wp2
    refine wp_loop_rounds 1 ?_
    rw [rounds_succ]
    go_wp2
    refine HK.out _ _ ?_
    clear HK
    have HBx : Hid (Below w.heap.size w wc) := HB.out
    exact wtE row a n c1 a1 f t s w 1 ⟨#[]⟩ _ _ _ _ _ _ _ _ _ _ _ _ _ _ _ _ _ _ _ _ _ _ _ _ _ _ _ _ _ _ _ _ _ _ _ _ _ _ _ _ _ _ _ _ _ _ _ _ _ _ _ _ _ _ _ _ _ _ _ _ _ _ _ _ _ _ _ _ _ _ _ _ _ _ _ _ _ _ _ _ _ _ _ _ _ _ _ _ _ _ _ _ _ _ _ _ _ _ _ _ _ _ _ _ _ _ _ _ _ _ _ _ _ _ _ _ _ _ _ _ _ _ _ _ _ _ _ _ _ _ _ _ _ _ HG HS hm HBx (fun w1 => by rw [HS.out]; exact (mend_range t a w1 (by omega)).mono fun _ _ ⟨q1, q2⟩ => ⟨q1, q2 ▸ Below.refl _ _⟩)
  · by_cases h2 : (t.length : Int) ≤ a
    · have d1 : decide (a < 0) = false := decide_eq_false h1
      have d2 : decide ((s.size : Int) ≤ a) = true := decide_eq_true (by omega)
      have d3 : decide ((t.length : Int) ≤ a) = true := decide_eq_true h2
      refine wp_seq_k fun K hK => ?_
      have HK : Hid _ := hK
      clear hK
      go_wp2
      refine HK.out _ _ ?_
      clear HK K
      refine wp_seq_k fun K hK => ?_
      have HK : Hid _ := hK
      clear hK
      go_wp2
      refine HK.out _ _ ?_
      clear HK K
      refine wp_seq_k fun K hK => ?_
      have HK : Hid _ := hK
      clear hK
      go_wp2
      refine HK.out _ _ ?_
      clear HK K
      refine wp_seq_k fun K hK => ?_
      have HK : Hid _ := hK
      clear hK
      go_wp2
      refine wp_loop_rounds 1 ?_
      rw [rounds_succ]
      go_wp2
      refine HK.out _ _ ?_
      clear HK
      have HBx : Hid (Below w.heap.size w wc) := HB.out
      exact wtE row a n c1 a1 f t s w 1 ⟨#[]⟩ _ _ _ _ _ _ _ _ _ _ _ _ _ _ _ _ _ _ _ _ _ _ _ _ _ _ _ _ _ _ _ _ _ _ _ _ _ _ _ _ _ _ _ _ _ _ _ _ _ _ _ _ _ _ _ _ _ _ _ _ _ _ _ _ _ _ _ _ _ _ _ _ _ _ _ _ _ _ _ _ _ _ _ _ _ _ _ _ _ _ _ _ _ _ _ _ _ _ _ _ _ _ _ _ _ _ _ _ _ _ _ _ _ _ _ _ _ _ _ _ _ _ _ _ _ _ _ _ _ _ _ _ _ _ HG HS hm HBx (fun w1 => by rw [HS.out]; exact (mend_range t a w1 (by omega)).mono fun _ _ ⟨q1, q2⟩ => ⟨q1, q2 ▸ Below.refl _ _⟩)
    · obtain ⟨j, rfl⟩ : ∃ j : Nat, a = (j : Int) := ⟨a.toNat, by omega⟩
      have hj : j < t.length := by omega
      have d1 : decide ((j : Int) < 0) = false := decide_eq_false h1
      obtain ⟨l, hl⟩ : ∃ l, l = t.length := ⟨_, rfl⟩
      rw [← hl] at hs hj
      have d2 : decide (l ≤ j) = false := decide_eq_false (by omega)
      have HL : Hid (l = t.length) := hl
      have hm' : l ≤ 9223372036854775807 := by omega
      clear h1 h2 hl
      refine wp_seq_k fun K hK => ?_
      have HK : Hid _ := hK
      clear hK
      go_wp2
      refine HK.out _ _ ?_
      clear HK K
      refine wp_seq_k fun K hK => ?_
      have HK : Hid _ := hK
      clear hK
      go_wp2
      refine HK.out _ _ ?_
      clear HK K
      refine wp_seq_k fun K hK => ?_
      have HK : Hid _ := hK
      clear hK
      go_wp2
      refine HK.out _ _ ?_
      clear HK K
      refine wp_seq_k fun K hK => ?_
      have HK : Hid _ := hK
      clear hK
      have HW : Hid (∀ x, s.extract 0 j ++ sb [x] ++ s.extract (j + 1) l = sb (wset t j x)) := fun x => by rw [HS.out, HL.out]; exact sb_wset t j x
      have z1 : (s.extract 0 j).size = j := by rw [ByteArray.size_extract]; omega
      have z2 : (s.extract (j + 1) l).size = l - (j + 1) := by rw [ByteArray.size_extract]; omega
      have HB0 : Hid (Below w.heap.size w wc) := HB.out
      clear HB
      go_wp2
      go_loopw [9, 10, 21] (fun e o c wr => ∃ k : Nat, k ≤ 256 ∧ c = .int .i64 k ∧ ((e = .int .i64 5 ∧ o = .string ⟨#[]⟩ ∧ Hid (NoM t j k)) ∨ (e = .int .i64 0 ∧ ∃ x, o = .string (sb (wset t j x)) ∧ Hid (WUn (wset t j x)))) ∧ Hid (Below w.heap.size w wr)) (fun _ _ c _ => 256 - (intOf c).toNat)
      case atStart => exact ⟨0, Nat.zero_le _, rfl, .inl ⟨rfl, rfl, fun i hi => absurd hi (Nat.not_lt_zero _)⟩, HB0.out⟩
      case round =>
        clear HB0
        obtain ⟨k, hk, rfl, hst, HBx⟩ := hrel
        rcases hst with ⟨rfl, rfl, HM⟩ | ⟨rfl, x, rfl, HM⟩
        · by_cases hlt : k < 256
          · have hkz : (k : Int) < 256 := by omega
            have dk : decide ((k : Int) < 256) = true := decide_eq_true hkz
            have hwk : (wb k).val = k := wb_val hlt
            have hconv := run_text (w := (wr.alloc (.cells #[.int .u8 (((wb k).val : Nat) : Int)] 5)).drew) (v := .slice (some ⟨wr.heap.size, 0, none⟩) 1 1) (xs := [wb k]) (.inr ⟨_, 1, rfl, Nat.le_refl _, by omega, fun i hi => by
              have : i = 0 := by simp at hi; omega
              subst this
              rw [add_zero]
              exact cell_new wr (.int .u8 (((wb k).val : Nat) : Int)) 5⟩) 62 9 Tryd.underlying62 Tryd.underlying9
            rw [hwk] at hconv
            unfold st at hconv
            have HX := HW.out (wb k)
            have z3 : (sb [wb k]).size = 1 := sb_size _
            generalize sb [wb k] = s3 at *
            generalize hA : s.extract 0 j = A at *
            generalize hC : s.extract (j + 1) l = C at *
            have z4 : (A ++ s3).size = j + 1 := by rw [ByteArray.size_append, z1, z3]
            have hj2 : (j : Int) + 1 ≤ (l : Int) := by omega
            have hj3 : j + 1 ≤ l := by omega
            have hj4 : j ≤ l := by omega
            have hj5 : (0 : Int) ≤ (j : Int) + 1 := by omega
            have hwr : IntKind.i64.wrap ((j : Int) + 1) = (j : Int) + 1 := by rw [IntKind.wrap_i64]; omega
            have hc1 : ¬ 9223372036854775807 < A.size + s3.size := by rw [z1, z3]; omega
            have hc2 : ¬ 9223372036854775807 < (A ++ s3).size + C.size := by rw [z4, z2]; omega
            have HU : Hid (∀ w1, Calls Tryd.prog 22 #[.string (sb (wset t j (wb k)))] w1 fun e w' => ∃ q u, e = .returned (.tuple #[.int .i64 q, u, .bool (decide (wUE (wset t j (wb k)) = 0))]) ∧ Below w1.heap.size w1 w') := fun w1 => (dunpack_any (wset t j (wb k)) w1).mono fun _ _ ⟨u, q1, _, q3⟩ => ⟨_, u, q1, q3⟩
            clear hwk
            go_wp2
            go_region
            all_goals
              have HB8 : Hid (Below w.heap.size w (wr.alloc (.cells #[.int .u8 (k : Int)] 5)).drew) := (HBx.out.alloc HBx.out.size _).drew
              generalize (wr.alloc (.cells #[.int .u8 (k : Int)] 5)).drew = w8 at *
              have U := HU.out w8
              clear hconv HU HX z3 z4 hj2 hj3 hj4 hj5 hwr hc1 hc2 hA hC HBx dk
              by_cases hu : WUn (wset t j (wb k))
              · have HE : Hid (WUn (wset t j (wb k))) := hu
                rw [wUE_ok hu, decide_eq_true rfl] at U
                obtain ⟨sx, hsx⟩ : ∃ sx, sx = sb (wset t j (wb k)) := ⟨_, rfl⟩
                have HSX : Hid (sx = sb (wset t j (wb k))) := hsx
                rw [← hsx] at U ⊢
                clear hsx hu
                go_wp2_with fail
                refine U.mono ?_
                rintro e0 w9 ⟨q, u, rfl, hB9⟩
                have HB9 : Hid (Below w.heap.size w w9) := HB8.out.trans (hB9.mono HB8.out.size)
                clear U hB9 HB8
                go_wp2
                go_roundw
                case rel => exact ⟨k + 1, by omega, by go_num, .inr ⟨rfl, wb k, by rw [← HSX.out], HE.out⟩, HB9.out⟩
                case measure => simp [intOf]; omega
              · have HE : Hid (NoM t j (k + 1)) := fun i hi => by
                  by_cases ei : i = k
                  · rw [ei]; exact hu
                  · exact HM.out i (by omega)
                rw [wUE_bad hu, decide_eq_false (by omega)] at U
                obtain ⟨sx, hsx⟩ : ∃ sx, sx = sb (wset t j (wb k)) := ⟨_, rfl⟩
                rw [← hsx] at U ⊢
                clear hsx hu HM
                go_wp2_with fail
                refine U.mono ?_
                rintro e0 w9 ⟨q, u, rfl, hB9⟩
                have HB9 : Hid (Below w.heap.size w w9) := HB8.out.trans (hB9.mono HB8.out.size)
                clear U hB9 HB8
                go_wp2
                go_roundw
                case rel => exact ⟨k + 1, by omega, by go_num, .inl ⟨rfl, rfl, HE.out⟩, HB9.out⟩
                case measure => simp [intOf]; omega
          · have dk : decide ((k : Int) < 256) = false := decide_eq_false (by omega)
            have ek : k = 256 := by omega
            have HN : Hid (∀ x, ¬ WUn (wset t j x)) := fun x => by
              rw [← wb_self x]
              exact HM.out x.val (by have := x.isLt; omega)
            clear HM ek
            go_wp2
            refine HK.out _ _ ?_
            clear HK
            exact wtE row _ n c1 a1 f t s w 5 ⟨#[]⟩ _ _ _ _ _ _ _ _ _ _ _ _ _ _ _ _ _ _ _ _ _ _ _ _ _ _ _ _ _ _ _ _ _ _ _ _ _ _ _ _ _ _ _ _ _ _ _ _ _ _ _ _ _ _ _ _ _ _ _ _ _ _ _ _ _ _ _ _ _ _ _ _ _ _ _ _ _ _ _ _ _ _ _ _ _ _ _ _ _ _ _ _ _ _ _ _ _ _ _ _ _ _ _ _ _ _ _ _ _ _ _ _ _ _ _ _ _ _ _ _ _ _ _ _ _ _ _ _ _ _ _ _ _ _ HG HS hm HBx (fun w1 => by rw [HS.out]; exact mend_none t j w1 (by rw [← HL.out]; exact hj) HN.out)
        · have HMx : Hid (WUn (wset t j x)) := HM
          obtain ⟨sx, hsx⟩ : ∃ sx, sx = sb (wset t j x) := ⟨_, rfl⟩
          have HSX : Hid (sx = sb (wset t j x)) := hsx
          rw [← hsx]
          clear hsx HM
          by_cases hlt : k < 256
          · have dk : decide ((k : Int) < 256) = true := decide_eq_true (by omega)
            go_wp2
            refine HK.out _ _ ?_
            clear HK
            exact wtE row _ n c1 a1 f t s w 0 sx _ _ _ _ _ _ _ _ _ _ _ _ _ _ _ _ _ _ _ _ _ _ _ _ _ _ _ _ _ _ _ _ _ _ _ _ _ _ _ _ _ _ _ _ _ _ _ _ _ _ _ _ _ _ _ _ _ _ _ _ _ _ _ _ _ _ _ _ _ _ _ _ _ _ _ _ _ _ _ _ _ _ _ _ _ _ _ _ _ _ _ _ _ _ _ _ _ _ _ _ _ _ _ _ _ _ _ _ _ _ _ _ _ _ _ _ _ _ _ _ _ _ _ _ _ _ _ _ _ _ _ _ _ _ HG HS hm HBx (fun w1 => by rw [HS.out, HSX.out]; exact mend_ok t j x w1 (by rw [← HL.out]; exact hj) HMx.out)
          · have dk : decide ((k : Int) < 256) = false := decide_eq_false (by omega)
            go_wp2
            refine HK.out _ _ ?_
            clear HK
            exact wtE row _ n c1 a1 f t s w 0 sx _ _ _ _ _ _ _ _ _ _ _ _ _ _ _ _ _ _ _ _ _ _ _ _ _ _ _ _ _ _ _ _ _ _ _ _ _ _ _ _ _ _ _ _ _ _ _ _ _ _ _ _ _ _ _ _ _ _ _ _ _ _ _ _ _ _ _ _ _ _ _ _ _ _ _ _ _ _ _ _ _ _ _ _ _ _ _ _ _ _ _ _ _ _ _ _ _ _ _ _ _ _ _ _ _ _ _ _ _ _ _ _ _ _ _ _ _ _ _ _ _ _ _ _ _ _ _ _ _ _ _ _ _ _ HG HS hm HBx (fun w1 => by rw [HS.out, HSX.out]; exact mend_ok t j x w1 (by rw [← HL.out]; exact hj) HMx.out)
end Go.Proofs.YtdbanimlnjhhlaaDoor
