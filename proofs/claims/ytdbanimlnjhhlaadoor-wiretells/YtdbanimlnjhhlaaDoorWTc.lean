/- WireTells, a part of it: walks over the program. -/
import Derived.Test.YtdbanimlnjhhlaaDoorWTd
import Derived.Deep.Cut
import Derived.Deep.CutRange
import Derived.BigCall
import Derived.BigGuard
namespace Go.Proofs.YtdbanimlnjhhlaaDoor
open Go.ChangeShapes Go.WideShapes Go.ChangeAt Go.RowKit El Pol
theorem sameL_same (n : Nat) (f : Nat → List El) : sameL n n f f = true := sameL_iff.2 ⟨rfl, fun _ _ => rfl⟩

set_option linter.unusedVariables false in
set_option maxRecDepth 1000000 in
set_option maxHeartbeats 8000000 in
theorem wtC (row a : Int) (n c1 : Nat) (a1 : Option Addr) (f : Nat → List El) (t : List El) (s : ByteArray) (w : World) (u4 u5 u6 u7 u8 u9 u10 u11 u12 u14 u15 u16 u17 u18 u19 u20 u21 u22 u23 u24 u25 u26 u27 u28 u29 u30 u31 u32 u33 u34 u35 u36 u37 u38 u39 u40 u41 u42 u43 u44 u45 u46 u47 u48 u49 u50 u51 u52 u53 u54 u55 u56 u57 u58 u59 u60 u61 u62 u63 u64 u65 u66 u67 u68 u69 u70 u71 u72 u73 u74 u75 u76 u77 u78 u79 u80 u81 u82 u83 u84 u85 u86 u87 u88 u89 u90 u91 u92 u93 u94 u95 u96 u97 u98 u99 u100 u101 u102 u103 u104 u105 u106 u107 u108 u109 u110 u111 u112 u113 u114 u115 u116 u117 u118 u119 u120 u121 u122 u123 u124 u125 u126 u127 u128 u129 u130 u131 u132 u133 u134 u135 u136 u137 u138 u139 u140 u141 : Value) (wc : World) (HG : Hid (Handle w)) (HS : Hid (s = sb t)) (hm : t.length ≤ 9223372036854775807) (HB : Hid (Below w.heap.size w wc))  :
    Code.wp Tryd.prog (cut [1, 1, 1, 1, 1, 1] (Tryd.f6.body.getD .skip)) (bodyPost Tryd.prog Tryd.f6 fun e w' => e = .returned (.bool true) ∧ Below w.heap.size w w') ⟨#[.int .i64 row, .slice a1 n c1, .string s, .int .i64 a, u4, u5, u6, u7, u8, u9, u10, u11, u12, .bool true, u14, u15, u16, u17, u18, u19, u20, u21, u22, u23, u24, u25, u26, u27, u28, u29, u30, u31, u32, u33, u34, u35, u36, u37, u38, u39, u40, u41, u42, u43, u44, u45, u46, u47, u48, u49, u50, u51, u52, u53, u54, u55, u56, u57, u58, u59, u60, u61, u62, u63, u64, u65, u66, u67, u68, u69, u70, u71, u72, u73, u74, u75, u76, u77, u78, u79, u80, u81, u82, u83, u84, u85, u86, u87, u88, u89, u90, u91, u92, u93, u94, u95, u96, u97, u98, u99, u100, u101, u102, u103, u104, u105, u106, u107, u108, u109, u110, u111, u112, u113, u114, u115, u116, u117, u118, u119, u120, u121, u122, u123, u124, u125, u126, u127, u128, u129, u130, u131, u132, u133, u134, u135, u136, u137, u138, u139, u140, u141], []⟩ wc := by
  conv => arg 2; whnf
  by_cases hu : WUn t
  · have U := dunpack_any t wc
    rw [wUE_ok hu] at U
    unfold st at U
    rw [← HS.out] at U
    have HP : Hid (∀ w1, Calls Tryd.prog 23 #[.string s] w1 fun e w' => ∃ u, e = .returned (.tuple #[.int .i64 ((cnt 0 (wrow t) : Nat) : Int), u, errV 0]) ∧ OwT w1.heap.size w' u (cnt 0 (wmany t)) (wpt t) ∧ Below w1.heap.size w1 w') := fun w1 => by
      have := unpack_any t w1 hm
      rw [wUE_ok hu] at this
      rw [HS.out]
      exact this

    clear hu

    rw [decide_eq_true rfl] at U
    rw [show cnt 0 (wrow t) = wrow t from rfl, show cnt 0 (wmany t) = wmany t from rfl] at U HP
    have HE : Hid (∀ w1, Below w.heap.size w w1 → Calls Tryd.prog 9 #[.nilIface, .int .i64 0] w1 fun e w' => e = .returned (.bool true) ∧ Below w1.heap.size w1 w') := fun w1 hb => err_v 0 w1 (HG.out.old hb)
    rw [show errV 0 = Value.nilIface from rfl] at HP
    generalize wrow t = r1 at *
    generalize wmany t = n1 at *
    generalize wpt t = p1 at *
    refine wp_seq_k fun K hK => ?_
    have HK : Hid _ := hK
    clear hK
    go_wp2_with fail
    refine (U).mono ?_
    rintro e0 w1 ⟨u1, rfl, hR1, hB1⟩
    have HB1 : Hid (Below w.heap.size w w1) := HB.out.trans (hB1.mono HB.out.size)
    have HR1 : Hid (RdT w1 u1 n1 p1) := hR1
    have P := HP.out w1
    clear U hR1 hB1 HB HP
    go_wp2
    refine HK.out _ _ ?_
    clear HK K
    refine wp_seq_k fun K hK => ?_
    have HK : Hid _ := hK
    clear hK
    go_wp2
    refine HK.out _ _ ?_
    clear HK K
    refine wp_seq_k fun K hK => ?_
    have HK : Hid _ := hK
    clear hK
    go_wp2
    refine HK.out _ _ ?_
    clear HK K
    refine wp_seq_k fun K hK => ?_
    have HK : Hid _ := hK
    clear hK
    go_wp2_with fail
    refine (P).mono ?_
    rintro e0 w2 ⟨u2, rfl, hO2, hB2⟩
    have HB2 : Hid (Below w.heap.size w w2) := HB1.out.trans (hB2.mono HB1.out.size)
    have HO2 : Hid (RdT w2 u2 n1 p1) := OwT.rd hO2
    have HR2 : Hid (RdT w2 u1 n1 p1) := HR1.out.old hB2
    have E1 := HE.out w2 HB2.out
    clear P hO2 hB2 HB1 HR1 HE
    go_wp2
    refine HK.out _ _ ?_
    clear HK K
    refine wp_seq_k fun K hK => ?_
    have HK : Hid _ := hK
    clear hK
    go_wp2_with fail
    refine E1.mono ?_
    rintro e0 w3 ⟨rfl, hB3⟩
    have X := texts_any u2 u1 n1 n1 p1 p1 w3 (HO2.out.old hB3) (HR2.out.old hB3)
    rw [sameL_same] at X
    have HB3 : Hid (Below w.heap.size w w3) := HB2.out.trans (hB3.mono HB2.out.size)
    clear E1 hB3 HB2
    go_wp2_with fail
    refine X.mono ?_
    rintro e0 w4 ⟨rfl, hB4⟩
    have HB6 : Hid (Below w.heap.size w w4) := HB3.out.trans (hB4.mono HB3.out.size)
    clear X hB4 HB3 HO2 HR2
    go_wp2
    refine HK.out _ _ ?_
    clear HK K
    refine wp_seq_k fun K hK => ?_
    have HK : Hid _ := hK
    clear hK
    have G1 : Calls Tryd.prog 25 #[.string s] w4 fun e w' => e = .returned (.int .i64 ((wsum t : Nat) : Int)) ∧ w' = w4 := by rw [HS.out]; exact sum_any t w4 hm
    have G2 : Calls Tryd.prog 26 #[.string s] w4 fun e w' => e = .returned (.int .i64 ((wsum t : Nat) : Int)) ∧ w' = w4 := by rw [HS.out]; exact dsum_any t w4 hm
    generalize wsum t = S at *
    go_wp2_with fail
    refine G1.mono ?_
    rintro e0 w5 ⟨rfl, hw5⟩
    obtain rfl := hw5.symm
    clear G1
    go_wp2_with fail
    refine G2.mono ?_
    rintro e0 w5 ⟨rfl, hw5⟩
    obtain rfl := hw5.symm
    clear G2
    go_wp2
    refine HK.out _ _ ?_
    clear HK K
    exact wtD row a n c1 a1 f t s w _ _ _ _ _ _ _ _ _ _ _ _ _ _ _ _ _ _ _ _ _ _ _ _ _ _ _ _ _ _ _ _ _ _ _ _ _ _ _ _ _ _ _ _ _ _ _ _ _ _ _ _ _ _ _ _ _ _ _ _ _ _ _ _ _ _ _ _ _ _ _ _ _ _ _ _ _ _ _ _ _ _ _ _ _ _ _ _ _ _ _ _ _ _ _ _ _ _ _ _ _ _ _ _ _ _ _ _ _ _ _ _ _ _ _ _ _ _ _ _ _ _ _ _ _ _ _ _ _ _ _ _ _ _ _ _ HG HS hm HB6
  · have U := dunpack_any t wc
    rw [wUE_bad hu] at U
    unfold st at U
    rw [← HS.out] at U
    have HP : Hid (∀ w1, Calls Tryd.prog 23 #[.string s] w1 fun e w' => ∃ u, e = .returned (.tuple #[.int .i64 ((cnt 2 (wrow t) : Nat) : Int), u, errV 2]) ∧ OwT w1.heap.size w' u (cnt 2 (wmany t)) (wpt t) ∧ Below w1.heap.size w1 w') := fun w1 => by
      have := unpack_any t w1 hm
      rw [wUE_bad hu] at this
      rw [HS.out]
      exact this

    clear hu

    rw [decide_eq_false (by omega)] at U
    rw [show cnt 2 (wrow t) = 0 from rfl, show cnt 2 (wmany t) = 0 from rfl] at U HP
    rw [show ((0 : Nat) : Int) = 0 from rfl] at U HP
    have HE : Hid (∀ w1, Below w.heap.size w w1 → Calls Tryd.prog 9 #[.iface 66 (.int .i64 2), .int .i64 2] w1 fun e w' => e = .returned (.bool true) ∧ Below w1.heap.size w1 w') := fun w1 hb => err_v 2 w1 (HG.out.old hb)
    rw [errV_ne (by omega)] at HP
    generalize wpt t = p1 at *
    refine wp_seq_k fun K hK => ?_
    have HK : Hid _ := hK
    clear hK
    go_wp2_with fail
    refine (U).mono ?_
    rintro e0 w1 ⟨u1, rfl, hR1, hB1⟩
    have HB1 : Hid (Below w.heap.size w w1) := HB.out.trans (hB1.mono HB.out.size)
    have HR1 : Hid (RdT w1 u1 0 p1) := hR1
    have P := HP.out w1
    clear U hR1 hB1 HB HP
    go_wp2
    refine HK.out _ _ ?_
    clear HK K
    refine wp_seq_k fun K hK => ?_
    have HK : Hid _ := hK
    clear hK
    go_wp2
    refine HK.out _ _ ?_
    clear HK K
    refine wp_seq_k fun K hK => ?_
    have HK : Hid _ := hK
    clear hK
    go_wp2
    refine HK.out _ _ ?_
    clear HK K
    refine wp_seq_k fun K hK => ?_
    have HK : Hid _ := hK
    clear hK
    go_wp2_with fail
    refine (P).mono ?_
    rintro e0 w2 ⟨u2, rfl, hO2, hB2⟩
    have HB2 : Hid (Below w.heap.size w w2) := HB1.out.trans (hB2.mono HB1.out.size)
    have HO2 : Hid (RdT w2 u2 0 p1) := OwT.rd hO2
    have HR2 : Hid (RdT w2 u1 0 p1) := HR1.out.old hB2
    have E1 := HE.out w2 HB2.out
    clear P hO2 hB2 HB1 HR1 HE
    go_wp2
    refine HK.out _ _ ?_
    clear HK K
    refine wp_seq_k fun K hK => ?_
    have HK : Hid _ := hK
    clear hK
    go_wp2_with fail
    refine E1.mono ?_
    rintro e0 w3 ⟨rfl, hB3⟩
    have X := texts_any u2 (.slice none 0 0) 0 0 p1 p1 w3 (HO2.out.old hB3) (rdf_none _ _)
    rw [sameL_same] at X
    have HB3 : Hid (Below w.heap.size w w3) := HB2.out.trans (hB3.mono HB2.out.size)
    clear E1 hB3 HB2
    go_wp2_with fail
    refine X.mono ?_
    rintro e0 w4 ⟨rfl, hB4⟩
    have HB6 : Hid (Below w.heap.size w w4) := HB3.out.trans (hB4.mono HB3.out.size)
    clear X hB4 HB3 HO2 HR2
    go_wp2
    refine HK.out _ _ ?_
    clear HK K
    refine wp_seq_k fun K hK => ?_
    have HK : Hid _ := hK
    clear hK
    have G1 : Calls Tryd.prog 25 #[.string s] w4 fun e w' => e = .returned (.int .i64 ((wsum t : Nat) : Int)) ∧ w' = w4 := by rw [HS.out]; exact sum_any t w4 hm
    have G2 : Calls Tryd.prog 26 #[.string s] w4 fun e w' => e = .returned (.int .i64 ((wsum t : Nat) : Int)) ∧ w' = w4 := by rw [HS.out]; exact dsum_any t w4 hm
    generalize wsum t = S at *
    go_wp2_with fail
    refine G1.mono ?_
    rintro e0 w5 ⟨rfl, hw5⟩
    obtain rfl := hw5.symm
    clear G1
    go_wp2_with fail
    refine G2.mono ?_
    rintro e0 w5 ⟨rfl, hw5⟩
    obtain rfl := hw5.symm
    clear G2
    go_wp2
    refine HK.out _ _ ?_
    clear HK K
    exact wtD row a n c1 a1 f t s w _ _ _ _ _ _ _ _ _ _ _ _ _ _ _ _ _ _ _ _ _ _ _ _ _ _ _ _ _ _ _ _ _ _ _ _ _ _ _ _ _ _ _ _ _ _ _ _ _ _ _ _ _ _ _ _ _ _ _ _ _ _ _ _ _ _ _ _ _ _ _ _ _ _ _ _ _ _ _ _ _ _ _ _ _ _ _ _ _ _ _ _ _ _ _ _ _ _ _ _ _ _ _ _ _ _ _ _ _ _ _ _ _ _ _ _ _ _ _ _ _ _ _ _ _ _ _ _ _ _ _ _ _ _ _ _ HG HS hm HB6
end Go.Proofs.YtdbanimlnjhhlaaDoor
