/- TopCodes, a part of it: walks over the program. -/
import Derived.Test.YtfnbpljgmchhbaaTCa
import Derived.Deep.Cut
import Derived.Deep.CutRange
import Derived.BigCall
import Derived.BigGuard
namespace Go.Proofs.Ytfnbpljgmchhbaa
open Go.ChangeShapes Go.WideShapes Go.ChangeAt Go.RowKit El Pol Mx
set_option linter.unusedVariables false in
set_option maxRecDepth 1000000 in
set_option maxHeartbeats 8000000 in
theorem tcE (ro : Int) (n c1 l i k : Nat) (a1 : Option Addr) (a : Nat → List El) (w : World) (gx gy gl cx cy : Nat) (sP : ByteArray) (ev : Value) (u4 u5 u6 u7 u8 u9 u11 u13 u14 u15 u20 u21 u22 u23 u24 u25 u26 u27 u28 u29 u30 u31 u32 u33 u34 u35 u36 u37 u38 u39 u40 u41 u42 u43 u44 u45 u46 u47 u48 u49 u50 u51 u52 u53 u54 u55 u56 u57 u58 u59 u60 u61 u62 u63 u64 u65 u66 u67 u68 u69 u70 u71 u72 u73 u74 u75 u76 u77 u78 u79 u80 u81 u82 u83 u84 u85 u86 u87 u88 u89 u90 u91 u92 u93 u94 u95 u96 u97 u98 u99 u100 u101 u102 u103 u104 u105 u106 u107 u108 u109 u110 u111 u112 u113 u114 u115 u116 u117 u118 u119 u120 u121 u122 u123 u124 u125 u126 u127 u128 u129 u130 u131 u132 u133 u134 u135 u136 u137 u138 u139 u140 u141 u142 u143 u144 u145 u146 u147 u148 u149 u150 u151 u152 u153 u154 u155 u156 u157 u158 u159 u160 u161 u162 u163 u164 u165 u166 u167 u168 u169 u170 u171 u172 u173 u174 u175 u176 u177 u178 u179 u180 u181 u182 u183 u184 u185 u186 u187 u188 u189 : Value) (wc : World) (HR : Hid (RdF w (.slice a1 n c1) n (fun i => st (a i)))) (h1 : 1 ≤ n) (h2 : n ≤ 10) (HL : Hid (∀ i, i < n → (a i).length = l)) (hl : l ≤ 16) (hi : i < n + 2) (hk : k < n + 2) (HB : Hid (Below w.heap.size w wc)) (HX : Hid (RdF wc (.slice (some ⟨gx, 0, none⟩) (n + 2) cx) (n + 2) (fun x => st (trx n l a i k x)))) (HY : Hid (RdF wc (.slice (some ⟨gy, 0, none⟩) (n + 2) cy) (n + 2) (fun x => st (trn n l (mx a) i k [] x)))) (HLo : Hid (RdF wc (.slice (some ⟨gl, 0, none⟩) (n + 2) (n + 2)) (n + 2) (fun x => .bool (lost2 i k x))))
    (HPE : Hid (ro < 0 ∨ 20 ≤ ro → ev = .iface 49 (.int .i64 1))) (HPO : Hid (∀ r : Nat, ro = (r : Int) → r < 20 → ev = .nilIface ∧ sP = sb (wpack r (n + 2) (prts n l (mx a))))) :
    Code.wp Try.prog (cut [1, 1, 1, 1, 1, 1, 1, 1, 1, 1, 1, 1, 1, 1, 1, 1, 1, 1, 1, 1, 1] (Try.f5.body.getD .skip)) (bodyPost Try.prog Try.f5 fun e w' => e = .returned (.bool true) ∧ Below w.heap.size w w') ⟨#[.int .i64 ro, .slice a1 n c1, .int .i64 ((i : Nat) : Int), .int .i64 ((k : Nat) : Int), u4, u5, u6, u7, u8, u9, .int .i64 ((n : Nat) : Int), u11, ev, u13, u14, u15, .slice (some ⟨gx, 0, none⟩) (n + 2) cx, .slice (some ⟨gy, 0, none⟩) (n + 2) cy, .string sP, .slice (some ⟨gl, 0, none⟩) (n + 2) (n + 2), u20, u21, u22, u23, u24, u25, u26, u27, u28, u29, u30, u31, u32, u33, u34, u35, u36, u37, u38, u39, u40, u41, u42, u43, u44, u45, u46, u47, u48, u49, u50, u51, u52, u53, u54, u55, u56, u57, u58, u59, u60, u61, u62, u63, u64, u65, u66, u67, u68, u69, u70, u71, u72, u73, u74, u75, u76, u77, u78, u79, u80, u81, u82, u83, u84, u85, u86, u87, u88, u89, u90, u91, u92, u93, u94, u95, u96, u97, u98, u99, u100, u101, u102, u103, u104, u105, u106, u107, u108, u109, u110, u111, u112, u113, u114, u115, u116, u117, u118, u119, u120, u121, u122, u123, u124, u125, u126, u127, u128, u129, u130, u131, u132, u133, u134, u135, u136, u137, u138, u139, u140, u141, u142, u143, u144, u145, u146, u147, u148, u149, u150, u151, u152, u153, u154, u155, u156, u157, u158, u159, u160, u161, u162, u163, u164, u165, u166, u167, u168, u169, u170, u171, u172, u173, u174, u175, u176, u177, u178, u179, u180, u181, u182, u183, u184, u185, u186, u187, u188, u189], []⟩ wc := by
  conv => arg 2; whnf
  have C := decode_ok n 2 l h1 (by omega) (.slice (some ⟨gx, 0, none⟩) (n + 2) cx) (.slice (some ⟨gl, 0, none⟩) (n + 2) (n + 2)) (trx n l a i k) (lost2 i k) wc HX.out HLo.out (ix_lost2 i k n) trx_len hl
  rw [show ((2 : Nat) : Int) = 2 from rfl] at C
  refine wp_seq_k fun K hK => ?_
  have HK : Hid _ := hK
  clear hK
  go_wp2_with fail
  refine (C).mono ?_
  rintro e0 w1 ⟨v1, T, rfl, hI, hO1, hB1⟩
  obtain ⟨R1, hR1⟩ : ∃ R1 : Nat → List El, R1 = fun x => row (mm n T (mx (fun j => trx n l a i k (at' (lost2 i k) (n + 2) j))) x) l := ⟨_, rfl⟩
  have HS1 : Hid (sameL n n R1 a = true) := by (show sameL n n R1 a = true); rw [hR1]; exact trx_back HL.out hI
  have HO1 : Hid (RdF w1 v1 n (fun x => st (R1 x))) := by (show RdF w1 v1 n (fun x => st (R1 x))); rw [hR1]; exact OwL.rdM hO1
  have HB1 : Hid (Below w.heap.size w w1) := HB.out.trans (hB1.mono HB.out.size)
  have D := pheal_ok n l h1 h2 (.slice (some ⟨gy, 0, none⟩) (n + 2) cy) (.slice (some ⟨gl, 0, none⟩) (n + 2) (n + 2)) (trn n l (mx a) i k []) (lost2 i k) w1 (HY.out.old hB1) (HLo.out.old hB1) (ix_lost2 i k n) trn_len hl
  clear C hI hO1 hB1 HB HX HY HLo hR1
  go_wp2
  refine HK.out _ _ ?_
  clear HK K
  refine wp_seq_k fun K hK => ?_
  have HK : Hid _ := hK
  clear hK
  go_wp2_with fail
  refine (D).mono ?_
  rintro e0 w2 ⟨v2, E, rfl, hE, hO2, hB2⟩
  have HS2 : Hid (sameL (n + 2) (n + 2) (fun x => row (pqp n E x) l) (prts n l (mx a)) = true) := trn_back h2 hE
  have HO2 : Hid (RdF w2 v2 (n + 2) (fun x => st (row (pqp n E x) l))) := OwL.rdM hO2
  have HB2 : Hid (Below w.heap.size w w2) := HB1.out.trans (hB2.mono HB1.out.size)
  have HO12 : Hid (RdF w2 v1 n (fun x => st (R1 x))) := HO1.out.old hB2
  obtain ⟨a2, c2, rfl, hc2, _⟩ := (OwL.rdM hO2).len
  clear D hE hO2 hB2 HB1 HO1
  go_wp2
  refine HK.out _ _ ?_
  clear HK K
  refine wp_seq_k fun K hK => ?_
  have HK : Hid _ := hK
  clear hK
  have X1 := texts_any v1 (.slice a1 n c1) n n R1 a w2 HO12.out (HR.out.old HB2.out)
  rw [HS1.out] at X1
  have hn2 : ((n + 2 : Nat) : Int) = (n : Int) + 2 := by omega
  have hbn : (((n + 2 : Nat) : Int) != (n : Int) + 2) = false := by rw [bne_eq_false_iff_eq]; omega
  have hcn : n ≤ c2 := by omega
  have hcz : (n : Int) ≤ (c2 : Int) := by omega
  go_wp2_with fail
  refine X1.mono ?_
  rintro e0 w3 ⟨rfl, hB3⟩
  have HB3 : Hid (Below w.heap.size w w3) := HB2.out.trans (hB3.mono HB2.out.size)
  have HO3 : Hid (RdF w3 (.slice a2 (n + 2) c2) (n + 2) (fun x => st (row (pqp n E x) l))) := HO2.out.old hB3
  have X2 := texts_any (.slice a2 n c2) (.slice a1 n c1) n n (fun x => row (pqp n E x) l) a w3 (RdF.cut HO3.out (by omega)) (HR.out.old HB3.out)
  rw [trn_data HL.out HS2.out] at X2
  clear X1 hB3 HB2 HO2 HO12 HS1
  go_wp2_with fail
  refine X2.mono ?_
  rintro e0 w4 ⟨rfl, hB4⟩
  have HB4 : Hid (Below w.heap.size w w4) := HB3.out.trans (hB4.mono HB3.out.size)
  have HO4 : Hid (RdF w4 (.slice a2 (n + 2) c2) (n + 2) (fun x => st (row (pqp n E x) l))) := HO3.out.old hB4
  clear X2 hB4 HB3 HO3
  go_wp2
  refine HK.out _ _ ?_
  clear HK K
  by_cases hr : ro < 0 ∨ 20 ≤ ro
  · have he := HPE.out hr
    subst he
    refine wp_seq_k fun K hK => ?_
    clear hK
    rcases hr with hr | hr
    · have d1 : decide (ro < 0) = true := decide_eq_true hr
      go_wp2
      go_ret
      exact ⟨rfl, HB4.out⟩
    · have d1 : decide (ro < 0) = false := decide_eq_false (by omega)
      have d2 : decide ((19 : Int) < ro) = true := decide_eq_true (by omega)
      go_wp2
      go_ret
      exact ⟨rfl, HB4.out⟩
  · obtain ⟨r, rfl⟩ : ∃ r : Nat, ro = (r : Int) := ⟨ro.toNat, by omega⟩
    have hr20 : r < 20 := by omega
    obtain ⟨he, hsP⟩ := HPO.out r rfl hr20
    subst he
    have U := unpack_pk (prts_ok (a := a) h1 h2 hl hr20) w4
    unfold st at U
    rw [← hsP] at U
    clear hr hsP HPE HPO
    refine wp_seq_k fun K hK => ?_
    have HK : Hid _ := hK
    clear hK
    go_wp2
    refine HK.out _ _ ?_
    clear HK K
    refine wp_seq_k fun K hK => ?_
    have HK : Hid _ := hK
    clear hK
    go_wp2_with fail
    refine (U).mono ?_
    rintro e0 w5 ⟨u5, rfl, hO5, hB5⟩
    have HB5 : Hid (Below w.heap.size w w5) := HB4.out.trans (hB5.mono HB4.out.size)
    have X3 := texts_any u5 (.slice a2 (n + 2) c2) (n + 2) (n + 2) (prts n l (mx a)) (fun x => row (pqp n E x) l) w5 (OwT.rd hO5) (HO4.out.old hB5)
    rw [trn_other HS2.out] at X3
    clear U hO5 hB5 HB4 HO4 HS2
    go_wp2
    refine HK.out _ _ ?_
    clear HK K
    go_wp2_with fail
    refine X3.mono ?_
    rintro e0 w6 ⟨rfl, hB6⟩
    have HB6 : Hid (Below w.heap.size w w6) := HB5.out.trans (hB6.mono HB5.out.size)
    clear X3 hB6 HB5
    go_wp2
    go_ret
    exact ⟨rfl, HB6.out⟩
end Go.Proofs.Ytfnbpljgmchhbaa
