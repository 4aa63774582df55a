/- The third part of PqTells: Locate. -/
import Derived.Test.YthgbcpejdkhlgaaDoorPT4
import Derived.BigCall
import Derived.BigGuard
import Derived.Deep.Cut
import Derived.Deep.CutRange
namespace Go.Proofs.YthgbcpejdkhlgaaDoor
open Go.ChangeShapes Go.WideShapes Go.ChangeAt Go.RowKit El Pol Mx
set_option linter.unusedVariables false in
set_option maxRecDepth 1000000 in
set_option maxHeartbeats 8000000 in
theorem pt3 (a0 : Option Addr) (n0 c0 : Nat) (S0 : Nat → List El) (a1 : Option Addr) (n1 c1 : Nat) (S1 : Nat → List El) (a2 : Option Addr) (n2 c2 : Nat) (b2 : Nat → Bool) (i : Int) (x4 x5 x6 : List El) (w : World) (HG : Hid (Handle w))
    (H0 : Hid (RdF w (.slice a0 n0 c0) n0 (fun i => st (S0 i)))) (z0 : n0 ≤ 8796093021952) (H1 : Hid (RdF w (.slice a1 n1 c1) n1 (fun i => st (S1 i)))) (z1 : n1 ≤ 8796093021952) (H2 : Hid (RdF w (.slice a2 n2 c2) n2 (fun i => .bool (b2 i)))) (z2 : n2 ≤ 140737488351232) (e : Nat) (HE : Hid (e = if n1 < 3 ∨ 12 < n1 then 1 else 0)) (u7 u8 u9 u10 u11 u12 u13 u14 u16 u17 u18 u19 u20 u22 u23 u24 u25 u26 u28 u29 u30 u31 u32 u33 u34 u35 u36 u37 u38 u39 u40 u41 u42 u43 u44 u45 u46 u47 u48 u49 u50 u51 u52 u53 u54 u55 u56 u57 u58 u59 u60 u61 u62 u63 u64 u65 u66 u67 u68 u69 u70 u71 u72 u73 u74 u75 u76 u77 u78 u79 u80 u81 u82 u83 u84 u85 u86 u87 u88 u89 u90 u91 u92 u93 u94 u95 u96 u97 u98 u99 u100 u101 u102 u103 u104 u105 u106 u107 u108 u109 u110 u111 u112 u113 u114 u115 u116 u117 u118 u119 u120 u121 u122 u123 u124 u125 u126 u127 u128 u129 u130 u131 u132 u133 u134 u135 u136 u137 u138 u139 u140 u141 u142 u143 u144 u145 u146 u147 u148 u149 u150 u151 u152 u153 u154 u155 u156 u157 u158 u159 u160 u161 u162 u163 u164 u165 u166 u167 u168 u169 u170 u171 u172 u173 u174 u175 u176 u177 u178 u179 u180 u181 u182 u183 u184 u185 u186 u187 u188 u189 u190 u191 u192 u193 u194 u195 u196 u197 u198 u199 u200 u201 u202 u203 u204 u205 u206 u207 u208 u209 u210 u211 u212 u213 u214 u215 u216 u217 u218 u219 u220 u221 u222 u223 u224 u225 u226 u227 u228 u229 u230 u231 u232 u233 u234 u235 u236 u237 u238 u239 : Value) (wc : World) (hW : Below w.heap.size w wc) :
    Code.wp Tryd.prog (dropS 21 (Tryd.f5.body.getD .skip)) (bodyPost Tryd.prog Tryd.f5 fun e w' => e = .returned (.bool true) ∧ Below w.heap.size w w') ⟨#[.slice a0 n0 c0, .slice a1 n1 c1, .slice a2 n2 c2, .int .i64 i, st x4, st x5, st x6, u7, u8, u9, u10, u11, u12, u13, u14, .int .i64 ((e : Nat) : Int), u16, u17, u18, u19, u20, .bool true, u22, u23, u24, u25, u26, .bool true, u28, u29, u30, u31, u32, u33, u34, u35, u36, u37, u38, u39, u40, u41, u42, u43, u44, u45, u46, u47, u48, u49, u50, u51, u52, u53, u54, u55, u56, u57, u58, u59, u60, u61, u62, u63, u64, u65, u66, u67, u68, u69, u70, u71, u72, u73, u74, u75, u76, u77, u78, u79, u80, u81, u82, u83, u84, u85, u86, u87, u88, u89, u90, u91, u92, u93, u94, u95, u96, u97, u98, u99, u100, u101, u102, u103, u104, u105, u106, u107, u108, u109, u110, u111, u112, u113, u114, u115, u116, u117, u118, u119, u120, u121, u122, u123, u124, u125, u126, u127, u128, u129, u130, u131, u132, u133, u134, u135, u136, u137, u138, u139, u140, u141, u142, u143, u144, u145, u146, u147, u148, u149, u150, u151, u152, u153, u154, u155, u156, u157, u158, u159, u160, u161, u162, u163, u164, u165, u166, u167, u168, u169, u170, u171, u172, u173, u174, u175, u176, u177, u178, u179, u180, u181, u182, u183, u184, u185, u186, u187, u188, u189, u190, u191, u192, u193, u194, u195, u196, u197, u198, u199, u200, u201, u202, u203, u204, u205, u206, u207, u208, u209, u210, u211, u212, u213, u214, u215, u216, u217, u218, u219, u220, u221, u222, u223, u224, u225, u226, u227, u228, u229, u230, u231, u232, u233, u234, u235, u236, u237, u238, u239], []⟩ wc := by
  conv => arg 2; whnf
  by_cases he : n1 < 3 ∨ 12 < n1
  · have e1 : e = 1 := by rw [HE.out, if_pos he]
    subst e1
    have C := plocate_bad (.slice a1 n1 c1) n1 1 S1 wc (H1.out.old hW) z1 (by unfold plf; rw [if_pos he]) (by omega)
    clear he
    go_wp2_with fail
    refine C.mono ?_
    rintro e1 w1 ⟨rfl, hB⟩
    replace hW := hW.trans (hB.mono hW.size)
    clear hB
    clear C
    go_upto_region 42 with fail
    go_cut [32] from 32 to 32 (fun sx wx => sx = .bool true ∧ Below w.heap.size w wx)
    case first =>
      go_wp2_with fail
      refine (err_same 1 _ (HG.out.old hW)).mono ?_
      rintro e9 we9 ⟨rfl, hB⟩
      replace hW := hW.trans (hB.mono hW.size)
      clear hB
      go_wp2
      go_meet
      case rel => exact ⟨rfl, hW⟩
    case rest =>
      clear hW
      obtain ⟨rfl, hW⟩ := hcut
      rename ∀ (a : Act) (w : World), Code.wp _ _ _ a w → _ => hK
      refine hK _ _ ?_
      exact pt4 _ _ _ S0 _ _ _ S1 _ _ _ b2 _ x4 x5 x6 w HG H0 z0 H1 z1 H2 z2 _ _ _ _ _ _ _ _ _ _ _ _ _ _ _ _ _ _ _ _ _ _ _ _ _ _ _ _ _ _ _ _ _ _ _ _ _ _ _ _ _ _ _ _ _ _ _ _ _ _ _ _ _ _ _ _ _ _ _ _ _ _ _ _ _ _ _ _ _ _ _ _ _ _ _ _ _ _ _ _ _ _ _ _ _ _ _ _ _ _ _ _ _ _ _ _ _ _ _ _ _ _ _ _ _ _ _ _ _ _ _ _ _ _ _ _ _ _ _ _ _ _ _ _ _ _ _ _ _ _ _ _ _ _ _ _ _ _ _ _ _ _ _ _ _ _ _ _ _ _ _ _ _ _ _ _ _ _ _ _ _ _ _ _ _ _ _ _ _ _ _ _ _ _ _ _ _ _ _ _ _ _ _ _ _ _ _ _ _ _ _ _ _ _ _ _ _ _ _ _ _ _ _ _ _ _ _ _ _ _ _ _ _ _ _ _ _ _ _ _ _ _ _ _ _ _ _ _ _ _ _ hW
  · have e0 : e = 0 := by rw [HE.out, if_neg he]
    subst e0
    obtain ⟨k, hk⟩ : ∃ k, n1 = k + 2 := ⟨n1 - 2, by omega⟩
    subst hk
    have hk1 : 1 ≤ k := by omega
    have hk10 : k ≤ 10 := by omega
    have D := rblocks_any (.slice a1 (k + 2) c1) (k + 2) S1 wc (H1.out.old hW) z1 (by omega)
    have hpl : plf (k + 2) S1 = bbad (k + 2) S1 := by unfold plf; rw [if_neg he]
    obtain ⟨c, hc⟩ : ∃ c, c = bbad (k + 2) S1 := ⟨_, rfl⟩
    rw [← hc] at D hpl
    clear he
    by_cases hc0 : c = 0
    · subst hc0
      have hbb := bbad_ok hc.symm
      have HBL : Hid (∀ x, x < k + 2 → (S1 x).length = (S1 0).length) := hbb.1
      have hL16 := hbb.2
      clear hc hpl hbb
      go_wp2_with fail
      refine D.mono ?_
      rintro e5 w5 ⟨rfl, hB⟩
      replace hW := hW.trans (hB.mono hW.size)
      clear hB
      clear D
      have E := rlocate_any k (S1 0).length hk1 hk10 (.slice a1 (k + 2) c1) S1 w5 (H1.out.old hW) HBL.out hL16
      go_wp2_with fail
      refine E.mono ?_
      rintro e6 w6 ⟨z, f, rfl, hZ, hB⟩
      replace hW := hW.trans (hB.mono hW.size)
      clear hB
      clear E
      have C := (plocate_ok k (S1 0).length hk1 hk10 (.slice a1 (k + 2) c1) S1 w6 (H1.out.old hW) HBL.out hL16)
      have C2 : Calls Tryd.prog 21 #[.slice a1 (k + 2) c1] w6 fun e w' => e = .returned (.tuple #[.int .i64 z, errV f]) ∧ Below w6.heap.size w6 w' := C.mono fun e' w' ⟨z', f', he', hZ', hb'⟩ => by
        obtain ⟨q1, q2⟩ := hZ.same hk10 hZ'
        subst q1
        subst q2
        exact ⟨he', hb'⟩
      have hf : f = 0 ∨ f = 8 := by
        rcases hZ with ⟨_, _, q⟩ | ⟨_, _, q⟩ | ⟨_, _, _, q⟩
        · exact .inl q
        · exact .inl q
        · exact .inr q
      clear C hZ
      have hzz : (z == z) = true := by simp
      rcases hf with hf | hf
      · subst hf
        have herr : errV 0 = .nilIface := rfl
        rw [herr] at C2
        clear herr
        rw [show (decide ((0 : Nat) = 0)) = true from rfl]
        go_wp2_with fail
        refine C2.mono ?_
        rintro e1 w1 ⟨rfl, hB⟩
        replace hW := hW.trans (hB.mono hW.size)
        clear hB
        clear C2
        go_upto_region 42 with fail
        go_cut [32] from 32 to 32 (fun sx wx => sx = .bool true ∧ Below w.heap.size w wx)
        case first =>
          go_wp2_with fail
          refine (err_none _).mono ?_
          rintro e9 we9 ⟨rfl, hwe⟩
          obtain rfl := hwe.symm
          clear hwe
          go_wp2
          go_meet
          case rel => exact ⟨rfl, hW⟩
        case rest =>
          clear hW
          obtain ⟨rfl, hW⟩ := hcut
          rename ∀ (a : Act) (w : World), Code.wp _ _ _ a w → _ => hK
          refine hK _ _ ?_
          exact pt4 _ _ _ S0 _ _ _ S1 _ _ _ b2 _ x4 x5 x6 w HG H0 z0 H1 z1 H2 z2 _ _ _ _ _ _ _ _ _ _ _ _ _ _ _ _ _ _ _ _ _ _ _ _ _ _ _ _ _ _ _ _ _ _ _ _ _ _ _ _ _ _ _ _ _ _ _ _ _ _ _ _ _ _ _ _ _ _ _ _ _ _ _ _ _ _ _ _ _ _ _ _ _ _ _ _ _ _ _ _ _ _ _ _ _ _ _ _ _ _ _ _ _ _ _ _ _ _ _ _ _ _ _ _ _ _ _ _ _ _ _ _ _ _ _ _ _ _ _ _ _ _ _ _ _ _ _ _ _ _ _ _ _ _ _ _ _ _ _ _ _ _ _ _ _ _ _ _ _ _ _ _ _ _ _ _ _ _ _ _ _ _ _ _ _ _ _ _ _ _ _ _ _ _ _ _ _ _ _ _ _ _ _ _ _ _ _ _ _ _ _ _ _ _ _ _ _ _ _ _ _ _ _ _ _ _ _ _ _ _ _ _ _ _ _ _ _ _ _ _ _ _ _ _ _ _ _ _ _ _ _ hW
      · subst hf
        have herr : errV 8 = .iface 56 (.int .i64 8) := rfl
        rw [herr] at C2
        clear herr
        rw [show (decide ((8 : Nat) = 0)) = false from rfl]
        go_wp2_with fail
        refine C2.mono ?_
        rintro e1 w1 ⟨rfl, hB⟩
        replace hW := hW.trans (hB.mono hW.size)
        clear hB
        clear C2
        go_upto_region 42 with fail
        go_cut [32] from 32 to 32 (fun sx wx => sx = .bool true ∧ Below w.heap.size w wx)
        case first =>
          go_wp2_with fail
          refine (err_same 8 _ (HG.out.old hW)).mono ?_
          rintro e9 we9 ⟨rfl, hB⟩
          replace hW := hW.trans (hB.mono hW.size)
          clear hB
          go_wp2
          go_meet
          case rel => exact ⟨rfl, hW⟩
        case rest =>
          clear hW
          obtain ⟨rfl, hW⟩ := hcut
          rename ∀ (a : Act) (w : World), Code.wp _ _ _ a w → _ => hK
          refine hK _ _ ?_
          exact pt4 _ _ _ S0 _ _ _ S1 _ _ _ b2 _ x4 x5 x6 w HG H0 z0 H1 z1 H2 z2 _ _ _ _ _ _ _ _ _ _ _ _ _ _ _ _ _ _ _ _ _ _ _ _ _ _ _ _ _ _ _ _ _ _ _ _ _ _ _ _ _ _ _ _ _ _ _ _ _ _ _ _ _ _ _ _ _ _ _ _ _ _ _ _ _ _ _ _ _ _ _ _ _ _ _ _ _ _ _ _ _ _ _ _ _ _ _ _ _ _ _ _ _ _ _ _ _ _ _ _ _ _ _ _ _ _ _ _ _ _ _ _ _ _ _ _ _ _ _ _ _ _ _ _ _ _ _ _ _ _ _ _ _ _ _ _ _ _ _ _ _ _ _ _ _ _ _ _ _ _ _ _ _ _ _ _ _ _ _ _ _ _ _ _ _ _ _ _ _ _ _ _ _ _ _ _ _ _ _ _ _ _ _ _ _ _ _ _ _ _ _ _ _ _ _ _ _ _ _ _ _ _ _ _ _ _ _ _ _ _ _ _ _ _ _ _ _ _ _ _ _ _ _ _ _ _ _ _ _ _ _ hW
    · have HC : Hid (plf (k + 2) S1 = c) := hpl
      have hcb : ((c : Int) == 0) = false := by rw [beq_eq_false_iff_ne]; omega
      clear hpl hc
      go_wp2_with fail
      refine D.mono ?_
      rintro e5 w5 ⟨rfl, hB⟩
      replace hW := hW.trans (hB.mono hW.size)
      clear hB
      clear D
      have C := plocate_bad (.slice a1 (k + 2) c1) (k + 2) c S1 w5 (H1.out.old hW) z1 HC.out hc0
      clear hc0
      go_wp2_with fail
      refine C.mono ?_
      rintro e1 w1 ⟨rfl, hB⟩
      replace hW := hW.trans (hB.mono hW.size)
      clear hB
      clear C
      go_upto_region 42 with fail
      go_cut [32] from 32 to 32 (fun sx wx => sx = .bool true ∧ Below w.heap.size w wx)
      case first =>
        go_wp2_with fail
        refine (err_same ((c : Nat) : Int) _ (HG.out.old hW)).mono ?_
        rintro e9 we9 ⟨rfl, hB⟩
        replace hW := hW.trans (hB.mono hW.size)
        clear hB
        go_wp2
        go_meet
        case rel => exact ⟨rfl, hW⟩
      case rest =>
        clear hW
        obtain ⟨rfl, hW⟩ := hcut
        rename ∀ (a : Act) (w : World), Code.wp _ _ _ a w → _ => hK
        refine hK _ _ ?_
        exact pt4 _ _ _ S0 _ _ _ S1 _ _ _ b2 _ x4 x5 x6 w HG H0 z0 H1 z1 H2 z2 _ _ _ _ _ _ _ _ _ _ _ _ _ _ _ _ _ _ _ _ _ _ _ _ _ _ _ _ _ _ _ _ _ _ _ _ _ _ _ _ _ _ _ _ _ _ _ _ _ _ _ _ _ _ _ _ _ _ _ _ _ _ _ _ _ _ _ _ _ _ _ _ _ _ _ _ _ _ _ _ _ _ _ _ _ _ _ _ _ _ _ _ _ _ _ _ _ _ _ _ _ _ _ _ _ _ _ _ _ _ _ _ _ _ _ _ _ _ _ _ _ _ _ _ _ _ _ _ _ _ _ _ _ _ _ _ _ _ _ _ _ _ _ _ _ _ _ _ _ _ _ _ _ _ _ _ _ _ _ _ _ _ _ _ _ _ _ _ _ _ _ _ _ _ _ _ _ _ _ _ _ _ _ _ _ _ _ _ _ _ _ _ _ _ _ _ _ _ _ _ _ _ _ _ _ _ _ _ _ _ _ _ _ _ _ _ _ _ _ _ _ _ _ _ _ _ _ _ _ _ _ hW
end Go.Proofs.YthgbcpejdkhlgaaDoor
