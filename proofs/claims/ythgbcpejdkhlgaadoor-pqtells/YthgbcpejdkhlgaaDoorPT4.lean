/- The last part of PqTells: Delta. -/
import Derived.Test.YthgbcpejdkhlgaaDoorPTu
import Derived.BigCall
import Derived.BigGuard
import Derived.Deep.Cut
import Derived.Deep.CutRange
namespace Go.Proofs.YthgbcpejdkhlgaaDoor
open Go.ChangeShapes Go.WideShapes Go.ChangeAt Go.RowKit El Pol Mx
/-- three texts -/
def tri (x y z : List El) : Nat → List El := fun i => if i = 0 then x else if i = 1 then y else z
def trb (b c d : El) : Nat → El := fun i => if i = 0 then b else if i = 1 then c else d
theorem tri_mix (W : World) (x y z : List El) (b c d : El) (L : Nat) (hL : L ≤ 16) (hx : x.length = L) (hy : y.length = L) (hz : z.length = L) (sx sy sz : ByteArray) (ex : sx = sb x) (ey : sy = sb y) (ez : sz = sb z) (vb vc vd : Int) (hb : vb = ((b.val : Nat) : Int)) (hc : vc = ((c.val : Nat) : Int)) (hd : vd = ((d.val : Nat) : Int)) :
    Calls Tryd.prog 22 #[.slice (some ⟨W.heap.size, 0, none⟩) 3 3, .slice (some ⟨W.heap.size + 1, 0, none⟩) 3 3] ((W.alloc (.cells #[.string sx, .string sy, .string sz] 9)).alloc (.cells #[.int .u8 vb, .int .u8 vc, .int .u8 vd] 5)) fun e w' => e = .returned (.string (sb (row (fun l => pl (pl (ti b (co x l)) (ti c (co y l))) (ti d (co z l))) L))) ∧ Below W.heap.size W w' := by
  subst ex
  subst ey
  subst ez
  subst hb
  subst hc
  subst hd
  have b1 := al_below W (.cells #[st x, st y, st z] 9)
  have b2 := al_below (W.alloc (.cells #[st x, st y, st z] 9)) (.cells #[.int .u8 ((b.val : Nat) : Int), .int .u8 ((c.val : Nat) : Int), .int .u8 ((d.val : Nat) : Int)] 5)
  have b12 := b1.trans (b2.mono b1.size)
  have r1 : RdF (W.alloc (.cells #[st x, st y, st z] 9)) (.slice (some ⟨W.heap.size, 0, none⟩) 3 3) 3 (fun i => st (row (mx (tri x y z) i) L)) :=
    OwL.rdF (own_lit (B := W.heap.size) [st x, st y, st z] (Nat.le_refl _) (by simp)) (fun i hi => by
      match i, hi with
      | 0, _ => show some (st x) = some (st (row (co x) L)); rw [← hx, row_co]
      | 1, _ => show some (st y) = some (st (row (co y) L)); rw [← hy, row_co]
      | 2, _ => show some (st z) = some (st (row (co z) L)); rw [← hz, row_co])
  have r2 := (own_bytes (B := W.heap.size) (w := W.alloc (.cells #[st x, st y, st z] 9)) [b, c, d] (by simp) (by simp)).rd
  rw [show (W.alloc (.cells #[st x, st y, st z] 9)).heap.size = W.heap.size + 1 by simp] at r2
  have := rmix_any _ _ 3 L (mx (tri x y z)) (trb b c d) _ (r1.old b2) r2 (by omega) (by omega) hL
  rw [row_congr (g := fun l => pl (pl (ti b (co x l)) (ti c (co y l))) (ti d (co z l))) (fun l _ => by
    show pl (pl (pl 0 (ti b (co x l))) (ti c (co y l))) (ti d (co z l)) = _
    rw [zero_pl])] at this
  exact this.mono fun e w' ⟨he, hb⟩ => ⟨he, b12.trans (hb.mono b12.size)⟩
theorem dl_same_p (x4 x5 : List El) (L : Nat) : row (fun l => pl (pl (ti 1 (co x4 l)) (ti 1 (co x4 l))) (ti 1 (co x5 l))) L = row (fun l => pl (pl (co x4 l) (co x5 l)) (co x4 l)) L := row_congr (fun l _ => by
  rw [one_ti, one_ti, pl_self, zero_pl, pl_comm (co x4 l) (co x5 l), pl_assoc, pl_self, pl_zero])
theorem dl_same_q (g : El) (x4 x5 x6 : List El) (L : Nat) : row (fun l => pl (pl (ti 1 (co x6 l)) (ti g (co x4 l))) (ti g (co x5 l))) L = row (fun l => pl (pl (ti g (co x4 l)) (ti g (co x5 l))) (co x6 l)) L := row_congr (fun l _ => by
  rw [one_ti, pl_assoc, pl_comm])
set_option linter.unusedVariables false in
set_option maxRecDepth 1000000 in
set_option maxHeartbeats 8000000 in
theorem pt4 (a0 : Option Addr) (n0 c0 : Nat) (S0 : Nat → List El) (a1 : Option Addr) (n1 c1 : Nat) (S1 : Nat → List El) (a2 : Option Addr) (n2 c2 : Nat) (b2 : Nat → Bool) (i : Int) (x4 x5 x6 : List El) (w : World) (HG : Hid (Handle w))
    (H0 : Hid (RdF w (.slice a0 n0 c0) n0 (fun i => st (S0 i)))) (z0 : n0 ≤ 8796093021952) (H1 : Hid (RdF w (.slice a1 n1 c1) n1 (fun i => st (S1 i)))) (z1 : n1 ≤ 8796093021952) (H2 : Hid (RdF w (.slice a2 n2 c2) n2 (fun i => .bool (b2 i)))) (z2 : n2 ≤ 140737488351232)  (u7 u8 u9 u10 u11 u12 u13 u14 u15 u16 u17 u18 u19 u20 u22 u23 u24 u25 u26 u28 u29 u30 u31 u33 u34 u35 u36 u37 u38 u39 u40 u41 u42 u43 u44 u45 u46 u47 u48 u49 u50 u51 u52 u53 u54 u55 u56 u57 u58 u59 u60 u61 u62 u63 u64 u65 u66 u67 u68 u69 u70 u71 u72 u73 u74 u75 u76 u77 u78 u79 u80 u81 u82 u83 u84 u85 u86 u87 u88 u89 u90 u91 u92 u93 u94 u95 u96 u97 u98 u99 u100 u101 u102 u103 u104 u105 u106 u107 u108 u109 u110 u111 u112 u113 u114 u115 u116 u117 u118 u119 u120 u121 u122 u123 u124 u125 u126 u127 u128 u129 u130 u131 u132 u133 u134 u135 u136 u137 u138 u139 u140 u141 u142 u143 u144 u145 u146 u147 u148 u149 u150 u151 u152 u153 u154 u155 u156 u157 u158 u159 u160 u161 u162 u163 u164 u165 u166 u167 u168 u169 u170 u171 u172 u173 u174 u175 u176 u177 u178 u179 u180 u181 u182 u183 u184 u185 u186 u187 u188 u189 u190 u191 u192 u193 u194 u195 u196 u197 u198 u199 u200 u201 u202 u203 u204 u205 u206 u207 u208 u209 u210 u211 u212 u213 u214 u215 u216 u217 u218 u219 u220 u221 u222 u223 u224 u225 u226 u227 u228 u229 u230 u231 u232 u233 u234 u235 u236 u237 u238 u239 : Value) (wc : World) (hW : Below w.heap.size w wc) :
    Code.wp Tryd.prog (dropS 26 (Tryd.f5.body.getD .skip)) (bodyPost Tryd.prog Tryd.f5 fun e w' => e = .returned (.bool true) ∧ Below w.heap.size w w') ⟨#[.slice a0 n0 c0, .slice a1 n1 c1, .slice a2 n2 c2, .int .i64 i, st x4, st x5, st x6, u7, u8, u9, u10, u11, u12, u13, u14, u15, u16, u17, u18, u19, u20, .bool true, u22, u23, u24, u25, u26, .bool true, u28, u29, u30, u31, .bool true, u33, u34, u35, u36, u37, u38, u39, u40, u41, u42, u43, u44, u45, u46, u47, u48, u49, u50, u51, u52, u53, u54, u55, u56, u57, u58, u59, u60, u61, u62, u63, u64, u65, u66, u67, u68, u69, u70, u71, u72, u73, u74, u75, u76, u77, u78, u79, u80, u81, u82, u83, u84, u85, u86, u87, u88, u89, u90, u91, u92, u93, u94, u95, u96, u97, u98, u99, u100, u101, u102, u103, u104, u105, u106, u107, u108, u109, u110, u111, u112, u113, u114, u115, u116, u117, u118, u119, u120, u121, u122, u123, u124, u125, u126, u127, u128, u129, u130, u131, u132, u133, u134, u135, u136, u137, u138, u139, u140, u141, u142, u143, u144, u145, u146, u147, u148, u149, u150, u151, u152, u153, u154, u155, u156, u157, u158, u159, u160, u161, u162, u163, u164, u165, u166, u167, u168, u169, u170, u171, u172, u173, u174, u175, u176, u177, u178, u179, u180, u181, u182, u183, u184, u185, u186, u187, u188, u189, u190, u191, u192, u193, u194, u195, u196, u197, u198, u199, u200, u201, u202, u203, u204, u205, u206, u207, u208, u209, u210, u211, u212, u213, u214, u215, u216, u217, u218, u219, u220, u221, u222, u223, u224, u225, u226, u227, u228, u229, u230, u231, u232, u233, u234, u235, u236, u237, u238, u239], []⟩ wc := by
  conv => arg 2; whnf
  obtain ⟨s4, hs4⟩ : ∃ s, s = sb x4 := ⟨_, rfl⟩
  obtain ⟨s5, hs5⟩ : ∃ s, s = sb x5 := ⟨_, rfl⟩
  obtain ⟨s6, hs6⟩ : ∃ s, s = sb x6 := ⟨_, rfl⟩
  have HS4 : Hid (s4 = sb x4) := hs4
  have HS5 : Hid (s5 = sb x5) := hs5
  have HS6 : Hid (s6 = sb x6) := hs6
  have HW : Hid (Below w.heap.size w wc) := hW
  unfold st
  rw [← hs4, ← hs5, ← hs6]
  clear hs4 hs5 hs6
  by_cases h1 : i < 0
  · have C := fun W => pdelta_bad i x4 x5 x4 x6 1 W (by unfold pdf; rw [if_pos (.inl h1)]) (by omega)
    unfold st at C
    rw [← HS4.out, ← HS5.out, ← HS6.out] at C
    go_wp2_with fail
    refine (C _).mono ?_
    rintro e1 w1 ⟨rfl, hB⟩
    replace hW := hW.trans (hB.mono hW.size)
    clear hB
    clear C
    go_wp2_with fail
    refine (err_same 1 _ (HG.out.old hW)).mono ?_
    rintro e9 we9 ⟨rfl, hB⟩
    replace hW := hW.trans (hB.mono hW.size)
    clear hB
    go_wp2
    go_ret
    exact ⟨rfl, hW⟩
  · by_cases h2 : 9 < i
    · have C := fun W => pdelta_bad i x4 x5 x4 x6 1 W (by unfold pdf; rw [if_pos (.inr h2)]) (by omega)
      unfold st at C
      rw [← HS4.out, ← HS5.out, ← HS6.out] at C
      go_wp2_with fail
      refine (C _).mono ?_
      rintro e1 w1 ⟨rfl, hB⟩
      replace hW := hW.trans (hB.mono hW.size)
      clear hB
      clear C
      go_wp2_with fail
      refine (err_same 1 _ (HG.out.old hW)).mono ?_
      rintro e9 we9 ⟨rfl, hB⟩
      replace hW := hW.trans (hB.mono hW.size)
      clear hB
      go_wp2
      go_ret
      exact ⟨rfl, hW⟩
    · obtain ⟨j, hj⟩ : ∃ j : Nat, i = j := ⟨i.toNat, by omega⟩
      subst hj
      have hj9 : j ≤ 9 := by omega
      have D := rblocks_any _ 4 (four x4 x5 x4 x6) _ (four_rd wc x4 x5 x4 x6) (by omega) (by omega)
      have hal := al_below wc (.cells #[st x4, st x5, st x4, st x6] 9)
      have hpd : pdf (j : Int) (four x4 x5 x4 x6) = bbad 4 (four x4 x5 x4 x6) := by unfold pdf; rw [if_neg (by omega)]
      obtain ⟨c, hc⟩ : ∃ c, c = bbad 4 (four x4 x5 x4 x6) := ⟨_, rfl⟩
      rw [← hc] at D hpd
      unfold st at D hal
      rw [← HS4.out, ← HS5.out, ← HS6.out] at D hal
      by_cases hc0 : c = 0
      · subst hc0
        have hbb := bbad_ok hc.symm
        have l5 : x5.length = x4.length := hbb.1 1 (by omega)
        have l6 : x6.length = x4.length := hbb.1 3 (by omega)
        have hL16 : x4.length ≤ 16 := hbb.2
        have HL5 : Hid (x5.length = x4.length) := l5
        have HL6 : Hid (x6.length = x4.length) := l6
        clear hc hpd hbb l5 l6 h1 h2
        have h1 : ¬ (j : Int) < 0 := by omega
        have h2 : ¬ (9 : Int) < (j : Int) := by omega
        go_wp2_with fail
        refine D.mono ?_
        rintro e5 w5 ⟨rfl, hB0⟩
        have hB := hal.trans (hB0.mono hal.size)
        clear hB0 hal D
        replace hW := hW.trans (hB.mono hW.size)
        clear hB
        have E1 := tri_mix w5 x4 x4 x5 1 1 1 x4.length hL16 rfl rfl HL5.out s4 s4 s5 HS4.out HS4.out HS5.out 1 1 1 rfl rfl rfl
        rw [dl_same_p] at E1
        obtain ⟨sp, hsp⟩ : ∃ s, s = sb (row (fun l => pl (pl (co x4 l) (co x5 l)) (co x4 l)) x4.length) := ⟨_, rfl⟩
        have HSP : Hid (sp = sb (row (fun l => pl (pl (co x4 l) (co x5 l)) (co x4 l)) x4.length)) := hsp
        rw [← hsp] at E1
        clear hsp
        go_wp2_with fail
        refine E1.mono ?_
        rintro e6 w6 ⟨rfl, hB⟩
        replace hW := hW.trans (hB.mono hW.size)
        clear hB
        clear E1
        go_wp2_with fail
        refine (rpowQ j (by omega) _).mono ?_
        rintro e7 w7 ⟨rfl, hq7⟩
        have hB : Below w6.heap.size w6 w7 := by obtain ⟨q, rfl⟩ := hq7; exact below_drewN (Below.refl _ _) q
        replace hW := hW.trans (hB.mono hW.size)
        clear hB
        clear hq7
        obtain ⟨g, hg⟩ : ∃ g, g = g2 j := ⟨_, rfl⟩
        have HGJ : Hid (g = g2 j) := hg
        rw [← hg]
        clear hg
        have E2 := tri_mix w7 x6 x4 x5 1 g g x4.length hL16 HL6.out rfl HL5.out s6 s4 s5 HS6.out HS4.out HS5.out 1 ((g.val : Nat) : Int) ((g.val : Nat) : Int) rfl rfl rfl
        rw [dl_same_q] at E2
        obtain ⟨sq, hsq⟩ : ∃ s, s = sb (row (fun l => pl (pl (ti g (co x4 l)) (ti g (co x5 l))) (co x6 l)) x4.length) := ⟨_, rfl⟩
        have HSQ : Hid (sq = sb (row (fun l => pl (pl (ti g (co x4 l)) (ti g (co x5 l))) (co x6 l)) x4.length)) := hsq
        rw [← hsq] at E2
        clear hsq
        go_wp2_with fail
        refine E2.mono ?_
        rintro e8 w8 ⟨rfl, hB⟩
        replace hW := hW.trans (hB.mono hW.size)
        clear hB
        clear E2
        have C := pdelta_ok j hj9 x4.length x4 x5 x4 x6 w8 rfl HL5.out rfl HL6.out hL16
        unfold st at C
        rw [← HS4.out, ← HS5.out, ← HS6.out, ← HSP.out, ← HGJ.out, ← HSQ.out] at C
        go_wp2_with fail
        refine C.mono ?_
        rintro e1 w1 ⟨rfl, hB⟩
        replace hW := hW.trans (hB.mono hW.size)
        clear hB
        clear C
        go_wp2_with fail
        refine (err_none _).mono ?_
        rintro e9 we9 ⟨rfl, hwe⟩
        obtain rfl := hwe.symm
        clear hwe
        go_wp2
        go_ret
        exact ⟨rfl, hW⟩
      · have HC : Hid (pdf (j : Int) (four x4 x5 x4 x6) = c) := hpd
        have hcb : ((c : Int) == 0) = false := by rw [beq_eq_false_iff_ne]; omega
        clear hpd hc h1 h2
        have h1 : ¬ (j : Int) < 0 := by omega
        have h2 : ¬ (9 : Int) < (j : Int) := by omega
        go_wp2_with fail
        refine D.mono ?_
        rintro e5 w5 ⟨rfl, hB0⟩
        have hB := hal.trans (hB0.mono hal.size)
        clear hB0 hal D
        replace hW := hW.trans (hB.mono hW.size)
        clear hB
        have C := pdelta_bad j x4 x5 x4 x6 c w5 HC.out hc0
        unfold st at C
        rw [← HS4.out, ← HS5.out, ← HS6.out] at C
        clear hc0
        go_wp2_with fail
        refine C.mono ?_
        rintro e1 w1 ⟨rfl, hB⟩
        replace hW := hW.trans (hB.mono hW.size)
        clear hB
        clear C
        go_wp2_with fail
        refine (err_same ((c : Nat) : Int) _ (HG.out.old hW)).mono ?_
        rintro e9 we9 ⟨rfl, hB⟩
        replace hW := hW.trans (hB.mono hW.size)
        clear hB
        go_wp2
        go_ret
        exact ⟨rfl, hW⟩
end Go.Proofs.YthgbcpejdkhlgaaDoor
