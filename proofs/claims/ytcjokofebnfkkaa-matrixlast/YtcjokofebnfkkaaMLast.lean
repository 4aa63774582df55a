/- Turned twice it is itself, and the inverse of a product: the call answers true, whatever matrices it is given. -/
import Derived.Test.YtcjokofebnfkkaaMatK
namespace Go.Proofs.Ytcjokofebnfkkaa
open Go.ChangeShapes Go.WideShapes Go.ChangeAt Go.RowKit El Pol Mx
set_option maxRecDepth 100000 in
set_option maxHeartbeats 4000000 in
theorem mlast_any (a1 : Option Addr) (n c1 : Nat) (R1 : Nat → List El) (a2 : Option Addr) (m c2 : Nat) (R2 : Nat → List El) (w : World) (h1 : RdM w (.slice a1 n c1) n R1) (h2 : RdM w (.slice a2 m c2) m R2) :
    Calls Try.prog 5 #[.slice a1 n c1, .slice a2 m c2] w fun e w' => e = .returned (.bool true) ∧ Below w.heap.size w w' := by
  have HA : Hid (RdM w (.slice a1 n c1) n R1) := h1
  have HB : Hid (RdM w (.slice a2 m c2) m R2) := h2
  clear h1 h2
  have L := lit22 w 1 2 2 4
  have C := rank_ok _ _ _ _ _ L.1
  have hBL := L.2
  clear L
  go_enter Try.func5, Try.ntmps5
  go_wp2_with fail
  refine C.mono ?_
  rintro e w1 ⟨r, rfl, hr, hB1⟩
  obtain rfl := rank_lit hr
  have hB1' := hBL.trans (hB1.mono hBL.size)
  clear C hr hBL hB1
  go_wp2_with fail
  refine (inverse_all _ n R1 _ (HA.out.old hB1')).mono ?_
  rintro e w2 ⟨hB2, hh⟩
  have hB2' := hB1'.trans (hB2.mono hB1'.size)
  have hs1 := hB1'.size
  rcases hh with ⟨x, T, rvx, rfl, hb, hw, hn0, hi, ho⟩ | ⟨k, rfl, hk, _⟩
  · have hn12 := bad_le hb
    obtain ⟨ax, cx, rfl, _, _⟩ := ho.rd.len
    have HI : Hid (Inv n (mx R1) T) := hi
    have HW : Hid (Go.Proofs.Ytcjokofebnfkkaa.bad n R1 = 0 ∧ Go.Proofs.Ytcjokofebnfkkaa.wd n R1 = n) := ⟨hb, hw⟩
    have HX : Hid (Mt w2 (.slice ax n cx) n n T) := ho.mt hn12 hn12 id
    clear hi ho hb hw hB1' hB2
    go_wp2_with fail
    refine (inverse_inv _ n T (mx R1) w2 HX.out hn0 HI.out.symm).mono ?_
    rintro e w3 ⟨z, rvz, rfl, hz, hB3⟩
    obtain ⟨az, cz, rfl, _, _⟩ := hz.rd.len
    have hB3' := hB2'.trans (hB3.mono hB2'.size)
    have hza : RdM w3 (.slice az n cz) n R1 := hz.rd.congr (fun i hi => (mt_rows HA.out HW.out.1 HW.out.2 (Eqm.refl _ _ _) i hi).symm)
    have HX3 : Hid (Mt w3 (.slice ax n cx) n n T) := HX.out.old hB3
    clear hz hB2' hB3 HX
    go_wp2_with fail
    refine (rows_same _ _ n R1 w3 hza (HA.out.old hB3')).mono ?_
    rintro e w4 ⟨rfl, hB4⟩
    have hB4' := hB3'.trans (hB4.mono hB3'.size)
    have HX4 : Hid (Mt w4 (.slice ax n cx) n n T) := HX3.out.old hB4
    clear hza hB3' hB4 HX3
    go_wp2_with fail
    refine (inverse_all _ m R2 _ (HB.out.old hB4')).mono ?_
    rintro e w5 ⟨hB5, hh⟩
    have hB5' := hB4'.trans (hB5.mono hB4'.size)
    have HX5 : Hid (Mt w5 (.slice ax n cx) n n T) := HX4.out.old hB5
    rcases hh with ⟨y, U, rvy, rfl, hb2, hw2, hm0, hi2, ho2⟩ | ⟨k, rfl, hk, _⟩
    · obtain ⟨ay, cy, rfl, _, _⟩ := ho2.rd.len
      by_cases hnm : n = m
      · subst hnm
        have HY : Hid (Mt w5 (.slice ay n cy) n n U) := ho2.mt hn12 hn12 id
        have HI2 : Hid (Inv n (mx R2) U) := hi2
        have hMa : Mt w5 (.slice a1 n c1) n n (mx R1) := (Mt.rows HA.out HW.out.1 HW.out.2).old hB5'
        have hMb : Mt w5 (.slice a2 n c2) n n (mx R2) := (Mt.rows HB.out hb2 hw2).old hB5'
        have MM := mul_mt _ _ n n n n _ _ w5 hMa hMb (.inr rfl)
        clear hMa hMb hi2 ho2 hb2 hw2 hB4' hB5 HX4
        go_wp2_with fail
        refine MM.mono ?_
        rintro e w6 ⟨pp, rvp, rfl, hp, hB6⟩
        obtain ⟨ap, cp, rfl, _, _⟩ := hp.rd.len
        have hB6' := hB5'.trans (hB6.mono hB5'.size)
        have HX6 : Hid (Mt w6 (.slice ax n cx) n n T) := HX5.out.old hB6
        have HY6 : Hid (Mt w6 (.slice ay n cy) n n U) := HY.out.old hB6
        have II := inverse_inv _ n _ _ w6 (hp.mt hn12 hn12 id) hn0 (HI.out.mul HI2.out)
        clear MM hp hB5' hB6 HX5 HY
        go_wp2_with fail
        refine II.mono ?_
        rintro e w7 ⟨qq, rvq, rfl, hq, hB7⟩
        obtain ⟨aq, cq, rfl, _, _⟩ := hq.rd.len
        have hB7' := hB6'.trans (hB7.mono hB6'.size)
        have M2 := mul_mt _ _ n n n n _ _ w7 (HY6.out.old hB7) (HX6.out.old hB7) (.inr rfl)
        have HQ := hq.rd
        clear II hq hB6' hB7 HX6 HY6
        go_wp2_with fail
        refine M2.mono ?_
        rintro e w8 ⟨ww, rvw, rfl, hw8, hB8⟩
        obtain ⟨aw, cw, rfl, _, _⟩ := hw8.rd.len
        have hB8' := hB7'.trans (hB8.mono hB7'.size)
        have RS := rows_same _ _ n _ w8 (HQ.old hB8) hw8.rd
        clear M2 hw8 hB7' hB8 HQ
        go_wp2_with fail
        refine RS.mono ?_
        rintro e w9 ⟨rfl, hB9⟩
        have hB9' := hB8'.trans (hB9.mono hB8'.size)
        clear RS
        go_wp2
        go_ret
        exact ⟨rfl, hB9'⟩
      · have hne : ((n : Int) != (m : Int)) = true := by rw [bne_iff_ne]; omega
        clear hi2 ho2
        go_wp2
        go_ret
        exact ⟨rfl, hB5'⟩
    · go_wp2
      go_ret
      exact ⟨rfl, hB5'⟩
  · go_wp2
    go_ret
    exact ⟨rfl, hB2'⟩
end Go.Proofs.Ytcjokofebnfkkaa
