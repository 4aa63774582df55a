/- By its inverse it is the identity, on either side; ranks; Cauchy's: the call answers true, whatever it is given. -/
import Derived.Test.YtcjokofebnfkkaaDoorMatN
import Derived.Test.YtcjokofebnfkkaaDoorMatK
import Derived.Test.YtcjokofebnfkkaaDoorErrs
import Derived.BigCall
import Derived.BigGuard
namespace Go.Proofs.YtcjokofebnfkkaaDoor
open Go.ChangeShapes Go.WideShapes Go.ChangeAt Go.RowKit El Pol Mx
theorem lit_read {B : Nat} {w : World} {v : Value} {rv : Nat → Value} (h : OwM B w v 2 (rws (m22 0 1 1 0) 2) rv) :
    ∃ g c g2 c2, v = .slice (some ⟨g, 0, none⟩) 2 c ∧ w.cell? ⟨g, 0, none⟩ = some (.slice (some ⟨g2, 0, none⟩) 2 c2) ∧ w.cell? ⟨g2, 1, none⟩ = some (.int .u8 1) ∧ w.cell? ⟨g2, 0, none⟩ = some (.int .u8 0) := by
  obtain ⟨g, c, rfl⟩ := h.at (by omega)
  have hr := h.row 0 (by omega)
  obtain ⟨g2, c2, e2, _, _, _, _⟩ := hr.at (ne_nil_row _ (by omega))
  rw [row_length] at e2
  have hc := h.cell 0 (by omega)
  rw [e2] at hc hr
  have h1 := hr.cell (by rw [row_length]) 1 (by omega)
  have h0 := hr.cell (by rw [row_length]) 0 (by omega)
  rw [co_row_lt _ (by omega)] at h1 h0
  exact ⟨g, c, g2, c2, rfl, hc, h1, h0⟩
set_option maxRecDepth 100000 in
set_option maxHeartbeats 20000000 in
theorem mturns_any (a1 : Option Addr) (n c1 : Nat) (R1 : Nat → List El) (a2 : Option Addr) (p c2 : Nat) (R2 : Nat → List El) (a3 : Option Addr) (l c3 : Nat) (xs : List El) (a4 : Option Addr) (m c4 : Nat) (ys : List El) (w : World)
    (h1 : RdM w (.slice a1 n c1) n R1) (h2 : RdM w (.slice a2 p c2) p R2) (h3 : Rd w (.slice a3 l c3) xs) (hl3 : l = xs.length) (h4 : Rd w (.slice a4 m c4) ys) (hl4 : m = ys.length) (hg : Handle w) :
    Calls Tryd.prog 4 #[.slice a1 n c1, .slice a2 p c2, .slice a3 l c3, .slice a4 m c4] w fun e w' => e = .returned (.bool true) ∧ Below w.heap.size w w' := by
  have HA : Hid (RdM w (.slice a1 n c1) n R1) := h1
  have HB : Hid (RdM w (.slice a2 p c2) p R2) := h2
  have HX : Hid (Rd w (.slice a3 l c3) xs) := h3
  have HY : Hid (Rd w (.slice a4 m c4) ys) := h4
  have HLX : Hid (l = xs.length) := hl3
  have HLY : Hid (m = ys.length) := hl4
  have HG : Hid (Handle w) := hg
  clear h1 h2 h3 h4 hl3 hl4 hg
  have L := lit22 w 0 1 1 0
  have C := inverse_inv _ 2 _ _ _ L.1 (by omega) inv_lit
  have hW := L.2
  clear L
  go_enter Tryd.func4, Tryd.ntmps4
  go_wp2_with fail
  refine C.mono ?_
  rintro e w1 ⟨v1, rv1, rfl, ho1, hB⟩
  replace hW := hW.trans (hB.mono hW.size)
  obtain ⟨g1, d1, g2, d2, rfl, hca, hcb, hcc⟩ := lit_read ho1
  clear C ho1 hB
  go_wp2_with fail
  refine (inverse_all _ n R1 _ (HA.out.old hW)).mono ?_
  rintro e w2 ⟨hB, hh⟩
  replace hW := hW.trans (hB.mono hW.size)
  clear hca hcb hcc
  rcases hh with ⟨vi, T, rvi, rfl, hb, hw, hn0, hi, ho⟩ | ⟨k, rfl, hk, hwhy⟩
  · have hn12 := bad_le hb
    obtain ⟨ai, ci, rfl, _, _⟩ := ho.rd.len
    have HI : Hid (Inv n (mx R1) T) := hi
    have HM2 : Hid (Mt w2 (.slice ai n ci) n n T) := ho.mt hn12 hn12 id
    have HWD : Hid (bad n R1 = 0 ∧ wd n R1 = n) := ⟨hb, hw⟩
    have HRA : Hid (Rk n (wd n R1) (mx R1) n) := by rw [hw]; exact hi.rk
    clear hb hw hi ho hB
    go_wp2_with fail
    refine (rank_ok _ n n (mx R1) _ ((Mt.rows HA.out HWD.out.1 HWD.out.2).old hW)).mono ?_
    rintro e w3 ⟨ra, rfl, hr, hB⟩
    obtain rfl : n = ra := (hr.same HI.out.rk).symm
    replace hW := hW.trans (hB.mono hW.size)
    have HM3 : Hid (Mt w3 (.slice ai n ci) n n T) := HM2.out.old hB
    clear hB hr HM2
    go_wp2_with fail
    refine (err_no _).mono ?_
    rintro e w4 ⟨rfl, hw4⟩
    obtain rfl := hw4.symm
    clear hw4
    go_wp2_with fail
    refine (mul_mt _ _ n n n n (mx R1) T _ ((Mt.rows HA.out HWD.out.1 HWD.out.2).old hW) HM3.out (.inr rfl)).mono ?_
    rintro e w4 ⟨vu, rvu, rfl, hu, hB⟩
    obtain ⟨au, cu, rfl, _, _⟩ := hu.rd.len
    replace hW := hW.trans (hB.mono hW.size)
    have HM4 : Hid (Mt w4 (.slice ai n ci) n n T) := HM3.out.old hB
    have HU : Hid (RdM w4 (.slice au n cu) n (rws one n)) := hu.rd.congr (fun i hi => row_congr (fun j hj => HI.out.1 i j hi hj))
    clear hB hu HM3
    go_wp2_with fail
    refine (mul_mt _ _ n n n n T (mx R1) _ HM4.out ((Mt.rows HA.out HWD.out.1 HWD.out.2).old hW) (.inr rfl)).mono ?_
    rintro e w5 ⟨vv, rvv, rfl, hv, hB⟩
    obtain ⟨av, cv, rfl, _, _⟩ := hv.rd.len
    replace hW := hW.trans (hB.mono hW.size)
    have HU5 : Hid (RdM w5 (.slice au n cu) n (rws one n)) := HU.out.old hB
    have HV5 : Hid (RdM w5 (.slice av n cv) n (rws one n)) := hv.rd.congr (fun i hi => row_congr (fun j hj => HI.out.2 i j hi hj))
    clear hB hv HM4 HU
    go_wp2_with fail
    refine (identity_ok n (by omega) hn12 _).mono ?_
    rintro e w6 ⟨vw, rvw, rfl, hwn, hB⟩
    obtain ⟨aw, cw, rfl, _, _⟩ := hwn.rd.len
    replace hW := hW.trans (hB.mono hW.size)
    have HU6 : Hid (RdM w6 (.slice au n cu) n (rws one n)) := HU5.out.old hB
    have HV6 : Hid (RdM w6 (.slice av n cv) n (rws one n)) := HV5.out.old hB
    have HN6 : Hid (RdM w6 (.slice aw n cw) n (rws one n)) := hwn.rd
    clear hB hwn HU5 HV5
    go_wp2_with fail
    refine (rows_same _ _ n _ _ HU6.out HN6.out).mono ?_
    rintro e w7 ⟨rfl, hB⟩
    replace hW := hW.trans (hB.mono hW.size)
    have RS := rows_same _ _ n _ _ (HV6.out.old hB) (HN6.out.old hB)
    clear hB HU6 HV6 HN6
    go_wp2_with fail
    refine RS.mono ?_
    rintro e w8 ⟨rfl, hB⟩
    replace hW := hW.trans (hB.mono hW.size)
    clear hB RS
    go_wp2_with fail
    refine (mul_all _ _ n p R1 R2 _ (HA.out.old hW) (HB.out.old hW)).mono ?_
    rintro e wb ⟨hB, hh⟩
    replace hW := hW.trans (hB.mono hW.size)
    rcases hh with ⟨vp, rvp, rfl, hb1, hb2, hs, ho⟩ | ⟨k, rfl, hk, _⟩
    · obtain ⟨ap, cp, rfl, _, _⟩ := ho.rd.len
      have RP := rank_ok _ _ _ _ _ (mt_prod ho (bad_le hb1) (wd_le hb2))
      clear ho hB
      go_wp2_with fail
      refine RP.mono ?_
      rintro e wb2 ⟨r1, rfl, hr1, hB⟩
      replace hW := hW.trans (hB.mono hW.size)
      clear RP hB
      go_wp2_with fail
      refine (rank_ok _ _ _ _ _ (mt_of (HB.out.old hW) hb2)).mono ?_
      rintro e wb3 ⟨r2, rfl, hr2, hB⟩
      replace hW := hW.trans (hB.mono hW.size)
      have hle := prod_rank hr1 HRA.out hr2 hs
      have hle1 := hle.1
      have hle2 := hle.2
      clear hB hr1 hr2 hs hle hb1 hb2
      go_wp2_with fail
      refine (cauchy_all _ _ xs ys _ (HX.out.old hW) (HY.out.old hW)).mono ?_
      rintro e wc ⟨hB, hh⟩
      replace hW := hW.trans (hB.mono hW.size)
      rcases hh with ⟨vc, rvc, rfl, hx12, hy12, ht, ho⟩ | ⟨k, rfl, hk, _⟩
      · obtain ⟨ac, cc, rfl, _, _⟩ := ho.rd.len
        by_cases hlm : l = m
        · by_cases hl0 : l = 0
          · have hz : ((l : Int) == 0) = true := by rw [hl0]; rfl
            have hne : ((l : Int) != (m : Int)) = false := by rw [hlm]; simp
            clear ho hB hl0 hlm
            go_wp2
            go_ret
            exact ⟨rfl, hW⟩
          · have hz : ((l : Int) == 0) = false := by rw [beq_eq_false_iff_ne]; omega
            have hne : ((l : Int) != (m : Int)) = false := by rw [hlm]; simp
            have hsq := cauchy_square (n := l) HLX.out (by rw [hlm]; exact HLY.out) ht
            have hmt : Mt wc (.slice ac l cc) l l (cauchy (co xs) (co ys)) := by
              have := ho.mt hx12 hy12 (fun e => by have := HLX.out; have := HLY.out; omega)
              rw [← HLX.out, ← HLY.out, ← hlm] at this
              exact this
            have CI := inverse_ok _ l _ wc hmt hl0
            rw [← HLX.out]
            clear ho hmt ht hB hlm
            go_wp2_with fail
            refine CI.mono ?_
            rintro e wd2 hh
            rcases hh with ⟨v', T', rv', rfl, _, ho', hB'⟩ | ⟨_, hs, _⟩
            · obtain ⟨ad', cd', rfl, _, _⟩ := ho'.rd.len
              replace hW := hW.trans (hB'.mono hW.size)
              clear CI ho' hB' hsq
              go_wp2
              go_ret
              exact ⟨rfl, hW⟩
            · exact (hsq hs).elim
        · have hne : ((l : Int) != (m : Int)) = true := by rw [bne_iff_ne]; omega
          clear ho hB hlm
          go_wp2
          go_ret
          exact ⟨rfl, hW⟩
      · clear hB
        go_wp2
        go_ret
        exact ⟨rfl, hW⟩
    · clear hB
      go_wp2_with fail
      refine (cauchy_all _ _ xs ys _ (HX.out.old hW) (HY.out.old hW)).mono ?_
      rintro e wc ⟨hB, hh⟩
      replace hW := hW.trans (hB.mono hW.size)
      rcases hh with ⟨vc, rvc, rfl, hx12, hy12, ht, ho⟩ | ⟨k, rfl, hk, _⟩
      · obtain ⟨ac, cc, rfl, _, _⟩ := ho.rd.len
        by_cases hlm : l = m
        · by_cases hl0 : l = 0
          · have hz : ((l : Int) == 0) = true := by rw [hl0]; rfl
            have hne : ((l : Int) != (m : Int)) = false := by rw [hlm]; simp
            clear ho hB hl0 hlm
            go_wp2
            go_ret
            exact ⟨rfl, hW⟩
          · have hz : ((l : Int) == 0) = false := by rw [beq_eq_false_iff_ne]; omega
            have hne : ((l : Int) != (m : Int)) = false := by rw [hlm]; simp
            have hsq := cauchy_square (n := l) HLX.out (by rw [hlm]; exact HLY.out) ht
            have hmt : Mt wc (.slice ac l cc) l l (cauchy (co xs) (co ys)) := by
              have := ho.mt hx12 hy12 (fun e => by have := HLX.out; have := HLY.out; omega)
              rw [← HLX.out, ← HLY.out, ← hlm] at this
              exact this
            have CI := inverse_ok _ l _ wc hmt hl0
            rw [← HLX.out]
            clear ho hmt ht hB hlm
            go_wp2_with fail
            refine CI.mono ?_
            rintro e wd2 hh
            rcases hh with ⟨v', T', rv', rfl, _, ho', hB'⟩ | ⟨_, hs, _⟩
            · obtain ⟨ad', cd', rfl, _, _⟩ := ho'.rd.len
              replace hW := hW.trans (hB'.mono hW.size)
              clear CI ho' hB' hsq
              go_wp2
              go_ret
              exact ⟨rfl, hW⟩
            · exact (hsq hs).elim
        · have hne : ((l : Int) != (m : Int)) = true := by rw [bne_iff_ne]; omega
          clear ho hB hlm
          go_wp2
          go_ret
          exact ⟨rfl, hW⟩
      · clear hB
        go_wp2
        go_ret
        exact ⟨rfl, hW⟩
  · rcases hwhy with hkb | ⟨hk3, hb, _⟩ | ⟨hk5, hb, hn0, hw, hs⟩
    · have HBAD : Hid (bad n R1 ≠ 0) := by rw [← hkb]; exact hk
      have hk5 : ((k : Int) == 5) = false := by
        rw [beq_eq_false_iff_ne]
        have := bad_ne (n := n) (R := R1)
        omega
      have HKB : Hid (k = bad n R1) := hkb
      clear hB hkb
      go_wp2_with fail
      refine (rank_bad _ n k R1 _ (HA.out.old hW) HKB.out.symm hk).mono ?_
      rintro e w3 ⟨rfl, hB⟩
      replace hW := hW.trans (hB.mono hW.size)
      clear hB
      go_wp2_with fail
      refine (err_is k 5 false hk5 _ (HG.out.old hW)).mono ?_
      rintro e w4 ⟨rfl, hB⟩
      replace hW := hW.trans (hB.mono hW.size)
      clear hB hk5
      go_wp2_with fail
      refine (mul_all _ _ n p R1 R2 _ (HA.out.old hW) (HB.out.old hW)).mono ?_
      rintro e wb ⟨hB, hh⟩
      replace hW := hW.trans (hB.mono hW.size)
      rcases hh with ⟨vp, rvp, rfl, hb1, hb2, hs, ho⟩ | ⟨k, rfl, hk, _⟩
      · exact (HBAD.out hb1).elim
      · clear hB
        go_wp2_with fail
        refine (cauchy_all _ _ xs ys _ (HX.out.old hW) (HY.out.old hW)).mono ?_
        rintro e wc ⟨hB, hh⟩
        replace hW := hW.trans (hB.mono hW.size)
        rcases hh with ⟨vc, rvc, rfl, hx12, hy12, ht, ho⟩ | ⟨k, rfl, hk, _⟩
        · obtain ⟨ac, cc, rfl, _, _⟩ := ho.rd.len
          by_cases hlm : l = m
          · by_cases hl0 : l = 0
            · have hz : ((l : Int) == 0) = true := by rw [hl0]; rfl
              have hne : ((l : Int) != (m : Int)) = false := by rw [hlm]; simp
              clear ho hB hl0 hlm
              go_wp2
              go_ret
              exact ⟨rfl, hW⟩
            · have hz : ((l : Int) == 0) = false := by rw [beq_eq_false_iff_ne]; omega
              have hne : ((l : Int) != (m : Int)) = false := by rw [hlm]; simp
              have hsq := cauchy_square (n := l) HLX.out (by rw [hlm]; exact HLY.out) ht
              have hmt : Mt wc (.slice ac l cc) l l (cauchy (co xs) (co ys)) := by
                have := ho.mt hx12 hy12 (fun e => by have := HLX.out; have := HLY.out; omega)
                rw [← HLX.out, ← HLY.out, ← hlm] at this
                exact this
              have CI := inverse_ok _ l _ wc hmt hl0
              rw [← HLX.out]
              clear ho hmt ht hB hlm
              go_wp2_with fail
              refine CI.mono ?_
              rintro e wd2 hh
              rcases hh with ⟨v', T', rv', rfl, _, ho', hB'⟩ | ⟨_, hs, _⟩
              · obtain ⟨ad', cd', rfl, _, _⟩ := ho'.rd.len
                replace hW := hW.trans (hB'.mono hW.size)
                clear CI ho' hB' hsq
                go_wp2
                go_ret
                exact ⟨rfl, hW⟩
              · exact (hsq hs).elim
          · have hne : ((l : Int) != (m : Int)) = true := by rw [bne_iff_ne]; omega
            clear ho hB hlm
            go_wp2
            go_ret
            exact ⟨rfl, hW⟩
        · clear hB
          go_wp2
          go_ret
          exact ⟨rfl, hW⟩
    · have h5 : ((k : Int) == 5) = false := by rw [hk3]; rfl
      clear hB hk3
      go_wp2_with fail
      refine (rank_ok _ n _ _ _ (mt_of (HA.out.old hW) hb)).mono ?_
      rintro e w3 ⟨ra, rfl, hr, hB⟩
      replace hW := hW.trans (hB.mono hW.size)
      have HRA : Hid (Rk n (wd n R1) (mx R1) ra) := hr
      clear hB hr
      go_wp2_with fail
      refine (err_is k 5 false h5 _ (HG.out.old hW)).mono ?_
      rintro e w4 ⟨rfl, hB⟩
      replace hW := hW.trans (hB.mono hW.size)
      clear hB h5
      go_wp2_with fail
      refine (mul_all _ _ n p R1 R2 _ (HA.out.old hW) (HB.out.old hW)).mono ?_
      rintro e wb ⟨hB, hh⟩
      replace hW := hW.trans (hB.mono hW.size)
      rcases hh with ⟨vp, rvp, rfl, hb1, hb2, hs, ho⟩ | ⟨k, rfl, hk, _⟩
      · obtain ⟨ap, cp, rfl, _, _⟩ := ho.rd.len
        have RP := rank_ok _ _ _ _ _ (mt_prod ho (bad_le hb1) (wd_le hb2))
        clear ho hB
        go_wp2_with fail
        refine RP.mono ?_
        rintro e wb2 ⟨r1, rfl, hr1, hB⟩
        replace hW := hW.trans (hB.mono hW.size)
        clear RP hB
        go_wp2_with fail
        refine (rank_ok _ _ _ _ _ (mt_of (HB.out.old hW) hb2)).mono ?_
        rintro e wb3 ⟨r2, rfl, hr2, hB⟩
        replace hW := hW.trans (hB.mono hW.size)
        have hle := prod_rank hr1 HRA.out hr2 hs
        have hle1 := hle.1
        have hle2 := hle.2
        clear hB hr1 hr2 hs hle hb1 hb2
        go_wp2_with fail
        refine (cauchy_all _ _ xs ys _ (HX.out.old hW) (HY.out.old hW)).mono ?_
        rintro e wc ⟨hB, hh⟩
        replace hW := hW.trans (hB.mono hW.size)
        rcases hh with ⟨vc, rvc, rfl, hx12, hy12, ht, ho⟩ | ⟨k, rfl, hk, _⟩
        · obtain ⟨ac, cc, rfl, _, _⟩ := ho.rd.len
          by_cases hlm : l = m
          · by_cases hl0 : l = 0
            · have hz : ((l : Int) == 0) = true := by rw [hl0]; rfl
              have hne : ((l : Int) != (m : Int)) = false := by rw [hlm]; simp
              clear ho hB hl0 hlm
              go_wp2
              go_ret
              exact ⟨rfl, hW⟩
            · have hz : ((l : Int) == 0) = false := by rw [beq_eq_false_iff_ne]; omega
              have hne : ((l : Int) != (m : Int)) = false := by rw [hlm]; simp
              have hsq := cauchy_square (n := l) HLX.out (by rw [hlm]; exact HLY.out) ht
              have hmt : Mt wc (.slice ac l cc) l l (cauchy (co xs) (co ys)) := by
                have := ho.mt hx12 hy12 (fun e => by have := HLX.out; have := HLY.out; omega)
                rw [← HLX.out, ← HLY.out, ← hlm] at this
                exact this
              have CI := inverse_ok _ l _ wc hmt hl0
              rw [← HLX.out]
              clear ho hmt ht hB hlm
              go_wp2_with fail
              refine CI.mono ?_
              rintro e wd2 hh
              rcases hh with ⟨v', T', rv', rfl, _, ho', hB'⟩ | ⟨_, hs, _⟩
              · obtain ⟨ad', cd', rfl, _, _⟩ := ho'.rd.len
                replace hW := hW.trans (hB'.mono hW.size)
                clear CI ho' hB' hsq
                go_wp2
                go_ret
                exact ⟨rfl, hW⟩
              · exact (hsq hs).elim
          · have hne : ((l : Int) != (m : Int)) = true := by rw [bne_iff_ne]; omega
            clear ho hB hlm
            go_wp2
            go_ret
            exact ⟨rfl, hW⟩
        · clear hB
          go_wp2
          go_ret
          exact ⟨rfl, hW⟩
      · clear hB
        go_wp2_with fail
        refine (cauchy_all _ _ xs ys _ (HX.out.old hW) (HY.out.old hW)).mono ?_
        rintro e wc ⟨hB, hh⟩
        replace hW := hW.trans (hB.mono hW.size)
        rcases hh with ⟨vc, rvc, rfl, hx12, hy12, ht, ho⟩ | ⟨k, rfl, hk, _⟩
        · obtain ⟨ac, cc, rfl, _, _⟩ := ho.rd.len
          by_cases hlm : l = m
          · by_cases hl0 : l = 0
            · have hz : ((l : Int) == 0) = true := by rw [hl0]; rfl
              have hne : ((l : Int) != (m : Int)) = false := by rw [hlm]; simp
              clear ho hB hl0 hlm
              go_wp2
              go_ret
              exact ⟨rfl, hW⟩
            · have hz : ((l : Int) == 0) = false := by rw [beq_eq_false_iff_ne]; omega
              have hne : ((l : Int) != (m : Int)) = false := by rw [hlm]; simp
              have hsq := cauchy_square (n := l) HLX.out (by rw [hlm]; exact HLY.out) ht
              have hmt : Mt wc (.slice ac l cc) l l (cauchy (co xs) (co ys)) := by
                have := ho.mt hx12 hy12 (fun e => by have := HLX.out; have := HLY.out; omega)
                rw [← HLX.out, ← HLY.out, ← hlm] at this
                exact this
              have CI := inverse_ok _ l _ wc hmt hl0
              rw [← HLX.out]
              clear ho hmt ht hB hlm
              go_wp2_with fail
              refine CI.mono ?_
              rintro e wd2 hh
              rcases hh with ⟨v', T', rv', rfl, _, ho', hB'⟩ | ⟨_, hs, _⟩
              · obtain ⟨ad', cd', rfl, _, _⟩ := ho'.rd.len
                replace hW := hW.trans (hB'.mono hW.size)
                clear CI ho' hB' hsq
                go_wp2
                go_ret
                exact ⟨rfl, hW⟩
              · exact (hsq hs).elim
          · have hne : ((l : Int) != (m : Int)) = true := by rw [bne_iff_ne]; omega
            clear ho hB hlm
            go_wp2
            go_ret
            exact ⟨rfl, hW⟩
        · clear hB
          go_wp2
          go_ret
          exact ⟨rfl, hW⟩
    · have h5 : ((k : Int) == 5) = true := by rw [hk5]; rfl
      clear hB hk5
      go_wp2_with fail
      refine (rank_ok _ n _ _ _ (mt_of (HA.out.old hW) hb)).mono ?_
      rintro e w3 ⟨ra, rfl, hr, hB⟩
      replace hW := hW.trans (hB.mono hW.size)
      have HRA : Hid (Rk n (wd n R1) (mx R1) ra) := hr
      have hrn : ((ra : Int) == (n : Int)) = false := by
        rw [beq_eq_false_iff_ne]
        have := hs.rk (by rw [hw] at hr; exact hr)
        omega
      clear hB hr hs hw
      go_wp2_with fail
      refine (err_is k 5 true h5 _ (HG.out.old hW)).mono ?_
      rintro e w4 ⟨rfl, hB⟩
      replace hW := hW.trans (hB.mono hW.size)
      clear hB h5
      go_wp2_with fail
      refine (mul_all _ _ n p R1 R2 _ (HA.out.old hW) (HB.out.old hW)).mono ?_
      rintro e wb ⟨hB, hh⟩
      replace hW := hW.trans (hB.mono hW.size)
      rcases hh with ⟨vp, rvp, rfl, hb1, hb2, hs, ho⟩ | ⟨k, rfl, hk, _⟩
      · obtain ⟨ap, cp, rfl, _, _⟩ := ho.rd.len
        have RP := rank_ok _ _ _ _ _ (mt_prod ho (bad_le hb1) (wd_le hb2))
        clear ho hB
        go_wp2_with fail
        refine RP.mono ?_
        rintro e wb2 ⟨r1, rfl, hr1, hB⟩
        replace hW := hW.trans (hB.mono hW.size)
        clear RP hB
        go_wp2_with fail
        refine (rank_ok _ _ _ _ _ (mt_of (HB.out.old hW) hb2)).mono ?_
        rintro e wb3 ⟨r2, rfl, hr2, hB⟩
        replace hW := hW.trans (hB.mono hW.size)
        have hle := prod_rank hr1 HRA.out hr2 hs
        have hle1 := hle.1
        have hle2 := hle.2
        clear hB hr1 hr2 hs hle hb1 hb2
        go_wp2_with fail
        refine (cauchy_all _ _ xs ys _ (HX.out.old hW) (HY.out.old hW)).mono ?_
        rintro e wc ⟨hB, hh⟩
        replace hW := hW.trans (hB.mono hW.size)
        rcases hh with ⟨vc, rvc, rfl, hx12, hy12, ht, ho⟩ | ⟨k, rfl, hk, _⟩
        · obtain ⟨ac, cc, rfl, _, _⟩ := ho.rd.len
          by_cases hlm : l = m
          · by_cases hl0 : l = 0
            · have hz : ((l : Int) == 0) = true := by rw [hl0]; rfl
              have hne : ((l : Int) != (m : Int)) = false := by rw [hlm]; simp
              clear ho hB hl0 hlm
              go_wp2
              go_ret
              exact ⟨rfl, hW⟩
            · have hz : ((l : Int) == 0) = false := by rw [beq_eq_false_iff_ne]; omega
              have hne : ((l : Int) != (m : Int)) = false := by rw [hlm]; simp
              have hsq := cauchy_square (n := l) HLX.out (by rw [hlm]; exact HLY.out) ht
              have hmt : Mt wc (.slice ac l cc) l l (cauchy (co xs) (co ys)) := by
                have := ho.mt hx12 hy12 (fun e => by have := HLX.out; have := HLY.out; omega)
                rw [← HLX.out, ← HLY.out, ← hlm] at this
                exact this
              have CI := inverse_ok _ l _ wc hmt hl0
              rw [← HLX.out]
              clear ho hmt ht hB hlm
              go_wp2_with fail
              refine CI.mono ?_
              rintro e wd2 hh
              rcases hh with ⟨v', T', rv', rfl, _, ho', hB'⟩ | ⟨_, hs, _⟩
              · obtain ⟨ad', cd', rfl, _, _⟩ := ho'.rd.len
                replace hW := hW.trans (hB'.mono hW.size)
                clear CI ho' hB' hsq
                go_wp2
                go_ret
                exact ⟨rfl, hW⟩
              · exact (hsq hs).elim
          · have hne : ((l : Int) != (m : Int)) = true := by rw [bne_iff_ne]; omega
            clear ho hB hlm
            go_wp2
            go_ret
            exact ⟨rfl, hW⟩
        · clear hB
          go_wp2
          go_ret
          exact ⟨rfl, hW⟩
      · clear hB
        go_wp2_with fail
        refine (cauchy_all _ _ xs ys _ (HX.out.old hW) (HY.out.old hW)).mono ?_
        rintro e wc ⟨hB, hh⟩
        replace hW := hW.trans (hB.mono hW.size)
        rcases hh with ⟨vc, rvc, rfl, hx12, hy12, ht, ho⟩ | ⟨k, rfl, hk, _⟩
        · obtain ⟨ac, cc, rfl, _, _⟩ := ho.rd.len
          by_cases hlm : l = m
          · by_cases hl0 : l = 0
            · have hz : ((l : Int) == 0) = true := by rw [hl0]; rfl
              have hne : ((l : Int) != (m : Int)) = false := by rw [hlm]; simp
              clear ho hB hl0 hlm
              go_wp2
              go_ret
              exact ⟨rfl, hW⟩
            · have hz : ((l : Int) == 0) = false := by rw [beq_eq_false_iff_ne]; omega
              have hne : ((l : Int) != (m : Int)) = false := by rw [hlm]; simp
              have hsq := cauchy_square (n := l) HLX.out (by rw [hlm]; exact HLY.out) ht
              have hmt : Mt wc (.slice ac l cc) l l (cauchy (co xs) (co ys)) := by
                have := ho.mt hx12 hy12 (fun e => by have := HLX.out; have := HLY.out; omega)
                rw [← HLX.out, ← HLY.out, ← hlm] at this
                exact this
              have CI := inverse_ok _ l _ wc hmt hl0
              rw [← HLX.out]
              clear ho hmt ht hB hlm
              go_wp2_with fail
              refine CI.mono ?_
              rintro e wd2 hh
              rcases hh with ⟨v', T', rv', rfl, _, ho', hB'⟩ | ⟨_, hs, _⟩
              · obtain ⟨ad', cd', rfl, _, _⟩ := ho'.rd.len
                replace hW := hW.trans (hB'.mono hW.size)
                clear CI ho' hB' hsq
                go_wp2
                go_ret
                exact ⟨rfl, hW⟩
              · exact (hsq hs).elim
          · have hne : ((l : Int) != (m : Int)) = true := by rw [bne_iff_ne]; omega
            clear ho hB hlm
            go_wp2
            go_ret
            exact ⟨rfl, hW⟩
        · clear hB
          go_wp2
          go_ret
          exact ⟨rfl, hW⟩
end Go.Proofs.YtcjokofebnfkkaaDoor
