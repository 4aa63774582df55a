/- Quotient, rest, values of products, the one through points: the call answers true, whatever it is given. -/
import Derived.Test.YtcjokofebnfkkaaPolyH
import Derived.Test.YtcjokofebnfkkaaBytes
namespace Go.Proofs.Ytcjokofebnfkkaa
open Go.ChangeShapes Go.WideShapes Go.ChangeAt Go.RowKit El Pol
def X2 : Nat → El := fun i => if i = 0 then 0 else 1
def Y2 : Nat → El := fun i => if i = 0 then 5 else 4
theorem rdp_two (w : World) : RdP (w.alloc (.cells #[.int .u8 0, .int .u8 5, .int .u8 1, .int .u8 4] 29)) (.slice (some ⟨w.heap.size, 0, none⟩) 2 2) 2 X2 Y2 := by
  have h := heap_alloc_new w (.cells #[.int .u8 0, .int .u8 5, .int .u8 1, .int .u8 4] 29)
  refine .inr ⟨_, 2, rfl, by omega, by omega, fun i hi => ?_⟩
  match i, hi with
  | 0, _ => exact ⟨by rw [show (⟨w.heap.size, 0, none⟩ : Addr).add (0 * 2) = ⟨w.heap.size, 0, none⟩ from rfl, cell_of_row _ _ 0 _ _ _ h]; rfl, by rw [show ((⟨w.heap.size, 0, none⟩ : Addr).add (0 * 2)).add 1 = ⟨w.heap.size, 1, none⟩ from rfl, cell_of_row _ _ 1 _ _ _ h]; rfl⟩
  | 1, _ => exact ⟨by rw [show (⟨w.heap.size, 0, none⟩ : Addr).add (1 * 2) = ⟨w.heap.size, 2, none⟩ from rfl, cell_of_row _ _ 2 _ _ _ h]; rfl, by rw [show ((⟨w.heap.size, 0, none⟩ : Addr).add (1 * 2)).add 1 = ⟨w.heap.size, 3, none⟩ from rfl, cell_of_row _ _ 3 _ _ _ h]; rfl⟩
theorem not_twice2 : twice X2 2 = false := by decide
theorem through_two {p : List El} (h : Through X2 Y2 2 p) : p = [5, 1] :=
  h.same (not_twice not_twice2) ⟨trim_id _ (.inr (by show (1 : El) ≠ 0; decide)), by simp, fun j hj => by
    match j, hj with
    | 0, _ => decide
    | 1, _ => decide⟩
set_option maxRecDepth 100000 in
set_option maxHeartbeats 4000000 in
theorem divides_any (a0 a1 a3 : Option Addr) (n0 c0 n1 c1 n3 c3 : Nat) (xs ys : List El) (x : El) (X Y : Nat → El) (w : World) (r0 : Rd w (.slice a0 n0 c0) xs) (l0 : n0 = xs.length) (r1 : Rd w (.slice a1 n1 c1) ys) (l1 : n1 = ys.length) (r3 : RdP w (.slice a3 n3 c3) n3 X Y) (z3 : n3 ≤ 140737488351232) :
    Calls Try.prog 3 #[.slice a0 n0 c0, .slice a1 n1 c1, .int .u8 ((x.val : Nat) : Int), .slice a3 n3 c3] w fun e w' => e = .returned (.bool true) ∧ Below w.heap.size w w' := by
  have L0 : Hid (n0 = xs.length) := l0
  have L1 : Hid (n1 = ys.length) := l1
  clear l0 l1
  go_enter Try.func3, Try.ntmps3
  go_wp2_with fail
  have hW := (Below.refl w.heap.size w).alloc (Nat.le_refl _) (.cells #[.int .u8 0, .int .u8 5, .int .u8 1, .int .u8 4] 29)
  replace r0 := r0.old hW
  replace r1 := r1.old hW
  replace r3 := r3.old hW
  refine (through_ok _ 2 X2 Y2 _ (rdp_two w) (by omega) not_twice2).mono ?_
  rintro e w1 ⟨p, v1, rfl, hth, hO, hB⟩
  obtain rfl := through_two hth
  clear hth
  replace r0 := r0.old hB
  replace r1 := r1.old hB
  replace r3 := r3.old hB
  replace hW := hW.trans (hB.mono hW.size)
  obtain ⟨g, cg, rfl, hg1, hg2, _, _⟩ := hO.at (by simp)
  have q0 : w1.cell? ⟨g, 0, none⟩ = some (.int .u8 5) := hO.cell rfl 0 (by simp)
  have q1 : w1.cell? ⟨g, 1, none⟩ = some (.int .u8 1) := hO.cell rfl 1 (by simp)
  clear hO hB hg1 hg2
  go_wp2_with fail
  clear q0 q1
  by_cases hfull : (tl n0 || tl n1) = true
  · have HF : Hid ((tl n0 || tl n1) = true) := hfull
    clear hfull
    refine (divmod_full _ _ _ _ _ _ _ HF.out).mono ?_
    rintro e w2 ⟨rfl, hB⟩
    replace r0 := r0.old hB
    replace r1 := r1.old hB
    replace r3 := r3.old hB
    replace hW := hW.trans (hB.mono hW.size)
    clear hB
    go_wp2_with fail
    refine (mul_full _ _ _ _ _ _ _ HF.out).mono ?_
    rintro e w3 ⟨rfl, hB⟩
    replace r0 := r0.old hB
    replace r1 := r1.old hB
    replace r3 := r3.old hB
    replace hW := hW.trans (hB.mono hW.size)
    clear hB
    go_wp2_with fail
    by_cases hn3 : 40 < n3
    · refine (through_full _ _ _ _ hn3).mono ?_
      rintro e wt ⟨rfl, hB⟩
      replace r0 := r0.old hB
      replace r1 := r1.old hB
      replace r3 := r3.old hB
      replace hW := hW.trans (hB.mono hW.size)
      clear hB
      go_wp2
      go_ret
      exact ⟨rfl, hW⟩
    · cases htw : twice X n3 with
      | true =>
        refine (through_clash _ n3 X Y _ r3 (by omega) htw).mono ?_
        rintro e wt ⟨rfl, hB⟩
        replace r0 := r0.old hB
        replace r1 := r1.old hB
        replace r3 := r3.old hB
        replace hW := hW.trans (hB.mono hW.size)
        clear hB htw
        go_wp2
        go_ret
        exact ⟨rfl, hW⟩
      | false =>
        refine (through_ok _ n3 X Y _ r3 (by omega) htw).mono ?_
        rintro e wt ⟨p, vp, rfl, hth, hP, hB⟩
        replace r0 := r0.old hB
        replace r1 := r1.old hB
        replace r3 := r3.old hB
        replace hW := hW.trans (hB.mono hW.size)
        have rp := hP.rd
        clear hB hP htw
        obtain ⟨ap, cp, rfl, _, _⟩ := rp.len
        obtain ⟨pl, hpl⟩ : ∃ pl, pl = p.length := ⟨_, rfl⟩
        rw [← hpl] at rp ⊢
        have hle : (pl : Int) ≤ (n3 : Int) := by have := hth.2.1; omega
        have hgt : decide (n3 < pl) = false := decide_eq_false (by omega)
        have HPL : Hid (pl = p.length) := hpl
        have HTH : Hid (Through X Y n3 p) := hth
        clear hpl hth r0 r1
        go_wp2
        go_loopw [26] (fun s wr => ∃ k : Nat, k ≤ n3 ∧ s = .int .i64 k ∧ Rd wr (.slice ap pl cp) p ∧ RdP wr (.slice a3 n3 c3) n3 X Y ∧ Below w.heap.size w wr) (fun s _ => n3 - (intOf s).toNat)
        case atStart => exact ⟨0, Nat.zero_le _, rfl, rp, r3, hW⟩
        case round =>
          clear rp r3 hW
          obtain ⟨k, hk, rfl, rp, r3, hW⟩ := hrel
          by_cases hkn : k < n3
          · obtain ⟨ad, rfl, d0, d1⟩ := r3.some k hkn
            rw [add_one] at d1
            have hyv := HTH.out.2.2 k hkn
            obtain ⟨xk, hxk⟩ : ∃ z, z = X k := ⟨_, rfl⟩
            obtain ⟨yk, hyk⟩ : ∃ z, z = Y k := ⟨_, rfl⟩
            rw [← hxk] at d0 hyv
            rw [← hyk] at d1 hyv
            have HYV : Hid (ev p xk = yk) := hyv
            clear hxk hyk hyv
            go_wp2_with fail
            refine (eval_ok _ p xk _ rp (by rw [← HPL.out]; omega)).mono ?_
            rintro e wl ⟨rfl, hB⟩
            replace d1 := (hB.cell (p := ⟨(ad.add (k * 2)).block, (ad.add (k * 2)).off + 1, none⟩) (World.block_lt_of_cell? _ _ d1)).trans d1
            replace rp := rp.old hB
            replace r3 := r3.old hB
            replace hW := hW.trans (hB.mono hW.size)
            rw [HYV.out]
            clear hB d0
            have hyy : (((yk.val : Nat) : Int) != ((yk.val : Nat) : Int)) = false := by simp
            go_wp2
            go_roundw
            case rel => exact ⟨k + 1, by omega, by go_num, rp, r3, hW⟩
            case measure => simp [intOf]; omega
          · go_wp2
            go_ret
            exact ⟨rfl, hW⟩
  · have h0 : xs.length ≤ 40 := by rw [← L0.out]; rcases Nat.lt_or_ge 40 n0 with h | h; (exact absurd (by rw [tl_of h]; rfl) hfull); exact h
    have h1 : ys.length ≤ 40 := by rw [← L1.out]; rcases Nat.lt_or_ge 40 n1 with h | h; (exact absurd (by rw [tl_of h]; simp) hfull); exact h
    have H0 : Hid (xs.length ≤ 40) := h0
    have H1 : Hid (ys.length ≤ 40) := h1
    clear hfull h0 h1
    by_cases hb : trim ys = []
    · refine (divmod_none _ _ xs ys _ r0 r1 H0.out H1.out hb).mono ?_
      rintro e w2 ⟨rfl, hB⟩
      clear hb
      replace r0 := r0.old hB
      replace r1 := r1.old hB
      replace r3 := r3.old hB
      replace hW := hW.trans (hB.mono hW.size)
      clear hB
      go_wp2_with fail
      refine (mul_ok _ _ xs ys _ r0 r1 H0.out H1.out).mono ?_
      rintro e wm ⟨vm, rfl, hM, hB⟩
      replace r0 := r0.old hB
      replace r1 := r1.old hB
      replace r3 := r3.old hB
      replace hW := hW.trans (hB.mono hW.size)
      have rm := hM.rd
      clear hB hM
      obtain ⟨am, cm, rfl, _, _⟩ := rm.len
      obtain ⟨k, hk⟩ : ∃ k, k = (trim (Pol.mul xs ys)).length := ⟨_, rfl⟩
      rw [← hk] at rm ⊢
      have HK : Hid (k = (trim (Pol.mul xs ys)).length) := hk
      clear hk
      by_cases h40 : k ≤ 40
      · have h40' : (k : Int) ≤ 40 := by omega
        go_wp2_with fail
        refine (eval_ok _ xs x _ r0 H0.out).mono ?_
        rintro e we1 ⟨rfl, hB⟩
        replace r0 := r0.old hB
        replace r1 := r1.old hB
        replace r3 := r3.old hB
        replace hW := hW.trans (hB.mono hW.size)
        replace rm := rm.old hB
        clear hB
        go_wp2_with fail
        refine (eval_ok _ ys x _ r1 H1.out).mono ?_
        rintro e we2 ⟨rfl, hB⟩
        replace r0 := r0.old hB
        replace r1 := r1.old hB
        replace r3 := r3.old hB
        replace hW := hW.trans (hB.mono hW.size)
        replace rm := rm.old hB
        clear hB
        go_wp2_with fail
        refine (eval_ok _ (trim (Pol.mul xs ys)) x _ rm (by rw [← HK.out]; exact h40)).mono ?_
        rintro e we3 ⟨rfl, hB⟩
        replace r0 := r0.old hB
        replace r1 := r1.old hB
        replace r3 := r3.old hB
        replace hW := hW.trans (hB.mono hW.size)
        clear hB rm
        go_wp2_with fail
        refine (mul_any _ _ (ev xs x).isLt (ev ys x).isLt _).mono ?_
        rintro e we4 ⟨rfl, hw4⟩
        obtain rfl := hw4.symm
        clear hw4
        have heq : ((((ev (trim (Pol.mul xs ys)) x).val : Nat) : Int) != ((GF.mul (ev xs x).val (ev ys x).val : Nat) : Int)) = false := by
          rw [ev_trim, ev_mul, bne_eq_false_iff_eq]; rfl
        go_wp2_with fail
        clear heq
        by_cases hn3 : 40 < n3
        · refine (through_full _ _ _ _ hn3).mono ?_
          rintro e wt ⟨rfl, hB⟩
          replace r0 := r0.old hB
          replace r1 := r1.old hB
          replace r3 := r3.old hB
          replace hW := hW.trans (hB.mono hW.size)
          clear hB
          go_wp2
          go_ret
          exact ⟨rfl, hW⟩
        · cases htw : twice X n3 with
          | true =>
            refine (through_clash _ n3 X Y _ r3 (by omega) htw).mono ?_
            rintro e wt ⟨rfl, hB⟩
            replace r0 := r0.old hB
            replace r1 := r1.old hB
            replace r3 := r3.old hB
            replace hW := hW.trans (hB.mono hW.size)
            clear hB htw
            go_wp2
            go_ret
            exact ⟨rfl, hW⟩
          | false =>
            refine (through_ok _ n3 X Y _ r3 (by omega) htw).mono ?_
            rintro e wt ⟨p, vp, rfl, hth, hP, hB⟩
            replace r0 := r0.old hB
            replace r1 := r1.old hB
            replace r3 := r3.old hB
            replace hW := hW.trans (hB.mono hW.size)
            have rp := hP.rd
            clear hB hP htw
            obtain ⟨ap, cp, rfl, _, _⟩ := rp.len
            obtain ⟨pl, hpl⟩ : ∃ pl, pl = p.length := ⟨_, rfl⟩
            rw [← hpl] at rp ⊢
            have hle : (pl : Int) ≤ (n3 : Int) := by have := hth.2.1; omega
            have hgt : decide (n3 < pl) = false := decide_eq_false (by omega)
            have HPL : Hid (pl = p.length) := hpl
            have HTH : Hid (Through X Y n3 p) := hth
            clear hpl hth r0 r1
            go_wp2
            go_loopw [26] (fun s wr => ∃ k : Nat, k ≤ n3 ∧ s = .int .i64 k ∧ Rd wr (.slice ap pl cp) p ∧ RdP wr (.slice a3 n3 c3) n3 X Y ∧ Below w.heap.size w wr) (fun s _ => n3 - (intOf s).toNat)
            case atStart => exact ⟨0, Nat.zero_le _, rfl, rp, r3, hW⟩
            case round =>
              clear rp r3 hW
              obtain ⟨k, hk, rfl, rp, r3, hW⟩ := hrel
              by_cases hkn : k < n3
              · obtain ⟨ad, rfl, d0, d1⟩ := r3.some k hkn
                rw [add_one] at d1
                have hyv := HTH.out.2.2 k hkn
                obtain ⟨xk, hxk⟩ : ∃ z, z = X k := ⟨_, rfl⟩
                obtain ⟨yk, hyk⟩ : ∃ z, z = Y k := ⟨_, rfl⟩
                rw [← hxk] at d0 hyv
                rw [← hyk] at d1 hyv
                have HYV : Hid (ev p xk = yk) := hyv
                clear hxk hyk hyv
                go_wp2_with fail
                refine (eval_ok _ p xk _ rp (by rw [← HPL.out]; omega)).mono ?_
                rintro e wl ⟨rfl, hB⟩
                replace d1 := (hB.cell (p := ⟨(ad.add (k * 2)).block, (ad.add (k * 2)).off + 1, none⟩) (World.block_lt_of_cell? _ _ d1)).trans d1
                replace rp := rp.old hB
                replace r3 := r3.old hB
                replace hW := hW.trans (hB.mono hW.size)
                rw [HYV.out]
                clear hB d0
                have hyy : (((yk.val : Nat) : Int) != ((yk.val : Nat) : Int)) = false := by simp
                go_wp2
                go_roundw
                case rel => exact ⟨k + 1, by omega, by go_num, rp, r3, hW⟩
                case measure => simp [intOf]; omega
              · go_wp2
                go_ret
                exact ⟨rfl, hW⟩
      · have h40' : ¬ (k : Int) ≤ 40 := by omega
        clear rm
        go_wp2_with fail
        by_cases hn3 : 40 < n3
        · refine (through_full _ _ _ _ hn3).mono ?_
          rintro e wt ⟨rfl, hB⟩
          replace r0 := r0.old hB
          replace r1 := r1.old hB
          replace r3 := r3.old hB
          replace hW := hW.trans (hB.mono hW.size)
          clear hB
          go_wp2
          go_ret
          exact ⟨rfl, hW⟩
        · cases htw : twice X n3 with
          | true =>
            refine (through_clash _ n3 X Y _ r3 (by omega) htw).mono ?_
            rintro e wt ⟨rfl, hB⟩
            replace r0 := r0.old hB
            replace r1 := r1.old hB
            replace r3 := r3.old hB
            replace hW := hW.trans (hB.mono hW.size)
            clear hB htw
            go_wp2
            go_ret
            exact ⟨rfl, hW⟩
          | false =>
            refine (through_ok _ n3 X Y _ r3 (by omega) htw).mono ?_
            rintro e wt ⟨p, vp, rfl, hth, hP, hB⟩
            replace r0 := r0.old hB
            replace r1 := r1.old hB
            replace r3 := r3.old hB
            replace hW := hW.trans (hB.mono hW.size)
            have rp := hP.rd
            clear hB hP htw
            obtain ⟨ap, cp, rfl, _, _⟩ := rp.len
            obtain ⟨pl, hpl⟩ : ∃ pl, pl = p.length := ⟨_, rfl⟩
            rw [← hpl] at rp ⊢
            have hle : (pl : Int) ≤ (n3 : Int) := by have := hth.2.1; omega
            have hgt : decide (n3 < pl) = false := decide_eq_false (by omega)
            have HPL : Hid (pl = p.length) := hpl
            have HTH : Hid (Through X Y n3 p) := hth
            clear hpl hth r0 r1
            go_wp2
            go_loopw [26] (fun s wr => ∃ k : Nat, k ≤ n3 ∧ s = .int .i64 k ∧ Rd wr (.slice ap pl cp) p ∧ RdP wr (.slice a3 n3 c3) n3 X Y ∧ Below w.heap.size w wr) (fun s _ => n3 - (intOf s).toNat)
            case atStart => exact ⟨0, Nat.zero_le _, rfl, rp, r3, hW⟩
            case round =>
              clear rp r3 hW
              obtain ⟨k, hk, rfl, rp, r3, hW⟩ := hrel
              by_cases hkn : k < n3
              · obtain ⟨ad, rfl, d0, d1⟩ := r3.some k hkn
                rw [add_one] at d1
                have hyv := HTH.out.2.2 k hkn
                obtain ⟨xk, hxk⟩ : ∃ z, z = X k := ⟨_, rfl⟩
                obtain ⟨yk, hyk⟩ : ∃ z, z = Y k := ⟨_, rfl⟩
                rw [← hxk] at d0 hyv
                rw [← hyk] at d1 hyv
                have HYV : Hid (ev p xk = yk) := hyv
                clear hxk hyk hyv
                go_wp2_with fail
                refine (eval_ok _ p xk _ rp (by rw [← HPL.out]; omega)).mono ?_
                rintro e wl ⟨rfl, hB⟩
                replace d1 := (hB.cell (p := ⟨(ad.add (k * 2)).block, (ad.add (k * 2)).off + 1, none⟩) (World.block_lt_of_cell? _ _ d1)).trans d1
                replace rp := rp.old hB
                replace r3 := r3.old hB
                replace hW := hW.trans (hB.mono hW.size)
                rw [HYV.out]
                clear hB d0
                have hyy : (((yk.val : Nat) : Int) != ((yk.val : Nat) : Int)) = false := by simp
                go_wp2
                go_roundw
                case rel => exact ⟨k + 1, by omega, by go_num, rp, r3, hW⟩
                case measure => simp [intOf]; omega
              · go_wp2
                go_ret
                exact ⟨rfl, hW⟩
    · refine (divmod_ok _ _ xs ys _ r0 r1 H0.out H1.out hb).mono ?_
      rintro e w2 ⟨q, r, vq, vr, rfl, hdiv, hQ, hR, hB⟩
      clear hb
      replace r0 := r0.old hB
      replace r1 := r1.old hB
      replace r3 := r3.old hB
      replace hW := hW.trans (hB.mono hW.size)
      have rq := hQ.rd
      have rr := hR.rd
      clear hB hQ hR
      have HDV : Hid (DivOk xs ys q r) := hdiv
      clear hdiv
      go_wp2_with fail
      refine (mul_ok _ _ q ys _ rq r1 (by have := HDV.out.2.2.2.1; have := trim_length_le xs; have := H0.out; omega) H1.out).mono ?_
      rintro e w3 ⟨vm, rfl, hM, hB⟩
      replace r0 := r0.old hB
      replace r1 := r1.old hB
      replace r3 := r3.old hB
      replace hW := hW.trans (hB.mono hW.size)
      have rm := hM.rd
      replace rr := rr.old hB
      clear hB hM rq
      go_wp2_with fail
      refine (add_ok _ _ _ r _ rm rr (HDV.out.short 40 H0.out H1.out) (by have := HDV.out.2.2.1; have := trim_length_le ys; have := H1.out; omega)).mono ?_
      rintro e w4 ⟨vs, rfl, hS, hB⟩
      replace r0 := r0.old hB
      replace r1 := r1.old hB
      replace r3 := r3.old hB
      replace hW := hW.trans (hB.mono hW.size)
      have rs := hS.rd
      rw [HDV.out.back] at rs
      replace rr := rr.old hB
      clear hB hS rm
      obtain ⟨ar, cr, rfl, _, _⟩ := rr.len
      go_wp2_with fail
      refine (trim_any _ xs _ r0 (by have := H0.out; omega)).mono ?_
      rintro e w5 ⟨va, rfl, hA, hB⟩
      replace r0 := r0.old hB
      replace r1 := r1.old hB
      replace r3 := r3.old hB
      replace hW := hW.trans (hB.mono hW.size)
      have ra := hA.rd
      replace rs := rs.old hB
      clear hB hA
      go_wp2_with fail
      refine (bytes_same _ _ (trim xs) _ rs ra).mono ?_
      rintro e w6 ⟨rfl, hw6⟩
      obtain rfl := hw6.symm
      clear rs ra rr hw6
      go_wp2_with fail
      refine (trim_any _ ys _ r1 (by have := H1.out; omega)).mono ?_
      rintro e w7 ⟨vb, rfl, hA, hB⟩
      replace r0 := r0.old hB
      replace r1 := r1.old hB
      replace r3 := r3.old hB
      replace hW := hW.trans (hB.mono hW.size)
      obtain ⟨ab, cb, rfl, _, _⟩ := hA.rd.len
      have hlt : ((r.length : Nat) : Int) < (((trim ys).length : Nat) : Int) := by have := HDV.out.2.2.1; omega
      generalize r.length = rl at *
      generalize (trim ys).length = tb at *
      clear hB hA
      go_wp2_with fail
      refine (mul_ok _ _ xs ys _ r0 r1 H0.out H1.out).mono ?_
      rintro e wm ⟨vm, rfl, hM, hB⟩
      replace r0 := r0.old hB
      replace r1 := r1.old hB
      replace r3 := r3.old hB
      replace hW := hW.trans (hB.mono hW.size)
      have rm := hM.rd
      clear hB hM
      obtain ⟨am, cm, rfl, _, _⟩ := rm.len
      obtain ⟨k, hk⟩ : ∃ k, k = (trim (Pol.mul xs ys)).length := ⟨_, rfl⟩
      rw [← hk] at rm ⊢
      have HK : Hid (k = (trim (Pol.mul xs ys)).length) := hk
      clear hk
      by_cases h40 : k ≤ 40
      · have h40' : (k : Int) ≤ 40 := by omega
        go_wp2_with fail
        refine (eval_ok _ xs x _ r0 H0.out).mono ?_
        rintro e we1 ⟨rfl, hB⟩
        replace r0 := r0.old hB
        replace r1 := r1.old hB
        replace r3 := r3.old hB
        replace hW := hW.trans (hB.mono hW.size)
        replace rm := rm.old hB
        clear hB
        go_wp2_with fail
        refine (eval_ok _ ys x _ r1 H1.out).mono ?_
        rintro e we2 ⟨rfl, hB⟩
        replace r0 := r0.old hB
        replace r1 := r1.old hB
        replace r3 := r3.old hB
        replace hW := hW.trans (hB.mono hW.size)
        replace rm := rm.old hB
        clear hB
        go_wp2_with fail
        refine (eval_ok _ (trim (Pol.mul xs ys)) x _ rm (by rw [← HK.out]; exact h40)).mono ?_
        rintro e we3 ⟨rfl, hB⟩
        replace r0 := r0.old hB
        replace r1 := r1.old hB
        replace r3 := r3.old hB
        replace hW := hW.trans (hB.mono hW.size)
        clear hB rm
        go_wp2_with fail
        refine (mul_any _ _ (ev xs x).isLt (ev ys x).isLt _).mono ?_
        rintro e we4 ⟨rfl, hw4⟩
        obtain rfl := hw4.symm
        clear hw4
        have heq : ((((ev (trim (Pol.mul xs ys)) x).val : Nat) : Int) != ((GF.mul (ev xs x).val (ev ys x).val : Nat) : Int)) = false := by
          rw [ev_trim, ev_mul, bne_eq_false_iff_eq]; rfl
        go_wp2_with fail
        clear heq
        by_cases hn3 : 40 < n3
        · refine (through_full _ _ _ _ hn3).mono ?_
          rintro e wt ⟨rfl, hB⟩
          replace r0 := r0.old hB
          replace r1 := r1.old hB
          replace r3 := r3.old hB
          replace hW := hW.trans (hB.mono hW.size)
          clear hB
          go_wp2
          go_ret
          exact ⟨rfl, hW⟩
        · cases htw : twice X n3 with
          | true =>
            refine (through_clash _ n3 X Y _ r3 (by omega) htw).mono ?_
            rintro e wt ⟨rfl, hB⟩
            replace r0 := r0.old hB
            replace r1 := r1.old hB
            replace r3 := r3.old hB
            replace hW := hW.trans (hB.mono hW.size)
            clear hB htw
            go_wp2
            go_ret
            exact ⟨rfl, hW⟩
          | false =>
            refine (through_ok _ n3 X Y _ r3 (by omega) htw).mono ?_
            rintro e wt ⟨p, vp, rfl, hth, hP, hB⟩
            replace r0 := r0.old hB
            replace r1 := r1.old hB
            replace r3 := r3.old hB
            replace hW := hW.trans (hB.mono hW.size)
            have rp := hP.rd
            clear hB hP htw
            obtain ⟨ap, cp, rfl, _, _⟩ := rp.len
            obtain ⟨pl, hpl⟩ : ∃ pl, pl = p.length := ⟨_, rfl⟩
            rw [← hpl] at rp ⊢
            have hle : (pl : Int) ≤ (n3 : Int) := by have := hth.2.1; omega
            have hgt : decide (n3 < pl) = false := decide_eq_false (by omega)
            have HPL : Hid (pl = p.length) := hpl
            have HTH : Hid (Through X Y n3 p) := hth
            clear hpl hth r0 r1
            go_wp2
            go_loopw [26] (fun s wr => ∃ k : Nat, k ≤ n3 ∧ s = .int .i64 k ∧ Rd wr (.slice ap pl cp) p ∧ RdP wr (.slice a3 n3 c3) n3 X Y ∧ Below w.heap.size w wr) (fun s _ => n3 - (intOf s).toNat)
            case atStart => exact ⟨0, Nat.zero_le _, rfl, rp, r3, hW⟩
            case round =>
              clear rp r3 hW
              obtain ⟨k, hk, rfl, rp, r3, hW⟩ := hrel
              by_cases hkn : k < n3
              · obtain ⟨ad, rfl, d0, d1⟩ := r3.some k hkn
                rw [add_one] at d1
                have hyv := HTH.out.2.2 k hkn
                obtain ⟨xk, hxk⟩ : ∃ z, z = X k := ⟨_, rfl⟩
                obtain ⟨yk, hyk⟩ : ∃ z, z = Y k := ⟨_, rfl⟩
                rw [← hxk] at d0 hyv
                rw [← hyk] at d1 hyv
                have HYV : Hid (ev p xk = yk) := hyv
                clear hxk hyk hyv
                go_wp2_with fail
                refine (eval_ok _ p xk _ rp (by rw [← HPL.out]; omega)).mono ?_
                rintro e wl ⟨rfl, hB⟩
                replace d1 := (hB.cell (p := ⟨(ad.add (k * 2)).block, (ad.add (k * 2)).off + 1, none⟩) (World.block_lt_of_cell? _ _ d1)).trans d1
                replace rp := rp.old hB
                replace r3 := r3.old hB
                replace hW := hW.trans (hB.mono hW.size)
                rw [HYV.out]
                clear hB d0
                have hyy : (((yk.val : Nat) : Int) != ((yk.val : Nat) : Int)) = false := by simp
                go_wp2
                go_roundw
                case rel => exact ⟨k + 1, by omega, by go_num, rp, r3, hW⟩
                case measure => simp [intOf]; omega
              · go_wp2
                go_ret
                exact ⟨rfl, hW⟩
      · have h40' : ¬ (k : Int) ≤ 40 := by omega
        clear rm
        go_wp2_with fail
        by_cases hn3 : 40 < n3
        · refine (through_full _ _ _ _ hn3).mono ?_
          rintro e wt ⟨rfl, hB⟩
          replace r0 := r0.old hB
          replace r1 := r1.old hB
          replace r3 := r3.old hB
          replace hW := hW.trans (hB.mono hW.size)
          clear hB
          go_wp2
          go_ret
          exact ⟨rfl, hW⟩
        · cases htw : twice X n3 with
          | true =>
            refine (through_clash _ n3 X Y _ r3 (by omega) htw).mono ?_
            rintro e wt ⟨rfl, hB⟩
            replace r0 := r0.old hB
            replace r1 := r1.old hB
            replace r3 := r3.old hB
            replace hW := hW.trans (hB.mono hW.size)
            clear hB htw
            go_wp2
            go_ret
            exact ⟨rfl, hW⟩
          | false =>
            refine (through_ok _ n3 X Y _ r3 (by omega) htw).mono ?_
            rintro e wt ⟨p, vp, rfl, hth, hP, hB⟩
            replace r0 := r0.old hB
            replace r1 := r1.old hB
            replace r3 := r3.old hB
            replace hW := hW.trans (hB.mono hW.size)
            have rp := hP.rd
            clear hB hP htw
            obtain ⟨ap, cp, rfl, _, _⟩ := rp.len
            obtain ⟨pl, hpl⟩ : ∃ pl, pl = p.length := ⟨_, rfl⟩
            rw [← hpl] at rp ⊢
            have hle : (pl : Int) ≤ (n3 : Int) := by have := hth.2.1; omega
            have hgt : decide (n3 < pl) = false := decide_eq_false (by omega)
            have HPL : Hid (pl = p.length) := hpl
            have HTH : Hid (Through X Y n3 p) := hth
            clear hpl hth r0 r1
            go_wp2
            go_loopw [26] (fun s wr => ∃ k : Nat, k ≤ n3 ∧ s = .int .i64 k ∧ Rd wr (.slice ap pl cp) p ∧ RdP wr (.slice a3 n3 c3) n3 X Y ∧ Below w.heap.size w wr) (fun s _ => n3 - (intOf s).toNat)
            case atStart => exact ⟨0, Nat.zero_le _, rfl, rp, r3, hW⟩
            case round =>
              clear rp r3 hW
              obtain ⟨k, hk, rfl, rp, r3, hW⟩ := hrel
              by_cases hkn : k < n3
              · obtain ⟨ad, rfl, d0, d1⟩ := r3.some k hkn
                rw [add_one] at d1
                have hyv := HTH.out.2.2 k hkn
                obtain ⟨xk, hxk⟩ : ∃ z, z = X k := ⟨_, rfl⟩
                obtain ⟨yk, hyk⟩ : ∃ z, z = Y k := ⟨_, rfl⟩
                rw [← hxk] at d0 hyv
                rw [← hyk] at d1 hyv
                have HYV : Hid (ev p xk = yk) := hyv
                clear hxk hyk hyv
                go_wp2_with fail
                refine (eval_ok _ p xk _ rp (by rw [← HPL.out]; omega)).mono ?_
                rintro e wl ⟨rfl, hB⟩
                replace d1 := (hB.cell (p := ⟨(ad.add (k * 2)).block, (ad.add (k * 2)).off + 1, none⟩) (World.block_lt_of_cell? _ _ d1)).trans d1
                replace rp := rp.old hB
                replace r3 := r3.old hB
                replace hW := hW.trans (hB.mono hW.size)
                rw [HYV.out]
                clear hB d0
                have hyy : (((yk.val : Nat) : Int) != ((yk.val : Nat) : Int)) = false := by simp
                go_wp2
                go_roundw
                case rel => exact ⟨k + 1, by omega, by go_num, rp, r3, hW⟩
                case measure => simp [intOf]; omega
              · go_wp2
                go_ret
                exact ⟨rfl, hW⟩
end Go.Proofs.Ytcjokofebnfkkaa
