/- Sums, products, quotients and rests, values, the one through points are the document's: the call answers true, whatever it is given. -/
import Derived.Test.YtikhjhbohkaajaaDoorRefF
import Derived.Test.YtikhjhbohkaajaaDoorBytes
import Derived.Test.YtikhjhbohkaajaaDoorErrs
namespace Go.Proofs.YtikhjhbohkaajaaDoor
open Go.ChangeShapes Go.WideShapes Go.ChangeAt Go.RowKit El Pol
theorem rd_nil (w : World) : Rd w (.slice none 0 0) [] := .inl ⟨rfl, rfl⟩
theorem nil_same (w : World) : Calls Tryd.prog 16 #[.slice none 0 0, .slice none 0 0] w fun e w' => e = .returned (.bool true) ∧ w' = w := bytes_same _ _ [] w (rd_nil w) (rd_nil w)
theorem val_eq (a b : El) : (((a.val : Nat) : Int) == ((b.val : Nat) : Int)) = decide (a = b) := by
  rw [Bool.eq_iff_iff, beq_iff_eq, decide_eq_true_iff]
  constructor
  · intro h; exact Fin.ext (by omega)
  · rintro rfl; rfl
def e7 (b : Bool) : Int := if b then 7 else 0
set_option maxRecDepth 100000 in
set_option maxHeartbeats 8000000 in
theorem ptells_any (a0 a1 a3 : Option Addr) (n0 c0 n1 c1 n3 c3 : Nat) (xs ys : List El) (x : El) (X Y : Nat → El) (w : World) (r0 : Rd w (.slice a0 n0 c0) xs) (l0 : n0 = xs.length) (z0 : n0 ≤ 140737488351232) (r1 : Rd w (.slice a1 n1 c1) ys) (l1 : n1 = ys.length) (z1 : n1 ≤ 140737488351232) (r3 : RdP w (.slice a3 n3 c3) n3 X Y) (z3 : n3 ≤ 140737488351232) (hg : Handle w) :
    Calls Tryd.prog 4 #[.slice a0 n0 c0, .slice a1 n1 c1, .int .u8 ((x.val : Nat) : Int), .slice a3 n3 c3] w fun e w' => e = .returned (.bool true) ∧ Below w.heap.size w w' := by
  have L0 : Hid (n0 = xs.length) := l0
  have L1 : Hid (n1 = ys.length) := l1
  clear l0 l1
  have hW := Below.refl w.heap.size w
  go_enter Tryd.func4, Tryd.ntmps4
  go_wp2_with fail
  refine (trim_any _ xs _ r0 (by rw [← L0.out]; exact z0)).mono ?_
  rintro e w1 ⟨v1, rfl, hO, hB⟩
  replace r0 := r0.old hB
  replace r1 := r1.old hB
  replace r3 := r3.old hB
  replace hW := hW.trans (hB.mono hW.size)
  replace hg := hg.old hB
  have ra := hO.rd
  clear hB hO
  go_wp2_with fail
  refine (rtrim_any _ xs _ r0 (by rw [← L0.out]; exact z0)).mono ?_
  rintro e w2 ⟨v2, rfl, hO, hB⟩
  replace r0 := r0.old hB
  replace r1 := r1.old hB
  replace r3 := r3.old hB
  replace hW := hW.trans (hB.mono hW.size)
  replace hg := hg.old hB
  replace ra := ra.old hB
  have rb := hO.rd
  clear hB hO
  go_wp2_with fail
  refine (bytes_same _ _ (trim xs) _ ra rb).mono ?_
  rintro e wz ⟨rfl, hwz⟩
  obtain rfl := hwz.symm
  clear hwz
  clear ra rb
  by_cases ha : 40 < n0
  · have HT : Hid (tl n0 = true) := tl_of ha
    have ha' : (40 : Int) < (n0 : Int) := by omega
    have HF : Hid ((tl n0 || tl n1) = true) := by (show _ = _); rw [HT.out]; rfl
    go_wp2_with fail
    refine (eval_full _ _ _ _ _ HT.out).mono ?_
    rintro e we ⟨rfl, hB⟩
    replace r0 := r0.old hB
    replace r1 := r1.old hB
    replace r3 := r3.old hB
    replace hW := hW.trans (hB.mono hW.size)
    replace hg := hg.old hB
    clear hB
    go_wp2_with fail
    refine (err_same 4 _ hg).mono ?_
    rintro e we ⟨rfl, hB⟩
    replace r0 := r0.old hB
    replace r1 := r1.old hB
    replace r3 := r3.old hB
    replace hW := hW.trans (hB.mono hW.size)
    replace hg := hg.old hB
    clear hB
    by_cases hb : 40 < n1
    · have hb' : (40 : Int) < (n1 : Int) := by omega
      go_wp2_with fail
      refine (add_full _ _ _ _ _ _ _ HF.out).mono ?_
      rintro e we ⟨rfl, hB⟩
      replace r0 := r0.old hB
      replace r1 := r1.old hB
      replace r3 := r3.old hB
      replace hW := hW.trans (hB.mono hW.size)
      replace hg := hg.old hB
      clear hB
      go_wp2_with fail
      refine (err_same 4 _ hg).mono ?_
      rintro e we ⟨rfl, hB⟩
      replace r0 := r0.old hB
      replace r1 := r1.old hB
      replace r3 := r3.old hB
      replace hW := hW.trans (hB.mono hW.size)
      replace hg := hg.old hB
      clear hB
      go_wp2_with fail
      refine (nil_same _).mono ?_
      rintro e wz ⟨rfl, hwz⟩
      obtain rfl := hwz.symm
      clear hwz
      go_wp2_with fail
      refine (mul_full _ _ _ _ _ _ _ HF.out).mono ?_
      rintro e we ⟨rfl, hB⟩
      replace r0 := r0.old hB
      replace r1 := r1.old hB
      replace r3 := r3.old hB
      replace hW := hW.trans (hB.mono hW.size)
      replace hg := hg.old hB
      clear hB
      go_wp2_with fail
      refine (err_same 4 _ hg).mono ?_
      rintro e we ⟨rfl, hB⟩
      replace r0 := r0.old hB
      replace r1 := r1.old hB
      replace r3 := r3.old hB
      replace hW := hW.trans (hB.mono hW.size)
      replace hg := hg.old hB
      clear hB
      go_wp2_with fail
      refine (nil_same _).mono ?_
      rintro e wz ⟨rfl, hwz⟩
      obtain rfl := hwz.symm
      clear hwz
      go_wp2_with fail
      refine (divmod_full _ _ _ _ _ _ _ HF.out).mono ?_
      rintro e we ⟨rfl, hB⟩
      replace r0 := r0.old hB
      replace r1 := r1.old hB
      replace r3 := r3.old hB
      replace hW := hW.trans (hB.mono hW.size)
      replace hg := hg.old hB
      clear hB
      go_wp2_with fail
      refine (err_same 4 _ hg).mono ?_
      rintro e we ⟨rfl, hB⟩
      replace r0 := r0.old hB
      replace r1 := r1.old hB
      replace r3 := r3.old hB
      replace hW := hW.trans (hB.mono hW.size)
      replace hg := hg.old hB
      clear hB
      go_wp2_with fail
      refine (nil_same _).mono ?_
      rintro e wz ⟨rfl, hwz⟩
      obtain rfl := hwz.symm
      clear hwz
      go_wp2_with fail
      refine (nil_same _).mono ?_
      rintro e wz ⟨rfl, hwz⟩
      obtain rfl := hwz.symm
      clear hwz
      by_cases hn3 : 40 < n3
      · have hn3' : (40 : Int) < (n3 : Int) := by omega
        go_wp2
        refine wp_loop_rounds 1 ?_
        rw [rounds_succ]
        go_wp2_with fail
        refine (through_full _ _ _ _ hn3).mono ?_
        rintro e we ⟨rfl, hB⟩
        replace r0 := r0.old hB
        replace r1 := r1.old hB
        replace r3 := r3.old hB
        replace hW := hW.trans (hB.mono hW.size)
        replace hg := hg.old hB
        clear hB
        go_wp2_with fail
        refine (err_same 4 _ hg).mono ?_
        rintro e we ⟨rfl, hB⟩
        replace r0 := r0.old hB
        replace r1 := r1.old hB
        replace r3 := r3.old hB
        replace hW := hW.trans (hB.mono hW.size)
        replace hg := hg.old hB
        clear hB
        go_wp2_with fail
        refine (nil_same _).mono ?_
        rintro e wz ⟨rfl, hwz⟩
        obtain rfl := hwz.symm
        clear hwz
        go_wp2
        go_ret
        exact ⟨rfl, hW⟩
      · have hn3' : ¬ (40 : Int) < (n3 : Int) := by omega
        go_wp2
        go_loopw [10, 24] (fun s t wr => ∃ i : Nat, i ≤ n3 ∧ s = .int .i64 (e7 (twice X i)) ∧ t = .int .i64 i ∧ RdP wr (.slice a3 n3 c3) n3 X Y ∧ Handle wr ∧ Below w.heap.size w wr) (fun _ t _ => n3 - (intOf t).toNat)
        case atStart => exact ⟨0, Nat.zero_le _, rfl, rfl, r3, hg, hW⟩
        case round =>
          clear r0 r1 r3 hg hW
          obtain ⟨i, hi, rfl, rfl, r3, hg, hW⟩ := hrel
          obtain ⟨b, hb⟩ : ∃ b, b = twice X i := ⟨_, rfl⟩
          rw [← hb]
          have HB : Hid (b = twice X i) := hb
          clear hb
          cases b with
          | true =>
            rw [show e7 true = 7 from rfl]
            by_cases hin : i < n3
            all_goals
              go_wp2_with fail
              refine (through_clash _ n3 X Y _ r3 (by omega) (twice_mono X n3 i hi HB.out.symm)).mono ?_
              rintro e wt ⟨rfl, hB⟩
              replace hW := hW.trans (hB.mono hW.size)
              replace hg := hg.old hB
              clear hB r3
              go_wp2_with fail
              refine (err_same 7 _ hg).mono ?_
              rintro e wt2 ⟨rfl, hB⟩
              replace hW := hW.trans (hB.mono hW.size)
              clear hB hg
              go_wp2_with fail
              refine (nil_same _).mono ?_
              rintro e wz ⟨rfl, hwz⟩
              obtain rfl := hwz.symm
              clear hwz
              go_wp2
              go_ret
              exact ⟨rfl, hW⟩
          | false =>
            rw [show e7 false = 0 from rfl]
            by_cases hin : i < n3
            · go_wp2
              go_loopw [10, 25] (fun s t wq => ∃ k : Nat, k ≤ i ∧ s = .int .i64 (e7 (amid X (X i) k)) ∧ t = .int .i64 k ∧ RdP wq (.slice a3 n3 c3) n3 X Y ∧ Handle wq ∧ Below w.heap.size w wq) (fun _ t _ => i - (intOf t).toNat)
              case atStart => exact ⟨0, Nat.zero_le _, rfl, rfl, r3, hg, hW⟩
              case round =>
                clear r3 hg hW
                obtain ⟨k, hk, rfl, rfl, r3, hg, hW⟩ := hrel
                by_cases hki : k < i
                · obtain ⟨ad, rfl, d0, _⟩ := r3.some i hin
                  obtain ⟨ad2, had2, d2, _⟩ := r3.some k (by omega)
                  rw [← Option.some.inj had2] at d2
                  obtain ⟨xi, hxi⟩ : ∃ z, z = X i := ⟨_, rfl⟩
                  obtain ⟨xk, hxk⟩ : ∃ z, z = X k := ⟨_, rfl⟩
                  rw [← hxi] at d0
                  rw [← hxk] at d2
                  have heq := val_eq xk xi
                  have HXI : Hid (xi = X i) := hxi
                  have HXK : Hid (xk = X k) := hxk
                  clear hxi hxk had2
                  have hkn3 : (k : Int) < (n3 : Int) := by omega
                  have hin3 : (i : Int) < (n3 : Int) := by omega
                  have hki' : (k : Int) < (i : Int) := by omega
                  by_cases hxx : xk = xi
                  · have HE : Hid (e7 (amid X (X i) (k + 1)) = 7) := by (show _ = _); rw [amid, ← HXK.out, ← HXI.out, decide_eq_true hxx]; simp [e7]
                    rw [decide_eq_true hxx] at heq
                    clear hxx
                    go_wp2
                    go_quiet (fail)
                    have hdn : Below wr.heap.size wr (wr.drewN nq) := below_drewN (Below.refl _ _) _
                    replace r3 := r3.old hdn
                    replace hg := hg.old hdn
                    replace hW := hW.trans (hdn.mono hW.size)
                    clear hdn d0 d2
                    go_wp2
                    go_roundw
                    case rel => exact ⟨k + 1, by omega, by rw [HE.out], by go_num, r3, hg, hW⟩
                    case measure => simp [intOf]; omega
                  · have HE : Hid (e7 (amid X (X i) (k + 1)) = e7 (amid X (X i) k)) := by (show _ = _); rw [amid, ← HXK.out, ← HXI.out, decide_eq_false hxx, Bool.or_false]
                    rw [decide_eq_false hxx] at heq
                    clear hxx
                    go_wp2
                    go_quiet (fail)
                    have hdn : Below wr.heap.size wr (wr.drewN nq) := below_drewN (Below.refl _ _) _
                    replace r3 := r3.old hdn
                    replace hg := hg.old hdn
                    replace hW := hW.trans (hdn.mono hW.size)
                    clear hdn d0 d2
                    go_wp2
                    go_roundw
                    case rel => exact ⟨k + 1, by omega, by rw [HE.out], by go_num, r3, hg, hW⟩
                    case measure => simp [intOf]; omega
                · have HE : Hid (e7 (twice X (i + 1)) = e7 (amid X (X i) k)) := by (show _ = _); rw [twice, ← HB.out, show k = i by omega, Bool.false_or]
                  go_wp2
                  go_roundw
                  case rel => exact ⟨i + 1, by omega, by rw [HE.out], by go_num, r3, hg, hW⟩
                  case measure => simp [intOf]; omega
            · have HT : Hid (twice X n3 = false) := by (show _ = _); rw [show n3 = i by omega]; exact HB.out.symm
              go_wp2_with fail
              refine (rthrough_any _ n3 X Y _ r3 (by omega) HT.out).mono ?_
              rintro e wt ⟨p, vp, rfl, hth, rp, hB⟩
              replace r3 := r3.old hB
              replace hW := hW.trans (hB.mono hW.size)
              have HTH : Hid (Through X Y n3 p) := hth
              clear hB hth hg
              go_wp2_with fail
              refine (through_ok _ n3 X Y _ r3 (by omega) HT.out).mono ?_
              rintro e wt2 ⟨p2, vp2, rfl, hth2, hP2, hB⟩
              replace hW := hW.trans (hB.mono hW.size)
              replace rp := rp.old hB
              have rp2 := hP2.rd
              rw [hth2.same (not_twice HT.out) HTH.out] at rp2
              clear hB hth2 hP2 r3
              go_wp2_with fail
              refine (err_none _).mono ?_
              rintro e wz ⟨rfl, hwz⟩
              obtain rfl := hwz.symm
              clear hwz
              go_wp2_with fail
              refine (bytes_same _ _ _ _ rp2 rp).mono ?_
              rintro e wz ⟨rfl, hwz⟩
              obtain rfl := hwz.symm
              clear hwz
              clear rp rp2
              go_wp2
              go_ret
              exact ⟨rfl, hW⟩
    · have hb' : ¬ (40 : Int) < (n1 : Int) := by omega
      go_wp2_with fail
      refine (add_full _ _ _ _ _ _ _ HF.out).mono ?_
      rintro e we ⟨rfl, hB⟩
      replace r0 := r0.old hB
      replace r1 := r1.old hB
      replace r3 := r3.old hB
      replace hW := hW.trans (hB.mono hW.size)
      replace hg := hg.old hB
      clear hB
      go_wp2_with fail
      refine (err_same 4 _ hg).mono ?_
      rintro e we ⟨rfl, hB⟩
      replace r0 := r0.old hB
      replace r1 := r1.old hB
      replace r3 := r3.old hB
      replace hW := hW.trans (hB.mono hW.size)
      replace hg := hg.old hB
      clear hB
      go_wp2_with fail
      refine (nil_same _).mono ?_
      rintro e wz ⟨rfl, hwz⟩
      obtain rfl := hwz.symm
      clear hwz
      go_wp2_with fail
      refine (mul_full _ _ _ _ _ _ _ HF.out).mono ?_
      rintro e we ⟨rfl, hB⟩
      replace r0 := r0.old hB
      replace r1 := r1.old hB
      replace r3 := r3.old hB
      replace hW := hW.trans (hB.mono hW.size)
      replace hg := hg.old hB
      clear hB
      go_wp2_with fail
      refine (err_same 4 _ hg).mono ?_
      rintro e we ⟨rfl, hB⟩
      replace r0 := r0.old hB
      replace r1 := r1.old hB
      replace r3 := r3.old hB
      replace hW := hW.trans (hB.mono hW.size)
      replace hg := hg.old hB
      clear hB
      go_wp2_with fail
      refine (nil_same _).mono ?_
      rintro e wz ⟨rfl, hwz⟩
      obtain rfl := hwz.symm
      clear hwz
      go_wp2_with fail
      refine (divmod_full _ _ _ _ _ _ _ HF.out).mono ?_
      rintro e we ⟨rfl, hB⟩
      replace r0 := r0.old hB
      replace r1 := r1.old hB
      replace r3 := r3.old hB
      replace hW := hW.trans (hB.mono hW.size)
      replace hg := hg.old hB
      clear hB
      go_wp2_with fail
      refine (err_same 4 _ hg).mono ?_
      rintro e we ⟨rfl, hB⟩
      replace r0 := r0.old hB
      replace r1 := r1.old hB
      replace r3 := r3.old hB
      replace hW := hW.trans (hB.mono hW.size)
      replace hg := hg.old hB
      clear hB
      go_wp2_with fail
      refine (nil_same _).mono ?_
      rintro e wz ⟨rfl, hwz⟩
      obtain rfl := hwz.symm
      clear hwz
      go_wp2_with fail
      refine (nil_same _).mono ?_
      rintro e wz ⟨rfl, hwz⟩
      obtain rfl := hwz.symm
      clear hwz
      by_cases hn3 : 40 < n3
      · have hn3' : (40 : Int) < (n3 : Int) := by omega
        go_wp2
        refine wp_loop_rounds 1 ?_
        rw [rounds_succ]
        go_wp2_with fail
        refine (through_full _ _ _ _ hn3).mono ?_
        rintro e we ⟨rfl, hB⟩
        replace r0 := r0.old hB
        replace r1 := r1.old hB
        replace r3 := r3.old hB
        replace hW := hW.trans (hB.mono hW.size)
        replace hg := hg.old hB
        clear hB
        go_wp2_with fail
        refine (err_same 4 _ hg).mono ?_
        rintro e we ⟨rfl, hB⟩
        replace r0 := r0.old hB
        replace r1 := r1.old hB
        replace r3 := r3.old hB
        replace hW := hW.trans (hB.mono hW.size)
        replace hg := hg.old hB
        clear hB
        go_wp2_with fail
        refine (nil_same _).mono ?_
        rintro e wz ⟨rfl, hwz⟩
        obtain rfl := hwz.symm
        clear hwz
        go_wp2
        go_ret
        exact ⟨rfl, hW⟩
      · have hn3' : ¬ (40 : Int) < (n3 : Int) := by omega
        go_wp2
        go_loopw [10, 24] (fun s t wr => ∃ i : Nat, i ≤ n3 ∧ s = .int .i64 (e7 (twice X i)) ∧ t = .int .i64 i ∧ RdP wr (.slice a3 n3 c3) n3 X Y ∧ Handle wr ∧ Below w.heap.size w wr) (fun _ t _ => n3 - (intOf t).toNat)
        case atStart => exact ⟨0, Nat.zero_le _, rfl, rfl, r3, hg, hW⟩
        case round =>
          clear r0 r1 r3 hg hW
          obtain ⟨i, hi, rfl, rfl, r3, hg, hW⟩ := hrel
          obtain ⟨b, hb⟩ : ∃ b, b = twice X i := ⟨_, rfl⟩
          rw [← hb]
          have HB : Hid (b = twice X i) := hb
          clear hb
          cases b with
          | true =>
            rw [show e7 true = 7 from rfl]
            by_cases hin : i < n3
            all_goals
              go_wp2_with fail
              refine (through_clash _ n3 X Y _ r3 (by omega) (twice_mono X n3 i hi HB.out.symm)).mono ?_
              rintro e wt ⟨rfl, hB⟩
              replace hW := hW.trans (hB.mono hW.size)
              replace hg := hg.old hB
              clear hB r3
              go_wp2_with fail
              refine (err_same 7 _ hg).mono ?_
              rintro e wt2 ⟨rfl, hB⟩
              replace hW := hW.trans (hB.mono hW.size)
              clear hB hg
              go_wp2_with fail
              refine (nil_same _).mono ?_
              rintro e wz ⟨rfl, hwz⟩
              obtain rfl := hwz.symm
              clear hwz
              go_wp2
              go_ret
              exact ⟨rfl, hW⟩
          | false =>
            rw [show e7 false = 0 from rfl]
            by_cases hin : i < n3
            · go_wp2
              go_loopw [10, 25] (fun s t wq => ∃ k : Nat, k ≤ i ∧ s = .int .i64 (e7 (amid X (X i) k)) ∧ t = .int .i64 k ∧ RdP wq (.slice a3 n3 c3) n3 X Y ∧ Handle wq ∧ Below w.heap.size w wq) (fun _ t _ => i - (intOf t).toNat)
              case atStart => exact ⟨0, Nat.zero_le _, rfl, rfl, r3, hg, hW⟩
              case round =>
                clear r3 hg hW
                obtain ⟨k, hk, rfl, rfl, r3, hg, hW⟩ := hrel
                by_cases hki : k < i
                · obtain ⟨ad, rfl, d0, _⟩ := r3.some i hin
                  obtain ⟨ad2, had2, d2, _⟩ := r3.some k (by omega)
                  rw [← Option.some.inj had2] at d2
                  obtain ⟨xi, hxi⟩ : ∃ z, z = X i := ⟨_, rfl⟩
                  obtain ⟨xk, hxk⟩ : ∃ z, z = X k := ⟨_, rfl⟩
                  rw [← hxi] at d0
                  rw [← hxk] at d2
                  have heq := val_eq xk xi
                  have HXI : Hid (xi = X i) := hxi
                  have HXK : Hid (xk = X k) := hxk
                  clear hxi hxk had2
                  have hkn3 : (k : Int) < (n3 : Int) := by omega
                  have hin3 : (i : Int) < (n3 : Int) := by omega
                  have hki' : (k : Int) < (i : Int) := by omega
                  by_cases hxx : xk = xi
                  · have HE : Hid (e7 (amid X (X i) (k + 1)) = 7) := by (show _ = _); rw [amid, ← HXK.out, ← HXI.out, decide_eq_true hxx]; simp [e7]
                    rw [decide_eq_true hxx] at heq
                    clear hxx
                    go_wp2
                    go_quiet (fail)
                    have hdn : Below wr.heap.size wr (wr.drewN nq) := below_drewN (Below.refl _ _) _
                    replace r3 := r3.old hdn
                    replace hg := hg.old hdn
                    replace hW := hW.trans (hdn.mono hW.size)
                    clear hdn d0 d2
                    go_wp2
                    go_roundw
                    case rel => exact ⟨k + 1, by omega, by rw [HE.out], by go_num, r3, hg, hW⟩
                    case measure => simp [intOf]; omega
                  · have HE : Hid (e7 (amid X (X i) (k + 1)) = e7 (amid X (X i) k)) := by (show _ = _); rw [amid, ← HXK.out, ← HXI.out, decide_eq_false hxx, Bool.or_false]
                    rw [decide_eq_false hxx] at heq
                    clear hxx
                    go_wp2
                    go_quiet (fail)
                    have hdn : Below wr.heap.size wr (wr.drewN nq) := below_drewN (Below.refl _ _) _
                    replace r3 := r3.old hdn
                    replace hg := hg.old hdn
                    replace hW := hW.trans (hdn.mono hW.size)
                    clear hdn d0 d2
                    go_wp2
                    go_roundw
                    case rel => exact ⟨k + 1, by omega, by rw [HE.out], by go_num, r3, hg, hW⟩
                    case measure => simp [intOf]; omega
                · have HE : Hid (e7 (twice X (i + 1)) = e7 (amid X (X i) k)) := by (show _ = _); rw [twice, ← HB.out, show k = i by omega, Bool.false_or]
                  go_wp2
                  go_roundw
                  case rel => exact ⟨i + 1, by omega, by rw [HE.out], by go_num, r3, hg, hW⟩
                  case measure => simp [intOf]; omega
            · have HT : Hid (twice X n3 = false) := by (show _ = _); rw [show n3 = i by omega]; exact HB.out.symm
              go_wp2_with fail
              refine (rthrough_any _ n3 X Y _ r3 (by omega) HT.out).mono ?_
              rintro e wt ⟨p, vp, rfl, hth, rp, hB⟩
              replace r3 := r3.old hB
              replace hW := hW.trans (hB.mono hW.size)
              have HTH : Hid (Through X Y n3 p) := hth
              clear hB hth hg
              go_wp2_with fail
              refine (through_ok _ n3 X Y _ r3 (by omega) HT.out).mono ?_
              rintro e wt2 ⟨p2, vp2, rfl, hth2, hP2, hB⟩
              replace hW := hW.trans (hB.mono hW.size)
              replace rp := rp.old hB
              have rp2 := hP2.rd
              rw [hth2.same (not_twice HT.out) HTH.out] at rp2
              clear hB hth2 hP2 r3
              go_wp2_with fail
              refine (err_none _).mono ?_
              rintro e wz ⟨rfl, hwz⟩
              obtain rfl := hwz.symm
              clear hwz
              go_wp2_with fail
              refine (bytes_same _ _ _ _ rp2 rp).mono ?_
              rintro e wz ⟨rfl, hwz⟩
              obtain rfl := hwz.symm
              clear hwz
              clear rp rp2
              go_wp2
              go_ret
              exact ⟨rfl, hW⟩
  · have ha' : ¬ (40 : Int) < (n0 : Int) := by omega
    have H0 : Hid (xs.length ≤ 40) := by (show _ ≤ _); rw [← L0.out]; omega
    go_wp2_with fail
    refine (reval_any _ xs x _ r0 (by have := H0.out; omega)).mono ?_
    rintro e we ⟨rfl, hB⟩
    replace r0 := r0.old hB
    replace r1 := r1.old hB
    replace r3 := r3.old hB
    replace hW := hW.trans (hB.mono hW.size)
    replace hg := hg.old hB
    clear hB
    go_wp2_with fail
    refine (eval_ok _ xs x _ r0 H0.out).mono ?_
    rintro e we ⟨rfl, hB⟩
    replace r0 := r0.old hB
    replace r1 := r1.old hB
    replace r3 := r3.old hB
    replace hW := hW.trans (hB.mono hW.size)
    replace hg := hg.old hB
    clear hB
    go_wp2_with fail
    refine (err_none _).mono ?_
    rintro e wz ⟨rfl, hwz⟩
    obtain rfl := hwz.symm
    clear hwz
    by_cases hb : 40 < n1
    · have hb' : (40 : Int) < (n1 : Int) := by omega
      have HF : Hid ((tl n0 || tl n1) = true) := by (show _ = _); rw [tl_of hb]; simp
      go_wp2_with fail
      refine (add_full _ _ _ _ _ _ _ HF.out).mono ?_
      rintro e we ⟨rfl, hB⟩
      replace r0 := r0.old hB
      replace r1 := r1.old hB
      replace r3 := r3.old hB
      replace hW := hW.trans (hB.mono hW.size)
      replace hg := hg.old hB
      clear hB
      go_wp2_with fail
      refine (err_same 4 _ hg).mono ?_
      rintro e we ⟨rfl, hB⟩
      replace r0 := r0.old hB
      replace r1 := r1.old hB
      replace r3 := r3.old hB
      replace hW := hW.trans (hB.mono hW.size)
      replace hg := hg.old hB
      clear hB
      go_wp2_with fail
      refine (nil_same _).mono ?_
      rintro e wz ⟨rfl, hwz⟩
      obtain rfl := hwz.symm
      clear hwz
      go_wp2_with fail
      refine (mul_full _ _ _ _ _ _ _ HF.out).mono ?_
      rintro e we ⟨rfl, hB⟩
      replace r0 := r0.old hB
      replace r1 := r1.old hB
      replace r3 := r3.old hB
      replace hW := hW.trans (hB.mono hW.size)
      replace hg := hg.old hB
      clear hB
      go_wp2_with fail
      refine (err_same 4 _ hg).mono ?_
      rintro e we ⟨rfl, hB⟩
      replace r0 := r0.old hB
      replace r1 := r1.old hB
      replace r3 := r3.old hB
      replace hW := hW.trans (hB.mono hW.size)
      replace hg := hg.old hB
      clear hB
      go_wp2_with fail
      refine (nil_same _).mono ?_
      rintro e wz ⟨rfl, hwz⟩
      obtain rfl := hwz.symm
      clear hwz
      go_wp2_with fail
      refine (divmod_full _ _ _ _ _ _ _ HF.out).mono ?_
      rintro e we ⟨rfl, hB⟩
      replace r0 := r0.old hB
      replace r1 := r1.old hB
      replace r3 := r3.old hB
      replace hW := hW.trans (hB.mono hW.size)
      replace hg := hg.old hB
      clear hB
      go_wp2_with fail
      refine (err_same 4 _ hg).mono ?_
      rintro e we ⟨rfl, hB⟩
      replace r0 := r0.old hB
      replace r1 := r1.old hB
      replace r3 := r3.old hB
      replace hW := hW.trans (hB.mono hW.size)
      replace hg := hg.old hB
      clear hB
      go_wp2_with fail
      refine (nil_same _).mono ?_
      rintro e wz ⟨rfl, hwz⟩
      obtain rfl := hwz.symm
      clear hwz
      go_wp2_with fail
      refine (nil_same _).mono ?_
      rintro e wz ⟨rfl, hwz⟩
      obtain rfl := hwz.symm
      clear hwz
      by_cases hn3 : 40 < n3
      · have hn3' : (40 : Int) < (n3 : Int) := by omega
        go_wp2
        refine wp_loop_rounds 1 ?_
        rw [rounds_succ]
        go_wp2_with fail
        refine (through_full _ _ _ _ hn3).mono ?_
        rintro e we ⟨rfl, hB⟩
        replace r0 := r0.old hB
        replace r1 := r1.old hB
        replace r3 := r3.old hB
        replace hW := hW.trans (hB.mono hW.size)
        replace hg := hg.old hB
        clear hB
        go_wp2_with fail
        refine (err_same 4 _ hg).mono ?_
        rintro e we ⟨rfl, hB⟩
        replace r0 := r0.old hB
        replace r1 := r1.old hB
        replace r3 := r3.old hB
        replace hW := hW.trans (hB.mono hW.size)
        replace hg := hg.old hB
        clear hB
        go_wp2_with fail
        refine (nil_same _).mono ?_
        rintro e wz ⟨rfl, hwz⟩
        obtain rfl := hwz.symm
        clear hwz
        go_wp2
        go_ret
        exact ⟨rfl, hW⟩
      · have hn3' : ¬ (40 : Int) < (n3 : Int) := by omega
        go_wp2
        go_loopw [10, 24] (fun s t wr => ∃ i : Nat, i ≤ n3 ∧ s = .int .i64 (e7 (twice X i)) ∧ t = .int .i64 i ∧ RdP wr (.slice a3 n3 c3) n3 X Y ∧ Handle wr ∧ Below w.heap.size w wr) (fun _ t _ => n3 - (intOf t).toNat)
        case atStart => exact ⟨0, Nat.zero_le _, rfl, rfl, r3, hg, hW⟩
        case round =>
          clear r0 r1 r3 hg hW
          obtain ⟨i, hi, rfl, rfl, r3, hg, hW⟩ := hrel
          obtain ⟨b, hb⟩ : ∃ b, b = twice X i := ⟨_, rfl⟩
          rw [← hb]
          have HB : Hid (b = twice X i) := hb
          clear hb
          cases b with
          | true =>
            rw [show e7 true = 7 from rfl]
            by_cases hin : i < n3
            all_goals
              go_wp2_with fail
              refine (through_clash _ n3 X Y _ r3 (by omega) (twice_mono X n3 i hi HB.out.symm)).mono ?_
              rintro e wt ⟨rfl, hB⟩
              replace hW := hW.trans (hB.mono hW.size)
              replace hg := hg.old hB
              clear hB r3
              go_wp2_with fail
              refine (err_same 7 _ hg).mono ?_
              rintro e wt2 ⟨rfl, hB⟩
              replace hW := hW.trans (hB.mono hW.size)
              clear hB hg
              go_wp2_with fail
              refine (nil_same _).mono ?_
              rintro e wz ⟨rfl, hwz⟩
              obtain rfl := hwz.symm
              clear hwz
              go_wp2
              go_ret
              exact ⟨rfl, hW⟩
          | false =>
            rw [show e7 false = 0 from rfl]
            by_cases hin : i < n3
            · go_wp2
              go_loopw [10, 25] (fun s t wq => ∃ k : Nat, k ≤ i ∧ s = .int .i64 (e7 (amid X (X i) k)) ∧ t = .int .i64 k ∧ RdP wq (.slice a3 n3 c3) n3 X Y ∧ Handle wq ∧ Below w.heap.size w wq) (fun _ t _ => i - (intOf t).toNat)
              case atStart => exact ⟨0, Nat.zero_le _, rfl, rfl, r3, hg, hW⟩
              case round =>
                clear r3 hg hW
                obtain ⟨k, hk, rfl, rfl, r3, hg, hW⟩ := hrel
                by_cases hki : k < i
                · obtain ⟨ad, rfl, d0, _⟩ := r3.some i hin
                  obtain ⟨ad2, had2, d2, _⟩ := r3.some k (by omega)
                  rw [← Option.some.inj had2] at d2
                  obtain ⟨xi, hxi⟩ : ∃ z, z = X i := ⟨_, rfl⟩
                  obtain ⟨xk, hxk⟩ : ∃ z, z = X k := ⟨_, rfl⟩
                  rw [← hxi] at d0
                  rw [← hxk] at d2
                  have heq := val_eq xk xi
                  have HXI : Hid (xi = X i) := hxi
                  have HXK : Hid (xk = X k) := hxk
                  clear hxi hxk had2
                  have hkn3 : (k : Int) < (n3 : Int) := by omega
                  have hin3 : (i : Int) < (n3 : Int) := by omega
                  have hki' : (k : Int) < (i : Int) := by omega
                  by_cases hxx : xk = xi
                  · have HE : Hid (e7 (amid X (X i) (k + 1)) = 7) := by (show _ = _); rw [amid, ← HXK.out, ← HXI.out, decide_eq_true hxx]; simp [e7]
                    rw [decide_eq_true hxx] at heq
                    clear hxx
                    go_wp2
                    go_quiet (fail)
                    have hdn : Below wr.heap.size wr (wr.drewN nq) := below_drewN (Below.refl _ _) _
                    replace r3 := r3.old hdn
                    replace hg := hg.old hdn
                    replace hW := hW.trans (hdn.mono hW.size)
                    clear hdn d0 d2
                    go_wp2
                    go_roundw
                    case rel => exact ⟨k + 1, by omega, by rw [HE.out], by go_num, r3, hg, hW⟩
                    case measure => simp [intOf]; omega
                  · have HE : Hid (e7 (amid X (X i) (k + 1)) = e7 (amid X (X i) k)) := by (show _ = _); rw [amid, ← HXK.out, ← HXI.out, decide_eq_false hxx, Bool.or_false]
                    rw [decide_eq_false hxx] at heq
                    clear hxx
                    go_wp2
                    go_quiet (fail)
                    have hdn : Below wr.heap.size wr (wr.drewN nq) := below_drewN (Below.refl _ _) _
                    replace r3 := r3.old hdn
                    replace hg := hg.old hdn
                    replace hW := hW.trans (hdn.mono hW.size)
                    clear hdn d0 d2
                    go_wp2
                    go_roundw
                    case rel => exact ⟨k + 1, by omega, by rw [HE.out], by go_num, r3, hg, hW⟩
                    case measure => simp [intOf]; omega
                · have HE : Hid (e7 (twice X (i + 1)) = e7 (amid X (X i) k)) := by (show _ = _); rw [twice, ← HB.out, show k = i by omega, Bool.false_or]
                  go_wp2
                  go_roundw
                  case rel => exact ⟨i + 1, by omega, by rw [HE.out], by go_num, r3, hg, hW⟩
                  case measure => simp [intOf]; omega
            · have HT : Hid (twice X n3 = false) := by (show _ = _); rw [show n3 = i by omega]; exact HB.out.symm
              go_wp2_with fail
              refine (rthrough_any _ n3 X Y _ r3 (by omega) HT.out).mono ?_
              rintro e wt ⟨p, vp, rfl, hth, rp, hB⟩
              replace r3 := r3.old hB
              replace hW := hW.trans (hB.mono hW.size)
              have HTH : Hid (Through X Y n3 p) := hth
              clear hB hth hg
              go_wp2_with fail
              refine (through_ok _ n3 X Y _ r3 (by omega) HT.out).mono ?_
              rintro e wt2 ⟨p2, vp2, rfl, hth2, hP2, hB⟩
              replace hW := hW.trans (hB.mono hW.size)
              replace rp := rp.old hB
              have rp2 := hP2.rd
              rw [hth2.same (not_twice HT.out) HTH.out] at rp2
              clear hB hth2 hP2 r3
              go_wp2_with fail
              refine (err_none _).mono ?_
              rintro e wz ⟨rfl, hwz⟩
              obtain rfl := hwz.symm
              clear hwz
              go_wp2_with fail
              refine (bytes_same _ _ _ _ rp2 rp).mono ?_
              rintro e wz ⟨rfl, hwz⟩
              obtain rfl := hwz.symm
              clear hwz
              clear rp rp2
              go_wp2
              go_ret
              exact ⟨rfl, hW⟩
    · have hb' : ¬ (40 : Int) < (n1 : Int) := by omega
      have H1 : Hid (ys.length ≤ 40) := by (show _ ≤ _); rw [← L1.out]; omega
      go_wp2_with fail
      refine (rsum_any _ _ xs ys _ r0 r1 (by have := H0.out; omega) (by have := H1.out; omega)).mono ?_
      rintro e w3 ⟨vs, rfl, hO, hB⟩
      replace r0 := r0.old hB
      replace r1 := r1.old hB
      replace r3 := r3.old hB
      replace hW := hW.trans (hB.mono hW.size)
      replace hg := hg.old hB
      have rs := hO.rd
      clear hB hO
      go_wp2_with fail
      refine (rproduct_any _ _ xs ys _ r0 r1 (by have := H0.out; omega) (by have := H1.out; omega)).mono ?_
      rintro e w4 ⟨vp, rfl, hO, hB⟩
      replace r0 := r0.old hB
      replace r1 := r1.old hB
      replace r3 := r3.old hB
      replace hW := hW.trans (hB.mono hW.size)
      replace hg := hg.old hB
      replace rs := rs.old hB
      have rp := hO.rd
      clear hB hO
      go_wp2_with fail
      refine (add_ok _ _ xs ys _ r0 r1 H0.out H1.out).mono ?_
      rintro e w5 ⟨va, rfl, hO, hB⟩
      replace r0 := r0.old hB
      replace r1 := r1.old hB
      replace r3 := r3.old hB
      replace hW := hW.trans (hB.mono hW.size)
      replace hg := hg.old hB
      replace rs := rs.old hB
      replace rp := rp.old hB
      have ra := hO.rd
      clear hB hO
      go_wp2_with fail
      refine (err_none _).mono ?_
      rintro e wz ⟨rfl, hwz⟩
      obtain rfl := hwz.symm
      clear hwz
      go_wp2_with fail
      refine (bytes_same _ _ _ _ ra rs).mono ?_
      rintro e wz ⟨rfl, hwz⟩
      obtain rfl := hwz.symm
      clear hwz
      clear ra rs
      go_wp2_with fail
      refine (mul_ok _ _ xs ys _ r0 r1 H0.out H1.out).mono ?_
      rintro e w6 ⟨vm, rfl, hO, hB⟩
      replace r0 := r0.old hB
      replace r1 := r1.old hB
      replace r3 := r3.old hB
      replace hW := hW.trans (hB.mono hW.size)
      replace hg := hg.old hB
      replace rp := rp.old hB
      have rm := hO.rd
      clear hB hO
      go_wp2_with fail
      refine (err_none _).mono ?_
      rintro e wz ⟨rfl, hwz⟩
      obtain rfl := hwz.symm
      clear hwz
      go_wp2_with fail
      refine (bytes_same _ _ _ _ rm rp).mono ?_
      rintro e wz ⟨rfl, hwz⟩
      obtain rfl := hwz.symm
      clear hwz
      clear rm rp
      go_wp2_with fail
      refine (rtrim_any _ ys _ r1 (by have := H1.out; omega)).mono ?_
      rintro e w7 ⟨vb, rfl, hO, hB⟩
      replace r0 := r0.old hB
      replace r1 := r1.old hB
      replace r3 := r3.old hB
      replace hW := hW.trans (hB.mono hW.size)
      replace hg := hg.old hB
      obtain ⟨ab, cb, rfl, _, _⟩ := hO.rd.len
      clear hB hO
      by_cases hz : trim ys = []
      · have HZ : Hid (trim ys = []) := hz
        have hz' : ((((trim ys).length : Nat) : Int) == 0) = true := by rw [hz]; rfl
        generalize (trim ys).length = tb at *
        clear hz
        go_wp2_with fail
        refine (divmod_none _ _ xs ys _ r0 r1 H0.out H1.out HZ.out).mono ?_
        rintro e we ⟨rfl, hB⟩
        replace r0 := r0.old hB
        replace r1 := r1.old hB
        replace r3 := r3.old hB
        replace hW := hW.trans (hB.mono hW.size)
        replace hg := hg.old hB
        clear hB
        go_wp2_with fail
        refine (err_same 5 _ hg).mono ?_
        rintro e we ⟨rfl, hB⟩
        replace r0 := r0.old hB
        replace r1 := r1.old hB
        replace r3 := r3.old hB
        replace hW := hW.trans (hB.mono hW.size)
        replace hg := hg.old hB
        clear hB
        go_wp2_with fail
        refine (nil_same _).mono ?_
        rintro e wz ⟨rfl, hwz⟩
        obtain rfl := hwz.symm
        clear hwz
        go_wp2_with fail
        refine (nil_same _).mono ?_
        rintro e wz ⟨rfl, hwz⟩
        obtain rfl := hwz.symm
        clear hwz
        by_cases hn3 : 40 < n3
        · have hn3' : (40 : Int) < (n3 : Int) := by omega
          go_wp2
          refine wp_loop_rounds 1 ?_
          rw [rounds_succ]
          go_wp2_with fail
          refine (through_full _ _ _ _ hn3).mono ?_
          rintro e we ⟨rfl, hB⟩
          replace r0 := r0.old hB
          replace r1 := r1.old hB
          replace r3 := r3.old hB
          replace hW := hW.trans (hB.mono hW.size)
          replace hg := hg.old hB
          clear hB
          go_wp2_with fail
          refine (err_same 4 _ hg).mono ?_
          rintro e we ⟨rfl, hB⟩
          replace r0 := r0.old hB
          replace r1 := r1.old hB
          replace r3 := r3.old hB
          replace hW := hW.trans (hB.mono hW.size)
          replace hg := hg.old hB
          clear hB
          go_wp2_with fail
          refine (nil_same _).mono ?_
          rintro e wz ⟨rfl, hwz⟩
          obtain rfl := hwz.symm
          clear hwz
          go_wp2
          go_ret
          exact ⟨rfl, hW⟩
        · have hn3' : ¬ (40 : Int) < (n3 : Int) := by omega
          go_wp2
          go_loopw [10, 24] (fun s t wr => ∃ i : Nat, i ≤ n3 ∧ s = .int .i64 (e7 (twice X i)) ∧ t = .int .i64 i ∧ RdP wr (.slice a3 n3 c3) n3 X Y ∧ Handle wr ∧ Below w.heap.size w wr) (fun _ t _ => n3 - (intOf t).toNat)
          case atStart => exact ⟨0, Nat.zero_le _, rfl, rfl, r3, hg, hW⟩
          case round =>
            clear r0 r1 r3 hg hW
            obtain ⟨i, hi, rfl, rfl, r3, hg, hW⟩ := hrel
            obtain ⟨b, hb⟩ : ∃ b, b = twice X i := ⟨_, rfl⟩
            rw [← hb]
            have HB : Hid (b = twice X i) := hb
            clear hb
            cases b with
            | true =>
              rw [show e7 true = 7 from rfl]
              by_cases hin : i < n3
              all_goals
                go_wp2_with fail
                refine (through_clash _ n3 X Y _ r3 (by omega) (twice_mono X n3 i hi HB.out.symm)).mono ?_
                rintro e wt ⟨rfl, hB⟩
                replace hW := hW.trans (hB.mono hW.size)
                replace hg := hg.old hB
                clear hB r3
                go_wp2_with fail
                refine (err_same 7 _ hg).mono ?_
                rintro e wt2 ⟨rfl, hB⟩
                replace hW := hW.trans (hB.mono hW.size)
                clear hB hg
                go_wp2_with fail
                refine (nil_same _).mono ?_
                rintro e wz ⟨rfl, hwz⟩
                obtain rfl := hwz.symm
                clear hwz
                go_wp2
                go_ret
                exact ⟨rfl, hW⟩
            | false =>
              rw [show e7 false = 0 from rfl]
              by_cases hin : i < n3
              · go_wp2
                go_loopw [10, 25] (fun s t wq => ∃ k : Nat, k ≤ i ∧ s = .int .i64 (e7 (amid X (X i) k)) ∧ t = .int .i64 k ∧ RdP wq (.slice a3 n3 c3) n3 X Y ∧ Handle wq ∧ Below w.heap.size w wq) (fun _ t _ => i - (intOf t).toNat)
                case atStart => exact ⟨0, Nat.zero_le _, rfl, rfl, r3, hg, hW⟩
                case round =>
                  clear r3 hg hW
                  obtain ⟨k, hk, rfl, rfl, r3, hg, hW⟩ := hrel
                  by_cases hki : k < i
                  · obtain ⟨ad, rfl, d0, _⟩ := r3.some i hin
                    obtain ⟨ad2, had2, d2, _⟩ := r3.some k (by omega)
                    rw [← Option.some.inj had2] at d2
                    obtain ⟨xi, hxi⟩ : ∃ z, z = X i := ⟨_, rfl⟩
                    obtain ⟨xk, hxk⟩ : ∃ z, z = X k := ⟨_, rfl⟩
                    rw [← hxi] at d0
                    rw [← hxk] at d2
                    have heq := val_eq xk xi
                    have HXI : Hid (xi = X i) := hxi
                    have HXK : Hid (xk = X k) := hxk
                    clear hxi hxk had2
                    have hkn3 : (k : Int) < (n3 : Int) := by omega
                    have hin3 : (i : Int) < (n3 : Int) := by omega
                    have hki' : (k : Int) < (i : Int) := by omega
                    by_cases hxx : xk = xi
                    · have HE : Hid (e7 (amid X (X i) (k + 1)) = 7) := by (show _ = _); rw [amid, ← HXK.out, ← HXI.out, decide_eq_true hxx]; simp [e7]
                      rw [decide_eq_true hxx] at heq
                      clear hxx
                      go_wp2
                      go_quiet (fail)
                      have hdn : Below wr.heap.size wr (wr.drewN nq) := below_drewN (Below.refl _ _) _
                      replace r3 := r3.old hdn
                      replace hg := hg.old hdn
                      replace hW := hW.trans (hdn.mono hW.size)
                      clear hdn d0 d2
                      go_wp2
                      go_roundw
                      case rel => exact ⟨k + 1, by omega, by rw [HE.out], by go_num, r3, hg, hW⟩
                      case measure => simp [intOf]; omega
                    · have HE : Hid (e7 (amid X (X i) (k + 1)) = e7 (amid X (X i) k)) := by (show _ = _); rw [amid, ← HXK.out, ← HXI.out, decide_eq_false hxx, Bool.or_false]
                      rw [decide_eq_false hxx] at heq
                      clear hxx
                      go_wp2
                      go_quiet (fail)
                      have hdn : Below wr.heap.size wr (wr.drewN nq) := below_drewN (Below.refl _ _) _
                      replace r3 := r3.old hdn
                      replace hg := hg.old hdn
                      replace hW := hW.trans (hdn.mono hW.size)
                      clear hdn d0 d2
                      go_wp2
                      go_roundw
                      case rel => exact ⟨k + 1, by omega, by rw [HE.out], by go_num, r3, hg, hW⟩
                      case measure => simp [intOf]; omega
                  · have HE : Hid (e7 (twice X (i + 1)) = e7 (amid X (X i) k)) := by (show _ = _); rw [twice, ← HB.out, show k = i by omega, Bool.false_or]
                    go_wp2
                    go_roundw
                    case rel => exact ⟨i + 1, by omega, by rw [HE.out], by go_num, r3, hg, hW⟩
                    case measure => simp [intOf]; omega
              · have HT : Hid (twice X n3 = false) := by (show _ = _); rw [show n3 = i by omega]; exact HB.out.symm
                go_wp2_with fail
                refine (rthrough_any _ n3 X Y _ r3 (by omega) HT.out).mono ?_
                rintro e wt ⟨p, vp, rfl, hth, rp, hB⟩
                replace r3 := r3.old hB
                replace hW := hW.trans (hB.mono hW.size)
                have HTH : Hid (Through X Y n3 p) := hth
                clear hB hth hg
                go_wp2_with fail
                refine (through_ok _ n3 X Y _ r3 (by omega) HT.out).mono ?_
                rintro e wt2 ⟨p2, vp2, rfl, hth2, hP2, hB⟩
                replace hW := hW.trans (hB.mono hW.size)
                replace rp := rp.old hB
                have rp2 := hP2.rd
                rw [hth2.same (not_twice HT.out) HTH.out] at rp2
                clear hB hth2 hP2 r3
                go_wp2_with fail
                refine (err_none _).mono ?_
                rintro e wz ⟨rfl, hwz⟩
                obtain rfl := hwz.symm
                clear hwz
                go_wp2_with fail
                refine (bytes_same _ _ _ _ rp2 rp).mono ?_
                rintro e wz ⟨rfl, hwz⟩
                obtain rfl := hwz.symm
                clear hwz
                clear rp rp2
                go_wp2
                go_ret
                exact ⟨rfl, hW⟩
      · have HZ : Hid (trim ys ≠ []) := hz
        have hz' : ((((trim ys).length : Nat) : Int) == 0) = false := by rw [beq_eq_false_iff_ne]; have := List.length_pos_iff.2 hz; omega
        generalize (trim ys).length = tb at *
        clear hz
        go_wp2_with fail
        refine (rdivmod_any _ _ xs ys _ r0 r1 H0.out H1.out HZ.out).mono ?_
        rintro e w8 ⟨q, r, vq, vr, rfl, hdiv, rq, rr, hB⟩
        replace r0 := r0.old hB
        replace r1 := r1.old hB
        replace r3 := r3.old hB
        replace hW := hW.trans (hB.mono hW.size)
        replace hg := hg.old hB
        clear hB
        have HDV : Hid (DivOk xs ys q r) := hdiv
        clear hdiv
        go_wp2_with fail
        refine (divmod_ok _ _ xs ys _ r0 r1 H0.out H1.out HZ.out).mono ?_
        rintro e w9 ⟨q2, r2, vq2, vr2, rfl, hdiv2, hQ, hR, hB⟩
        replace r0 := r0.old hB
        replace r1 := r1.old hB
        replace r3 := r3.old hB
        replace hW := hW.trans (hB.mono hW.size)
        replace hg := hg.old hB
        replace rq := rq.old hB
        replace rr := rr.old hB
        obtain ⟨hq, hr⟩ := hdiv2.same HDV.out
        have rq2 := hQ.rd
        have rr2 := hR.rd
        rw [hq] at rq2
        rw [hr] at rr2
        clear hB hQ hR hdiv2 hq hr
        go_wp2_with fail
        refine (err_none _).mono ?_
        rintro e wz ⟨rfl, hwz⟩
        obtain rfl := hwz.symm
        clear hwz
        go_wp2_with fail
        refine (bytes_same _ _ _ _ rq2 rq).mono ?_
        rintro e wz ⟨rfl, hwz⟩
        obtain rfl := hwz.symm
        clear hwz
        go_wp2_with fail
        refine (bytes_same _ _ _ _ rr2 rr).mono ?_
        rintro e wz ⟨rfl, hwz⟩
        obtain rfl := hwz.symm
        clear hwz
        clear rq2 rq rr2 rr
        by_cases hn3 : 40 < n3
        · have hn3' : (40 : Int) < (n3 : Int) := by omega
          go_wp2
          refine wp_loop_rounds 1 ?_
          rw [rounds_succ]
          go_wp2_with fail
          refine (through_full _ _ _ _ hn3).mono ?_
          rintro e we ⟨rfl, hB⟩
          replace r0 := r0.old hB
          replace r1 := r1.old hB
          replace r3 := r3.old hB
          replace hW := hW.trans (hB.mono hW.size)
          replace hg := hg.old hB
          clear hB
          go_wp2_with fail
          refine (err_same 4 _ hg).mono ?_
          rintro e we ⟨rfl, hB⟩
          replace r0 := r0.old hB
          replace r1 := r1.old hB
          replace r3 := r3.old hB
          replace hW := hW.trans (hB.mono hW.size)
          replace hg := hg.old hB
          clear hB
          go_wp2_with fail
          refine (nil_same _).mono ?_
          rintro e wz ⟨rfl, hwz⟩
          obtain rfl := hwz.symm
          clear hwz
          go_wp2
          go_ret
          exact ⟨rfl, hW⟩
        · have hn3' : ¬ (40 : Int) < (n3 : Int) := by omega
          go_wp2
          go_loopw [10, 24] (fun s t wr => ∃ i : Nat, i ≤ n3 ∧ s = .int .i64 (e7 (twice X i)) ∧ t = .int .i64 i ∧ RdP wr (.slice a3 n3 c3) n3 X Y ∧ Handle wr ∧ Below w.heap.size w wr) (fun _ t _ => n3 - (intOf t).toNat)
          case atStart => exact ⟨0, Nat.zero_le _, rfl, rfl, r3, hg, hW⟩
          case round =>
            clear r0 r1 r3 hg hW
            obtain ⟨i, hi, rfl, rfl, r3, hg, hW⟩ := hrel
            obtain ⟨b, hb⟩ : ∃ b, b = twice X i := ⟨_, rfl⟩
            rw [← hb]
            have HB : Hid (b = twice X i) := hb
            clear hb
            cases b with
            | true =>
              rw [show e7 true = 7 from rfl]
              by_cases hin : i < n3
              all_goals
                go_wp2_with fail
                refine (through_clash _ n3 X Y _ r3 (by omega) (twice_mono X n3 i hi HB.out.symm)).mono ?_
                rintro e wt ⟨rfl, hB⟩
                replace hW := hW.trans (hB.mono hW.size)
                replace hg := hg.old hB
                clear hB r3
                go_wp2_with fail
                refine (err_same 7 _ hg).mono ?_
                rintro e wt2 ⟨rfl, hB⟩
                replace hW := hW.trans (hB.mono hW.size)
                clear hB hg
                go_wp2_with fail
                refine (nil_same _).mono ?_
                rintro e wz ⟨rfl, hwz⟩
                obtain rfl := hwz.symm
                clear hwz
                go_wp2
                go_ret
                exact ⟨rfl, hW⟩
            | false =>
              rw [show e7 false = 0 from rfl]
              by_cases hin : i < n3
              · go_wp2
                go_loopw [10, 25] (fun s t wq => ∃ k : Nat, k ≤ i ∧ s = .int .i64 (e7 (amid X (X i) k)) ∧ t = .int .i64 k ∧ RdP wq (.slice a3 n3 c3) n3 X Y ∧ Handle wq ∧ Below w.heap.size w wq) (fun _ t _ => i - (intOf t).toNat)
                case atStart => exact ⟨0, Nat.zero_le _, rfl, rfl, r3, hg, hW⟩
                case round =>
                  clear r3 hg hW
                  obtain ⟨k, hk, rfl, rfl, r3, hg, hW⟩ := hrel
                  by_cases hki : k < i
                  · obtain ⟨ad, rfl, d0, _⟩ := r3.some i hin
                    obtain ⟨ad2, had2, d2, _⟩ := r3.some k (by omega)
                    rw [← Option.some.inj had2] at d2
                    obtain ⟨xi, hxi⟩ : ∃ z, z = X i := ⟨_, rfl⟩
                    obtain ⟨xk, hxk⟩ : ∃ z, z = X k := ⟨_, rfl⟩
                    rw [← hxi] at d0
                    rw [← hxk] at d2
                    have heq := val_eq xk xi
                    have HXI : Hid (xi = X i) := hxi
                    have HXK : Hid (xk = X k) := hxk
                    clear hxi hxk had2
                    have hkn3 : (k : Int) < (n3 : Int) := by omega
                    have hin3 : (i : Int) < (n3 : Int) := by omega
                    have hki' : (k : Int) < (i : Int) := by omega
                    by_cases hxx : xk = xi
                    · have HE : Hid (e7 (amid X (X i) (k + 1)) = 7) := by (show _ = _); rw [amid, ← HXK.out, ← HXI.out, decide_eq_true hxx]; simp [e7]
                      rw [decide_eq_true hxx] at heq
                      clear hxx
                      go_wp2
                      go_quiet (fail)
                      have hdn : Below wr.heap.size wr (wr.drewN nq) := below_drewN (Below.refl _ _) _
                      replace r3 := r3.old hdn
                      replace hg := hg.old hdn
                      replace hW := hW.trans (hdn.mono hW.size)
                      clear hdn d0 d2
                      go_wp2
                      go_roundw
                      case rel => exact ⟨k + 1, by omega, by rw [HE.out], by go_num, r3, hg, hW⟩
                      case measure => simp [intOf]; omega
                    · have HE : Hid (e7 (amid X (X i) (k + 1)) = e7 (amid X (X i) k)) := by (show _ = _); rw [amid, ← HXK.out, ← HXI.out, decide_eq_false hxx, Bool.or_false]
                      rw [decide_eq_false hxx] at heq
                      clear hxx
                      go_wp2
                      go_quiet (fail)
                      have hdn : Below wr.heap.size wr (wr.drewN nq) := below_drewN (Below.refl _ _) _
                      replace r3 := r3.old hdn
                      replace hg := hg.old hdn
                      replace hW := hW.trans (hdn.mono hW.size)
                      clear hdn d0 d2
                      go_wp2
                      go_roundw
                      case rel => exact ⟨k + 1, by omega, by rw [HE.out], by go_num, r3, hg, hW⟩
                      case measure => simp [intOf]; omega
                  · have HE : Hid (e7 (twice X (i + 1)) = e7 (amid X (X i) k)) := by (show _ = _); rw [twice, ← HB.out, show k = i by omega, Bool.false_or]
                    go_wp2
                    go_roundw
                    case rel => exact ⟨i + 1, by omega, by rw [HE.out], by go_num, r3, hg, hW⟩
                    case measure => simp [intOf]; omega
              · have HT : Hid (twice X n3 = false) := by (show _ = _); rw [show n3 = i by omega]; exact HB.out.symm
                go_wp2_with fail
                refine (rthrough_any _ n3 X Y _ r3 (by omega) HT.out).mono ?_
                rintro e wt ⟨p, vp, rfl, hth, rp, hB⟩
                replace r3 := r3.old hB
                replace hW := hW.trans (hB.mono hW.size)
                have HTH : Hid (Through X Y n3 p) := hth
                clear hB hth hg
                go_wp2_with fail
                refine (through_ok _ n3 X Y _ r3 (by omega) HT.out).mono ?_
                rintro e wt2 ⟨p2, vp2, rfl, hth2, hP2, hB⟩
                replace hW := hW.trans (hB.mono hW.size)
                replace rp := rp.old hB
                have rp2 := hP2.rd
                rw [hth2.same (not_twice HT.out) HTH.out] at rp2
                clear hB hth2 hP2 r3
                go_wp2_with fail
                refine (err_none _).mono ?_
                rintro e wz ⟨rfl, hwz⟩
                obtain rfl := hwz.symm
                clear hwz
                go_wp2_with fail
                refine (bytes_same _ _ _ _ rp2 rp).mono ?_
                rintro e wz ⟨rfl, hwz⟩
                obtain rfl := hwz.symm
                clear hwz
                clear rp rp2
                go_wp2
                go_ret
                exact ⟨rfl, hW⟩
end Go.Proofs.YtikhjhbohkaajaaDoor
