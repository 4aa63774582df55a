/- What wire.Unpack answers: walks over the program. -/
import Derived.Test.YtdbanimlnjhhlaaDoorWrQ
import Derived.Test.YtdbanimlnjhhlaaDoorWrU
namespace Go.Proofs.YtdbanimlnjhhlaaDoor
open Go.ChangeShapes Go.WideShapes Go.ChangeAt Go.RowKit El Pol
open Classical in
/-- the fault of bytes that are to be a row -/
noncomputable def wUE (t : List El) : Nat := if WUn t then 0 else 2
theorem wUE_ok {t : List El} (h : WUn t) : wUE t = 0 := if_pos h
theorem wUE_bad {t : List El} (h : ¬ WUn t) : wUE t = 2 := if_neg h
/-- what stands between -/
def wmid (t : List El) : List El := (t.take (t.length - 2)).drop 3
theorem wmid_len {t : List El} (h : t.length = 5 + wmany t * wsize t) : (wmid t).length = wmany t * wsize t := by
  unfold wmid
  rw [List.length_drop, List.length_take]
  omega
theorem wmid_cut {t : List El} (h : t.length = 5 + wmany t * wsize t) {i : Nat} (hi : i < wmany t) : wct (wsize t) (wmid t) i = wpt t i := by
  have h1 : (i + 1) * wsize t ≤ wmany t * wsize t := Nat.mul_le_mul_right _ hi
  rw [Nat.add_mul, Nat.one_mul] at h1
  unfold wct wmid wpt
  rw [List.drop_drop, List.drop_take, List.take_take, Nat.min_eq_left (by omega)]
theorem wun_of {t : List El} (he : wE (wrow t : Int) (wmany t) (wpt t) = 0) (hp : wpack (wrow t) (wmany t) (wpt t) = t) : WUn t := by
  obtain ⟨r, hr, ho⟩ := wok_of he
  have : wrow t = r := by omega
  subst this
  have := (pack_wun ho).1
  rw [hp] at this
  exact this
theorem wE_congr {row : Int} {n : Nat} {f g : Nat → List El} (h : ∀ i, i < n → f i = g i) : wE row n f = wE row n g := by
  unfold wE
  split
  · rfl
  · split
    · rfl
    · split
      · rfl
      · rename_i h0
        have e0 := h 0 (by omega)
        unfold bbad
        rw [e0]
        have : anyB (fun i => decide ((f i).length ≠ (g 0).length)) n = anyB (fun i => decide ((g i).length ≠ (g 0).length)) n := by
          rw [Bool.eq_iff_iff, anyB_true, anyB_true]
          constructor
          · rintro ⟨i, hi, q⟩; exact ⟨i, hi, by rw [← h i hi]; exact q⟩
          · rintro ⟨i, hi, q⟩; exact ⟨i, hi, by rw [h i hi]; exact q⟩
        rw [this]
set_option maxHeartbeats 1000000 in
theorem unpack_short (t : List El) (w : World) (h : t.length < 5) :
    Calls Tryd.prog 23 #[st t] w fun e w' => e = .returned (.tuple #[.int .i64 0, .slice none 0 0, errV 2]) ∧ w' = w := by
  have hs := sb_size t
  have h' : ((sb t).size : Int) < 5 := by omega
  unfold st
  generalize sb t = s at *
  clear h hs
  go_enter Tryd.func23, Tryd.ntmps23
  go_wp2
  go_ret3
  exact ⟨rfl, rfl⟩
set_option maxHeartbeats 1000000 in
theorem unpack_length (t : List El) (w : World) (h5 : 5 ≤ t.length) (hl : t.length ≠ 5 + wmany t * wsize t) (hm : t.length ≤ 9223372036854775807) :
    Calls Tryd.prog 23 #[st t] w fun e w' => e = .returned (.tuple #[.int .i64 0, .slice none 0 0, errV 2]) ∧ Below w.heap.size w w' := by
  have hs := sb_size t
  have h5' : ¬ ((sb t).size : Int) < 5 := by omega
  have k0 : ∀ h : 0 < (sb t).size, ((sb t)[0]'h).toNat = wrow t := fun h => sb_at t 0 h
  have k1 : ∀ h : 1 < (sb t).size, ((sb t)[1]'h).toNat = wmany t := fun h => sb_at t 1 h
  have k2 : ∀ h : 2 < (sb t).size, ((sb t)[2]'h).toNat = wsize t := fun h => sb_at t 2 h
  have r0 : wrow t < 256 := (t.getD 0 0).isLt
  have r1 : wmany t < 256 := (t.getD 1 0).isLt
  have r2 : wsize t < 256 := (t.getD 2 0).isLt
  have i0 : 0 < (sb t).size := by omega
  have i1 : 1 < (sb t).size := by omega
  have i2 : 2 < (sb t).size := by omega
  have hp : wmany t * wsize t ≤ 255 * 255 := Nat.mul_le_mul (by omega) (by omega)
  have hpi : (wmany t : Int) * (wsize t : Int) = ((wmany t * wsize t : Nat) : Int) := by simp
  unfold st
  generalize sb t = s at *
  generalize wrow t = r at *
  generalize wmany t = c at *
  generalize wsize t = z at *
  generalize c * z = L at *
  have k0 := k0 i0
  have k1 := k1 i1
  have k2 := k2 i2
  have hne : ((s.size : Int) != 3 + (L : Int) + 2) = true := by rw [bne_iff_ne]; omega
  clear hl
  go_enter Tryd.func23, Tryd.ntmps23
  go_wp2
  go_quiet (fail)
  go_wp2
  go_ret3
  exact ⟨rfl, below_drewN (Below.refl _ _) _⟩
set_option maxHeartbeats 2000000 in
theorem unpack_long (t : List El) (w : World) (h5 : 5 ≤ t.length) (hl : t.length = 5 + wmany t * wsize t) :
    Calls Tryd.prog 23 #[st t] w fun e w' => ∃ u, e = .returned (.tuple #[.int .i64 ((cnt (wUE t) (wrow t) : Nat) : Int), u, errV (wUE t)]) ∧ OwT w.heap.size w' u (cnt (wUE t) (wmany t)) (wpt t) ∧ Below w.heap.size w w' := by
  have hs := sb_size t
  have h5' : ¬ ((sb t).size : Int) < 5 := by omega
  have k0 : ∀ h : 0 < (sb t).size, ((sb t)[0]'h).toNat = wrow t := fun h => sb_at t 0 h
  have k1 : ∀ h : 1 < (sb t).size, ((sb t)[1]'h).toNat = wmany t := fun h => sb_at t 1 h
  have k2 : ∀ h : 2 < (sb t).size, ((sb t)[2]'h).toNat = wsize t := fun h => sb_at t 2 h
  have r0 : wrow t < 256 := (t.getD 0 0).isLt
  have r1 : wmany t < 256 := (t.getD 1 0).isLt
  have r2 : wsize t < 256 := (t.getD 2 0).isLt
  have i0 : 0 < (sb t).size := by omega
  have i1 : 1 < (sb t).size := by omega
  have i2 : 2 < (sb t).size := by omega
  have hp : wmany t * wsize t ≤ 255 * 255 := Nat.mul_le_mul (by omega) (by omega)
  have hpi : (wmany t : Int) * (wsize t : Int) = ((wmany t * wsize t : Nat) : Int) := by simp
  have HC : Hid (∀ w1, Calls Tryd.prog 45 #[.string ((sb t).extract 3 ((sb t).size - 2)), .int .i64 (wmany t : Int), .int .i64 (wsize t : Int)] w1 fun e w' => ∃ u, e = .returned u ∧ OwT w1.heap.size w' u (wmany t) (wpt t) ∧ Below w1.heap.size w1 w') := fun w1 => by
    rw [sb_extract, hs]
    exact (cut_any (wmid t) (wmany t) (wsize t) w1 (wmid_len hl) (by omega) (by omega)).mono fun e w' ⟨u, h1, h2, h3⟩ => ⟨u, h1, h2.congr (fun i hi => wmid_cut hl hi), h3⟩
  have HP : Hid (∀ u w1, RdT w1 u (wmany t) (wpt t) → Calls Tryd.prog 21 #[.int .i64 (wrow t : Int), u] w1 fun e w' => e = .returned (.tuple #[.string (sb (wP (wrow t : Int) (wmany t) (wpt t))), errV (wE (wrow t : Int) (wmany t) (wpt t))]) ∧ Below w1.heap.size w1 w') := fun u w1 h => pack_any _ u _ _ w1 h
  have hss := sb_same (wP (wrow t : Int) (wmany t) (wpt t)) t
  clear h5'
  by_cases hu : WUn t
  · have e1 := wE_ok (wun_ok hu)
    have e2 : wP (wrow t : Int) (wmany t) (wpt t) = t := by rw [wP_of (wun_ok hu), wun_pack hu]
    rw [wUE_ok hu]
    rw [decide_eq_true e2] at hss
    rw [e1] at HP
    rw [show errV 0 = Value.nilIface from rfl] at HP
    rw [show cnt 0 (wrow t) = wrow t from rfl, show cnt 0 (wmany t) = wmany t from rfl]
    clear e2
    unfold st
    clear e1 hu
    generalize sb (wP (wrow t : Int) (wmany t) (wpt t)) = s2 at *
    generalize wpt t = pt at *
    generalize sb t = s at *
    generalize wrow t = r at *
    generalize wmany t = c at *
    generalize wsize t = z at *
    generalize c * z = L at *
    generalize t.length = l at *
    have k0 := k0 i0
    have k1 := k1 i1
    have k2 := k2 i2
    have hne : ((l : Int) != 3 + (L : Int) + 2) = false := by rw [bne_eq_false_iff_eq]; omega
    obtain ⟨e, he⟩ : ∃ e, e = l - 2 := ⟨_, rfl⟩
    rw [hs, ← he] at HC
    have hes : (l : Int) - 2 = (e : Int) := by omega
    have hel : 3 ≤ e := by omega
    have heu : e ≤ l := by omega
    have hlm : l ≤ 70000 := by omega
    have h5' : ¬ (l : Int) < 5 := by omega
    clear hl he h5
    go_enter Tryd.func23, Tryd.ntmps23
    go_wp2
    go_quiet (fail)
    have C := HC.out (w.drewN nq)
    clear HC k0 k1 k2
    go_wp2_with fail
    refine C.mono ?_
    rintro e0 w1 ⟨u, rfl, hO, hB1⟩
    have hB1 : Below w.heap.size w w1 := (below_drewN (Below.refl w.heap.size w) nq).trans hB1
    have P := HP.out u w1 hO.rd
    obtain ⟨ao, cap, rfl⟩ := OwT.len hO
    have HO : Hid (OwT w.heap.size w1 (.slice ao c cap) c pt) := hO
    have HB1 : Hid (Below w.heap.size w w1) := hB1
    clear C HP hO hB1
    go_wp2_with fail
    refine P.mono ?_
    rintro e0 w2 ⟨rfl, hB2⟩
    have HB2 : Hid (Below w.heap.size w w2) := HB1.out.trans (hB2.mono HB1.out.size)
    have HO2 : Hid (OwT w.heap.size w2 (.slice ao c cap) c pt) := ownsRow_old HO.out hB2
    clear P hB2 HO HB1
    go_wp2
    go_ret3
    exact ⟨_, rfl, HO2.out, HB2.out⟩
  · rw [wUE_bad hu]
    rw [show cnt 2 (wrow t) = 0 from rfl, show cnt 2 (wmany t) = 0 from rfl]
    by_cases e1 : wE (wrow t : Int) (wmany t) (wpt t) = 0
    · have e2 : wP (wrow t : Int) (wmany t) (wpt t) ≠ t := fun q => hu (wun_of e1 (by rw [wP_ok e1] at q; exact q))
      rw [decide_eq_false e2] at hss
      rw [e1] at HP
      rw [show errV 0 = Value.nilIface from rfl] at HP
      clear e2
      unfold st
      clear e1 hu
      generalize sb (wP (wrow t : Int) (wmany t) (wpt t)) = s2 at *
      generalize wpt t = pt at *
      generalize sb t = s at *
      generalize wrow t = r at *
      generalize wmany t = c at *
      generalize wsize t = z at *
      generalize c * z = L at *
      generalize t.length = l at *
      have k0 := k0 i0
      have k1 := k1 i1
      have k2 := k2 i2
      have hne : ((l : Int) != 3 + (L : Int) + 2) = false := by rw [bne_eq_false_iff_eq]; omega
      obtain ⟨e, he⟩ : ∃ e, e = l - 2 := ⟨_, rfl⟩
      rw [hs, ← he] at HC
      have hes : (l : Int) - 2 = (e : Int) := by omega
      have hel : 3 ≤ e := by omega
      have heu : e ≤ l := by omega
      have hlm : l ≤ 70000 := by omega
      have h5' : ¬ (l : Int) < 5 := by omega
      clear hl he h5
      go_enter Tryd.func23, Tryd.ntmps23
      go_wp2
      go_quiet (fail)
      have C := HC.out (w.drewN nq)
      clear HC k0 k1 k2
      go_wp2_with fail
      refine C.mono ?_
      rintro e0 w1 ⟨u, rfl, hO, hB1⟩
      have hB1 : Below w.heap.size w w1 := (below_drewN (Below.refl w.heap.size w) nq).trans hB1
      have P := HP.out u w1 hO.rd
      obtain ⟨ao, cap, rfl⟩ := OwT.len hO
      have HO : Hid (OwT w.heap.size w1 (.slice ao c cap) c pt) := hO
      have HB1 : Hid (Below w.heap.size w w1) := hB1
      clear C HP hO hB1
      go_wp2_with fail
      refine P.mono ?_
      rintro e0 w2 ⟨rfl, hB2⟩
      have HB2 : Hid (Below w.heap.size w w2) := HB1.out.trans (hB2.mono HB1.out.size)
      have HO2 : Hid (OwT w.heap.size w2 (.slice ao c cap) c pt) := ownsRow_old HO.out hB2
      clear P hB2 HO HB1
      go_wp2
      go_ret3
      exact ⟨_, rfl, World.ownsRow_nil _ _ _ _, HB2.out⟩
    · rw [errV_ne e1] at HP
      clear hss
      generalize wE (wrow t : Int) (wmany t) (wpt t) = q at *
      unfold st
      clear e1 hu
      generalize sb (wP (wrow t : Int) (wmany t) (wpt t)) = s2 at *
      generalize wpt t = pt at *
      generalize sb t = s at *
      generalize wrow t = r at *
      generalize wmany t = c at *
      generalize wsize t = z at *
      generalize c * z = L at *
      generalize t.length = l at *
      have k0 := k0 i0
      have k1 := k1 i1
      have k2 := k2 i2
      have hne : ((l : Int) != 3 + (L : Int) + 2) = false := by rw [bne_eq_false_iff_eq]; omega
      obtain ⟨e, he⟩ : ∃ e, e = l - 2 := ⟨_, rfl⟩
      rw [hs, ← he] at HC
      have hes : (l : Int) - 2 = (e : Int) := by omega
      have hel : 3 ≤ e := by omega
      have heu : e ≤ l := by omega
      have hlm : l ≤ 70000 := by omega
      have h5' : ¬ (l : Int) < 5 := by omega
      clear hl he h5
      go_enter Tryd.func23, Tryd.ntmps23
      go_wp2
      go_quiet (fail)
      have C := HC.out (w.drewN nq)
      clear HC k0 k1 k2
      go_wp2_with fail
      refine C.mono ?_
      rintro e0 w1 ⟨u, rfl, hO, hB1⟩
      have hB1 : Below w.heap.size w w1 := (below_drewN (Below.refl w.heap.size w) nq).trans hB1
      have P := HP.out u w1 hO.rd
      obtain ⟨ao, cap, rfl⟩ := OwT.len hO
      have HO : Hid (OwT w.heap.size w1 (.slice ao c cap) c pt) := hO
      have HB1 : Hid (Below w.heap.size w w1) := hB1
      clear C HP hO hB1
      go_wp2_with fail
      refine P.mono ?_
      rintro e0 w2 ⟨rfl, hB2⟩
      have HB2 : Hid (Below w.heap.size w w2) := HB1.out.trans (hB2.mono HB1.out.size)
      have HO2 : Hid (OwT w.heap.size w2 (.slice ao c cap) c pt) := ownsRow_old HO.out hB2
      clear P hB2 HO HB1
      go_wp2
      go_ret3
      exact ⟨_, rfl, World.ownsRow_nil _ _ _ _, HB2.out⟩
/-- Unpack, whatever it is given -/
theorem unpack_any (t : List El) (w : World) (hm : t.length ≤ 9223372036854775807) :
    Calls Tryd.prog 23 #[st t] w fun e w' => ∃ u, e = .returned (.tuple #[.int .i64 ((cnt (wUE t) (wrow t) : Nat) : Int), u, errV (wUE t)]) ∧ OwT w.heap.size w' u (cnt (wUE t) (wmany t)) (wpt t) ∧ Below w.heap.size w w' := by
  by_cases h5 : t.length < 5
  · have hu : ¬ WUn t := fun q => by have := q.len; omega
    rw [wUE_bad hu]
    exact (unpack_short t w h5).mono fun e w' ⟨h1, h2⟩ => ⟨_, h1, World.ownsRow_nil _ _ _ _, h2 ▸ Below.refl _ _⟩
  · by_cases hl : t.length = 5 + wmany t * wsize t
    · exact unpack_long t w (by omega) hl
    · have hu : ¬ WUn t := fun q => hl q.len
      rw [wUE_bad hu]
      exact (unpack_length t w (by omega) hl hm).mono fun e w' ⟨h1, h2⟩ => ⟨_, h1, World.ownsRow_nil _ _ _ _, h2⟩
end Go.Proofs.YtdbanimlnjhhlaaDoor
