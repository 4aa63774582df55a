/- Whether one of a region's cells is being written; a region is cleaned: walks over the program. -/
import Derived.Test.YtacfafbnimhibaaDoorItB
namespace Go.Proofs.YtacfafbnimhibaaDoor
open Go.RowKit Go.Maps
theorem last_quo {wide : Nat} (h : 1 ≤ wide) : (40 + wide - 1) / wide = 39 / wide + 1 := by
  rw [show 40 + wide - 1 = 39 + wide by omega, Nat.add_div_right _ (by omega)]
theorem iregions {w : World} {p b N : Nat} {t : Itn} (h : IsI w p b t N) :
    Calls Tryd.prog 31 #[.pointer (some ⟨p, 0, none⟩)] w fun e w' => e = .returned (.int .i64 ((t.last + 1 : Nat) : Int)) ∧ ∃ n, w' = w.drewN n := by
  have c0 := h.c0
  obtain ⟨h1, h2⟩ := h.ok
  have hz : ((t.wide : Int) == 0) = false := by simp; omega
  have E : (40 + (t.wide : Int) - 1) / (t.wide : Int) = ((t.last + 1 : Nat) : Int) := by
    unfold Itn.last
    rw [← last_quo h1, Int.natCast_ediv]
    congr 1
    omega
  have h3 : (t.wide : Int) ≤ 40 := by omega
  have h4 : (1 : Int) ≤ (t.wide : Int) := by omega
  have h5 : t.last ≤ 39 := Nat.div_le_self _ _
  have q1 : 0 ≤ (40 + (t.wide : Int) - 1) / (t.wide : Int) := by rw [E]; omega
  have q2 : (40 + (t.wide : Int) - 1) / (t.wide : Int) ≤ 40 := by rw [E]; omega
  have HE : Hid ((40 + (t.wide : Int) - 1) / (t.wide : Int) = ((t.last + 1 : Nat) : Int)) := E
  clear h E
  go_enter Tryd.func31, Tryd.ntmps31
  go_wp2_with fail
  go_quiet (fail)
  go_wp2
  go_ret
  exact ⟨ret_int HE.out, nq, rfl⟩
/-- what of a map is still to come: and of what has come none is in region r -/
def BzL (t : Itn) (r : Nat) (D : DataW Unit) (left : Lit → Bool) : Prop := (∀ kl, left kl = true → Maps.has D kl = true) ∧ ∀ k : Nat, k < 40 → 0 < t.many k → left (kI k) = false → t.reg k ≠ r
set_option maxRecDepth 100000 in
set_option maxHeartbeats 1000000 in
theorem iswritten {w : World} {p b N : Nat} {t : Itn} (h : IsI w p b t N) (r : Nat) :
    Calls Tryd.prog 32 #[.pointer (some ⟨p, 0, none⟩), .int .i64 (r : Int)] w fun e w' => e = .returned (.bool (t.busy r)) ∧ Below w.heap.size w w' := by
  obtain ⟨D, hD⟩ := h.mp
  have c1 := h.c1
  have HD : Hid (HasM w b 40 t.many N D) := hD
  have HI : Hid (IsI w p b t N) := h
  obtain ⟨h1, h2⟩ := h.ok
  have hz : ((t.wide : Int) == 0) = false := by simp; omega
  clear h hD
  go_enter Tryd.func32, Tryd.ntmps32
  go_wp2_with (first | (at_range; refine wpList_range_own _ rfl _ 65 rfl 3 3 lawI Tryd.underlying65 _ b N D rfl HD.out.own ?_; intro w0 hrg0 hg0 hs0))
  go_frame
  go_loopw [5] (fun _ wr => ∃ (left : Lit → Bool) (cnt : Nat), wr.ranges Tryd.prog 3 (plainElem Tryd.prog 3) b w.heap.size N D left cnt ∧ Below w.heap.size w wr ∧ BzL t r D left) (fun _ wr => wr.rangeLeft b w.heap.size)
  case atStart =>
    refine ⟨_, _, hrg0, below_of_grown hg0, fun kl h => h, fun k hk hm hf => ?_⟩
    rw [HD.out.has, decide_eq_false_iff_not] at hf
    omega
  case round =>
    obtain ⟨left, cnt, hrg, hB, hL⟩ := hrel
    clear hrg0 hg0 hs0
    have HL : Hid (BzL t r D left) := hL
    clear hL
    go_wp2_with (first | (at_next; refine wpList_next_ranges_ii _ rfl _ rfl 3 3 .i64 .i64 lawI Tryd.underlying3 Tryd.underlying3 b w.heap.size N _ _ _ rfl hrg ?_ ?_))
    · intro _ hl0
      have hbz : t.busy r = false := anyB_false.2 (fun k hk => by
        by_cases hm : 0 < t.many k
        · rw [decide_eq_false (HL.out.2 k hk hm (hl0 _))]; rfl
        · rw [decide_eq_false hm, Bool.and_false])
      have HZ : Hid (t.busy r = false) := hbz
      clear hbz hl0 hrg
      go_wp2
      go_ret
      exact ⟨by rw [HZ.out]; rfl, hB⟩
    · intro x c w1 cnt1 hwx hwc hlx hat hrg1 hlt hg1 hs1 hen
      obtain ⟨k, rfl, hk, hm⟩ := HD.out.key (HL.out.1 _ hlx)
      have hB1 : Below w.heap.size w w1 := hB.trans (below_of_grownAt hg1 hB.size (Nat.le_refl _))
      have c0 := (HI.out.old hB1).c0
      have hq : (k : Int) / (t.wide : Int) = ((t.reg k : Nat) : Int) := by unfold Itn.reg; omega
      have hkz : (k : Int) < 40 := by omega
      have hrk : t.reg k ≤ k := Nat.div_le_self _ _
      have hrz : ((t.reg k : Nat) : Int) < 40 := by omega
      have HR1 : Hid (w1.ranges Tryd.prog 3 (plainElem Tryd.prog 3) b w.heap.size N D (fun z => left z && !z.sameKey (kI k)) cnt1) := hrg1
      have HR0 : Hid (wr.ranges Tryd.prog 3 (plainElem Tryd.prog 3) b w.heap.size N D left cnt) := hrg
      have HB1 : Hid (Below w.heap.size w w1) := hB1
      clear hwx hwc hlx hat hrg1 hrg hg1 hs1 hB hB1
      by_cases e : t.reg k = r
      · have HZ : Hid (t.busy r = true) := anyB_true.2 ⟨k, hk, by rw [decide_eq_true e, decide_eq_true hm]; rfl⟩
        have hr40 : ((r : Nat) : Int) < 40 := by rw [← e]; omega
        rw [e] at hq
        clear e
        go_wp2
        go_ret
        exact ⟨by rw [HZ.out]; rfl, HB1.out⟩
      · have HN : Hid (BzL t r D (fun z => left z && !z.sameKey (kI k))) := by
          refine ⟨fun kl hkl => HL.out.1 kl (by simp at hkl; exact hkl.1), fun j hj hmj hf => ?_⟩
          by_cases ej : j = k
          · rw [ej]; exact e
          · refine HL.out.2 j hj hmj ?_
            have hf' : (left (kI j) && !(kI (j : Int)).sameKey (kI k)) = false := hf
            rw [Maps.sameKey_ne (kI_natne ej)] at hf'
            simpa using hf'
        have hne : (((t.reg k : Nat) : Int) == (r : Int)) = false := by simp; omega
        have hne2 : ¬ ((t.reg k : Nat) : Int) = (r : Int) := by omega
        clear e HL
        go_wp2
        go_roundw
        case rel => exact ⟨_, cnt1, HR1.out, HB1.out, HN.out⟩
        case measure => rw [HR1.out.left_eq, HR0.out.left_eq]; exact hlt
set_option maxRecDepth 100000 in
set_option maxHeartbeats 1000000 in
theorem iclean {w : World} {p b N : Nat} {t : Itn} (h : IsI w p b t N) (r : Int) :
    Calls Tryd.prog 12 #[.pointer (some ⟨p, 0, none⟩), .int .i64 r] w fun e w' => e = .returned (.tuple #[.bool (t.cleanB r), errV (t.cleanE r)]) ∧ IsI w' p b (t.clean r) N ∧ But (IF p b) w w' := by
  have HI : Hid (IsI w p b t N) := h
  have h39 : t.last ≤ 39 := Nat.div_le_self _ _
  by_cases hg : t.noG r
  · have e1 : t.cleanB r = false := if_pos hg
    have e2 : t.cleanE r = 1 := if_pos hg
    have e3 : t.clean r = t := by unfold Itn.clean; rw [e1, if_neg Bool.false_ne_true]
    rw [e1, e2, e3, errV, if_neg (by omega)]
    by_cases h0 : r < 0
    · clear e1 e2 e3 hg h
      go_enter Tryd.func12, Tryd.ntmps12
      go_wp2
      go_ret2
      exact ⟨rfl, HI.out, But.refl _ _⟩
    · have h1 : ((t.last + 1 : Nat) : Int) ≤ r := by unfold Itn.noG at hg; omega
      have R := iregions h
      generalize t.last + 1 = l at *
      clear e1 e2 e3 hg h
      go_enter Tryd.func12, Tryd.ntmps12
      go_wp2_with fail
      refine R.mono ?_
      rintro e w1 ⟨rfl, n, rfl⟩
      clear R
      go_wp2
      go_ret2
      exact ⟨rfl, HI.out.old (below_drewN (Below.refl _ _) n), (But.refl _ _).drewN n⟩
  · have h0 : 0 ≤ r := by unfold Itn.noG at hg; omega
    obtain ⟨k, rfl⟩ : ∃ k : Nat, r = k := ⟨r.toNat, by omega⟩
    have h1 : k ≤ t.last := by unfold Itn.noG at hg; omega
    have e1 : t.cleanB k = (t.dirty k && !t.busy k) := by unfold Itn.cleanB; rw [if_neg hg, Int.toNat_natCast]
    have e2 : t.cleanE k = 0 := if_neg hg
    rw [e2, errV, if_pos rfl]
    have R := iregions h
    have h2 : ¬ ((t.last + 1 : Nat) : Int) ≤ (k : Int) := by omega
    have hk40 : k < 40 := by omega
    have hk40' : (k : Int) < 40 := by omega
    have c2 := fun n : Nat => (h.old (below_drewN (Below.refl _ w) n)).c2 k hk40
    have W := fun n : Nat => iswritten (h.old (below_drewN (Below.refl _ w) n)) k
    generalize t.last + 1 = l at *
    clear h h0 h1 hg e2 h39
    cases hd : t.dirty k with
    | false =>
      have e3 : t.cleanB k = false := by rw [e1, hd]; rfl
      have e4 : t.clean k = t := by unfold Itn.clean; rw [e3, if_neg Bool.false_ne_true]
      rw [e3, e4]
      rw [hd] at c2
      clear e1 e3 e4 hd W
      go_enter Tryd.func12, Tryd.ntmps12
      go_wp2_with fail
      refine R.mono ?_
      rintro e w1 ⟨rfl, n, rfl⟩
      have c2' := c2 n
      clear R c2
      have HF : Hid (IsI (w.drewN n) p b t N ∧ But (IF p b) w (w.drewN n)) := ⟨HI.out.old (below_drewN (Below.refl _ _) n), (But.refl _ _).drewN n⟩
      generalize w.drewN n = wn at *
      go_wp2
      go_ret2
      exact ⟨rfl, HF.out⟩
    | true =>
      rw [hd] at c2
      cases hb : t.busy k with
      | true =>
        have e3 : t.cleanB k = false := by rw [e1, hd, hb]; rfl
        have e4 : t.clean k = t := by unfold Itn.clean; rw [e3, if_neg Bool.false_ne_true]
        rw [e3, e4]
        rw [hb] at W
        clear e1 e3 e4 hd hb
        go_enter Tryd.func12, Tryd.ntmps12
        go_wp2_with fail
        refine R.mono ?_
        rintro e w1 ⟨rfl, n, rfl⟩
        have c2' := c2 n
        have W' := W n
        clear R c2 W
        have HF : Hid (IsI (w.drewN n) p b t N ∧ But (IF p b) w (w.drewN n)) := ⟨HI.out.old (below_drewN (Below.refl _ _) n), (But.refl _ _).drewN n⟩
        generalize w.drewN n = wn at *
        go_wp2_with fail
        refine W'.mono ?_
        rintro e w2 ⟨rfl, hB⟩
        have HB : Hid (IsI w2 p b t N ∧ But (IF p b) w w2) := ⟨HF.out.1.old hB, HF.out.2.trans (Below.but hB _) (Grows.refl _ _)⟩
        clear W' hB
        go_wp2
        go_ret2
        exact ⟨rfl, HB.out⟩
      | false =>
        have e3 : t.cleanB k = true := by rw [e1, hd, hb]; rfl
        have e4 : t.clean k = ⟨t.wide, t.many, up t.dirty k false⟩ := by unfold Itn.clean; rw [if_pos e3, Int.toNat_natCast]
        rw [e3, e4]
        rw [hb] at W
        clear e1 e3 e4 hd hb
        go_enter Tryd.func12, Tryd.ntmps12
        go_wp2_with fail
        refine R.mono ?_
        rintro e w1 ⟨rfl, n, rfl⟩
        have c2' := c2 n
        have W' := W n
        clear R c2 W
        have HF : Hid (IsI (w.drewN n) p b t N ∧ But (IF p b) w (w.drewN n)) := ⟨HI.out.old (below_drewN (Below.refl _ _) n), (But.refl _ _).drewN n⟩
        generalize w.drewN n = wn at *
        go_wp2_with fail
        refine W'.mono ?_
        rintro e w2 ⟨rfl, hB⟩
        have I2 := HF.out.1.old hB
        have f2 := I2.frozen (2 + k)
        have d2 := I2.cell (2 + k)
        rw [Itn.cell_dirty t b k hk40] at d2
        have P2 := I2.put k false
        have HB : Hid (IsI (w2.setCell ⟨p, 2 + k, none⟩ (.bool false)) p b ⟨t.wide, t.many, up t.dirty k false⟩ N ∧ But (IF p b) w (w2.setCell ⟨p, 2 + k, none⟩ (.bool false))) := ⟨P2.1, (HF.out.2.trans (Below.but hB _) (Grows.refl _ _)).trans P2.2 (Grows.refl _ _)⟩
        clear W' hB I2 P2 HF
        generalize t.dirty k = dk at *
        go_wp2
        go_ret2
        exact ⟨rfl, HB.out⟩
end Go.Proofs.YtacfafbnimhibaaDoor
