/- The document's pool: where a number stands; what is done with a disk: walks over the document's own. -/
import Derived.Test.YtjfhjnccjodjbaaDoorPoB
import Derived.BigGuard
namespace Go.Proofs.YtjfhjnccjodjbaaDoor
open Go.RowKit
theorem find_ints {w : World} {ad : Addr} {n cap : Nat} {f : Nat → Int} (h : RdF w (.slice (some ad) n cap) n (fun i => vi (f i))) (hn : n ≤ 1000) (z : Int) :
    Calls Tryd.prog 24 #[.slice (some ad) n cap, .int .i64 z] w fun e w' => e = .returned (.int .i64 (fstI (fun i => decide (f i = z)) n)) ∧ w' = w := by
  have HC : Hid (∀ i, i < n → w.cell? (ad.add i) = some (.int .i64 (f i))) := fun i hi => by
    obtain ⟨ad', e, hc⟩ := h.at i hi
    obtain rfl := Option.some.inj e
    exact hc
  clear h
  go_enter Tryd.func24, Tryd.ntmps24
  go_wp2
  go_loop [5] (fun t => ∃ k : Nat, k ≤ n ∧ t = .int .i64 k ∧ Hid (∀ i, i < k → decide (f i = z) = false)) (fun t => n - (intOf t).toNat)
  case atStart => exact ⟨0, Nat.zero_le _, rfl, fun i hi => absurd hi (Nat.not_lt_zero _)⟩
  case round =>
    obtain ⟨k, hk, rfl, HF⟩ := hrel
    by_cases hlt : k < n
    · have hc := HC.out k hlt
      by_cases hb : f k = z
      · have HE : Hid (fstI (fun i => decide (f i = z)) n = (k : Int)) := fstI_at hlt (decide_eq_true hb) HF.out
        rw [hb] at hc
        clear hb
        go_wp2
        go_ret
        exact ⟨ret_int HE.out.symm, rfl⟩
      · have hb2 : (f k == z) = false := by rw [beq_eq_false_iff_ne]; exact hb
        have HG : Hid (∀ i, i < k + 1 → decide (f i = z) = false) := fun i hi => by
          by_cases e : i = k
          · rw [e]; exact decide_eq_false hb
          · exact HF.out i (by omega)
        clear HF
        generalize f k = y at *
        go_wp2
        go_round
        case rel => exact ⟨k + 1, by omega, by go_num, HG⟩
        case measure => simp [intOf]; omega
    · have HE : Hid (fstI (fun i => decide (f i = z)) n = -1) := fstI_none (fun i hi => HF.out i (by omega))
      go_wp2
      go_ret
      exact ⟨ret_int HE.out.symm, rfl⟩
variable {w : World} {x : PP} {t : Plo}
theorem up_up {α : Type} (f : Nat → α) (i : Nat) (x y : α) : up (up f i x) i y = up f i y := by
  funext k
  by_cases e : k = i
  · rw [e, up_at, up_at]
  · rw [up_ne _ _ e, up_ne _ _ e, up_ne _ _ e]
set_option maxRecDepth 100000 in
set_option maxHeartbeats 1000000 in
theorem ddo_fill (h : IsP 41 w x t) (ho : t.ok) (d : Int) :
    Calls Tryd.prog 8 #[.pointer (some ⟨x.p, 0, none⟩), .int .i64 1, .int .i64 d] w fun e w' => e = .returned (.tuple #[.int .i64 0, .int .i64 ((t.fillE d : Nat) : Int)]) ∧ IsP 41 w' x (t.fill d) ∧ But x.F w w' := by
  have HP : Hid (IsP 41 w x t) := h
  have e3 : True := trivial
  by_cases q : t.noD d
  · have e1 : t.fillE d = 1 := if_pos q
    have e2 : t.fill d = t := if_neg (by omega)
    rw [e1, e2]
    have c0 := h.c0
    by_cases q1 : d < 0
    · have d1 : decide (d < 0) = true := decide_eq_true q1
      clear h ho q e1 e2 e3
      generalize t.n = n at *
      go_enter Tryd.func8, Tryd.ntmps8
      go_wp2
      go_ret2
      exact ⟨rfl, HP.out, But.refl _ _⟩
    · have d1 : decide (d < 0) = false := decide_eq_false q1
      have q3 : (t.n : Int) ≤ d := by unfold Plo.noD at q; omega
      have d2 : decide ((t.n : Int) ≤ d) = true := decide_eq_true q3
      clear h ho q e1 e2 e3
      generalize t.n = n at *
      go_enter Tryd.func8, Tryd.ntmps8
      go_wp2
      go_ret2
      exact ⟨rfl, HP.out, But.refl _ _⟩
  · obtain ⟨m, rfl, hm⟩ := Plo.disk_nat q
    have c0 := h.c0
    have c1 := h.c1
    have cs := h.sAt hm
    have fs := h.sFree m
    have hn := ho.hn
    have hw := ho.hw
    have hmz : (m : Int) < (t.n : Int) := by omega
    have d1 : decide ((m : Int) < 0) = false := decide_eq_false (by omega)
    have d2 : decide ((t.n : Int) ≤ (m : Int)) = false := decide_eq_false (by omega)
    by_cases q2 : t.st m = 3
    · have e1 : t.fillE (m : Int) = 0 := by unfold Plo.fillE; rw [if_neg q, Int.toNat_natCast, if_pos q2]
      have e2 : t.fill (m : Int) = ⟨t.wk, t.n, up t.st m 0, t.sl⟩ := by unfold Plo.fill; rw [if_pos e1, Int.toNat_natCast]
      have HX : Hid (IsP 41 (w.setCell ⟨x.gs, m, none⟩ (.int .i64 0)) x ⟨t.wk, t.n, up t.st m 0, t.sl⟩ ∧ But x.F w (w.setCell ⟨x.gs, m, none⟩ (.int .i64 0))) := h.putS m 0
      rw [e1, e2]
      rw [q2] at cs
      clear h ho q e1 e2 e3 q2
      obtain ⟨n, hnn⟩ : ∃ n, n = t.n := ⟨_, rfl⟩
      rw [← hnn] at c0 hmz hn hm d2
      clear hnn
      go_enter Tryd.func8, Tryd.ntmps8
      go_wp2
      go_ret2
      exact ⟨rfl, HX.out⟩
    · have e1 : t.fillE (m : Int) = 6 := by unfold Plo.fillE; rw [if_neg q, Int.toNat_natCast, if_neg q2]
      have e2 : t.fill (m : Int) = t := if_neg (by omega)
      have q3 : (((t.st m : Nat) : Int) == 3) = false := by rw [beq_eq_false_iff_ne]; omega
      have q4 : (((t.st m : Nat) : Int) != 3) = true := by rw [bne, q3]; rfl
      rw [e1, e2]
      clear h ho q e1 e2 e3 q2
      generalize t.n = n at *
      generalize t.st m = y at *
      go_enter Tryd.func8, Tryd.ntmps8
      go_wp2
      go_ret2
      exact ⟨rfl, HP.out, But.refl _ _⟩
set_option maxRecDepth 100000 in
set_option maxHeartbeats 1000000 in
theorem ddo_new (h : IsP 41 w x t) (ho : t.ok) (d : Int) :
    Calls Tryd.prog 8 #[.pointer (some ⟨x.p, 0, none⟩), .int .i64 2, .int .i64 d] w fun e w' => e = .returned (.tuple #[.int .i64 (t.newN d), .int .i64 ((t.newE d : Nat) : Int)]) ∧ IsP 41 w' x (t.new d) ∧ But x.F w w' := by
  have HP : Hid (IsP 41 w x t) := h
  by_cases q : t.noD d
  · have e1 : t.newE d = 1 := if_pos q
    have e2 : t.new d = t := if_neg (by omega)
    have e3 : t.newN d = 0 := if_neg (by omega)
    rw [e1, e2, e3]
    have c0 := h.c0
    by_cases q1 : d < 0
    · have d1 : decide (d < 0) = true := decide_eq_true q1
      clear h ho q e1 e2 e3
      generalize t.n = n at *
      go_enter Tryd.func8, Tryd.ntmps8
      go_wp2
      go_ret2
      exact ⟨rfl, HP.out, But.refl _ _⟩
    · have d1 : decide (d < 0) = false := decide_eq_false q1
      have q3 : (t.n : Int) ≤ d := by unfold Plo.noD at q; omega
      have d2 : decide ((t.n : Int) ≤ d) = true := decide_eq_true q3
      clear h ho q e1 e2 e3
      generalize t.n = n at *
      go_enter Tryd.func8, Tryd.ntmps8
      go_wp2
      go_ret2
      exact ⟨rfl, HP.out, But.refl _ _⟩
  · obtain ⟨m, rfl, hm⟩ := Plo.disk_nat q
    have c0 := h.c0
    have c1 := h.c1
    have cs := h.sAt hm
    have fs := h.sFree m
    have hn := ho.hn
    have hw := ho.hw
    have hmz : (m : Int) < (t.n : Int) := by omega
    have d1 : decide ((m : Int) < 0) = false := decide_eq_false (by omega)
    have d2 : decide ((t.n : Int) ≤ (m : Int)) = false := decide_eq_false (by omega)
    by_cases q2 : t.st m = 2
    · have e1 : t.newE (m : Int) = 0 := by unfold Plo.newE; rw [if_neg q, Int.toNat_natCast, if_pos q2]
      have e3 : t.newN (m : Int) = t.slotOf (-1) := if_pos e1
      have D := find_ints (OwI.rd h.sl) (by omega) (-1)
      rw [q2] at cs
      have hS : IsP 41 (w.setCell ⟨x.gs, m, none⟩ (.int .i64 1)) x ⟨t.wk, t.n, up t.st m 1, t.sl⟩ ∧ But x.F w (w.setCell ⟨x.gs, m, none⟩ (.int .i64 1)) := h.putS m 1
      rcases Plo.slotOf_ways t (-1) with ⟨es, _⟩ | ⟨k, hk, es, _⟩
      · have e2 : t.new (m : Int) = ⟨t.wk, t.n, up t.st m 1, t.sl⟩ := by unfold Plo.new; rw [if_pos e1, if_neg (by omega), Int.toNat_natCast]
        have HX : Hid (IsP 41 (w.setCell ⟨x.gs, m, none⟩ (.int .i64 1)) x ⟨t.wk, t.n, up t.st m 1, t.sl⟩ ∧ But x.F w (w.setCell ⟨x.gs, m, none⟩ (.int .i64 1))) := hS
        rw [e1, e2, e3, es]
        have D2 : fstI (fun i => decide (t.sl i = -1)) t.wk = -1 := es
        rw [D2] at D
        clear h ho q e1 e2 e3 q2 es D2 hS
        obtain ⟨n, hnn⟩ : ∃ n, n = t.n := ⟨_, rfl⟩
        rw [← hnn] at c0 hmz hn hm d2
        obtain ⟨wk, hwk⟩ : ∃ wk, wk = t.wk := ⟨_, rfl⟩
        rw [← hwk] at c1 hw D
        clear hnn hwk
        go_enter Tryd.func8, Tryd.ntmps8
        go_wp2_with fail
        refine D.mono ?_
        rintro e w1 ⟨rfl, hw1⟩
        obtain rfl := hw1.symm
        clear D hw1
        go_wp2
        go_ret2
        exact ⟨rfl, HX.out⟩
      · have e2 : t.new (m : Int) = ⟨t.wk, t.n, up t.st m 3, up t.sl k (m : Int)⟩ := by
          unfold Plo.new Plo.into
          rw [if_pos e1, if_pos (by omega), es, if_pos (by omega), Int.toNat_natCast, Int.toNat_natCast]
        have hT : IsP 41 ((w.setCell ⟨x.gs, m, none⟩ (.int .i64 1)).setCell ⟨x.gs, m, none⟩ (.int .i64 3)) x ⟨t.wk, t.n, up (up t.st m 1) m 3, t.sl⟩ ∧ But x.F (w.setCell ⟨x.gs, m, none⟩ (.int .i64 1)) ((w.setCell ⟨x.gs, m, none⟩ (.int .i64 1)).setCell ⟨x.gs, m, none⟩ (.int .i64 3)) := hS.1.putS m 3
        have hU := hT.1.putL k (m : Int)
        have b0 := hS.1.c0
        have bs := hS.1.sAt (d := m) hm
        have bf := hS.1.sFree m
        have g1 := hT.1.c1
        have gl := hT.1.lAt (k := k) hk
        have gf := hT.1.lFree k
        have HX : Hid (IsP 41 (((w.setCell ⟨x.gs, m, none⟩ (.int .i64 1)).setCell ⟨x.gs, m, none⟩ (.int .i64 3)).setCell ⟨x.gl, k, none⟩ (.int .i64 (m : Int))) x ⟨t.wk, t.n, up t.st m 3, up t.sl k (m : Int)⟩ ∧ But x.F w (((w.setCell ⟨x.gs, m, none⟩ (.int .i64 1)).setCell ⟨x.gs, m, none⟩ (.int .i64 3)).setCell ⟨x.gl, k, none⟩ (.int .i64 (m : Int)))) := by
          refine ⟨?_, hS.2.then (hT.2.then hU.2)⟩
          have := hU.1
          dsimp only at this
          rw [up_up] at this
          exact this
        rw [e1, e2, e3, es]
        have D2 : fstI (fun i => decide (t.sl i = -1)) t.wk = (k : Int) := es
        rw [D2] at D
        have hkz : (k : Int) < (t.wk : Int) := by omega
        dsimp only at b0 bs g1 gl
        clear h ho q e1 e2 e3 q2 es D2 hS hT hU
        obtain ⟨n, hnn⟩ : ∃ n, n = t.n := ⟨_, rfl⟩
        rw [← hnn] at c0 hmz hn hm d2 b0
        obtain ⟨wk, hwk⟩ : ∃ wk, wk = t.wk := ⟨_, rfl⟩
        rw [← hwk] at c1 hw D g1 hkz
        clear hnn hwk
        generalize t.sl k = y at *
        generalize up t.st m 1 m = z at *
        go_enter Tryd.func8, Tryd.ntmps8
        go_wp2_with fail
        refine D.mono ?_
        rintro e w1 ⟨rfl, hw1⟩
        obtain rfl := hw1.symm
        clear D hw1
        go_wp2
        go_ret2
        exact ⟨rfl, HX.out⟩
    · have e1 : t.newE (m : Int) = 6 := by unfold Plo.newE; rw [if_neg q, Int.toNat_natCast, if_neg q2]
      have e2 : t.new (m : Int) = t := if_neg (by omega)
      have e3 : t.newN (m : Int) = 0 := if_neg (by omega)
      have q3 : (((t.st m : Nat) : Int) == 2) = false := by rw [beq_eq_false_iff_ne]; omega
      have q4 : (((t.st m : Nat) : Int) != 2) = true := by rw [bne, q3]; rfl
      rw [e1, e2, e3]
      clear h ho q e1 e2 e3 q2
      generalize t.n = n at *
      generalize t.st m = y at *
      go_enter Tryd.func8, Tryd.ntmps8
      go_wp2
      go_ret2
      exact ⟨rfl, HP.out, But.refl _ _⟩
set_option maxRecDepth 100000 in
set_option maxHeartbeats 1000000 in
theorem ddo_fail (h : IsP 41 w x t) (ho : t.ok) (d : Int) :
    Calls Tryd.prog 8 #[.pointer (some ⟨x.p, 0, none⟩), .int .i64 0, .int .i64 d] w fun e w' => e = .returned (.tuple #[.int .i64 (t.failN d), .int .i64 ((t.failE d : Nat) : Int)]) ∧ IsP 41 w' x (t.fail d) ∧ But x.F w w' := by
  have HP : Hid (IsP 41 w x t) := h
  by_cases q : t.noD d
  · have e1 : t.failE d = 1 := if_pos q
    have e2 : t.fail d = t := if_neg (by omega)
    have e3 : t.failN d = 0 := if_neg (by omega)
    rw [e1, e2, e3]
    have c0 := h.c0
    by_cases q1 : d < 0
    · have d1 : decide (d < 0) = true := decide_eq_true q1
      clear h ho q e1 e2 e3
      generalize t.n = n at *
      go_enter Tryd.func8, Tryd.ntmps8
      go_wp2
      go_ret2
      exact ⟨rfl, HP.out, But.refl _ _⟩
    · have d1 : decide (d < 0) = false := decide_eq_false q1
      have q3 : (t.n : Int) ≤ d := by unfold Plo.noD at q; omega
      have d2 : decide ((t.n : Int) ≤ d) = true := decide_eq_true q3
      clear h ho q e1 e2 e3
      generalize t.n = n at *
      go_enter Tryd.func8, Tryd.ntmps8
      go_wp2
      go_ret2
      exact ⟨rfl, HP.out, But.refl _ _⟩
  · obtain ⟨m, rfl, hm⟩ := Plo.disk_nat q
    have c0 := h.c0
    have c1 := h.c1
    have cs := h.sAt hm
    have fs := h.sFree m
    have hn := ho.hn
    have hw := ho.hw
    have hmz : (m : Int) < (t.n : Int) := by omega
    have d1 : decide ((m : Int) < 0) = false := decide_eq_false (by omega)
    have d2 : decide ((t.n : Int) ≤ (m : Int)) = false := decide_eq_false (by omega)
    by_cases q2 : t.st m = 2
    · have e1 : t.failE (m : Int) = 6 := by unfold Plo.failE; rw [if_neg q, Int.toNat_natCast, if_pos q2]
      have e2 : t.fail (m : Int) = t := if_neg (by omega)
      have e3 : t.failN (m : Int) = 0 := if_neg (by omega)
      rw [e1, e2, e3]
      rw [q2] at cs
      clear h ho q e1 e2 e3 q2
      generalize t.n = n at *
      go_enter Tryd.func8, Tryd.ntmps8
      go_wp2
      go_ret2
      exact ⟨rfl, HP.out, But.refl _ _⟩
    · have e1 : t.failE (m : Int) = 0 := by unfold Plo.failE; rw [if_neg q, Int.toNat_natCast, if_neg q2]
      have q3 : (((t.st m : Nat) : Int) == 2) = false := by rw [beq_eq_false_iff_ne]; omega
      have hS : IsP 41 (w.setCell ⟨x.gs, m, none⟩ (.int .i64 2)) x ⟨t.wk, t.n, up t.st m 2, t.sl⟩ ∧ But x.F w (w.setCell ⟨x.gs, m, none⟩ (.int .i64 2)) := h.putS m 2
      have HI2 : Hid (IsP 41 (w.setCell ⟨x.gs, m, none⟩ (.int .i64 2)) x (t.out m)) := hS.1
      have HB2 : Hid (But x.F w (w.setCell ⟨x.gs, m, none⟩ (.int .i64 2))) := hS.2
      have g1 : (w.setCell ⟨x.gs, m, none⟩ (.int .i64 2)).cell? ⟨x.p, 1, none⟩ = some (.slice (some ⟨x.gl, 0, none⟩) t.wk x.cl) := hS.1.c1
      have g0 : (w.setCell ⟨x.gs, m, none⟩ (.int .i64 2)).cell? ⟨x.p, 0, none⟩ = some (.slice (some ⟨x.gs, 0, none⟩) t.n x.cs) := hS.1.c0
      have D := find_ints (OwI.rd hS.1.sl) (show t.wk ≤ 1000 by omega) (m : Int)
      have E := find_ints (OwI.rd hS.1.st) (show t.n ≤ 1000 by omega) 1
      dsimp only at D E
      rcases Plo.slotOf_ways t (m : Int) with ⟨es, _⟩ | ⟨k, hk, es, _⟩
      · have e2 : t.fail (m : Int) = t.out m := by unfold Plo.fail; rw [if_pos e1, if_pos (by omega), Int.toNat_natCast]
        have e3 : t.failN (m : Int) = -1 := by unfold Plo.failN; rw [if_pos e1, if_pos (by omega)]
        rw [e1, e2, e3]
        have D2 : fstI (fun i => decide (t.sl i = (m : Int))) t.wk = -1 := es
        rw [D2] at D
        clear h ho q e1 e2 e3 q2 es D2 E hS
        obtain ⟨t2, ht2⟩ : ∃ t2, t2 = t.out m := ⟨_, rfl⟩
        rw [← ht2] at HI2 ⊢
        clear ht2
        generalize t.n = n at *
        generalize t.wk = wk at *
        generalize t.st m = y at *
        go_enter Tryd.func8, Tryd.ntmps8
        go_wp2_with fail
        refine D.mono ?_
        rintro e w1 ⟨rfl, hw1⟩
        obtain rfl := hw1.symm
        clear D hw1
        go_wp2
        go_ret2
        exact ⟨rfl, HI2.out, HB2.out⟩
      · have e2 : t.fail (m : Int) = (t.out m).into k (t.out m).spare := by unfold Plo.fail; rw [if_pos e1, if_neg (by omega), es, Int.toNat_natCast, Int.toNat_natCast]
        have e3 : t.failN (m : Int) = (t.out m).spare := by unfold Plo.failN; rw [if_pos e1, if_neg (by omega), Int.toNat_natCast]
        have D2 : fstI (fun i => decide (t.sl i = (m : Int))) t.wk = (k : Int) := es
        have E2 : fstI (fun i => decide (((up t.st m 2 i : Nat) : Int) = 1)) t.n = (t.out m).spare := by
          (show _ = fstI (fun d => decide (up t.st m 2 d = 1)) t.n)
          congr 1
          funext i
          exact decide_eq_decide.2 (by omega)
        rw [D2] at D
        rw [E2] at E
        have gl := hS.1.lAt (k := k) hk
        have gf := hS.1.lFree k
        have hkz : (k : Int) < (t.wk : Int) := by omega
        have d3 : decide ((k : Int) < 0) = false := decide_eq_false (by omega)
        dsimp only at gl
        rcases Plo.spare_ways (t.out m) with ⟨ea, _⟩ | ⟨j, hj, ea, _⟩
        · have HX : Hid (IsP 41 ((w.setCell ⟨x.gs, m, none⟩ (.int .i64 2)).setCell ⟨x.gl, k, none⟩ (.int .i64 (-1))) x ((t.out m).into k (-1)) ∧ But x.F w ((w.setCell ⟨x.gs, m, none⟩ (.int .i64 2)).setCell ⟨x.gl, k, none⟩ (.int .i64 (-1)))) := by
            have := hS.1.putL k (-1)
            unfold Plo.into
            rw [if_neg (by omega)]
            exact ⟨this.1, hS.2.then this.2⟩
          rw [e1, e2, e3, ea]
          rw [ea] at E
          clear h ho q e1 e2 e3 q2 es D2 E2 hS ea HI2 HB2
          obtain ⟨t2, ht2⟩ : ∃ t2, t2 = (t.out m).into k (-1) := ⟨_, rfl⟩
          rw [← ht2] at HX ⊢
          clear ht2
          generalize t.n = n at *
          generalize t.wk = wk at *
          generalize t.st m = y at *
          generalize t.sl k = z at *
          go_enter Tryd.func8, Tryd.ntmps8
          go_wp2_with fail
          refine D.mono ?_
          rintro e w1 ⟨rfl, hw1⟩
          obtain rfl := hw1.symm
          clear D hw1
          go_wp2_with fail
          refine E.mono ?_
          rintro e w1 ⟨rfl, hw1⟩
          obtain rfl := hw1.symm
          clear E hw1
          go_wp2
          go_ret2
          exact ⟨rfl, HX.out⟩
        · have hT := hS.1.putL k (j : Int)
          have hU := hT.1.putS j 3
          have hjn : j < t.n := hj
          have r0 := hT.1.c0
          have rs := hT.1.sAt (d := j) hjn
          have rf := hT.1.sFree j
          dsimp only at r0 rs
          have hjz : (j : Int) < (t.n : Int) := by omega
          have HX : Hid (IsP 41 (((w.setCell ⟨x.gs, m, none⟩ (.int .i64 2)).setCell ⟨x.gl, k, none⟩ (.int .i64 (j : Int))).setCell ⟨x.gs, j, none⟩ (.int .i64 3)) x ((t.out m).into k (j : Int)) ∧ But x.F w (((w.setCell ⟨x.gs, m, none⟩ (.int .i64 2)).setCell ⟨x.gl, k, none⟩ (.int .i64 (j : Int))).setCell ⟨x.gs, j, none⟩ (.int .i64 3))) := by
            unfold Plo.into
            rw [if_pos (by omega), Int.toNat_natCast]
            exact ⟨hU.1, hS.2.then (hT.2.then hU.2)⟩
          rw [e1, e2, e3, ea]
          rw [ea] at E
          clear h ho q e1 e2 e3 q2 es D2 E2 hS hT hU ea HI2 HB2 hj
          obtain ⟨t2, ht2⟩ : ∃ t2, t2 = (t.out m).into k (j : Int) := ⟨_, rfl⟩
          rw [← ht2] at HX ⊢
          clear ht2
          generalize t.n = n at *
          generalize t.wk = wk at *
          generalize up t.st m 2 j = y2 at *
          generalize t.st m = y at *
          generalize t.sl k = z at *
          go_enter Tryd.func8, Tryd.ntmps8
          go_wp2_with fail
          refine D.mono ?_
          rintro e w1 ⟨rfl, hw1⟩
          obtain rfl := hw1.symm
          clear D hw1
          go_wp2_with fail
          refine E.mono ?_
          rintro e w1 ⟨rfl, hw1⟩
          obtain rfl := hw1.symm
          clear E hw1
          go_wp2
          go_ret2
          exact ⟨rfl, HX.out⟩
end Go.Proofs.YtjfhjnccjodjbaaDoor
