/- A disk fails, is filled, is fresh; states and slots: walks over the program. -/
import Derived.Test.YticgapgggoklfaaPoC
import Derived.Test.YticgapgggoklfaaCloI
namespace Go.Proofs.Yticgapgggoklfaa
open Go.RowKit
variable {w : World} {x : PP} {t : Plo}
set_option maxRecDepth 100000 in
theorem pstates (h : IsP 56 w x t) (ho : t.ok) :
    Calls Try.prog 12 #[.pointer (some ⟨x.p, 0, none⟩)] w fun e w' => ∃ v, e = .returned v ∧ OwI w.heap.size w' v t.n (fun d => ((t.st d : Nat) : Int)) ∧ Below w.heap.size w w' := by
  have c0 := h.c0
  have hn := ho.hn
  have C := clone_ints (OwI.rd h.st) (by omega)
  clear h ho
  generalize t.n = n at *
  go_enter Try.func12, Try.ntmps12
  go_wp2_with fail
  refine C.mono ?_
  rintro e w1 ⟨v, rfl, hO, hB⟩
  have HO : Hid (OwI w.heap.size w1 v n (fun d => ((t.st d : Nat) : Int))) := hO
  have HB : Hid (Below w.heap.size w w1) := hB
  clear C hO hB
  go_wp2
  go_ret
  exact ⟨_, rfl, HO.out, HB.out⟩
set_option maxRecDepth 100000 in
theorem pslots (h : IsP 56 w x t) (ho : t.ok) :
    Calls Try.prog 9 #[.pointer (some ⟨x.p, 0, none⟩)] w fun e w' => ∃ v, e = .returned v ∧ OwI w.heap.size w' v t.wk t.sl ∧ Below w.heap.size w w' := by
  have c1 := h.c1
  have hw := ho.hw
  have C := clone_ints (OwI.rd h.sl) (by omega)
  clear h ho
  generalize t.wk = n at *
  go_enter Try.func9, Try.ntmps9
  go_wp2_with fail
  refine C.mono ?_
  rintro e w1 ⟨v, rfl, hO, hB⟩
  have HO : Hid (OwI w.heap.size w1 v n t.sl) := hO
  have HB : Hid (Below w.heap.size w w1) := hB
  clear C hO hB
  go_wp2
  go_ret
  exact ⟨_, rfl, HO.out, HB.out⟩
set_option maxRecDepth 100000 in
set_option maxHeartbeats 1000000 in
theorem pfill (h : IsP 56 w x t) (ho : t.ok) (d : Int) :
    Calls Try.prog 10 #[.pointer (some ⟨x.p, 0, none⟩), .int .i64 d] w fun e w' => e = .returned (errV (t.fillE d)) ∧ IsP 56 w' x (t.fill d) ∧ But x.F w w' := by
  have HP : Hid (IsP 56 w x t) := h
  by_cases q : t.noD d
  · have e1 : t.fillE d = 1 := if_pos q
    have e2 : t.fill d = t := if_neg (by omega)
    have C := pisdisk_no h ho q
    rw [e1, e2, errV, if_neg (by omega)]
    clear h ho q e1 e2
    go_enter Try.func10, Try.ntmps10
    go_wp2_with fail
    refine C.mono ?_
    rintro e w1 ⟨rfl, hw⟩
    obtain rfl := hw.symm
    clear C hw
    go_wp2
    go_ret
    exact ⟨rfl, HP.out, But.refl _ _⟩
  · obtain ⟨m, rfl, hm⟩ := Plo.disk_nat q
    have C := pisdisk_ok h ho hm
    have c0 := h.c0
    have cs := h.sAt hm
    have fs := h.sFree m
    have hn := ho.hn
    have hmz : (m : Int) < (t.n : Int) := by omega
    by_cases q2 : t.st m = 3
    · have e1 : t.fillE (m : Int) = 0 := by unfold Plo.fillE; rw [if_neg q, Int.toNat_natCast, if_pos q2]
      have e2 : t.fill (m : Int) = ⟨t.wk, t.n, up t.st m 0, t.sl⟩ := by unfold Plo.fill; rw [if_pos e1, Int.toNat_natCast]
      have HX : Hid (IsP 56 (w.setCell ⟨x.gs, m, none⟩ (.int .i64 0)) x ⟨t.wk, t.n, up t.st m 0, t.sl⟩ ∧ But x.F w (w.setCell ⟨x.gs, m, none⟩ (.int .i64 0))) := h.putS m 0
      rw [e1, e2, errV, if_pos rfl]
      rw [q2] at cs
      clear h ho q e1 e2 q2
      obtain ⟨n, hnn⟩ : ∃ n, n = t.n := ⟨_, rfl⟩
      rw [← hnn] at c0 hmz hn hm
      clear hnn
      go_enter Try.func10, Try.ntmps10
      go_wp2_with fail
      refine C.mono ?_
      rintro e w1 ⟨rfl, hw⟩
      obtain rfl := hw.symm
      clear C hw
      go_wp2
      go_ret
      exact ⟨rfl, HX.out⟩
    · have e1 : t.fillE (m : Int) = 6 := by unfold Plo.fillE; rw [if_neg q, Int.toNat_natCast, if_neg q2]
      have e2 : t.fill (m : Int) = t := if_neg (by omega)
      have q3 : (((t.st m : Nat) : Int) == 3) = false := by rw [beq_eq_false_iff_ne]; omega
      have q4 : (((t.st m : Nat) : Int) != 3) = true := by rw [bne, q3]; rfl
      rw [e1, e2, errV, if_neg (by omega)]
      clear h ho q e1 e2 q2
      generalize t.n = n at *
      generalize t.st m = y at *
      go_enter Try.func10, Try.ntmps10
      go_wp2_with fail
      refine C.mono ?_
      rintro e w1 ⟨rfl, hw⟩
      obtain rfl := hw.symm
      clear C hw
      go_wp2
      go_ret
      exact ⟨rfl, HP.out, But.refl _ _⟩
set_option maxRecDepth 100000 in
set_option maxHeartbeats 1000000 in
theorem pfresh (h : IsP 56 w x t) (ho : t.ok) (d : Int) :
    Calls Try.prog 11 #[.pointer (some ⟨x.p, 0, none⟩), .int .i64 d] w fun e w' => e = .returned (.tuple #[.int .i64 (t.newN d), errV (t.newE d)]) ∧ IsP 56 w' x (t.new d) ∧ But x.F w w' := by
  have HP : Hid (IsP 56 w x t) := h
  by_cases q : t.noD d
  · have e1 : t.newE d = 1 := if_pos q
    have e2 : t.new d = t := if_neg (by omega)
    have e3 : t.newN d = 0 := if_neg (by omega)
    have C := pisdisk_no h ho q
    rw [e1, e2, e3, errV, if_neg (by omega)]
    clear h ho q e1 e2 e3
    go_enter Try.func11, Try.ntmps11
    go_wp2_with fail
    refine C.mono ?_
    rintro e w1 ⟨rfl, hw⟩
    obtain rfl := hw.symm
    clear C hw
    go_wp2
    go_ret2
    exact ⟨rfl, HP.out, But.refl _ _⟩
  · obtain ⟨m, rfl, hm⟩ := Plo.disk_nat q
    have C := pisdisk_ok h ho hm
    have c0 := h.c0
    have c1 := h.c1
    have cs := h.sAt hm
    have fs := h.sFree m
    have hn := ho.hn
    have hw := ho.hw
    have hmz : (m : Int) < (t.n : Int) := by omega
    by_cases q2 : t.st m = 2
    · have e1 : t.newE (m : Int) = 0 := by unfold Plo.newE; rw [if_neg q, Int.toNat_natCast, if_pos q2]
      have e3 : t.newN (m : Int) = t.slotOf (-1) := if_pos e1
      have D := index_ints (OwI.rd h.sl) (by omega) (-1)
      rw [q2] at cs
      rcases Plo.slotOf_ways t (-1) with ⟨es, _⟩ | ⟨k, hk, es, _⟩
      · have e2 : t.new (m : Int) = ⟨t.wk, t.n, up t.st m 1, t.sl⟩ := by unfold Plo.new; rw [if_pos e1, if_neg (by omega), Int.toNat_natCast]
        have HX : Hid (IsP 56 (w.setCell ⟨x.gs, m, none⟩ (.int .i64 1)) x ⟨t.wk, t.n, up t.st m 1, t.sl⟩ ∧ But x.F w (w.setCell ⟨x.gs, m, none⟩ (.int .i64 1))) := h.putS m 1
        rw [e1, e2, e3, es, errV, if_pos rfl]
        have D2 : fstI (fun i => decide (t.sl i = -1)) t.wk = -1 := es
        rw [D2] at D
        clear h ho q e1 e2 e3 q2 es D2
        obtain ⟨n, hnn⟩ : ∃ n, n = t.n := ⟨_, rfl⟩
        rw [← hnn] at c0 hmz hn hm
        obtain ⟨wk, hwk⟩ : ∃ wk, wk = t.wk := ⟨_, rfl⟩
        rw [← hwk] at c1 hw D
        clear hnn hwk
        go_enter Try.func11, Try.ntmps11
        go_wp2_with fail
        refine C.mono ?_
        rintro e w1 ⟨rfl, hw⟩
        obtain rfl := hw.symm
        clear C hw
        go_wp2_with fail
        refine D.mono ?_
        rintro e w1 ⟨rfl, hw1⟩
        obtain rfl := hw1.symm
        clear D hw1
        go_wp2
        go_ret2
        exact ⟨rfl, HX.out⟩
      · have e2 : t.new (m : Int) = t.into k (m : Int) := by unfold Plo.new; rw [if_pos e1, if_pos (by omega), es, Int.toNat_natCast]
        have P := pput h hk (m : Int) (.inr ⟨m, rfl, hm⟩)
        rw [e1, e2, e3, es, errV, if_pos rfl]
        have D2 : fstI (fun i => decide (t.sl i = -1)) t.wk = (k : Int) := es
        rw [D2] at D
        have hne : ((k : Int) == -1) = false := by rw [beq_eq_false_iff_ne]; omega
        clear h ho q e1 e2 e3 q2 es D2
        obtain ⟨t2, ht2⟩ : ∃ t2, t2 = t.into k (m : Int) := ⟨_, rfl⟩
        rw [← ht2] at P ⊢
        clear ht2
        generalize t.n = n at *
        generalize t.wk = wk at *
        go_enter Try.func11, Try.ntmps11
        go_wp2_with fail
        refine C.mono ?_
        rintro e w1 ⟨rfl, hw⟩
        obtain rfl := hw.symm
        clear C hw
        go_wp2_with fail
        refine D.mono ?_
        rintro e w1 ⟨rfl, hw1⟩
        obtain rfl := hw1.symm
        clear D hw1
        go_wp2_with fail
        refine P.mono ?_
        rintro e w1 ⟨rfl, hI1, hb1⟩
        have HI1 : Hid (IsP 56 w1 x t2) := hI1
        have HB1 : Hid (But x.F w w1) := hb1
        clear P hI1 hb1
        go_wp2
        go_ret2
        exact ⟨rfl, HI1.out, HB1.out⟩
    · have e1 : t.newE (m : Int) = 6 := by unfold Plo.newE; rw [if_neg q, Int.toNat_natCast, if_neg q2]
      have e2 : t.new (m : Int) = t := if_neg (by omega)
      have e3 : t.newN (m : Int) = 0 := if_neg (by omega)
      have q3 : (((t.st m : Nat) : Int) == 2) = false := by rw [beq_eq_false_iff_ne]; omega
      have q4 : (((t.st m : Nat) : Int) != 2) = true := by rw [bne, q3]; rfl
      rw [e1, e2, e3, errV, if_neg (by omega)]
      clear h ho q e1 e2 e3 q2
      generalize t.n = n at *
      generalize t.st m = y at *
      go_enter Try.func11, Try.ntmps11
      go_wp2_with fail
      refine C.mono ?_
      rintro e w1 ⟨rfl, hw⟩
      obtain rfl := hw.symm
      clear C hw
      go_wp2
      go_ret2
      exact ⟨rfl, HP.out, But.refl _ _⟩
set_option maxRecDepth 100000 in
set_option maxHeartbeats 1000000 in
theorem pfail (h : IsP 56 w x t) (ho : t.ok) (d : Int) :
    Calls Try.prog 8 #[.pointer (some ⟨x.p, 0, none⟩), .int .i64 d] w fun e w' => e = .returned (.tuple #[.int .i64 (t.failN d), errV (t.failE d)]) ∧ IsP 56 w' x (t.fail d) ∧ But x.F w w' := by
  have HP : Hid (IsP 56 w x t) := h
  by_cases q : t.noD d
  · have e1 : t.failE d = 1 := if_pos q
    have e2 : t.fail d = t := if_neg (by omega)
    have e3 : t.failN d = 0 := if_neg (by omega)
    have C := pisdisk_no h ho q
    rw [e1, e2, e3, errV, if_neg (by omega)]
    clear h ho q e1 e2 e3
    go_enter Try.func8, Try.ntmps8
    go_wp2_with fail
    refine C.mono ?_
    rintro e w1 ⟨rfl, hw⟩
    obtain rfl := hw.symm
    clear C hw
    go_wp2
    go_ret2
    exact ⟨rfl, HP.out, But.refl _ _⟩
  · obtain ⟨m, rfl, hm⟩ := Plo.disk_nat q
    have C := pisdisk_ok h ho hm
    have c0 := h.c0
    have cs := h.sAt hm
    have fs := h.sFree m
    have hn := ho.hn
    have hw := ho.hw
    have hmz : (m : Int) < (t.n : Int) := by omega
    by_cases q2 : t.st m = 2
    · have e1 : t.failE (m : Int) = 6 := by unfold Plo.failE; rw [if_neg q, Int.toNat_natCast, if_pos q2]
      have e2 : t.fail (m : Int) = t := if_neg (by omega)
      have e3 : t.failN (m : Int) = 0 := if_neg (by omega)
      rw [e1, e2, e3, errV, if_neg (by omega)]
      rw [q2] at cs
      clear h ho q e1 e2 e3 q2
      generalize t.n = n at *
      go_enter Try.func8, Try.ntmps8
      go_wp2_with fail
      refine C.mono ?_
      rintro e w1 ⟨rfl, hw⟩
      obtain rfl := hw.symm
      clear C hw
      go_wp2
      go_ret2
      exact ⟨rfl, HP.out, But.refl _ _⟩
    · have e1 : t.failE (m : Int) = 0 := by unfold Plo.failE; rw [if_neg q, Int.toNat_natCast, if_neg q2]
      have q3 : (((t.st m : Nat) : Int) == 2) = false := by rw [beq_eq_false_iff_ne]; omega
      have hS := h.putS m 2
      have HI2 : Hid (IsP 56 (w.setCell ⟨x.gs, m, none⟩ (.int .i64 2)) x (t.out m)) := hS.1
      have HB2 : Hid (But x.F w (w.setCell ⟨x.gs, m, none⟩ (.int .i64 2))) := hS.2
      have d1 : (w.setCell ⟨x.gs, m, none⟩ (.int .i64 2)).cell? ⟨x.p, 1, none⟩ = some (.slice (some ⟨x.gl, 0, none⟩) t.wk x.cl) := hS.1.c1
      have d0 : (w.setCell ⟨x.gs, m, none⟩ (.int .i64 2)).cell? ⟨x.p, 0, none⟩ = some (.slice (some ⟨x.gs, 0, none⟩) t.n x.cs) := hS.1.c0
      have D := index_ints (OwI.rd hS.1.sl) (show t.wk ≤ 1000 by omega) (m : Int)
      have E := index_ints (OwI.rd hS.1.st) (show t.n ≤ 1000 by omega) 1
      dsimp only at D E
      rcases Plo.slotOf_ways t (m : Int) with ⟨es, _⟩ | ⟨k, hk, es, _⟩
      · have e2 : t.fail (m : Int) = t.out m := by unfold Plo.fail; rw [if_pos e1, if_pos (by omega), Int.toNat_natCast]
        have e3 : t.failN (m : Int) = -1 := by unfold Plo.failN; rw [if_pos e1, if_pos (by omega)]
        rw [e1, e2, e3, errV, if_pos rfl]
        have D2 : fstI (fun i => decide (t.sl i = (m : Int))) t.wk = -1 := es
        rw [D2] at D
        clear h ho q e1 e2 e3 q2 es D2 E hS
        obtain ⟨t2, ht2⟩ : ∃ t2, t2 = t.out m := ⟨_, rfl⟩
        rw [← ht2] at HI2 ⊢
        clear ht2
        generalize t.n = n at *
        generalize t.wk = wk at *
        generalize t.st m = y at *
        go_enter Try.func8, Try.ntmps8
        go_wp2_with fail
        refine C.mono ?_
        rintro e w1 ⟨rfl, hw⟩
        obtain rfl := hw.symm
        clear C hw
        go_wp2_with fail
        refine D.mono ?_
        rintro e w1 ⟨rfl, hw1⟩
        obtain rfl := hw1.symm
        clear D hw1
        go_wp2
        go_ret2
        exact ⟨rfl, HI2.out, HB2.out⟩
      · have e2 : t.fail (m : Int) = (t.out m).into k (t.out m).spare := by unfold Plo.fail; rw [if_pos e1, if_neg (by omega), es, Int.toNat_natCast, Int.toNat_natCast]
        have e3 : t.failN (m : Int) = (t.out m).spare := by unfold Plo.failN; rw [if_pos e1, if_neg (by omega), Int.toNat_natCast]
        have D2 : fstI (fun i => decide (t.sl i = (m : Int))) t.wk = (k : Int) := es
        have E2 : fstI (fun i => decide (((up t.st m 2 i : Nat) : Int) = 1)) t.n = (t.out m).spare := by
          (show _ = fstI (fun d => decide (up t.st m 2 d = 1)) t.n)
          congr 1
          funext i
          exact decide_eq_decide.2 (by omega)
        rw [D2] at D
        rw [E2] at E
        have hsp : (t.out m).spare = -1 ∨ ∃ j : Nat, (t.out m).spare = (j : Int) ∧ j < (t.out m).n := by
          rcases Plo.spare_ways (t.out m) with ⟨a, _⟩ | ⟨j, hj, a, _⟩
          · exact .inl a
          · exact .inr ⟨j, a, hj⟩
        have P := pput hS.1 hk (t.out m).spare hsp
        rw [e1, e2, e3, errV, if_pos rfl]
        have hne : ((k : Int) == -1) = false := by rw [beq_eq_false_iff_ne]; omega
        clear h ho q e1 e2 e3 q2 es D2 E2 hS hsp
        obtain ⟨t2, ht2⟩ : ∃ t2, t2 = (t.out m).into k (t.out m).spare := ⟨_, rfl⟩
        have P2 := P
        rw [show Plo.into ⟨t.wk, t.n, up t.st m 2, t.sl⟩ k (t.out m).spare = t2 from ht2.symm] at P2
        rw [← ht2]
        clear ht2 P
        generalize (t.out m).spare = s at *
        generalize t.n = n at *
        generalize t.wk = wk at *
        generalize t.st m = y at *
        go_enter Try.func8, Try.ntmps8
        go_wp2_with fail
        refine C.mono ?_
        rintro e w1 ⟨rfl, hw⟩
        obtain rfl := hw.symm
        clear C hw
        go_wp2_with fail
        refine D.mono ?_
        rintro e w1 ⟨rfl, hw1⟩
        obtain rfl := hw1.symm
        clear D hw1
        go_wp2_with fail
        refine E.mono ?_
        rintro e w1 ⟨rfl, hw1⟩
        obtain rfl := hw1.symm
        clear E hw1
        go_wp2_with fail
        refine P2.mono ?_
        rintro e w1 ⟨rfl, hI1, hb1⟩
        have HI1 : Hid (IsP 56 w1 x t2) := hI1
        have HB1 : Hid (But x.F w w1) := HB2.out.then hb1
        clear P2 hI1 hb1
        go_wp2
        go_ret2
        exact ⟨rfl, HI1.out, HB1.out⟩
end Go.Proofs.Yticgapgggoklfaa
