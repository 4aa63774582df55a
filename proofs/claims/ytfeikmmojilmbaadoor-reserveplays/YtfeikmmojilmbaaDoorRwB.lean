/- The document's reserve: a host is registered, leaves, holds, frees: walks over the program. -/
import Derived.Test.YtfeikmmojilmbaaDoorRwA
namespace Go.Proofs.YtfeikmmojilmbaaDoor
open Go.RowKit
variable {w : World} {g : Nat} {t : Rsv}
set_option maxRecDepth 100000 in
set_option maxHeartbeats 1000000 in
theorem dreg (hI : IsW w g t) (h k : Int) :
    Calls Tryd.prog 24 #[.pointer (some ⟨g, 0, none⟩), .int .i64 h, .int .i64 k] w fun e w' => e = .returned (.int .i64 ((Rsv.regE h k : Nat) : Int)) ∧ IsW w' g (t.reg h k) ∧ But (· = g) w w' := by
  have HI : Hid (IsW w g t) := hI
  by_cases q : Rsv.noH h ∨ Rsv.noK k
  · have e1 : Rsv.regE h k = 1 := if_pos q
    have e2 : t.reg h k = t := if_pos q
    rw [e1, e2]
    by_cases q1 : Rsv.noH h
    · have C := dhost_no q1 w
      have C2 := dkey k w
      generalize (!decide (Rsv.noK k)) = bk at *
      clear q q1 e1 e2 hI
      go_enter Tryd.func24, Tryd.ntmps24
      go_wp2_with fail
      refine C.mono ?_
      rintro e w1 ⟨rfl, hw⟩
      obtain rfl := hw.symm
      clear C hw
      go_wp2_with fail
      refine C2.mono ?_
      rintro e w1 ⟨rfl, hw⟩
      obtain rfl := hw.symm
      clear C2 hw
      go_wp2
      go_ret
      exact ⟨rfl, HI.out, But.refl _ _⟩
    · have C := dhost_ok q1 w
      have C2 := dkey_no (q.resolve_left q1) w
      clear q q1 e1 e2 hI
      go_enter Tryd.func24, Tryd.ntmps24
      go_wp2_with fail
      refine C.mono ?_
      rintro e w1 ⟨rfl, hw⟩
      obtain rfl := hw.symm
      clear C hw
      go_wp2_with fail
      refine C2.mono ?_
      rintro e w1 ⟨rfl, hw⟩
      obtain rfl := hw.symm
      clear C2 hw
      go_wp2
      go_ret
      exact ⟨rfl, HI.out, But.refl _ _⟩
  · have e1 : Rsv.regE h k = 0 := if_neg q
    have q1 : ¬ Rsv.noH h := fun z => q (.inl z)
    have q2 : ¬ Rsv.noK k := fun z => q (.inr z)
    have C := dhost_ok q1 w
    have C2 := dkey_ok q2 w
    obtain ⟨m, rfl, h1, h9⟩ := Rsv.host_nat q1
    have e2 : t.reg (m : Int) k = ⟨up t.key m k, t.host, t.kind⟩ := by unfold Rsv.reg; rw [if_neg q, Int.toNat_natCast]
    rw [e1, e2]
    have hc := hI.key m (by omega)
    have hf := hI.frozen m
    have HP : Hid (IsW (w.setCell ⟨g, m, none⟩ (.int .i64 k)) g ⟨up t.key m k, t.host, t.kind⟩) := hI.put m (by omega) k
    have HB : Hid (But (· = g) w (w.setCell ⟨g, m, none⟩ (.int .i64 k))) := but_cell _ _ _ _
    have hm : (m : Int) < 10 := by omega
    clear e1 e2 q q1 q2 hI
    go_enter Tryd.func24, Tryd.ntmps24
    go_wp2_with fail
    refine C.mono ?_
    rintro e w1 ⟨rfl, hw⟩
    obtain rfl := hw.symm
    clear C hw
    go_wp2_with fail
    refine C2.mono ?_
    rintro e w1 ⟨rfl, hw⟩
    obtain rfl := hw.symm
    clear C2 hw
    go_wp2
    go_ret
    exact ⟨rfl, HP.out, HB.out⟩
set_option maxRecDepth 100000 in
theorem dout (hI : IsW w g t) (m : Nat) (hm : m < 10) :
    Calls Tryd.prog 58 #[.pointer (some ⟨g, 0, none⟩), .int .i64 (m : Int)] w fun e w' => e = .returned (.tuple #[]) ∧ IsW w' g (t.out m) ∧ But (· = g) w w' := by
  have hc := hI.key m hm
  have hf := hI.frozen m
  have hP := hI.put m hm 0
  have c9 := hP.c10
  have c10 := hP.c11
  have f9 := hP.frozen 10
  have f10 := hP.frozen 11
  have hb := but_cell w g m (.int .i64 0)
  have hmz : (m : Int) < 10 := by omega
  by_cases e : t.host = (m : Int)
  · have e1 : t.out m = ⟨up t.key m 0, 0, 0⟩ := by unfold Rsv.out; rw [if_pos e, if_pos e]
    have HP : Hid (IsW (((w.setCell ⟨g, m, none⟩ (.int .i64 0)).setCell ⟨g, 10, none⟩ (.int .i64 0)).setCell ⟨g, 11, none⟩ (.int .i64 0)) g (t.out m)) := by
      (show IsW _ _ _)
      rw [e1]
      exact hP.holds 0 0
    have HB : Hid (But (· = g) w (((w.setCell ⟨g, m, none⟩ (.int .i64 0)).setCell ⟨g, 10, none⟩ (.int .i64 0)).setCell ⟨g, 11, none⟩ (.int .i64 0))) := hb.trans (but_w2 _ _ _ _ _ _) (Grows.refl _ _)
    dsimp only at c9 c10
    rw [e] at c9
    clear hI e e1 hP hb
    go_enter Tryd.func58, Tryd.ntmps58
    go_wp2
    go_end0
    exact ⟨rfl, HP.out, HB.out⟩
  · have e1 : t.out m = ⟨up t.key m 0, t.host, t.kind⟩ := by unfold Rsv.out; rw [if_neg e, if_neg e]
    have HP : Hid (IsW (w.setCell ⟨g, m, none⟩ (.int .i64 0)) g (t.out m)) := by
      (show IsW _ _ _)
      rw [e1]
      exact hP
    have HB : Hid (But (· = g) w (w.setCell ⟨g, m, none⟩ (.int .i64 0))) := hb
    dsimp only at c9 c10
    have en : (t.host == (m : Int)) = false := by rw [beq_eq_false_iff_ne]; exact e
    clear hI e1 hP hb
    generalize t.host = x at *
    go_enter Tryd.func58, Tryd.ntmps58
    go_wp2
    go_end0
    exact ⟨rfl, HP.out, HB.out⟩
set_option maxRecDepth 100000 in
theorem dleave (hI : IsW w g t) (h : Int) :
    Calls Tryd.prog 26 #[.pointer (some ⟨g, 0, none⟩), .int .i64 h] w fun e w' => e = .returned (.int .i64 ((t.leaveE h : Nat) : Int)) ∧ IsW w' g (t.leave h) ∧ But (· = g) w w' := by
  have HI : Hid (IsW w g t) := hI
  by_cases q : Rsv.noH h
  · have e1 : t.leaveE h = 1 := if_pos q
    have e2 : t.leave h = t := by unfold Rsv.leave; rw [if_neg (by omega)]
    have C := dhost_no q w
    rw [e1, e2]
    clear e1 e2 hI q
    go_enter Tryd.func26, Tryd.ntmps26
    go_wp2_with fail
    refine C.mono ?_
    rintro e w1 ⟨rfl, hw⟩
    obtain rfl := hw.symm
    clear C hw
    go_wp2
    go_ret
    exact ⟨rfl, HI.out, But.refl _ _⟩
  · have C := dhost_ok q w
    obtain ⟨m, rfl, h1, h9⟩ := Rsv.host_nat q
    have hc := hI.key m (by omega)
    have hmz : (m : Int) < 10 := by omega
    by_cases e : t.key m = 0
    · have e1 : t.leaveE (m : Int) = 5 := by unfold Rsv.leaveE; rw [if_neg q, Int.toNat_natCast, if_pos e]
      have e2 : t.leave (m : Int) = t := by unfold Rsv.leave; rw [if_neg (by omega)]
      rw [e] at hc
      rw [e1, e2]
      clear e1 e2 hI q e
      go_enter Tryd.func26, Tryd.ntmps26
      go_wp2_with fail
      refine C.mono ?_
      rintro e w1 ⟨rfl, hw⟩
      obtain rfl := hw.symm
      clear C hw
      go_wp2
      go_ret
      exact ⟨rfl, HI.out, But.refl _ _⟩
    · have e1 : t.leaveE (m : Int) = 0 := by unfold Rsv.leaveE; rw [if_neg q, Int.toNat_natCast, if_neg e]
      have e2 : t.leave (m : Int) = t.out m := by unfold Rsv.leave; rw [if_pos e1, Int.toNat_natCast]
      have C3 := dout hI m (by omega)
      have en : (t.key m == 0) = false := by rw [beq_eq_false_iff_ne]; exact e
      rw [e1, e2]
      clear e1 e2 hI q
      generalize t.key m = km at *
      go_enter Tryd.func26, Tryd.ntmps26
      go_wp2_with fail
      refine C.mono ?_
      rintro e w1 ⟨rfl, hw⟩
      obtain rfl := hw.symm
      clear C hw
      go_wp2_with fail
      refine C3.mono ?_
      rintro e w1 ⟨rfl, h3, h4⟩
      have H3 : Hid (IsW w1 g (t.out m)) := h3
      have H4 : Hid (But (· = g) w w1) := h4
      clear C3 h3 h4 HI
      go_wp2
      go_ret
      exact ⟨rfl, H3.out, H4.out⟩
end Go.Proofs.YtfeikmmojilmbaaDoor
