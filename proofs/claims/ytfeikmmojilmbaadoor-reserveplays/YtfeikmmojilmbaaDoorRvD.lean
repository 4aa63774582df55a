/- Who has a key, who holds the reservation; a host leaves: walks over the program. -/
import Derived.Test.YtfeikmmojilmbaaDoorRvC
import Derived.Test.YtfeikmmojilmbaaDoorOwIs
import Derived.Laws.AppendOwnNone
namespace Go.Proofs.YtfeikmmojilmbaaDoor
open Go.RowKit
variable {w : World} {p : Nat} {t : Rsv}
set_option maxRecDepth 100000 in
theorem vmember (hI : IsV w p t) (h : Int) (q : ¬ Rsv.noH h) :
    Calls Tryd.prog 56 #[.pointer (some ⟨p, 0, none⟩), .int .i64 h] w fun e w' => e = .returned (.bool (decide (t.key h.toNat ≠ 0))) ∧ w' = w := by
  obtain ⟨j, hz, hj, hn, h1, h9⟩ := Rsv.host_at q
  have hc := hI.key j hj
  have hj9 : (j : Int) < 9 := by omega
  rw [hn]
  clear q hI hn
  generalize t.key (j + 1) = x at *
  go_enter Tryd.func56, Tryd.ntmps56
  go_wp2
  go_ret
  exact ⟨by simp [bne, BEq.beq, decide_not], rfl⟩
set_option maxRecDepth 100000 in
theorem vowns (hI : IsV w p t) (h k : Int) (q : ¬ Rsv.noH h) :
    Calls Tryd.prog 61 #[.pointer (some ⟨p, 0, none⟩), .int .i64 h, .int .i64 k] w fun e w' => e = .returned (.bool (decide (t.mine h k))) ∧ w' = w := by
  have C := vmember hI h q
  obtain ⟨j, hz, hj, hn, h1, h9⟩ := Rsv.host_at q
  have hc := hI.key j hj
  have hj9 : (j : Int) < 9 := by omega
  have em : decide (t.mine h k) = decide (k ≠ 0 ∧ t.key (j + 1) = k) := decide_eq_decide.2 (by unfold Rsv.mine; rw [hn])
  rw [em]
  rw [hn] at C
  clear em
  clear q hI hn
  generalize t.key (j + 1) = x at *
  by_cases e : x = 0
  · rw [decide_eq_false (show ¬ x ≠ 0 from fun z => z e)] at C
    have ed : decide (k ≠ 0 ∧ x = k) = false := decide_eq_false (fun z => z.1 (by omega))
    rw [ed]
    clear ed e
    go_enter Tryd.func61, Tryd.ntmps61
    go_wp2_with fail
    refine C.mono ?_
    rintro e w1 ⟨rfl, hw⟩
    obtain rfl := hw.symm
    clear C hw
    go_wp2
    go_ret
    exact ⟨rfl, rfl⟩
  · rw [decide_eq_true (show x ≠ 0 from e)] at C
    have ed : decide (k ≠ 0 ∧ x = k) = decide (x = k) := decide_eq_decide.2 ⟨fun z => z.2, fun z => ⟨by omega, z⟩⟩
    rw [ed]
    clear ed e
    go_enter Tryd.func61, Tryd.ntmps61
    go_wp2_with fail
    refine C.mono ?_
    rintro e w1 ⟨rfl, hw⟩
    obtain rfl := hw.symm
    clear C hw
    go_wp2
    go_ret
    exact ⟨by simp [BEq.beq], rfl⟩
set_option maxRecDepth 100000 in
theorem vheld (hI : IsV w p t) :
    Calls Tryd.prog 60 #[.pointer (some ⟨p, 0, none⟩)] w fun e w' => e = .returned (.bool (!(decide (t.host = 0) && decide (t.kind = 0)))) ∧ w' = w := by
  have c9 := hI.c9
  have c10 := hI.c10
  clear hI
  generalize t.host = x at *
  generalize t.kind = y at *
  by_cases hx : x = 0
  · by_cases hy : y = 0
    · rw [decide_eq_true hx, decide_eq_true hy]
      go_enter Tryd.func60, Tryd.ntmps60
      go_wp2
      go_ret
      exact ⟨rfl, rfl⟩
    · rw [decide_eq_false hy, Bool.and_false]
      go_enter Tryd.func60, Tryd.ntmps60
      go_wp2
      go_ret
      exact ⟨rfl, rfl⟩
  · rw [decide_eq_false hx, Bool.false_and]
    go_enter Tryd.func60, Tryd.ntmps60
    go_wp2
    go_ret
    exact ⟨rfl, rfl⟩
set_option maxRecDepth 100000 in
theorem vholder (hI : IsV w p t) :
    Calls Tryd.prog 36 #[.pointer (some ⟨p, 0, none⟩)] w fun e w' => e = .returned (.agg #[.int .i64 t.host, .int .i64 t.kind]) ∧ Below w.heap.size w w' := by
  have c9 : ∀ o, (w.alloc o).cell? ⟨p, 9, none⟩ = _ := fun o => (hI.old (al_below w o)).c9
  have c10 : ∀ o, (w.alloc o).cell? ⟨p, 10, none⟩ = _ := fun o => (hI.old (al_below w o)).c10
  clear hI
  generalize t.host = x at *
  generalize t.kind = y at *
  go_enter Tryd.func36, Tryd.ntmps36
  go_wp2
  exact bodyPost_ret (v := .agg #[.int .i64 x, .int .i64 y]) (by simp [results, Tryd.results36, go_sem]) rfl ⟨rfl, by repeat (first | exact Below.refl _ _ | refine below_drewN ?_ _ | refine Below.setCell ?_ (by simp) _ | refine Below.alloc ?_ (by simp) _)⟩
set_option maxRecDepth 100000 in
theorem vdrop (hI : IsV w p t) (h : Int) (q : ¬ Rsv.noH h) :
    Calls Tryd.prog 57 #[.pointer (some ⟨p, 0, none⟩), .int .i64 h] w fun e w' => e = .returned (.tuple #[]) ∧ IsV w' p (t.out h.toNat) ∧ But (· = p) w w' := by
  obtain ⟨j, hz, hj, hn, h1, h9⟩ := Rsv.host_at q
  have hc := hI.key j hj
  have hf := hI.frozen j
  have hP := hI.put j hj 0
  have c9 := hP.c9
  have c10 := hP.c10
  have f9 := hP.frozen 9
  have f10 := hP.frozen 10
  have hb := but_cell w p j (.int .i64 0)
  have hj9 : (j : Int) < 9 := by omega
  have hcast : h = ((j + 1 : Nat) : Int) := by omega
  rw [hn]
  by_cases e : t.host = h
  · have e1 : t.out (j + 1) = ⟨up t.key (j + 1) 0, 0, 0⟩ := by unfold Rsv.out; rw [if_pos (e.trans hcast), if_pos (e.trans hcast)]
    have HP : Hid (IsV (((w.setCell ⟨p, j, none⟩ (.int .i64 0)).setCell ⟨p, 9, none⟩ (.int .i64 0)).setCell ⟨p, 10, none⟩ (.int .i64 0)) p (t.out (j + 1))) := by
      (show IsV _ _ _)
      rw [e1]
      exact hP.holds 0 0
    have HB : Hid (But (· = p) w (((w.setCell ⟨p, j, none⟩ (.int .i64 0)).setCell ⟨p, 9, none⟩ (.int .i64 0)).setCell ⟨p, 10, none⟩ (.int .i64 0))) := hb.trans (but_cells2 _ _ _ _ _ _) (Grows.refl _ _)
    dsimp only at c9 c10
    rw [e] at c9
    clear q hI hn hcast e e1 hP hb
    go_enter Tryd.func57, Tryd.ntmps57
    go_wp2
    go_end0
    exact ⟨rfl, HP.out, HB.out⟩
  · have e1 : t.out (j + 1) = ⟨up t.key (j + 1) 0, t.host, t.kind⟩ := by unfold Rsv.out; rw [if_neg (by rw [← hcast]; exact e), if_neg (by rw [← hcast]; exact e)]
    have HP : Hid (IsV (w.setCell ⟨p, j, none⟩ (.int .i64 0)) p (t.out (j + 1))) := by
      (show IsV _ _ _)
      rw [e1]
      exact hP
    have HB : Hid (But (· = p) w (w.setCell ⟨p, j, none⟩ (.int .i64 0))) := hb
    dsimp only at c9 c10
    have en : (t.host == h) = false := by rw [beq_eq_false_iff_ne]; exact e
    clear q hI hn hcast e1 hP hb
    generalize t.host = x at *
    go_enter Tryd.func57, Tryd.ntmps57
    go_wp2
    go_end0
    exact ⟨rfl, HP.out, HB.out⟩
set_option maxRecDepth 100000 in
theorem vleave (hI : IsV w p t) (h : Int) :
    Calls Tryd.prog 25 #[.pointer (some ⟨p, 0, none⟩), .int .i64 h] w fun e w' => e = .returned (errV (t.leaveE h)) ∧ IsV w' p (t.leave h) ∧ But (· = p) w w' := by
  have HI : Hid (IsV w p t) := hI
  by_cases q : Rsv.noH h
  · have e1 : t.leaveE h = 1 := if_pos q
    have e2 : t.leave h = t := by unfold Rsv.leave; rw [if_neg (by omega)]
    have C := ishost_no q w
    rw [e1, e2, errV, if_neg (by omega)]
    clear e1 e2 hI q
    go_enter Tryd.func25, Tryd.ntmps25
    go_wp2_with fail
    refine C.mono ?_
    rintro e w1 ⟨rfl, hw⟩
    obtain rfl := hw.symm
    clear C hw
    go_wp2
    go_ret
    exact ⟨rfl, HI.out, But.refl _ _⟩
  · have C := ishost_ok q w
    have C2 := vmember hI h q
    by_cases e : t.key h.toNat = 0
    · have e1 : t.leaveE h = 5 := by unfold Rsv.leaveE; rw [if_neg q, if_pos e]
      have e2 : t.leave h = t := by unfold Rsv.leave; rw [if_neg (by omega)]
      rw [decide_eq_false (fun z => z e)] at C2
      rw [e1, e2, errV, if_neg (by omega)]
      clear e1 e2 hI q e
      go_enter Tryd.func25, Tryd.ntmps25
      go_wp2_with fail
      refine C.mono ?_
      rintro e w1 ⟨rfl, hw⟩
      obtain rfl := hw.symm
      clear C hw
      go_wp2_with fail
      refine C2.mono ?_
      rintro e w1 ⟨rfl, hw⟩
      obtain rfl := hw.symm
      clear C2 hw
      go_wp2
      go_ret
      exact ⟨rfl, HI.out, But.refl _ _⟩
    · have e1 : t.leaveE h = 0 := by unfold Rsv.leaveE; rw [if_neg q, if_neg e]
      have e2 : t.leave h = t.out h.toNat := if_pos e1
      have C3 := vdrop hI h q
      rw [decide_eq_true e] at C2
      rw [e1, e2, errV, if_pos rfl]
      clear e1 e2 hI q e
      go_enter Tryd.func25, Tryd.ntmps25
      go_wp2_with fail
      refine C.mono ?_
      rintro e w1 ⟨rfl, hw⟩
      obtain rfl := hw.symm
      clear C hw
      go_wp2_with fail
      refine C2.mono ?_
      rintro e w1 ⟨rfl, hw⟩
      obtain rfl := hw.symm
      clear C2 hw
      go_wp2_with fail
      refine C3.mono ?_
      rintro e w1 ⟨rfl, h3, h4⟩
      have H3 : Hid (IsV w1 p (t.out h.toNat)) := h3
      have H4 : Hid (But (· = p) w w1) := h4
      clear C3 h3 h4 HI
      go_wp2
      go_ret
      exact ⟨rfl, H3.out, H4.out⟩
theorem vcheck_in (hI : IsV w p t) (h k d : Int) :
    Calls Tryd.prog 59 #[.pointer (some ⟨p, 0, none⟩), .int .i64 h, .int .i64 k, .int .i64 d] w fun e w' => e = .returned (errV (t.useE h k d)) ∧ w' = w := by
  by_cases q : Rsv.noH h ∨ Rsv.noD d
  · have e1 : t.useE h k d = 1 := if_pos q
    rw [e1, errV, if_neg (by omega)]
    by_cases q1 : Rsv.noH h
    · have C := ishost_no q1 w
      clear q q1 e1 hI
      go_enter Tryd.func59, Tryd.ntmps59
      go_wp2_with fail
      refine C.mono ?_
      rintro e w1 ⟨rfl, hw⟩
      obtain rfl := hw.symm
      clear C hw
      go_wp2
      go_ret
      exact ⟨rfl, rfl⟩
    · have C := ishost_ok q1 w
      have C2 := iskind_no (q.resolve_left q1) w
      clear q q1 e1 hI
      go_enter Tryd.func59, Tryd.ntmps59
      go_wp2_with fail
      refine C.mono ?_
      rintro e w1 ⟨rfl, hw⟩
      obtain rfl := hw.symm
      clear C hw
      go_wp2_with fail
      refine C2.mono ?_
      rintro e w1 ⟨rfl, hw⟩
      obtain rfl := hw.symm
      clear C2 hw
      go_wp2
      go_ret
      exact ⟨rfl, rfl⟩
  · have q1 : ¬ Rsv.noH h := fun z => q (.inl z)
    have q2 : ¬ Rsv.noD d := fun z => q (.inr z)
    have C := ishost_ok q1 w
    have C2 := iskind_ok q2 w
    have C3 := vowns hI h k q1
    by_cases e : t.mine h k
    · have e1 : t.useE h k d = 0 := by unfold Rsv.useE; rw [if_neg q, if_pos e]
      rw [decide_eq_true e] at C3
      rw [e1, errV, if_pos rfl]
      clear q q1 q2 e1 e hI
      go_enter Tryd.func59, Tryd.ntmps59
      go_wp2_with fail
      refine C.mono ?_
      rintro e w1 ⟨rfl, hw⟩
      obtain rfl := hw.symm
      clear C hw
      go_wp2_with fail
      refine C2.mono ?_
      rintro e w1 ⟨rfl, hw⟩
      obtain rfl := hw.symm
      clear C2 hw
      go_wp2_with fail
      refine C3.mono ?_
      rintro e w1 ⟨rfl, hw⟩
      obtain rfl := hw.symm
      clear C3 hw
      go_wp2
      go_ret
      exact ⟨rfl, rfl⟩
    · have e1 : t.useE h k d = 9 := by unfold Rsv.useE; rw [if_neg q, if_neg e]
      rw [decide_eq_false e] at C3
      rw [e1, errV, if_neg (by omega)]
      clear q q1 q2 e1 e hI
      go_enter Tryd.func59, Tryd.ntmps59
      go_wp2_with fail
      refine C.mono ?_
      rintro e w1 ⟨rfl, hw⟩
      obtain rfl := hw.symm
      clear C hw
      go_wp2_with fail
      refine C2.mono ?_
      rintro e w1 ⟨rfl, hw⟩
      obtain rfl := hw.symm
      clear C2 hw
      go_wp2_with fail
      refine C3.mono ?_
      rintro e w1 ⟨rfl, hw⟩
      obtain rfl := hw.symm
      clear C3 hw
      go_wp2
      go_ret
      exact ⟨rfl, rfl⟩
theorem fldH0 (x y : Int) (W : World) : (Instr.field 56 (.agg #[.int .i64 x, .int .i64 y]) 0).run Tryd.prog W = .ok (.int .i64 x) W := by kernel_rfl
theorem fldH1 (x y : Int) (W : World) : (Instr.field 56 (.agg #[.int .i64 x, .int .i64 y]) 1).run Tryd.prog W = .ok (.int .i64 y) W := by kernel_rfl
end Go.Proofs.YtfeikmmojilmbaaDoor
