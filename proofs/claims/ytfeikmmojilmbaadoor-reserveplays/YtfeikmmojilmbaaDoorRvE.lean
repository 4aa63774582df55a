/- The reservation is held, and is free again: walks over the program. -/
import Derived.Test.YtfeikmmojilmbaaDoorRvD
import Derived.Test.YtfeikmmojilmbaaDoorLwA
import Derived.Deep.Cut
import Derived.Deep.CutRange
import Derived.BigCall
import Derived.BigGuard
namespace Go.Proofs.YtfeikmmojilmbaaDoor
open Go.RowKit
variable {w : World} {p : Nat} {t : Rsv}
set_option maxRecDepth 100000 in
set_option maxHeartbeats 1000000 in
theorem vfree (hI : IsV w p t) (h k d : Int) :
    Calls Tryd.prog 29 #[.pointer (some ⟨p, 0, none⟩), .int .i64 h, .int .i64 k, .int .i64 d] w fun e w' => e = .returned (errV (t.freeE h k d)) ∧ IsV w' p (t.free h k d) ∧ But (· = p) w w' := by
  have HI : Hid (IsV w p t) := hI
  have C := vcheck_in hI h k d
  by_cases q : t.useE h k d = 0
  · rw [q, errV, if_pos rfl] at C
    have c9 := hI.c9
    have c10 := hI.c10
    have f9 := hI.frozen 9
    have f10 := hI.frozen 10
    by_cases e : t.host = h
    · by_cases e2 : t.kind = d
      · have e1 : t.freeE h k d = 0 := by unfold Rsv.freeE; rw [if_pos q, if_neg (fun z => z e), if_neg (fun z => z e2)]
        have e3 : t.free h k d = ⟨t.key, 0, 0⟩ := if_pos e1
        rw [e1, e3, errV, if_pos rfl]
        have HP : Hid (IsV ((w.setCell ⟨p, 9, none⟩ (.int .i64 0)).setCell ⟨p, 10, none⟩ (.int .i64 0)) p ⟨t.key, 0, 0⟩) := hI.holds 0 0
        have HB : Hid (But (· = p) w ((w.setCell ⟨p, 9, none⟩ (.int .i64 0)).setCell ⟨p, 10, none⟩ (.int .i64 0))) := but_cells2 _ _ _ _ _ _
        rw [e] at c9
        rw [e2] at c10
        clear q e e1 e2 e3 hI
        go_enter Tryd.func29, Tryd.ntmps29
        go_wp2_with fail
        refine C.mono ?_
        rintro e w1 ⟨rfl, hw⟩
        obtain rfl := hw.symm
        clear C hw
        go_wp2
        go_ret
        exact ⟨rfl, HP.out, HB.out⟩
      · have e1 : t.freeE h k d = 3 := by unfold Rsv.freeE; rw [if_pos q, if_neg (fun z => z e), if_pos e2]
        have e3 : t.free h k d = t := by unfold Rsv.free; rw [if_neg (by omega)]
        rw [e1, e3, errV, if_neg (by omega)]
        rw [e] at c9
        clear q e e1 e3 hI
        generalize t.kind = y at *
        go_enter Tryd.func29, Tryd.ntmps29
        go_wp2_with fail
        refine C.mono ?_
        rintro e w1 ⟨rfl, hw⟩
        obtain rfl := hw.symm
        clear C hw
        go_wp2
        go_ret
        exact ⟨rfl, HI.out, But.refl _ _⟩
    · have e1 : t.freeE h k d = 5 := by unfold Rsv.freeE; rw [if_pos q, if_pos e]
      have e3 : t.free h k d = t := by unfold Rsv.free; rw [if_neg (by omega)]
      rw [e1, e3, errV, if_neg (by omega)]
      clear q e1 e3 hI
      generalize t.host = x at *
      go_enter Tryd.func29, Tryd.ntmps29
      go_wp2_with fail
      refine C.mono ?_
      rintro e w1 ⟨rfl, hw⟩
      obtain rfl := hw.symm
      clear C hw
      go_wp2
      go_ret
      exact ⟨rfl, HI.out, But.refl _ _⟩
  · have e1 : t.freeE h k d = t.useE h k d := by unfold Rsv.freeE; rw [if_neg q]
    have e3 : t.free h k d = t := by unfold Rsv.free; rw [if_neg (by omega)]
    rw [e1, e3]
    rw [errV, if_neg q] at C ⊢
    generalize t.useE h k d = ue at *
    clear e1 e3 hI q
    go_enter Tryd.func29, Tryd.ntmps29
    go_wp2_with fail
    refine C.mono ?_
    rintro e w1 ⟨rfl, hw⟩
    obtain rfl := hw.symm
    clear C hw
    go_wp2
    go_ret
    exact ⟨rfl, HI.out, But.refl _ _⟩
set_option maxRecDepth 100000 in
set_option maxHeartbeats 1000000 in
theorem vhold (hI : IsV w p t) (hok : t.ok) (h k d : Int) :
    Calls Tryd.prog 27 #[.pointer (some ⟨p, 0, none⟩), .int .i64 h, .int .i64 k, .int .i64 d] w fun e w' => e = .returned (errV (t.holdE h k d)) ∧ IsV w' p (t.hold h k d) ∧ But (· = p) w w' := by
  have HI : Hid (IsV w p t) := hI
  have C := vcheck_in hI h k d
  by_cases q : t.useE h k d = 0
  · rw [q, errV, if_pos rfl] at C
    have hI2 := hI.old (al_below w (.cells #[.int .i64 h, .int .i64 d] 56))
    have hL := Lw.new w h d
    have HI2 : Hid (IsV (w.alloc (.cells #[.int .i64 h, .int .i64 d] 56)) p t) := hI2
    have HL : Hid (Lw (w.alloc (.cells #[.int .i64 h, .int .i64 d] 56)) w.heap.size h d) := hL
    have HB : Hid (But (· = p) w (w.alloc (.cells #[.int .i64 h, .int .i64 d] 56))) := (But.refl _ _).alloc _
    have c9 := hI2.c9
    have c10 := hI2.c10
    have c0 := hL.c0
    have c1 := hL.c1
    have HH := fun n => vheld (hI2.old (below_drewN (Below.refl (w.alloc (.cells #[.int .i64 h, .int .i64 d] 56)).heap.size (w.alloc (.cells #[.int .i64 h, .int .i64 d] 56))) n))
    clear hI2 hL hI
    by_cases e0 : t.host = 0
    · have e4 : t.kind = 0 := hok.zero.1 e0
      have e1 : t.holdE h k d = 0 := by unfold Rsv.holdE; rw [if_pos q, if_neg (fun z => z.1 e0)]
      have e3 : t.hold h k d = ⟨t.key, h, d⟩ := if_pos e1
      rw [e1, e3, errV, if_pos rfl]
      rw [decide_eq_true e0, decide_eq_true e4, Bool.and_self, Bool.not_true] at HH
      clear e0 e4 e1 e3 q hok
      go_enter Tryd.func27, Tryd.ntmps27
      go_wp2_with fail
      refine C.mono ?_
      rintro e w1 ⟨rfl, hw⟩
      obtain rfl := hw.symm
      clear C hw
      go_upto_region 5 with fail
      generalize w.alloc (Obj.cells #[Value.int IntKind.i64 h, Value.int IntKind.i64 d] 56) = wd at *
      generalize w.heap.size = g at *
      go_quiet ((go_at_call 60; exact Calls.quiet_of_same (HH _)))
      clear HH c0 c1 c9 c10
      have hI3 := HI2.out.old (below_drewN (Below.refl wd.heap.size wd) nq)
      have hL3 := HL.out.old (below_drewN (Below.refl wd.heap.size wd) nq)
      have HB3 : Hid (But (· = p) w (wd.drewN nq)) := HB.out.drewN nq
      generalize wd.drewN nq = we at *
      have c9 := hI3.c9
      have c10 := hI3.c10
      have f9 := hI3.frozen 9
      have f10 := hI3.frozen 10
      have c0 := hL3.c0
      have c1 := hL3.c1
      have HP : Hid (IsV ((we.setCell ⟨p, 9, none⟩ (.int .i64 h)).setCell ⟨p, 10, none⟩ (.int .i64 d)) p ⟨t.key, h, d⟩) := hI3.holds h d
      have HB4 : Hid (But (· = p) w ((we.setCell ⟨p, 9, none⟩ (.int .i64 h)).setCell ⟨p, 10, none⟩ (.int .i64 d))) := HB3.out.trans (but_cells2 _ _ _ _ _ _) (Grows.refl _ _)
      clear hI3 hL3 HB3
      go_wp2
      go_ret
      exact ⟨rfl, HP.out, HB4.out⟩
    · rw [decide_eq_false e0, Bool.false_and, Bool.not_false] at HH
      by_cases ex : t.host = h
      · by_cases ey : t.kind = d
        · have e1 : t.holdE h k d = 0 := by unfold Rsv.holdE; rw [if_pos q, if_neg (fun z => z.2.elim (fun r => r ex) (fun r => r ey))]
          have e3 : t.hold h k d = ⟨t.key, h, d⟩ := if_pos e1
          rw [e1, e3, errV, if_pos rfl]
          rw [ex] at c9
          rw [ey] at c10
          clear e0 ex ey e1 e3 q hok
          go_enter Tryd.func27, Tryd.ntmps27
          go_wp2_with fail
          refine C.mono ?_
          rintro e w1 ⟨rfl, hw⟩
          obtain rfl := hw.symm
          clear C hw
          go_upto_region 5 with fail
          generalize w.alloc (Obj.cells #[Value.int IntKind.i64 h, Value.int IntKind.i64 d] 56) = wd at *
          generalize w.heap.size = g at *
          go_quiet ((go_at_call 60; exact Calls.quiet_of_same (HH _)))
          clear HH c0 c1 c9 c10
          have hI3 := HI2.out.old (below_drewN (Below.refl wd.heap.size wd) nq)
          have hL3 := HL.out.old (below_drewN (Below.refl wd.heap.size wd) nq)
          have HB3 : Hid (But (· = p) w (wd.drewN nq)) := HB.out.drewN nq
          generalize wd.drewN nq = we at *
          have c9 := hI3.c9
          have c10 := hI3.c10
          have f9 := hI3.frozen 9
          have f10 := hI3.frozen 10
          have c0 := hL3.c0
          have c1 := hL3.c1
          have HP : Hid (IsV ((we.setCell ⟨p, 9, none⟩ (.int .i64 h)).setCell ⟨p, 10, none⟩ (.int .i64 d)) p ⟨t.key, h, d⟩) := hI3.holds h d
          have HB4 : Hid (But (· = p) w ((we.setCell ⟨p, 9, none⟩ (.int .i64 h)).setCell ⟨p, 10, none⟩ (.int .i64 d))) := HB3.out.trans (but_cells2 _ _ _ _ _ _) (Grows.refl _ _)
          clear hI3 hL3 HB3
          go_wp2
          go_ret
          exact ⟨rfl, HP.out, HB4.out⟩
        · have e1 : t.holdE h k d = 6 := by unfold Rsv.holdE; rw [if_pos q, if_pos ⟨e0, .inr ey⟩]
          have e3 : t.hold h k d = t := by unfold Rsv.hold; rw [if_neg (by omega)]
          rw [e1, e3, errV, if_neg (by omega)]
          rw [ex] at c9
          clear e0 ex e1 e3 q hok
          generalize t.kind = y at *
          go_enter Tryd.func27, Tryd.ntmps27
          go_wp2_with fail
          refine C.mono ?_
          rintro e w1 ⟨rfl, hw⟩
          obtain rfl := hw.symm
          clear C hw
          go_upto_region 5 with fail
          generalize w.alloc (Obj.cells #[Value.int IntKind.i64 h, Value.int IntKind.i64 d] 56) = wd at *
          generalize w.heap.size = g at *
          go_quiet ((go_at_call 60; exact Calls.quiet_of_same (HH _)))
          go_wp2
          go_ret
          exact ⟨rfl, HI2.out.old (below_drewN (Below.refl _ _) nq), HB.out.drewN nq⟩
      · have e1 : t.holdE h k d = 6 := by unfold Rsv.holdE; rw [if_pos q, if_pos ⟨e0, .inl ex⟩]
        have e3 : t.hold h k d = t := by unfold Rsv.hold; rw [if_neg (by omega)]
        rw [e1, e3, errV, if_neg (by omega)]
        clear e0 e1 e3 q hok
        generalize t.kind = y at *
        generalize t.host = x at *
        go_enter Tryd.func27, Tryd.ntmps27
        go_wp2_with fail
        refine C.mono ?_
        rintro e w1 ⟨rfl, hw⟩
        obtain rfl := hw.symm
        clear C hw
        go_upto_region 5 with fail
        generalize w.alloc (Obj.cells #[Value.int IntKind.i64 h, Value.int IntKind.i64 d] 56) = wd at *
        generalize w.heap.size = g at *
        go_quiet ((go_at_call 60; exact Calls.quiet_of_same (HH _)))
        go_wp2
        go_ret
        exact ⟨rfl, HI2.out.old (below_drewN (Below.refl _ _) nq), HB.out.drewN nq⟩
  · have e1 : t.holdE h k d = t.useE h k d := by unfold Rsv.holdE; rw [if_neg q]
    have e3 : t.hold h k d = t := by unfold Rsv.hold; rw [if_neg (by omega)]
    rw [e1, e3]
    rw [errV, if_neg q] at C ⊢
    generalize t.useE h k d = ue at *
    clear e1 e3 hI q
    go_enter Tryd.func27, Tryd.ntmps27
    go_wp2_with fail
    refine C.mono ?_
    rintro e w1 ⟨rfl, hw⟩
    obtain rfl := hw.symm
    clear C hw
    go_wp2
    go_ret
    exact ⟨rfl, HI.out, But.refl _ _⟩
end Go.Proofs.YtfeikmmojilmbaaDoor
