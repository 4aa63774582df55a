/- The document's reserve: the reservation is held, is free again, is taken over: walks over the program. -/
import Derived.Test.YtfeikmmojilmbaaDoorRwB
namespace Go.Proofs.YtfeikmmojilmbaaDoor
open Go.RowKit
variable {w : World} {g : Nat} {t : Rsv}
theorem not_mine {t : Rsv} {m : Nat} {k : Int} (h : ¬ t.mine (m : Int) k) : k = 0 ∨ t.key m ≠ k := by
  by_cases e : k = 0
  · exact .inl e
  · refine .inr (fun z => h ⟨e, ?_⟩)
    rw [Int.toNat_natCast]; exact z
set_option maxRecDepth 100000 in
set_option maxHeartbeats 2000000 in
theorem dhold (hI : IsW w g t) (h k d : Int) :
    Calls Tryd.prog 28 #[.pointer (some ⟨g, 0, none⟩), .int .i64 h, .int .i64 k, .int .i64 d] w fun e w' => e = .returned (.int .i64 ((t.holdE h k d : Nat) : Int)) ∧ IsW w' g (t.hold h k d) ∧ But (· = g) w w' := by
  have HI : Hid (IsW w g t) := hI
  by_cases q : t.useE h k d = 0
  · obtain ⟨q1, q2, q3⟩ := Rsv.use_ok q
    have C := dhost_ok q1 w
    obtain ⟨m, rfl, h1, h9⟩ := Rsv.host_nat q1
    have hc := hI.key m (by omega)
    have hmz : (m : Int) < 10 := by omega
    have hm0 : (0 : Int) < (m : Int) := by omega
    have q4 : t.key m = k := by have := q3.2; rw [Int.toNat_natCast] at this; exact this
    have d1 : ¬ d < 1 := fun z => q2 (.inl z)
    have d2 : ¬ 4 < d := fun z => q2 (.inr z)
    have b1 : decide (d < 1) = false := decide_eq_false d1
    have b2 : decide (4 < d) = false := decide_eq_false d2
    have k0 : ¬ k = 0 := q3.1
    have k1 : (k == 0) = false := by rw [beq_eq_false_iff_ne]; exact k0
    rw [q4] at hc
    have c9 := hI.c10
    have c10 := hI.c11
    have f9 := hI.frozen 10
    have f10 := hI.frozen 11
    clear q1 q2 q3 q4
    have HP : Hid (IsW ((w.setCell ⟨g, 10, none⟩ (.int .i64 (m : Int))).setCell ⟨g, 11, none⟩ (.int .i64 d)) g ⟨t.key, (m : Int), d⟩) := hI.holds m d
    have HB : Hid (But (· = g) w ((w.setCell ⟨g, 10, none⟩ (.int .i64 (m : Int))).setCell ⟨g, 11, none⟩ (.int .i64 d))) := but_w2 _ _ _ _ _ _
    clear hI
    by_cases e0 : t.host = 0
    · have e1 : t.holdE (m : Int) k d = 0 := by unfold Rsv.holdE; rw [if_pos q, if_neg (fun z => z.1 e0)]
      have e3 : t.hold (m : Int) k d = ⟨t.key, (m : Int), d⟩ := if_pos e1
      rw [e1, e3]
      rw [e0] at c9
      clear e0 e1 e3 q
      generalize t.kind = y at *
      go_enter Tryd.func28, Tryd.ntmps28
      go_wp2_with fail
      refine C.mono ?_
      rintro e w1 ⟨rfl, hw⟩
      obtain rfl := hw.symm
      clear C hw
      go_wp2
      go_ret
      exact ⟨rfl, HP.out, HB.out⟩
    · by_cases ex : t.host = (m : Int)
      · have hx0 : ((m : Int) == 0) = false := by rw [beq_eq_false_iff_ne]; omega
        by_cases ey : t.kind = d
        · have e1 : t.holdE (m : Int) k d = 0 := by unfold Rsv.holdE; rw [if_pos q, if_neg (fun z => z.2.elim (fun r => r ex) (fun r => r ey))]
          have e3 : t.hold (m : Int) k d = ⟨t.key, (m : Int), d⟩ := if_pos e1
          rw [e1, e3]
          rw [ex] at c9
          rw [ey] at c10
          clear e0 ex ey e1 e3 q
          go_enter Tryd.func28, Tryd.ntmps28
          go_wp2_with fail
          refine C.mono ?_
          rintro e w1 ⟨rfl, hw⟩
          obtain rfl := hw.symm
          clear C hw
          go_wp2
          go_ret
          exact ⟨rfl, HP.out, HB.out⟩
        · have e1 : t.holdE (m : Int) k d = 6 := by unfold Rsv.holdE; rw [if_pos q, if_pos ⟨e0, .inr ey⟩]
          have e3 : t.hold (m : Int) k d = t := by unfold Rsv.hold; rw [if_neg (by omega)]
          rw [e1, e3]
          rw [ex] at c9
          have ez : (t.kind == d) = false := by rw [beq_eq_false_iff_ne]; exact ey
          have ez2 : (t.kind != d) = true := by rw [bne, ez]; rfl
          have hx2 : ((m : Int) != 0) = true := by rw [bne, hx0]; rfl
          clear e0 ex e1 e3 q HP HB
          generalize t.kind = y at *
          go_enter Tryd.func28, Tryd.ntmps28
          go_wp2_with fail
          refine C.mono ?_
          rintro e w1 ⟨rfl, hw⟩
          obtain rfl := hw.symm
          clear C hw
          go_wp2
          go_ret
          exact ⟨rfl, HI.out, But.refl _ _⟩
      · have e1 : t.holdE (m : Int) k d = 6 := by unfold Rsv.holdE; rw [if_pos q, if_pos ⟨e0, .inl ex⟩]
        have e3 : t.hold (m : Int) k d = t := by unfold Rsv.hold; rw [if_neg (by omega)]
        rw [e1, e3]
        have e5 : (t.host == 0) = false := by rw [beq_eq_false_iff_ne]; exact e0
        have e6 : (t.host == (m : Int)) = false := by rw [beq_eq_false_iff_ne]; exact ex
        clear e1 e3 q HP HB
        generalize t.kind = y at *
        generalize t.host = x at *
        go_enter Tryd.func28, Tryd.ntmps28
        go_wp2_with fail
        refine C.mono ?_
        rintro e w1 ⟨rfl, hw⟩
        obtain rfl := hw.symm
        clear C hw
        go_wp2
        go_ret
        exact ⟨rfl, HI.out, But.refl _ _⟩
  · have e1 : t.holdE h k d = t.useE h k d := by unfold Rsv.holdE; rw [if_neg q]
    have e2 : t.hold h k d = t := by unfold Rsv.hold; rw [if_neg (by omega)]
    rw [e1, e2]
    clear e1 e2
    by_cases q1 : Rsv.noH h
    · have e3 : t.useE h k d = 1 := if_pos (.inl q1)
      have C := dhost_no q1 w
      rw [e3]
      clear e3 q1 q hI
      go_enter Tryd.func28, Tryd.ntmps28
      go_wp2_with fail
      refine C.mono ?_
      rintro e w1 ⟨rfl, hw⟩
      obtain rfl := hw.symm
      clear C hw
      go_wp2
      go_ret
      exact ⟨rfl, HI.out, But.refl _ _⟩
    · have C := dhost_ok q1 w
      by_cases d1 : d < 1
      · have e3 : t.useE h k d = 1 := if_pos (.inr (.inl d1))
        rw [e3]
        have b1 : decide (d < 1) = true := decide_eq_true d1
        clear e3 q1 q hI
        go_enter Tryd.func28, Tryd.ntmps28
        go_wp2_with fail
        refine C.mono ?_
        rintro e w1 ⟨rfl, hw⟩
        obtain rfl := hw.symm
        clear C hw
        go_wp2
        go_ret
        exact ⟨rfl, HI.out, But.refl _ _⟩
      · have b1 : decide (d < 1) = false := decide_eq_false d1
        by_cases d2 : 4 < d
        · have e3 : t.useE h k d = 1 := if_pos (.inr (.inr d2))
          rw [e3]
          have b2 : decide (4 < d) = true := decide_eq_true d2
          clear e3 q1 q hI
          go_enter Tryd.func28, Tryd.ntmps28
          go_wp2_with fail
          refine C.mono ?_
          rintro e w1 ⟨rfl, hw⟩
          obtain rfl := hw.symm
          clear C hw
          go_wp2
          go_ret
          exact ⟨rfl, HI.out, But.refl _ _⟩
        · have b2 : decide (4 < d) = false := decide_eq_false d2
          have q5 : ¬ (Rsv.noH h ∨ Rsv.noD d) := fun z => z.elim q1 (fun z => z.elim d1 d2)
          have q6 : ¬ t.mine h k := fun z => q (by unfold Rsv.useE; rw [if_neg q5, if_pos z])
          have e3 : t.useE h k d = 9 := by unfold Rsv.useE; rw [if_neg q5, if_neg q6]
          rw [e3]
          obtain ⟨m, rfl, h1, h9⟩ := Rsv.host_nat q1
          have hc := hI.key m (by omega)
          have hmz : (m : Int) < 10 := by omega
          have hm0 : (0 : Int) < (m : Int) := by omega
          rcases not_mine q6 with k0 | k0
          · subst k0
            clear e3 q1 q q5 q6 hI
            go_enter Tryd.func28, Tryd.ntmps28
            go_wp2_with fail
            refine C.mono ?_
            rintro e w1 ⟨rfl, hw⟩
            obtain rfl := hw.symm
            clear C hw
            go_wp2
            go_ret
            exact ⟨rfl, HI.out, But.refl _ _⟩
          · by_cases k2 : k = 0
            · subst k2
              clear e3 q1 q q5 q6 hI
              go_enter Tryd.func28, Tryd.ntmps28
              go_wp2_with fail
              refine C.mono ?_
              rintro e w1 ⟨rfl, hw⟩
              obtain rfl := hw.symm
              clear C hw
              go_wp2
              go_ret
              exact ⟨rfl, HI.out, But.refl _ _⟩
            · have k3 : (k == 0) = false := by rw [beq_eq_false_iff_ne]; exact k2
              have k4 : (t.key m == k) = false := by rw [beq_eq_false_iff_ne]; exact k0
              clear e3 q1 q q5 q6 hI
              generalize t.key m = km at *
              go_enter Tryd.func28, Tryd.ntmps28
              go_wp2_with fail
              refine C.mono ?_
              rintro e w1 ⟨rfl, hw⟩
              obtain rfl := hw.symm
              clear C hw
              go_wp2
              go_ret
              exact ⟨rfl, HI.out, But.refl _ _⟩
set_option maxRecDepth 100000 in
set_option maxHeartbeats 2000000 in
theorem dfree (hI : IsW w g t) (h k d : Int) :
    Calls Tryd.prog 30 #[.pointer (some ⟨g, 0, none⟩), .int .i64 h, .int .i64 k, .int .i64 d] w fun e w' => e = .returned (.int .i64 ((t.freeE h k d : Nat) : Int)) ∧ IsW w' g (t.free h k d) ∧ But (· = g) w w' := by
  have HI : Hid (IsW w g t) := hI
  by_cases q : t.useE h k d = 0
  · obtain ⟨q1, q2, q3⟩ := Rsv.use_ok q
    have C := dhost_ok q1 w
    obtain ⟨m, rfl, h1, h9⟩ := Rsv.host_nat q1
    have hc := hI.key m (by omega)
    have hmz : (m : Int) < 10 := by omega
    have hm0 : (0 : Int) < (m : Int) := by omega
    have q4 : t.key m = k := by have := q3.2; rw [Int.toNat_natCast] at this; exact this
    have d1 : ¬ d < 1 := fun z => q2 (.inl z)
    have d2 : ¬ 4 < d := fun z => q2 (.inr z)
    have b1 : decide (d < 1) = false := decide_eq_false d1
    have b2 : decide (4 < d) = false := decide_eq_false d2
    have k0 : ¬ k = 0 := q3.1
    have k1 : (k == 0) = false := by rw [beq_eq_false_iff_ne]; exact k0
    rw [q4] at hc
    have c9 := hI.c10
    have c10 := hI.c11
    have f9 := hI.frozen 10
    have f10 := hI.frozen 11
    clear q1 q2 q3 q4
    have HP : Hid (IsW ((w.setCell ⟨g, 10, none⟩ (.int .i64 0)).setCell ⟨g, 11, none⟩ (.int .i64 0)) g ⟨t.key, 0, 0⟩) := hI.holds 0 0
    have HB : Hid (But (· = g) w ((w.setCell ⟨g, 10, none⟩ (.int .i64 0)).setCell ⟨g, 11, none⟩ (.int .i64 0))) := but_w2 _ _ _ _ _ _
    clear hI
    by_cases ex : t.host = (m : Int)
    · by_cases ey : t.kind = d
      · have e1 : t.freeE (m : Int) k d = 0 := by unfold Rsv.freeE; rw [if_pos q, if_neg (fun z => z ex), if_neg (fun z => z ey)]
        have e3 : t.free (m : Int) k d = ⟨t.key, 0, 0⟩ := if_pos e1
        rw [e1, e3]
        rw [ex] at c9
        rw [ey] at c10
        clear ex ey e1 e3 q
        go_enter Tryd.func30, Tryd.ntmps30
        go_wp2_with fail
        refine C.mono ?_
        rintro e w1 ⟨rfl, hw⟩
        obtain rfl := hw.symm
        clear C hw
        go_wp2
        go_ret
        exact ⟨rfl, HP.out, HB.out⟩
      · have e1 : t.freeE (m : Int) k d = 3 := by unfold Rsv.freeE; rw [if_pos q, if_neg (fun z => z ex), if_pos ey]
        have e3 : t.free (m : Int) k d = t := by unfold Rsv.free; rw [if_neg (by omega)]
        rw [e1, e3]
        rw [ex] at c9
        have ez : (t.kind == d) = false := by rw [beq_eq_false_iff_ne]; exact ey
        clear ex e1 e3 q HP HB
        generalize t.kind = y at *
        go_enter Tryd.func30, Tryd.ntmps30
        go_wp2_with fail
        refine C.mono ?_
        rintro e w1 ⟨rfl, hw⟩
        obtain rfl := hw.symm
        clear C hw
        go_wp2
        go_ret
        exact ⟨rfl, HI.out, But.refl _ _⟩
    · have e1 : t.freeE (m : Int) k d = 5 := by unfold Rsv.freeE; rw [if_pos q, if_pos ex]
      have e3 : t.free (m : Int) k d = t := by unfold Rsv.free; rw [if_neg (by omega)]
      rw [e1, e3]
      have e6 : (t.host == (m : Int)) = false := by rw [beq_eq_false_iff_ne]; exact ex
      clear e1 e3 q HP HB
      generalize t.kind = y at *
      generalize t.host = x at *
      go_enter Tryd.func30, Tryd.ntmps30
      go_wp2_with fail
      refine C.mono ?_
      rintro e w1 ⟨rfl, hw⟩
      obtain rfl := hw.symm
      clear C hw
      go_wp2
      go_ret
      exact ⟨rfl, HI.out, But.refl _ _⟩
  · have e1 : t.freeE h k d = t.useE h k d := by unfold Rsv.freeE; rw [if_neg q]
    have e2 : t.free h k d = t := by unfold Rsv.free; rw [if_neg (by omega)]
    rw [e1, e2]
    clear e1 e2
    by_cases q1 : Rsv.noH h
    · have e3 : t.useE h k d = 1 := if_pos (.inl q1)
      have C := dhost_no q1 w
      rw [e3]
      clear e3 q1 q hI
      go_enter Tryd.func30, Tryd.ntmps30
      go_wp2_with fail
      refine C.mono ?_
      rintro e w1 ⟨rfl, hw⟩
      obtain rfl := hw.symm
      clear C hw
      go_wp2
      go_ret
      exact ⟨rfl, HI.out, But.refl _ _⟩
    · have C := dhost_ok q1 w
      by_cases d1 : d < 1
      · have e3 : t.useE h k d = 1 := if_pos (.inr (.inl d1))
        rw [e3]
        have b1 : decide (d < 1) = true := decide_eq_true d1
        clear e3 q1 q hI
        go_enter Tryd.func30, Tryd.ntmps30
        go_wp2_with fail
        refine C.mono ?_
        rintro e w1 ⟨rfl, hw⟩
        obtain rfl := hw.symm
        clear C hw
        go_wp2
        go_ret
        exact ⟨rfl, HI.out, But.refl _ _⟩
      · have b1 : decide (d < 1) = false := decide_eq_false d1
        by_cases d2 : 4 < d
        · have e3 : t.useE h k d = 1 := if_pos (.inr (.inr d2))
          rw [e3]
          have b2 : decide (4 < d) = true := decide_eq_true d2
          clear e3 q1 q hI
          go_enter Tryd.func30, Tryd.ntmps30
          go_wp2_with fail
          refine C.mono ?_
          rintro e w1 ⟨rfl, hw⟩
          obtain rfl := hw.symm
          clear C hw
          go_wp2
          go_ret
          exact ⟨rfl, HI.out, But.refl _ _⟩
        · have b2 : decide (4 < d) = false := decide_eq_false d2
          have q5 : ¬ (Rsv.noH h ∨ Rsv.noD d) := fun z => z.elim q1 (fun z => z.elim d1 d2)
          have q6 : ¬ t.mine h k := fun z => q (by unfold Rsv.useE; rw [if_neg q5, if_pos z])
          have e3 : t.useE h k d = 9 := by unfold Rsv.useE; rw [if_neg q5, if_neg q6]
          rw [e3]
          obtain ⟨m, rfl, h1, h9⟩ := Rsv.host_nat q1
          have hc := hI.key m (by omega)
          have hmz : (m : Int) < 10 := by omega
          have hm0 : (0 : Int) < (m : Int) := by omega
          rcases not_mine q6 with k0 | k0
          · subst k0
            clear e3 q1 q q5 q6 hI
            go_enter Tryd.func30, Tryd.ntmps30
            go_wp2_with fail
            refine C.mono ?_
            rintro e w1 ⟨rfl, hw⟩
            obtain rfl := hw.symm
            clear C hw
            go_wp2
            go_ret
            exact ⟨rfl, HI.out, But.refl _ _⟩
          · by_cases k2 : k = 0
            · subst k2
              clear e3 q1 q q5 q6 hI
              go_enter Tryd.func30, Tryd.ntmps30
              go_wp2_with fail
              refine C.mono ?_
              rintro e w1 ⟨rfl, hw⟩
              obtain rfl := hw.symm
              clear C hw
              go_wp2
              go_ret
              exact ⟨rfl, HI.out, But.refl _ _⟩
            · have k3 : (k == 0) = false := by rw [beq_eq_false_iff_ne]; exact k2
              have k4 : (t.key m == k) = false := by rw [beq_eq_false_iff_ne]; exact k0
              clear e3 q1 q q5 q6 hI
              generalize t.key m = km at *
              go_enter Tryd.func30, Tryd.ntmps30
              go_wp2_with fail
              refine C.mono ?_
              rintro e w1 ⟨rfl, hw⟩
              obtain rfl := hw.symm
              clear C hw
              go_wp2
              go_ret
              exact ⟨rfl, HI.out, But.refl _ _⟩
end Go.Proofs.YtfeikmmojilmbaaDoor
