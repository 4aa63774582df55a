/- Hosts leave all together; the reservation is taken over; who may: walks over the program. -/
import Derived.Test.YtfeikmmojilmbaaDoorRvE
namespace Go.Proofs.YtfeikmmojilmbaaDoor
open Go.RowKit
variable {w : World} {p : Nat} {t : Rsv}
set_option maxRecDepth 100000 in
set_option maxHeartbeats 1000000 in
theorem vall (hI : IsV w p t) (o : Int) (ho : o ≠ 0) :
    Calls Tryd.prog 62 #[.pointer (some ⟨p, 0, none⟩), .int .i64 o] w fun e w' => e = .returned (.int .i64 ((t.many o 9 : Nat) : Int)) ∧ IsV w' p (t.outs o 9) ∧ But (· = p) w w' := by
  have HI : Hid (IsV w p t) := hI
  have HZ : Hid (o ≠ 0) := ho
  clear hI ho
  go_enter Tryd.func62, Tryd.ntmps62
  go_wp2
  go_loopw [5, 6] (fun c hh wr => ∃ m n : Nat, 1 ≤ m ∧ m ≤ 10 ∧ hh = .int .i64 (m : Int) ∧ c = .int .i64 (n : Int) ∧ n ≤ 9 ∧ Hid (n = t.many o (m - 1)) ∧ Hid (IsV wr p (t.outs o (m - 1))) ∧ Hid (But (· = p) w wr)) (fun _ hh _ => 10 - (intOf hh).toNat)
  case atStart => exact ⟨1, 0, by omega, by omega, rfl, rfl, by omega, rfl, HI.out, But.refl _ _⟩
  case round =>
    obtain ⟨m, n, h1, h10, rfl, rfl, hn9, HN, HI2, HB⟩ := hrel
    have hnz : (n : Int) ≤ 9 := by omega
    by_cases hlt : m ≤ 9
    · have hmz : (m : Int) ≤ 9 := by omega
      have hm1 : (1 : Int) ≤ (m : Int) := by omega
      have q := Rsv.noH_nat h1 hlt
      have C := vowns HI2.out (m : Int) o q
      have hk : (t.outs o (m - 1)).key m = t.key m := Rsv.outs_behind t o (m - 1) m (by omega)
      have em : decide ((t.outs o (m - 1)).mine (m : Int) o) = decide (t.key m = o) := decide_eq_decide.2 (by unfold Rsv.mine; rw [Int.toNat_natCast, hk]; exact ⟨fun z => z.2, fun z => ⟨HZ.out, z⟩⟩)
      rw [em] at C
      by_cases e : t.key m = o
      · rw [decide_eq_true e] at C
        have D := vdrop HI2.out (m : Int) q
        rw [Int.toNat_natCast] at D
        have Y := Rsv.outs_yes (t := t) (o := o) (i := m - 1) (by rw [show m - 1 + 1 = m by omega]; exact e)
        rw [show m - 1 + 1 = m by omega] at Y
        have HY : Hid (t.outs o m = (t.outs o (m - 1)).out m ∧ t.many o m = n + 1) := ⟨Y.1, by rw [Y.2, HN.out]⟩
        have HL : Hid (t.many o m ≤ m) := Rsv.many_le t o m
        clear Y e em hk q
        go_wp2_with fail
        refine C.mono ?_
        rintro e w1 ⟨rfl, hw⟩
        obtain rfl := hw.symm
        clear C hw
        go_wp2_with fail
        refine D.mono ?_
        rintro e w1 ⟨rfl, h3, h4⟩
        have H3 : Hid (IsV w1 p (t.outs o m)) := by
          (show IsV _ _ _)
          rw [HY.out.1]
          exact h3
        have H4 : Hid (But (· = p) w w1) := HB.out.trans h4 (Grows.refl _ _)
        clear D h3 h4 HB HI2
        go_wp2
        go_roundw
        case rel => exact ⟨m + 1, n + 1, by omega, by omega, by go_num, by go_num, by have := HL.out; have := HY.out.2; omega, by (show n + 1 = t.many o (m + 1 - 1)); rw [Nat.add_sub_cancel]; exact HY.out.2.symm, by (show IsV _ p (t.outs o (m + 1 - 1))); rw [Nat.add_sub_cancel]; exact H3.out, H4⟩
        case measure => simp [intOf]; omega
      · rw [decide_eq_false e] at C
        have Y := Rsv.outs_no (t := t) (o := o) (i := m - 1) (by rw [show m - 1 + 1 = m by omega]; exact e)
        rw [show m - 1 + 1 = m by omega] at Y
        have HY : Hid (t.outs o m = t.outs o (m - 1) ∧ t.many o m = n) := ⟨Y.1, by rw [Y.2, HN.out]⟩
        clear Y e em hk q
        go_wp2_with fail
        refine C.mono ?_
        rintro e w1 ⟨rfl, hw⟩
        obtain rfl := hw.symm
        clear C hw
        go_wp2
        go_roundw
        case rel => exact ⟨m + 1, n, by omega, by omega, by go_num, rfl, hn9, by (show n = t.many o (m + 1 - 1)); rw [Nat.add_sub_cancel]; exact HY.out.2.symm, by (show IsV _ p (t.outs o (m + 1 - 1))); rw [Nat.add_sub_cancel, HY.out.1]; exact HI2.out, HB⟩
        case measure => simp [intOf]; omega
    · have hmz : ¬ (m : Int) ≤ 9 := by omega
      have HF : Hid (n = t.many o 9 ∧ IsV wr p (t.outs o 9)) := by
        have e : m - 1 = 9 := by omega
        have a := HN.out
        have b := HI2.out
        rw [e] at a b
        exact ⟨a, b⟩
      clear HN HI2
      go_wp2
      go_ret
      exact ⟨by rw [HF.out.1]; rfl, HF.out.2, HB.out⟩
set_option maxRecDepth 100000 in
set_option maxHeartbeats 2000000 in
theorem vpre (hI : IsV w p t) (hok : t.ok) (h k o : Int) :
    Calls Tryd.prog 32 #[.pointer (some ⟨p, 0, none⟩), .int .i64 h, .int .i64 k, .int .i64 o] w fun e w' => e = .returned (.tuple #[.int .i64 ((t.preN h k o : Nat) : Int), errV (t.preE h k o)]) ∧ IsV w' p (t.pre h k o) ∧ But (· = p) w w' := by
  have HI : Hid (IsV w p t) := hI
  by_cases q : Rsv.noH h ∨ Rsv.noK o
  · have e1 : t.preE h k o = 1 := if_pos q
    have e2 : t.preN h k o = 0 := by unfold Rsv.preN; rw [if_neg (by omega)]
    have e3 : t.pre h k o = t := by unfold Rsv.pre; rw [if_neg (by omega)]
    rw [e1, e2, e3, errV, if_neg (by omega)]
    by_cases q1 : Rsv.noH h
    · have C := ishost_no q1 w
      clear e1 e2 e3 hI q q1 hok
      go_enter Tryd.func32, Tryd.ntmps32
      go_wp2_with fail
      refine C.mono ?_
      rintro e w1 ⟨rfl, hw⟩
      obtain rfl := hw.symm
      clear C hw
      go_wp2
      go_ret2
      exact ⟨rfl, HI.out, But.refl _ _⟩
    · have C := ishost_ok q1 w
      have C2 := iskey_no (q.resolve_left q1) w
      clear e1 e2 e3 hI q q1 hok
      go_enter Tryd.func32, Tryd.ntmps32
      go_wp2_with fail
      refine C.mono ?_
      rintro e w1 ⟨rfl, hw⟩
      obtain rfl := hw.symm
      clear C hw
      go_wp2_with fail
      refine C2.mono ?_
      rintro e w1 ⟨rfl, hw⟩
      obtain rfl := hw.symm
      clear C2 hw
      go_wp2
      go_ret2
      exact ⟨rfl, HI.out, But.refl _ _⟩
  · have q1 : ¬ Rsv.noH h := fun z => q (.inl z)
    have q2 : ¬ Rsv.noK o := fun z => q (.inr z)
    have C := ishost_ok q1 w
    have C2 := iskey_ok q2 w
    have C3 := vowns hI h k q1
    by_cases em : t.mine h k
    · rw [decide_eq_true em] at C3
      have hI2 := hI.old (al_below w (.cells #[.int .i64 t.host, .int .i64 t.kind] 56))
      have hL := Lw.new w t.host t.kind
      have HL : Hid (Lw (w.alloc (.cells #[.int .i64 t.host, .int .i64 t.kind] 56)) w.heap.size t.host t.kind) := hL
      have HB : Hid (But (· = p) w (w.alloc (.cells #[.int .i64 t.host, .int .i64 t.kind] 56))) := (But.refl _ _).alloc _
      have HNe : Hid (¬ (w.heap.size = p)) := fun z => by have := hI.lt; omega
      have c9 := hI.c9
      have c10 := hI.c10
      have D := vall hI2 o (fun z => by unfold Rsv.noK at q2; omega)
      have e0 : t.preE h k o = if t.many o 9 = 0 then 5 else 0 := by unfold Rsv.preE; rw [if_neg q, if_pos em]
      have hml := Rsv.many_le t o 9
      clear hL hI2
      by_cases en : t.many o 9 = 0
      · have e1 : t.preE h k o = 5 := by rw [e0, if_pos en]
        have e2 : t.preN h k o = 0 := by unfold Rsv.preN; rw [if_neg (by omega)]
        have e3 : t.pre h k o = t := by unfold Rsv.pre; rw [if_neg (by omega)]
        have HO : Hid (t.outs o 9 = t) := Rsv.outs_none t o 9 en
        rw [en] at D
        rw [e1, e2, e3, errV, if_neg (by omega)]
        clear e0 e1 e2 e3 hI q q1 q2 hok em en hml
        go_enter Tryd.func32, Tryd.ntmps32
        go_wp2_with fail
        refine C.mono ?_
        rintro e w1 ⟨rfl, hw⟩
        obtain rfl := hw.symm
        clear C hw
        go_wp2_with fail
        refine C2.mono ?_
        rintro e w1 ⟨rfl, hw⟩
        obtain rfl := hw.symm
        clear C2 hw
        go_wp2_with fail
        refine C3.mono ?_
        rintro e w1 ⟨rfl, hw⟩
        obtain rfl := hw.symm
        clear C3 hw
        go_upto_region 6 with fail
        generalize w.alloc (Obj.cells #[Value.int IntKind.i64 t.host, Value.int IntKind.i64 t.kind] 56) = wd at *
        go_wp2_with fail
        refine D.mono ?_
        rintro e w1 ⟨rfl, h3, h4⟩
        have hL3 := HL.out.but h4 HNe.out
        have H3 : Hid (IsV w1 p (t.outs o 9)) := h3
        have HB3 : Hid (But (· = p) w w1) := HB.out.trans h4 (Grows.refl _ _)
        clear D h3 h4 hL3 HB HL HNe c9 c10
        go_wp2
        go_ret2
        exact ⟨rfl, by have := H3.out; rw [HO.out] at this; exact this, HB3.out⟩
      · have e1 : t.preE h k o = 0 := by rw [e0, if_neg en]
        have e2 : t.preN h k o = t.many o 9 := by unfold Rsv.preN; rw [if_pos e1]
        have e3 : t.pre h k o = t.take (t.outs o 9) h := by unfold Rsv.pre; rw [if_pos e1]
        have HX : Hid (((t.outs o 9).host ≠ t.host ∨ (t.outs o 9).kind ≠ t.kind) ↔ (t.host ≠ 0 ∧ (t.outs o 9).host = 0)) := Rsv.outs_other hok o 9
        have HQ1 : Hid (¬ Rsv.noH h) := q1
        rw [e1, e2, e3, errV, if_pos rfl]
        have hnz : ((t.many o 9 : Nat) : Int) ≠ 0 := by omega
        have hn9 : ((t.many o 9 : Nat) : Int) ≤ 9 := by omega
        clear e0 e1 e2 e3 hI q q1 q2 hok em en hml
        generalize t.many o 9 = nm at *
        have hne : ((nm : Int) == 0) = false := by rw [beq_eq_false_iff_ne]; exact hnz
        go_enter Tryd.func32, Tryd.ntmps32
        go_wp2_with fail
        refine C.mono ?_
        rintro e w1 ⟨rfl, hw⟩
        obtain rfl := hw.symm
        clear C hw
        go_wp2_with fail
        refine C2.mono ?_
        rintro e w1 ⟨rfl, hw⟩
        obtain rfl := hw.symm
        clear C2 hw
        go_wp2_with fail
        refine C3.mono ?_
        rintro e w1 ⟨rfl, hw⟩
        obtain rfl := hw.symm
        clear C3 hw
        go_upto_region 6 with fail
        generalize w.alloc (Obj.cells #[Value.int IntKind.i64 t.host, Value.int IntKind.i64 t.kind] 56) = wd at *
        go_wp2_with fail
        refine D.mono ?_
        rintro e w1 ⟨rfl, h3, h4⟩
        have hL3 := HL.out.but h4 HNe.out
        have H3 : Hid (IsV w1 p (t.outs o 9)) := h3
        have HB3 : Hid (But (· = p) w w1) := HB.out.trans h4 (Grows.refl _ _)
        clear D h4 HB HL HNe c9 c10
        generalize w.heap.size = g at *
        have c9 := h3.c9
        have c10 := h3.c10
        have c0 := hL3.c0
        have c1 := hL3.c1
        have HL3 : Hid (Lw w1 g t.host t.kind) := hL3
        have HM : Hid (∀ n, Calls Tryd.prog 56 #[.pointer (some ⟨p, 0, none⟩), .int .i64 h] (w1.drewN n) fun e w' => e = .returned (.bool (decide ((t.outs o 9).key h.toNat ≠ 0))) ∧ w' = w1.drewN n) := fun n => vmember (h3.old (below_drewN (Below.refl w1.heap.size w1) n)) h HQ1.out
        clear h3 hL3 HI
        obtain ⟨u, hu⟩ : ∃ u, t.outs o 9 = u := ⟨_, rfl⟩
        have HU : Hid (t.outs o 9 = u) := hu
        rw [hu] at c9 c10 H3 HM HX
        clear hu
        by_cases ex : t.host ≠ 0 ∧ u.host = 0
        · have ne : ¬ (0 : Int) = t.host := fun z => ex.1 z.symm
          rw [ex.2] at c9
          by_cases eh : u.key h.toNat = 0
          · have HT : Hid (t.take u h = u) := if_neg (fun z => z.2.2 eh)
            have M := HM.out
            rw [decide_eq_false (fun z => z eh)] at M
            clear HM eh ex HX
            generalize t.host = x at *
            generalize t.kind = y at *
            generalize u.kind = z at *
            go_upto_region 9 with fail
            go_quiet ((go_at_call 56; exact Calls.quiet_of_same (M _)))
            go_wp2
            go_ret2
            exact ⟨rfl, by rw [HU.out, HT.out]; exact H3.out.old (below_drewN (Below.refl _ _) nq), HB3.out.drewN nq⟩
          · have HT : Hid (t.take u h = ⟨u.key, h, t.kind⟩) := if_pos ⟨ex.1, ex.2, eh⟩
            have M := HM.out
            rw [decide_eq_true eh] at M
            clear HM eh ex HX
            generalize t.host = x at *
            generalize t.kind = y at *
            generalize u.kind = z at *
            go_upto_region 9 with fail
            go_quiet ((go_at_call 56; exact Calls.quiet_of_same (M _)))
            clear M c0 c1 c9 c10
            have hI4 := H3.out.old (below_drewN (Below.refl w1.heap.size w1) nq)
            have hL4 := HL3.out.old (below_drewN (Below.refl w1.heap.size w1) nq)
            have HB4 : Hid (But (· = p) w (w1.drewN nq)) := HB3.out.drewN nq
            generalize w1.drewN nq = we at *
            have c9 := hI4.c9
            have c10 := hI4.c10
            have f9 := hI4.frozen 9
            have f10 := hI4.frozen 10
            have c0 := hL4.c0
            have c1 := hL4.c1
            have HP : Hid (IsV ((we.setCell ⟨p, 9, none⟩ (.int .i64 h)).setCell ⟨p, 10, none⟩ (.int .i64 y)) p ⟨u.key, h, y⟩) := hI4.holds h y
            have HB5 : Hid (But (· = p) w ((we.setCell ⟨p, 9, none⟩ (.int .i64 h)).setCell ⟨p, 10, none⟩ (.int .i64 y))) := HB4.out.trans (but_cells2 _ _ _ _ _ _) (Grows.refl _ _)
            clear hI4 hL4 HB4 HB3 H3 HL3
            go_wp2
            go_ret2
            exact ⟨rfl, by rw [HU.out, HT.out]; exact HP.out, HB5.out⟩
        · have eq1 : ¬ (u.host ≠ t.host ∨ u.kind ≠ t.kind) := fun z => ex (HX.out.1 z)
          have ea : u.host = t.host := Decidable.byContradiction (fun z => eq1 (.inl z))
          have eb : u.kind = t.kind := Decidable.byContradiction (fun z => eq1 (.inr z))
          have HT : Hid (t.take u h = u) := if_neg (fun z => ex ⟨z.1, z.2.1⟩)
          rw [ea] at c9
          rw [eb] at c10
          clear HM ex HX eq1 ea eb
          generalize t.host = x at *
          generalize t.kind = y at *
          go_upto_region 9 with fail
          go_quiet (fail)
          go_wp2
          go_ret2
          exact ⟨rfl, by rw [HU.out, HT.out]; exact H3.out.old (below_drewN (Below.refl _ _) nq), HB3.out.drewN nq⟩
    · rw [decide_eq_false em] at C3
      have e1 : t.preE h k o = 9 := by unfold Rsv.preE; rw [if_neg q, if_neg em]
      have e2 : t.preN h k o = 0 := by unfold Rsv.preN; rw [if_neg (by omega)]
      have e3 : t.pre h k o = t := by unfold Rsv.pre; rw [if_neg (by omega)]
      rw [e1, e2, e3, errV, if_neg (by omega)]
      clear e1 e2 e3 hI q q1 q2 hok em
      go_enter Tryd.func32, Tryd.ntmps32
      go_wp2_with fail
      refine C.mono ?_
      rintro e w1 ⟨rfl, hw⟩
      obtain rfl := hw.symm
      clear C hw
      go_wp2_with fail
      refine C2.mono ?_
      rintro e w1 ⟨rfl, hw⟩
      obtain rfl := hw.symm
      clear C2 hw
      go_wp2_with fail
      refine C3.mono ?_
      rintro e w1 ⟨rfl, hw⟩
      obtain rfl := hw.symm
      clear C3 hw
      go_wp2
      go_ret2
      exact ⟨rfl, HI.out, But.refl _ _⟩
end Go.Proofs.YtfeikmmojilmbaaDoor
