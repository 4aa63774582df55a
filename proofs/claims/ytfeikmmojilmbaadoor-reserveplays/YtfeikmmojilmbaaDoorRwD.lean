/- The document's reserve: the reservation is taken over: walks over the program. -/
import Derived.Test.YtfeikmmojilmbaaDoorRwC
import Derived.Test.YtfeikmmojilmbaaDoorLwA
import Derived.Deep.Cut
import Derived.Deep.CutRange
import Derived.BigCall
import Derived.BigGuard
namespace Go.Proofs.YtfeikmmojilmbaaDoor
open Go.RowKit
variable {w : World} {g : Nat} {t : Rsv}
set_option maxRecDepth 100000 in
set_option maxHeartbeats 2000000 in
theorem dpre (hI : IsW w g t) (h k o : Int) :
    Calls Tryd.prog 31 #[.pointer (some ⟨g, 0, none⟩), .int .i64 h, .int .i64 k, .int .i64 o] w fun e w' => e = .returned (.tuple #[.int .i64 ((t.preN h k o : Nat) : Int), .int .i64 ((t.preE h k o : Nat) : Int)]) ∧ IsW w' g (t.pre h k o) ∧ But (· = g) w w' := by
  have HI : Hid (IsW w g t) := hI
  by_cases q : Rsv.noH h ∨ Rsv.noK o
  · have e1 : t.preE h k o = 1 := if_pos q
    have e2 : t.preN h k o = 0 := by unfold Rsv.preN; rw [if_neg (by omega)]
    have e3 : t.pre h k o = t := by unfold Rsv.pre; rw [if_neg (by omega)]
    rw [e1, e2, e3]
    by_cases q1 : Rsv.noH h
    · have C := dhost_no q1 w
      have C2 := dkey o w
      generalize (!decide (Rsv.noK o)) = bk at *
      clear e1 e2 e3 hI q q1
      go_enter Tryd.func31, Tryd.ntmps31
      go_wp2_with fail
      refine C.mono ?_
      rintro e w1 ⟨rfl, hw⟩
      obtain rfl := hw.symm
      clear C hw
      go_wp2_with fail
      refine C2.mono ?_
      rintro e w1 ⟨rfl, hw⟩
      obtain rfl := hw.symm
      clear C2 hw
      go_wp2
      go_ret2
      exact ⟨rfl, HI.out, But.refl _ _⟩
    · have C := dhost_ok q1 w
      have C2 := dkey_no (q.resolve_left q1) w
      clear e1 e2 e3 hI q q1
      go_enter Tryd.func31, Tryd.ntmps31
      go_wp2_with fail
      refine C.mono ?_
      rintro e w1 ⟨rfl, hw⟩
      obtain rfl := hw.symm
      clear C hw
      go_wp2_with fail
      refine C2.mono ?_
      rintro e w1 ⟨rfl, hw⟩
      obtain rfl := hw.symm
      clear C2 hw
      go_wp2
      go_ret2
      exact ⟨rfl, HI.out, But.refl _ _⟩
  · have q1 : ¬ Rsv.noH h := fun z => q (.inl z)
    have q2 : ¬ Rsv.noK o := fun z => q (.inr z)
    have C := dhost_ok q1 w
    have C2 := dkey_ok q2 w
    obtain ⟨m, rfl, h1, h9⟩ := Rsv.host_nat q1
    have hc := hI.key m (by omega)
    have hmz : (m : Int) < 10 := by omega
    have hm0 : (0 : Int) < (m : Int) := by omega
    by_cases em : t.mine (m : Int) k
    · have k0 : ¬ k = 0 := em.1
      have k1 : (k == 0) = false := by rw [beq_eq_false_iff_ne]; exact k0
      have q4 : t.key m = k := by have := em.2; rw [Int.toNat_natCast] at this; exact this
      rw [q4] at hc
      have hI2 := hI.old (al_below w (.cells #[.int .i64 t.host, .int .i64 t.kind] 56))
      have HL : Hid (Lw (w.alloc (.cells #[.int .i64 t.host, .int .i64 t.kind] 56)) w.heap.size t.host t.kind) := Lw.new w t.host t.kind
      have HI2 : Hid (IsW (w.alloc (.cells #[.int .i64 t.host, .int .i64 t.kind] 56)) g t) := hI2
      have HB : Hid (But (· = g) w (w.alloc (.cells #[.int .i64 t.host, .int .i64 t.kind] 56))) := (But.refl _ _).alloc _
      have HNe : Hid (¬ (w.heap.size = g)) := fun z => by have := hI.lt; omega
      have c9 := hI.c10
      have c10 := hI.c11
      have e0 : t.preE (m : Int) k o = if t.many o 9 = 0 then 5 else 0 := by unfold Rsv.preE; rw [if_neg q, if_pos em]
      have HE0 : Hid (t.preE (m : Int) k o = if t.many o 9 = 0 then 5 else 0) := e0
      clear hI2 q q1 q2 em q4 hI e0
      go_enter Tryd.func31, Tryd.ntmps31
      go_wp2_with fail
      refine C.mono ?_
      rintro e w1 ⟨rfl, hw⟩
      obtain rfl := hw.symm
      clear C hw
      go_wp2_with fail
      refine C2.mono ?_
      rintro e w1 ⟨rfl, hw⟩
      obtain rfl := hw.symm
      clear C2 hw
      go_upto_region 9 with fail
      generalize w.alloc (Obj.cells #[Value.int IntKind.i64 t.host, Value.int IntKind.i64 t.kind] 56) = wd at *
      generalize w.heap.size = gl at *
      clear hc c9 c10
      go_wp2
      go_loopw [12, 14] (fun c hh wr => ∃ i n : Nat, 1 ≤ i ∧ i ≤ 10 ∧ hh = .int .i64 (i : Int) ∧ c = .int .i64 (n : Int) ∧ n ≤ 9 ∧ Hid (n = t.many o (i - 1)) ∧ Hid (IsW wr g (t.outs o (i - 1))) ∧ Hid (But (· = g) w wr) ∧ Hid (Lw wr gl t.host t.kind)) (fun _ hh _ => 10 - (intOf hh).toNat)
      case atStart => exact ⟨1, 0, by omega, by omega, rfl, rfl, by omega, rfl, HI2.out, HB.out, HL.out⟩
      case round =>
        obtain ⟨i, n, i1, i10, rfl, rfl, hn9, HN, HI3, HB3, HL3⟩ := hrel
        have hnz : (n : Int) ≤ 9 := by omega
        by_cases hlt : i ≤ 9
        · have hiz : (i : Int) ≤ 9 := by omega
          have hi1 : (1 : Int) ≤ (i : Int) := by omega
          have hc := HI3.out.key i (by omega)
          have hk : (t.outs o (i - 1)).key i = t.key i := Rsv.outs_behind t o (i - 1) i (by omega)
          rw [hk] at hc
          by_cases e : t.key i = o
          · have D := dout HI3.out i (by omega)
            have Y := Rsv.outs_yes (t := t) (o := o) (i := i - 1) (by rw [show i - 1 + 1 = i by omega]; exact e)
            rw [show i - 1 + 1 = i by omega] at Y
            have HY : Hid (t.outs o i = (t.outs o (i - 1)).out i ∧ t.many o i = n + 1) := ⟨Y.1, by rw [Y.2, HN.out]⟩
            have HLe : Hid (t.many o i ≤ i) := Rsv.many_le t o i
            rw [e] at hc
            clear Y e hk
            go_wp2_with fail
            refine D.mono ?_
            rintro e w1 ⟨rfl, h3, h4⟩
            have H3 : Hid (IsW w1 g (t.outs o i)) := by
              (show IsW _ _ _)
              rw [HY.out.1]
              exact h3
            have H4 : Hid (But (· = g) w w1) := HB3.out.trans h4 (Grows.refl _ _)
            have H5 : Hid (Lw w1 gl t.host t.kind) := HL3.out.but h4 HNe.out
            clear D h3 h4 HB3 HI3 HL3 hc
            go_wp2
            go_roundw
            case rel => exact ⟨i + 1, n + 1, by omega, by omega, by go_num, by go_num, by have := HLe.out; have := HY.out.2; omega, by (show n + 1 = t.many o (i + 1 - 1)); rw [Nat.add_sub_cancel]; exact HY.out.2.symm, by (show IsW _ g (t.outs o (i + 1 - 1))); rw [Nat.add_sub_cancel]; exact H3.out, H4, H5⟩
            case measure => simp [intOf]; omega
          · have Y := Rsv.outs_no (t := t) (o := o) (i := i - 1) (by rw [show i - 1 + 1 = i by omega]; exact e)
            rw [show i - 1 + 1 = i by omega] at Y
            have HY : Hid (t.outs o i = t.outs o (i - 1) ∧ t.many o i = n) := ⟨Y.1, by rw [Y.2, HN.out]⟩
            have en : (t.key i == o) = false := by rw [beq_eq_false_iff_ne]; exact e
            clear Y hk
            generalize t.key i = ki at *
            go_wp2
            go_roundw
            case rel => exact ⟨i + 1, n, by omega, by omega, by go_num, rfl, hn9, by (show n = t.many o (i + 1 - 1)); rw [Nat.add_sub_cancel]; exact HY.out.2.symm, by (show IsW _ g (t.outs o (i + 1 - 1))); rw [Nat.add_sub_cancel, HY.out.1]; exact HI3.out, HB3, HL3⟩
            case measure => simp [intOf]; omega
        · have hiz : ¬ (i : Int) ≤ 9 := by omega
          have HF : Hid (n = t.many o 9 ∧ IsW wr g (t.outs o 9)) := by
            have e : i - 1 = 9 := by omega
            have a := HN.out
            have b := HI3.out
            rw [e] at a b
            exact ⟨a, b⟩
          clear HN HI3 HI2 HB HL HI
          by_cases n0 : n = 0
          · have HG : Hid (t.preE (m : Int) k o = 5 ∧ t.preN (m : Int) k o = 0 ∧ t.pre (m : Int) k o = t ∧ IsW wr g t) := by
              have z := HF.out.1
              rw [n0] at z
              have e1 : t.preE (m : Int) k o = 5 := by rw [HE0.out, if_pos z.symm]
              refine ⟨e1, by unfold Rsv.preN; rw [if_neg (by omega)], by unfold Rsv.pre; rw [if_neg (by omega)], ?_⟩
              have b := HF.out.2
              rw [Rsv.outs_none t o 9 z.symm] at b
              exact b
            subst n0
            clear HF HE0
            go_wp2
            go_ret2
            exact ⟨by rw [HG.out.1, HG.out.2.1]; rfl, by rw [HG.out.2.2.1]; exact HG.out.2.2.2, HB3.out⟩
          · have nz : ((n : Int) == 0) = false := by rw [beq_eq_false_iff_ne]; omega
            have nz2 : ¬ (n : Int) = 0 := by omega
            obtain ⟨u, hu⟩ : ∃ u, t.outs o 9 = u := ⟨_, rfl⟩
            have HG : Hid (t.preE (m : Int) k o = 0 ∧ t.preN (m : Int) k o = n ∧ t.pre (m : Int) k o = t.take u (m : Int)) := by
              have z := HF.out.1
              have e1 : t.preE (m : Int) k o = 0 := by rw [HE0.out, if_neg (by omega)]
              exact ⟨e1, by unfold Rsv.preN; rw [if_pos e1, z], by unfold Rsv.pre; rw [if_pos e1, hu]⟩
            have hI4 := HF.out.2
            rw [hu] at hI4
            have HI4 : Hid (IsW wr g u) := hI4
            have c9 := hI4.c10
            have c10 := hI4.c11
            have f9 := hI4.frozen 10
            have f10 := hI4.frozen 11
            have hc := hI4.key m (by omega)
            have l0 := HL3.out.c0
            have l1 := HL3.out.c1
            have HP : Hid (IsW ((wr.setCell ⟨g, 10, none⟩ (.int .i64 (m : Int))).setCell ⟨g, 11, none⟩ (.int .i64 t.kind)) g ⟨u.key, (m : Int), t.kind⟩) := hI4.holds m t.kind
            have HB4 : Hid (But (· = g) w ((wr.setCell ⟨g, 10, none⟩ (.int .i64 (m : Int))).setCell ⟨g, 11, none⟩ (.int .i64 t.kind))) := HB3.out.trans (but_w2 _ _ _ _ _ _) (Grows.refl _ _)
            have HTk : Hid (t.take u (m : Int) = if t.host ≠ 0 ∧ u.host = 0 ∧ u.key m ≠ 0 then ⟨u.key, (m : Int), t.kind⟩ else u) := by
              (show _ = _)
              unfold Rsv.take
              rw [Int.toNat_natCast]
            clear hu HF HE0 hI4 HL3 n0
            by_cases x0 : t.host = 0
            · have HT : Hid (t.take u (m : Int) = u) := HTk.out.trans (if_neg (fun z => z.1 x0))
              rw [x0] at l0
              clear HTk HP HB4 x0
              generalize t.kind = y at *
              generalize u.host = uh at *
              generalize u.kind = uk at *
              go_wp2
              go_ret2
              exact ⟨by rw [HG.out.1, HG.out.2.1]; rfl, by rw [HG.out.2.2, HT.out]; exact HI4.out, HB3.out⟩
            · have x1 : (t.host == 0) = false := by rw [beq_eq_false_iff_ne]; exact x0
              have x2 : (t.host != 0) = true := by rw [bne, x1]; rfl
              by_cases y0 : u.host = 0
              · rw [y0] at c9
                by_cases z0 : u.key m = 0
                · have HT : Hid (t.take u (m : Int) = u) := HTk.out.trans (if_neg (fun z => z.2.2 z0))
                  rw [z0] at hc
                  clear HTk HP HB4 y0 z0
                  generalize t.kind = y at *
                  generalize t.host = x at *
                  generalize u.kind = uk at *
                  go_wp2
                  go_ret2
                  exact ⟨by rw [HG.out.1, HG.out.2.1]; rfl, by rw [HG.out.2.2, HT.out]; exact HI4.out, HB3.out⟩
                · have z1 : (u.key m == 0) = false := by rw [beq_eq_false_iff_ne]; exact z0
                  have z2 : (u.key m != 0) = true := by rw [bne, z1]; rfl
                  have HT : Hid (t.take u (m : Int) = ⟨u.key, (m : Int), t.kind⟩) := HTk.out.trans (if_pos ⟨x0, y0, z0⟩)
                  clear HTk y0
                  generalize t.kind = y at *
                  generalize t.host = x at *
                  generalize u.kind = uk at *
                  generalize u.key m = um at *
                  go_wp2
                  go_ret2
                  exact ⟨by rw [HG.out.1, HG.out.2.1]; rfl, by rw [HG.out.2.2, HT.out]; exact HP.out, HB4.out⟩
              · have HT : Hid (t.take u (m : Int) = u) := HTk.out.trans (if_neg (fun z => y0 z.2.1))
                have y1 : (u.host == 0) = false := by rw [beq_eq_false_iff_ne]; exact y0
                clear HTk HP HB4
                generalize t.kind = y at *
                generalize t.host = x at *
                generalize u.host = uh at *
                generalize u.kind = uk at *
                go_wp2
                go_ret2
                exact ⟨by rw [HG.out.1, HG.out.2.1]; rfl, by rw [HG.out.2.2, HT.out]; exact HI4.out, HB3.out⟩
    · have e1 : t.preE (m : Int) k o = 9 := by unfold Rsv.preE; rw [if_neg q, if_neg em]
      have e2 : t.preN (m : Int) k o = 0 := by unfold Rsv.preN; rw [if_neg (by omega)]
      have e3 : t.pre (m : Int) k o = t := by unfold Rsv.pre; rw [if_neg (by omega)]
      rw [e1, e2, e3]
      by_cases k2 : k = 0
      · subst k2
        clear e1 e2 e3 hI q q1 q2 em
        go_enter Tryd.func31, Tryd.ntmps31
        go_wp2_with fail
        refine C.mono ?_
        rintro e w1 ⟨rfl, hw⟩
        obtain rfl := hw.symm
        clear C hw
        go_wp2_with fail
        refine C2.mono ?_
        rintro e w1 ⟨rfl, hw⟩
        obtain rfl := hw.symm
        clear C2 hw
        go_wp2
        go_ret2
        exact ⟨rfl, HI.out, But.refl _ _⟩
      · have k3 : (k == 0) = false := by rw [beq_eq_false_iff_ne]; exact k2
        have k4 : (t.key m == k) = false := by
          rw [beq_eq_false_iff_ne]
          exact fun z => (not_mine em).elim k2 (fun r => r z)
        clear e1 e2 e3 hI q q1 q2 em
        generalize t.key m = km at *
        go_enter Tryd.func31, Tryd.ntmps31
        go_wp2_with fail
        refine C.mono ?_
        rintro e w1 ⟨rfl, hw⟩
        obtain rfl := hw.symm
        clear C hw
        go_wp2_with fail
        refine C2.mono ?_
        rintro e w1 ⟨rfl, hw⟩
        obtain rfl := hw.symm
        clear C2 hw
        go_wp2
        go_ret2
        exact ⟨rfl, HI.out, But.refl _ _⟩
end Go.Proofs.YtfeikmmojilmbaaDoor
