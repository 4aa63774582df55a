/- Hosts, keys, kinds; a host is registered, leaves: walks over the program. -/
import Derived.Test.YtfeikmmojilmbaaDoorRvB
namespace Go.Proofs.YtfeikmmojilmbaaDoor
open Go.RowKit
theorem ishost (c : Int) (w : World) : Calls Tryd.prog 52 #[.int .i64 c] w fun e w' => e = .returned (.bool (!decide (Rsv.noH c))) ∧ w' = w := by
  by_cases h1 : c < 1
  · rw [decide_eq_true (show Rsv.noH c from .inl h1)]
    go_enter Tryd.func52, Tryd.ntmps52
    go_wp2
    go_ret
    exact ⟨rfl, rfl⟩
  · by_cases h2 : 9 < c
    · rw [decide_eq_true (show Rsv.noH c from .inr h2)]
      go_enter Tryd.func52, Tryd.ntmps52
      go_wp2
      go_ret
      exact ⟨by simp; omega, rfl⟩
    · rw [decide_eq_false (show ¬ Rsv.noH c from fun h => by unfold Rsv.noH at h; omega)]
      go_enter Tryd.func52, Tryd.ntmps52
      go_wp2
      go_ret
      exact ⟨rfl, rfl⟩
theorem ishost_no {c : Int} (h : Rsv.noH c) (w : World) : Calls Tryd.prog 52 #[.int .i64 c] w fun e w' => e = .returned (.bool false) ∧ w' = w := by
  have := ishost c w
  rw [decide_eq_true h] at this
  exact this
theorem ishost_ok {c : Int} (h : ¬ Rsv.noH c) (w : World) : Calls Tryd.prog 52 #[.int .i64 c] w fun e w' => e = .returned (.bool true) ∧ w' = w := by
  have := ishost c w
  rw [decide_eq_false h] at this
  exact this
theorem iskey (c : Int) (w : World) : Calls Tryd.prog 53 #[.int .i64 c] w fun e w' => e = .returned (.bool (!decide (Rsv.noK c))) ∧ w' = w := by
  by_cases h1 : c < 1
  · rw [decide_eq_true (show Rsv.noK c from .inl h1)]
    go_enter Tryd.func53, Tryd.ntmps53
    go_wp2
    go_ret
    exact ⟨rfl, rfl⟩
  · by_cases h2 : 1000000 < c
    · rw [decide_eq_true (show Rsv.noK c from .inr h2)]
      go_enter Tryd.func53, Tryd.ntmps53
      go_wp2
      go_ret
      exact ⟨by simp; omega, rfl⟩
    · rw [decide_eq_false (show ¬ Rsv.noK c from fun h => by unfold Rsv.noK at h; omega)]
      go_enter Tryd.func53, Tryd.ntmps53
      go_wp2
      go_ret
      exact ⟨rfl, rfl⟩
theorem iskey_no {c : Int} (h : Rsv.noK c) (w : World) : Calls Tryd.prog 53 #[.int .i64 c] w fun e w' => e = .returned (.bool false) ∧ w' = w := by
  have := iskey c w
  rw [decide_eq_true h] at this
  exact this
theorem iskey_ok {c : Int} (h : ¬ Rsv.noK c) (w : World) : Calls Tryd.prog 53 #[.int .i64 c] w fun e w' => e = .returned (.bool true) ∧ w' = w := by
  have := iskey c w
  rw [decide_eq_false h] at this
  exact this
theorem iskind (c : Int) (w : World) : Calls Tryd.prog 73 #[.int .i64 c] w fun e w' => e = .returned (.bool (!decide (Rsv.noD c))) ∧ w' = w := by
  by_cases h1 : c < 1
  · rw [decide_eq_true (show Rsv.noD c from .inl h1)]
    go_enter Tryd.func73, Tryd.ntmps73
    go_wp2
    go_ret
    exact ⟨rfl, rfl⟩
  · by_cases h2 : 4 < c
    · rw [decide_eq_true (show Rsv.noD c from .inr h2)]
      go_enter Tryd.func73, Tryd.ntmps73
      go_wp2
      go_ret
      exact ⟨by simp; omega, rfl⟩
    · rw [decide_eq_false (show ¬ Rsv.noD c from fun h => by unfold Rsv.noD at h; omega)]
      go_enter Tryd.func73, Tryd.ntmps73
      go_wp2
      go_ret
      exact ⟨rfl, rfl⟩
theorem iskind_no {c : Int} (h : Rsv.noD c) (w : World) : Calls Tryd.prog 73 #[.int .i64 c] w fun e w' => e = .returned (.bool false) ∧ w' = w := by
  have := iskind c w
  rw [decide_eq_true h] at this
  exact this
theorem iskind_ok {c : Int} (h : ¬ Rsv.noD c) (w : World) : Calls Tryd.prog 73 #[.int .i64 c] w fun e w' => e = .returned (.bool true) ∧ w' = w := by
  have := iskind c w
  rw [decide_eq_false h] at this
  exact this
set_option maxRecDepth 100000 in
set_option maxHeartbeats 1000000 in
theorem vreg {w : World} {p : Nat} {t : Rsv} (hI : IsV w p t) (h k : Int) :
    Calls Tryd.prog 23 #[.pointer (some ⟨p, 0, none⟩), .int .i64 h, .int .i64 k] w fun e w' => e = .returned (errV (Rsv.regE h k)) ∧ IsV w' p (t.reg h k) ∧ But (· = p) w w' := by
  have HI : Hid (IsV w p t) := hI
  by_cases q : Rsv.noH h ∨ Rsv.noK k
  · have e1 : Rsv.regE h k = 1 := if_pos q
    have e2 : t.reg h k = t := if_pos q
    rw [e1, e2, errV, if_neg (by omega)]
    clear e1 e2 hI
    by_cases q1 : Rsv.noH h
    · have C := ishost_no q1 w
      clear q q1
      go_enter Tryd.func23, Tryd.ntmps23
      go_wp2_with fail
      refine C.mono ?_
      rintro e w1 ⟨rfl, hw⟩
      obtain rfl := hw.symm
      clear C hw
      go_wp2
      go_ret
      exact ⟨rfl, HI.out, But.refl _ _⟩
    · have C := ishost_ok q1 w
      have C2 := iskey_no (q.resolve_left q1) w
      clear q q1
      go_enter Tryd.func23, Tryd.ntmps23
      go_wp2_with fail
      refine C.mono ?_
      rintro e w1 ⟨rfl, hw⟩
      obtain rfl := hw.symm
      clear C hw
      go_wp2_with fail
      refine C2.mono ?_
      rintro e w1 ⟨rfl, hw⟩
      obtain rfl := hw.symm
      clear C2 hw
      go_wp2
      go_ret
      exact ⟨rfl, HI.out, But.refl _ _⟩
  · have e1 : Rsv.regE h k = 0 := if_neg q
    have q1 : ¬ Rsv.noH h := fun z => q (.inl z)
    have q2 : ¬ Rsv.noK k := fun z => q (.inr z)
    have C := ishost_ok q1 w
    have C2 := iskey_ok q2 w
    obtain ⟨j, hz, hj, hn, h1, h9⟩ := Rsv.host_at q1
    have e2 : t.reg h k = ⟨up t.key (j + 1) k, t.host, t.kind⟩ := by unfold Rsv.reg; rw [if_neg q, hn]
    rw [e1, e2, errV, if_pos rfl]
    have hc := hI.key j hj
    have hf := hI.frozen j
    have HP : Hid (IsV (w.setCell ⟨p, j, none⟩ (.int .i64 k)) p ⟨up t.key (j + 1) k, t.host, t.kind⟩) := hI.put j hj k
    have HB : Hid (But (· = p) w (w.setCell ⟨p, j, none⟩ (.int .i64 k))) := but_cell _ _ _ _
    have hj9 : (j : Int) < 9 := by omega
    clear e1 e2 q q1 q2 hI hn
    go_enter Tryd.func23, Tryd.ntmps23
    go_wp2_with fail
    refine C.mono ?_
    rintro e w1 ⟨rfl, hw⟩
    obtain rfl := hw.symm
    clear C hw
    go_wp2_with fail
    refine C2.mono ?_
    rintro e w1 ⟨rfl, hw⟩
    obtain rfl := hw.symm
    clear C2 hw
    go_wp2
    go_ret
    exact ⟨rfl, HP.out, HB.out⟩
end Go.Proofs.YtfeikmmojilmbaaDoor
