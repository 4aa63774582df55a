/- Who may: walks over the program. -/
import Derived.Test.YtfeikmmojilmbaaDoorRvD
namespace Go.Proofs.YtfeikmmojilmbaaDoor
open Go.RowKit
variable {w : World} {p : Nat} {t : Rsv}
set_option maxRecDepth 100000 in
set_option maxHeartbeats 1000000 in
theorem vmay (hI : IsV w p t) (h : Int) (wr : Bool) :
    Calls Tryd.prog 34 #[.pointer (some ⟨p, 0, none⟩), .int .i64 h, .bool wr] w fun e w' => e = .returned (.tuple #[.bool (t.mayB h wr), errV (Rsv.mayE h)]) ∧ w' = w := by
  by_cases q : Rsv.noH h
  · have C := ishost_no q w
    have e1 : t.mayB h wr = false := if_pos q
    have e2 : Rsv.mayE h = 1 := if_pos q
    rw [e1, e2, errV, if_neg (by omega)]
    clear q e1 e2 hI
    go_enter Tryd.func34, Tryd.ntmps34
    go_wp2_with fail
    refine C.mono ?_
    rintro e w1 ⟨rfl, hw⟩
    obtain rfl := hw.symm
    clear C hw
    go_wp2
    go_ret2
    exact ⟨rfl, rfl⟩
  · have C := ishost_ok q w
    have C2 := vmember hI h q
    have e1 : t.mayB h wr = t.may h wr := if_neg q
    have e2 : Rsv.mayE h = 0 := if_neg q
    rw [e1, e2, errV, if_pos rfl]
    have c9 := hI.c9
    have c10 := hI.c10
    clear q e1 e2 hI
    unfold Rsv.may
    generalize decide (t.key h.toNat ≠ 0) = mb at *
    generalize t.kind = y at *
    generalize t.host = x at *
    obtain ⟨eb, heb⟩ : ∃ eb, decide (x = h) = eb := ⟨_, rfl⟩
    have heq : (x == h) = eb := by rw [← heb]; rfl
    by_cases k1 : y = 1
    · rw [if_pos k1]
      subst k1
      rw [heb]
      clear heb C2
      cases wr
      · rw [Bool.not_false, Bool.true_or]
        go_enter Tryd.func34, Tryd.ntmps34
        go_wp2_with fail
        refine C.mono ?_
        rintro e w1 ⟨rfl, hw⟩
        obtain rfl := hw.symm
        clear C hw
        go_wp2
        go_ret2
        exact ⟨rfl, rfl⟩
      · rw [Bool.not_true, Bool.false_or]
        go_enter Tryd.func34, Tryd.ntmps34
        go_wp2_with fail
        refine C.mono ?_
        rintro e w1 ⟨rfl, hw⟩
        obtain rfl := hw.symm
        clear C hw
        go_wp2
        go_ret2
        exact ⟨rfl, rfl⟩
    · rw [if_neg k1]
      have n1 : (y == 1) = false := by rw [beq_eq_false_iff_ne]; exact k1
      by_cases k2 : y = 2
      · rw [if_pos k2]
        subst k2
        rw [heb]
        clear heb k1 n1 C2
        go_enter Tryd.func34, Tryd.ntmps34
        go_wp2_with fail
        refine C.mono ?_
        rintro e w1 ⟨rfl, hw⟩
        obtain rfl := hw.symm
        clear C hw
        go_wp2
        go_ret2
        exact ⟨rfl, rfl⟩
      · rw [if_neg k2]
        have n2 : (y == 2) = false := by rw [beq_eq_false_iff_ne]; exact k2
        clear heb
        by_cases k3 : y = 3
        · rw [if_pos k3]
          subst k3
          clear k1 k2 n1 n2
          cases wr
          · rw [Bool.not_false, Bool.true_or]
            clear C2
            go_enter Tryd.func34, Tryd.ntmps34
            go_wp2_with fail
            refine C.mono ?_
            rintro e w1 ⟨rfl, hw⟩
            obtain rfl := hw.symm
            clear C hw
            go_wp2
            go_ret2
            exact ⟨rfl, rfl⟩
          · rw [Bool.not_true, Bool.false_or]
            go_enter Tryd.func34, Tryd.ntmps34
            go_wp2_with fail
            refine C.mono ?_
            rintro e w1 ⟨rfl, hw⟩
            obtain rfl := hw.symm
            clear C hw
            go_wp2_with fail
            refine C2.mono ?_
            rintro e w1 ⟨rfl, hw⟩
            obtain rfl := hw.symm
            clear C2 hw
            go_wp2
            go_ret2
            exact ⟨rfl, rfl⟩
        · rw [if_neg k3]
          have n3 : (y == 3) = false := by rw [beq_eq_false_iff_ne]; exact k3
          by_cases k4 : y = 4
          · rw [if_pos k4]
            subst k4
            clear k1 k2 k3 n1 n2 n3
            go_enter Tryd.func34, Tryd.ntmps34
            go_wp2_with fail
            refine C.mono ?_
            rintro e w1 ⟨rfl, hw⟩
            obtain rfl := hw.symm
            clear C hw
            go_wp2_with fail
            refine C2.mono ?_
            rintro e w1 ⟨rfl, hw⟩
            obtain rfl := hw.symm
            clear C2 hw
            go_wp2
            go_ret2
            exact ⟨rfl, rfl⟩
          · rw [if_neg k4]
            have n4 : (y == 4) = false := by rw [beq_eq_false_iff_ne]; exact k4
            clear C2
            go_enter Tryd.func34, Tryd.ntmps34
            go_wp2_with fail
            refine C.mono ?_
            rintro e w1 ⟨rfl, hw⟩
            obtain rfl := hw.symm
            clear C hw
            go_wp2
            go_ret2
            exact ⟨rfl, rfl⟩
end Go.Proofs.YtfeikmmojilmbaaDoor
