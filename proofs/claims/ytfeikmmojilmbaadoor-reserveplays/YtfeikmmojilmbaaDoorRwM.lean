/- The document's reserve: who may: walks over the program. -/
import Derived.Test.YtfeikmmojilmbaaDoorRwA
namespace Go.Proofs.YtfeikmmojilmbaaDoor
open Go.RowKit
variable {w : World} {g : Nat} {t : Rsv}
set_option maxRecDepth 100000 in
set_option maxHeartbeats 1000000 in
theorem dmay (hI : IsW w g t) (m : Nat) (hm : m ≤ 9) (wr : Bool) :
    Calls Tryd.prog 33 #[.pointer (some ⟨g, 0, none⟩), .int .i64 (m : Int), .bool wr] w fun e w' => e = .returned (.bool (t.may (m : Int) wr)) ∧ w' = w := by
  have c9 := hI.c10
  have c10 := hI.c11
  have hc := hI.key m (by omega)
  have hmz : (m : Int) < 10 := by omega
  clear hI
  unfold Rsv.may
  rw [Int.toNat_natCast]
  obtain ⟨mb, hmb⟩ : ∃ mb, decide (t.key m ≠ 0) = mb := ⟨_, rfl⟩
  have hmc : (!(t.key m == 0)) = mb := by rw [← hmb, decide_not]; rfl
  have hmd : (t.key m != 0) = mb := hmc
  rw [hmb]
  clear hmb
  generalize t.key m = km at *
  generalize t.kind = y at *
  generalize t.host = x at *
  obtain ⟨eb, heb⟩ : ∃ eb, decide (x = (m : Int)) = eb := ⟨_, rfl⟩
  have heq : (x == (m : Int)) = eb := by rw [← heb]; rfl
  by_cases k1 : y = 1
  · rw [if_pos k1]
    subst k1
    rw [heb]
    clear heb
    cases wr
    · rw [Bool.not_false, Bool.true_or]
      go_enter Tryd.func33, Tryd.ntmps33
      go_wp2
      go_ret
      exact ⟨rfl, rfl⟩
    · rw [Bool.not_true, Bool.false_or]
      go_enter Tryd.func33, Tryd.ntmps33
      go_wp2
      go_ret
      exact ⟨rfl, rfl⟩
  · rw [if_neg k1]
    have n1 : (y == 1) = false := by rw [beq_eq_false_iff_ne]; exact k1
    by_cases k2 : y = 2
    · rw [if_pos k2]
      subst k2
      rw [heb]
      clear heb k1 n1
      go_enter Tryd.func33, Tryd.ntmps33
      go_wp2
      go_ret
      exact ⟨rfl, rfl⟩
    · rw [if_neg k2]
      have n2 : (y == 2) = false := by rw [beq_eq_false_iff_ne]; exact k2
      clear heb
      by_cases k3 : y = 3
      · rw [if_pos k3]
        subst k3
        clear k1 k2 n1 n2
        cases wr
        · rw [Bool.not_false, Bool.true_or]
          go_enter Tryd.func33, Tryd.ntmps33
          go_wp2
          go_ret
          exact ⟨rfl, rfl⟩
        · rw [Bool.not_true, Bool.false_or]
          go_enter Tryd.func33, Tryd.ntmps33
          go_wp2
          go_ret
          exact ⟨rfl, rfl⟩
      · rw [if_neg k3]
        have n3 : (y == 3) = false := by rw [beq_eq_false_iff_ne]; exact k3
        by_cases k4 : y = 4
        · rw [if_pos k4]
          subst k4
          clear k1 k2 k3 n1 n2 n3
          go_enter Tryd.func33, Tryd.ntmps33
          go_wp2
          go_ret
          exact ⟨rfl, rfl⟩
        · rw [if_neg k4]
          have n4 : (y == 4) = false := by rw [beq_eq_false_iff_ne]; exact k4
          go_enter Tryd.func33, Tryd.ntmps33
          go_wp2
          go_ret
          exact ⟨rfl, rfl⟩
end Go.Proofs.YtfeikmmojilmbaaDoor
