/- What matrix.Identity and Cauchy answer, whatever they are given: by walks over the program. -/
import Derived.Test.YtcjokofebnfkkaaDoorMatI
import Derived.Test.YtcjokofebnfkkaaDoorMatC
namespace Go.Proofs.YtcjokofebnfkkaaDoor
open Go.ChangeShapes Go.WideShapes Go.ChangeAt Go.RowKit El Pol Mx
theorem many_int (n : Int) (w : World) : Calls Tryd.prog 21 #[.int .i64 n] w fun e w' => e = .returned (.bool (decide (12 < n))) ∧ w' = w := by
  by_cases h : 12 < n
  all_goals
    go_enter Tryd.func21, Tryd.ntmps21
    go_wp2
    go_ret
    exact ⟨by simp; omega, rfl⟩
theorem identity_bad (n : Int) (h : n < 1 ∨ 12 < n) (w : World) :
    Calls Tryd.prog 16 #[.int .i64 n] w fun e w' => e = .returned (.tuple #[.slice none 0 0, erange]) ∧ w' = w := by
  by_cases h1 : n < 1
  · go_enter Tryd.func16, Tryd.ntmps16
    go_wp2
    go_ret2
    exact ⟨rfl, rfl⟩
  · have C := many_int n w
    rw [decide_eq_true (by omega)] at C
    go_enter Tryd.func16, Tryd.ntmps16
    go_wp2_with fail
    refine C.mono ?_
    rintro e w1 ⟨rfl, hw⟩
    obtain rfl := hw.symm
    go_wp2
    go_ret2
    exact ⟨rfl, rfl⟩
/-- the first k rows are those of the identity -/
def ones (k : Nat) : M := fun i j => if i < k then one i j else 0
theorem ones_up (k : Nat) : up (ones k) k (one k) = ones (k + 1) := by
  funext i j
  unfold up ones
  by_cases e : i = k
  · subst e; rw [if_pos rfl, if_pos (by omega)]
  · rw [if_neg e]
    by_cases h : i < k
    · rw [if_pos h, if_pos (by omega)]
    · rw [if_neg h, if_neg (by omega)]
theorem ones_set (n k : Nat) : (row (ones k k) n).set k 1 = row (one k) n := by
  refine row_set _ _ n k 1 (fun j hj => ?_) ?_
  · unfold ones one
    rw [if_neg (Ne.symm hj)]
    split <;> rfl
  · unfold one; rw [if_pos rfl]
set_option maxRecDepth 100000 in
set_option maxHeartbeats 1000000 in
theorem identity_ok (n : Nat) (h1 : 1 ≤ n) (h2 : n ≤ 12) (w : World) :
    Calls Tryd.prog 16 #[.int .i64 n] w fun e w' => ∃ (v' : Value) (rv : Nat → Value), e = .returned (.tuple #[v', .nilIface]) ∧ OwM w.heap.size w' v' n (rws one n) rv ∧ Below w.heap.size w w' := by
  have C := many_any n w
  rw [decide_eq_false (by omega)] at C
  go_enter Tryd.func16, Tryd.ntmps16
  go_wp2_with fail
  refine C.mono ?_
  rintro e w1 ⟨rfl, hw⟩
  obtain rfl := hw.symm
  clear C
  go_wp2_with fail
  refine (noughts_any n n w (by omega) (by omega)).mono ?_
  rintro e w2 ⟨rv0, rfl, hN, hB2⟩
  go_wp2
  go_loopw [19] (fun t wr => ∃ k : Nat, k ≤ n ∧ t = .int .i64 k ∧ OwM w.heap.size wr (.slice (some ⟨w.heap.size, 0, none⟩) n n) n (rws (ones k) n) rv0 ∧ Below w.heap.size w wr) (fun t _ => n - (intOf t).toNat)
  case atStart => exact ⟨0, Nat.zero_le _, rfl, hN.congr (fun i _ => row_congr (fun j _ => by unfold ones; rw [if_neg (by omega)])), hB2⟩
  case round =>
    clear hN hB2
    obtain ⟨k, hk, rfl, hN, hB⟩ := hrel
    by_cases hlt : k < n
    · have hcell := hN.cell k hlt
      have hrow := hN.row k hlt
      obtain ⟨gk, ck, ek, _, _, _, _⟩ := hrow.at (ne_nil_row _ (by omega))
      rw [row_length] at ek
      have hrow2 := hrow
      rw [ek] at hcell hrow2
      have hst := hrow2.stored (by rw [row_length]) k 1
      rw [ones_set] at hst
      have hc4 := hrow2.cell (by rw [row_length]) k hlt
      have hf4 := hrow2.free (by rw [row_length]) k
      have hN4 := hN.turned k hlt (by rw [ek]; exact hst.2) (by rw [ek]; exact hst.1)
      have hB4 := hB.trans (hN.below hB.size k hlt (w' := wr.setCell ⟨gk, k, none⟩ (.int .u8 (((1 : El).val : Nat) : Int))) (by rw [ek]; exact hst.2))
      rw [rws_up, ones_up] at hN4
      generalize co (row (ones k k) n) k = old at *
      clear hN hB hrow hrow2 hst ek
      go_wp2
      go_roundw
      case rel => exact ⟨k + 1, by omega, by go_num, hN4, hB4⟩
      case measure => simp [intOf]; omega
    · have hF : OwM w.heap.size wr (.slice (some ⟨w.heap.size, 0, none⟩) n n) n (rws one n) rv0 := hN.congr (fun i hi => row_congr (fun j _ => by unfold ones; rw [if_pos (by omega)]))
      clear hN
      go_wp2
      go_ret2
      exact ⟨_, _, rfl, hF, hB⟩
end Go.Proofs.YtcjokofebnfkkaaDoor
