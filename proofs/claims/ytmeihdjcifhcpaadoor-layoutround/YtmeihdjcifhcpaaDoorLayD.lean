/- What layout.Data answers: by walks over the program. -/
import Derived.Test.YtmeihdjcifhcpaaDoorLayB
namespace Go.Proofs.YtmeihdjcifhcpaaDoor
open Go.RowKit Lay
abbrev spt (d r : Int) : Value := .agg #[.int .i64 d, .int .i64 r]
set_option maxHeartbeats 1000000 in
theorem data_ok (n b : Nat) (h1 : 3 ≤ n) (h2 : n ≤ 10) (hb : b < 20 * (n - 2)) (w : World) :
    Calls Tryd.prog 10 #[.int .i64 n, .int .i64 b] w fun e w' => e = .returned (.tuple #[spt ((ord n (b / (n - 2)) (b % (n - 2)) : Nat) : Int) ((b / (n - 2) : Nat) : Int), .nilIface]) ∧ Below w.heap.size w w' := by
  have C := lcheck_any n
  rw [lbad_of (by omega) (by omega), errV, if_pos rfl] at C
  obtain ⟨m, hm⟩ : ∃ m, n - 2 = m := ⟨n - 2, rfl⟩
  rw [hm] at hb ⊢
  have hm0 : 0 < m := by omega
  have hq : b / m < 20 := (Nat.div_lt_iff_lt_mul hm0).2 hb
  have hr : b % m < m := Nat.mod_lt _ hm0
  have P := behindP_any n (b / m) (b % m + 2) h1 h2 hq (by omega)
  rw [ord_data, show ((b % m + 2 : Nat) : Int) = 2 + (b : Int) % (m : Int) by rw [Int.natCast_add, Int.add_comm, Int.natCast_emod]; rfl] at P
  have R := norow_any ((b / m : Nat) : Int)
  rw [decide_eq_false (show ¬ (((b / m : Nat) : Int) < 0 ∨ 20 ≤ ((b / m : Nat) : Int)) from fun h => by
    have := Int.natCast_nonneg (b / m)
    have := Int.ofNat_lt.2 hq
    rcases h with h | h
    · exact absurd h (Int.not_lt.2 ‹_›)
    · exact absurd h (Int.not_le.2 ‹_›))] at R
  have q1 : (0 : Int) ≤ ((b / m : Nat) : Int) := Int.natCast_nonneg _
  have q2 : ((b / m : Nat) : Int) < 20 := Int.ofNat_lt.2 hq
  have r1 : (0 : Int) ≤ (b : Int) % (m : Int) := Int.emod_nonneg _ (by omega)
  have r2 : (b : Int) % (m : Int) < (m : Int) := Int.emod_lt_of_pos _ (by omega)
  rw [Int.natCast_ediv b m] at P R q1 q2 ⊢
  generalize ((ord n (b / m) (b % m) : Nat) : Int) = z at *
  clear hq hr
  have hz : ((m : Int) == 0) = false := by rw [beq_eq_false_iff_ne]; omega
  have hs : (n : Int) - 2 = (m : Int) := by omega
  clear hm
  go_enter Tryd.func10, Tryd.ntmps10
  go_wp2_with fail
  refine (C _).mono ?_
  rintro e w1 ⟨rfl, hw⟩
  obtain rfl := hw.symm
  go_wp2_with fail
  go_quiet (fail)
  go_wp2_with fail
  refine (R _).mono ?_
  rintro e w1 ⟨rfl, hw⟩
  obtain rfl := hw.symm
  go_wp2_with fail
  refine (P _).mono ?_
  rintro e w1 ⟨rfl, hw⟩
  obtain rfl := hw.symm
  clear C R P
  go_wp2
  exact bodyPost_ret (v := .tuple #[spt z ((b : Int) / (m : Int)), .nilIface]) (by simp [results, Tryd.results10, go_sem]) rfl ⟨rfl, ((below_drewN ((Below.refl _ _).alloc (Nat.le_refl _) _) nq).setCell (by simp) _).setCell (by simp) _⟩
/-- what is wrong with a block's number -/
def dbd (n b : Int) : Nat := if lbad n ≠ 0 ∨ b < 0 ∨ 20 * (n - 2) ≤ b then 1 else 0
set_option maxHeartbeats 1000000 in
theorem data_bad (n b : Int) (hb : b ≤ 9223372036854775807) (h : dbd n b ≠ 0) (w : World) :
    Calls Tryd.prog 10 #[.int .i64 n, .int .i64 b] w fun e w' => e = .returned (.tuple #[spt 0 0, erange]) ∧ Below w.heap.size w w' := by
  have C := lcheck_any n
  by_cases h1 : lbad n = 0
  · obtain ⟨g1, g2⟩ := lbad_ok h1
    rw [h1, errV, if_pos rfl] at C
    by_cases h2 : b < 0
    · clear h h1
      go_enter Tryd.func10, Tryd.ntmps10
      go_wp2_with fail
      refine (C _).mono ?_
      rintro e w1 ⟨rfl, hw⟩
      obtain rfl := hw.symm
      clear C
      go_wp2
      exact bodyPost_ret (v := .tuple #[spt 0 0, erange]) (by simp [results, Tryd.results10, go_sem]) rfl ⟨rfl, by repeat (first | exact Below.refl _ _ | refine below_drewN ?_ _ | refine Below.setCell ?_ (by simp) _ | refine Below.alloc ?_ (by simp) _)⟩
    · have h3 : 20 * (n - 2) ≤ b := by
        unfold dbd at h
        split at h
        · omega
        · omega
      obtain ⟨m, hs⟩ : ∃ m, n - 2 = m := ⟨_, rfl⟩
      rw [hs] at h3
      have hm0 : 0 < m := by omega
      have q1 : 20 ≤ b / m := (Int.le_ediv_iff_mul_le hm0).2 h3
      have q2 : b / m ≤ b := Int.ediv_le_self _ (by omega)
      have q0 : 0 ≤ b / m := by omega
      have r1 : 0 ≤ b % m := Int.emod_nonneg _ (by omega)
      have r2 : b % m < m := Int.emod_lt_of_pos _ hm0
      have R := norow_any (b / m)
      rw [decide_eq_true (show b / m < 0 ∨ 20 ≤ b / m from .inr q1)] at R
      have hz : (m == 0) = false := by rw [beq_eq_false_iff_ne]; omega
      clear h h1
      go_enter Tryd.func10, Tryd.ntmps10
      go_wp2_with fail
      refine (C _).mono ?_
      rintro e w1 ⟨rfl, hw⟩
      obtain rfl := hw.symm
      clear C
      go_wp2_with fail
      go_quiet (fail)
      go_wp2_with fail
      refine (R _).mono ?_
      rintro e w1 ⟨rfl, hw⟩
      obtain rfl := hw.symm
      clear R
      go_wp2
      exact bodyPost_ret (v := .tuple #[spt 0 0, erange]) (by simp [results, Tryd.results10, go_sem]) rfl ⟨rfl, by repeat (first | exact Below.refl _ _ | refine below_drewN ?_ _ | refine Below.setCell ?_ (by simp) _ | refine Below.alloc ?_ (by simp) _)⟩
  · rw [show lbad n = 1 by unfold lbad at h1 ⊢; split at h1 <;> simp_all, errV, if_neg (by omega)] at C
    clear h h1
    go_enter Tryd.func10, Tryd.ntmps10
    go_wp2_with fail
    refine (C _).mono ?_
    rintro e w1 ⟨rfl, hw⟩
    obtain rfl := hw.symm
    clear C
    go_wp2
    exact bodyPost_ret (v := .tuple #[spt 0 0, erange]) (by simp [results, Tryd.results10, go_sem]) rfl ⟨rfl, by repeat (first | exact Below.refl _ _ | refine below_drewN ?_ _ | refine Below.setCell ?_ (by simp) _ | refine Below.alloc ?_ (by simp) _)⟩
end Go.Proofs.YtmeihdjcifhcpaaDoor
