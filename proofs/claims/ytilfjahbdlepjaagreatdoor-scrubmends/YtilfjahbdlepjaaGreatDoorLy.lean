/- Texts of plain mathematics, of memory and of walks, in one. -/
import Derived.Test.YtilfjahbdlepjaaGreatDoorGe
import Derived.Test.YtilfjahbdlepjaaGreatDoorMa
import Derived.Test.YtilfjahbdlepjaaGreatDoorOwIs
/- What layout.Check, noRow, diskOfP, diskBehindP and Order answer: by walks over the program. -/
namespace Go.Proofs.YtilfjahbdlepjaaGreatDoor
open Go.RowKit Lay
def lbad (n : Int) : Nat := if n < 3 ∨ 10 < n then 1 else 0
theorem lbad_ok {n : Int} (h : lbad n = 0) : 3 ≤ n ∧ n ≤ 10 := by
  unfold lbad at h
  split at h <;> omega
theorem lbad_of {n : Int} (h1 : 3 ≤ n) (h2 : n ≤ 10) : lbad n = 0 := if_neg (by omega)
theorem lcheck_any (n : Int) (w : World) : Calls Tryz.prog 33 #[.int .i64 n] w fun e w' => e = .returned (errV (lbad n)) ∧ w' = w := by
  by_cases h1 : n < 3
  · rw [show lbad n = 1 from if_pos (.inl h1)]
    go_enter Tryz.func33, Tryz.ntmps33
    go_wp2
    go_ret
    exact ⟨rfl, rfl⟩
  · by_cases h2 : 10 < n
    · rw [show lbad n = 1 from if_pos (.inr h2)]
      go_enter Tryz.func33, Tryz.ntmps33
      go_wp2
      go_ret
      exact ⟨rfl, rfl⟩
    · rw [show lbad n = 0 from if_neg (by omega)]
      go_enter Tryz.func33, Tryz.ntmps33
      go_wp2
      go_ret
      exact ⟨rfl, rfl⟩
theorem norow_any (r : Int) (w : World) : Calls Tryz.prog 59 #[.int .i64 r] w fun e w' => e = .returned (.bool (decide (r < 0 ∨ 20 ≤ r))) ∧ w' = w := by
  by_cases h1 : r < 0
  · rw [decide_eq_true (show r < 0 ∨ 20 ≤ r from .inl h1)]
    go_enter Tryz.func59, Tryz.ntmps59
    go_wp2
    go_ret
    exact ⟨rfl, rfl⟩
  · by_cases h2 : 20 ≤ r
    · rw [decide_eq_true (show r < 0 ∨ 20 ≤ r from .inr h2)]
      go_enter Tryz.func59, Tryz.ntmps59
      go_wp2
      go_ret
      exact ⟨rfl, rfl⟩
    · rw [decide_eq_false (show ¬ (r < 0 ∨ 20 ≤ r) by omega)]
      go_enter Tryz.func59, Tryz.ntmps59
      go_wp2
      go_ret
      exact ⟨rfl, rfl⟩
theorem mod_facts {a n : Nat} (hn : 3 ≤ n) : (0 : Int) ≤ (a : Int) % (n : Int) ∧ (a : Int) % (n : Int) < (n : Int) := ⟨Int.emod_nonneg _ (by omega), Int.emod_lt_of_pos _ (by omega)⟩
theorem diskP_any (n r : Nat) (h1 : 3 ≤ n) (h2 : n ≤ 10) (hr : r < 20) (w : World) :
    Calls Tryz.prog 80 #[.int .i64 n, .int .i64 r] w fun e w' => e = .returned (.int .i64 ((dP n r : Nat) : Int)) ∧ w' = w := by
  have hm := mod_facts (a := r) h1
  have hm1 := hm.1
  have hm2 := hm.2
  have E : Hid ((n : Int) - 1 - (r : Int) % (n : Int) = ((dP n r : Nat) : Int)) := by
    (show (n : Int) - 1 - (r : Int) % (n : Int) = _)
    unfold dP
    omega
  clear hm
  go_enter Tryz.func80, Tryz.ntmps80
  go_wp2
  go_ret
  exact ⟨ret_int E.out, rfl⟩
theorem behindP_any (n r b : Nat) (h1 : 3 ≤ n) (h2 : n ≤ 10) (hr : r < 20) (hb : b ≤ 20) (w : World) :
    Calls Tryz.prog 60 #[.int .i64 n, .int .i64 r, .int .i64 b] w fun e w' => e = .returned (.int .i64 (((dP n r + b) % n : Nat) : Int)) ∧ w' = w := by
  have hp := dP_lt (r := r) h1
  have C := diskP_any n r h1 h2 hr
  generalize dP n r = p at *
  have hm := mod_facts (a := p + b) h1
  have hm1 := hm.1
  have hm2 := hm.2
  rw [Int.natCast_add] at hm1 hm2
  clear hm
  go_enter Tryz.func60, Tryz.ntmps60
  go_wp2_with fail
  refine (C _).mono ?_
  rintro e w1 ⟨rfl, hw⟩
  obtain rfl := hw.symm
  clear C
  go_wp2
  go_ret
  exact ⟨ret_int (by rw [Int.natCast_emod, Int.natCast_add]), rfl⟩
end Go.Proofs.YtilfjahbdlepjaaGreatDoor

/- What layout.Order answers: by a walk over the program. -/
namespace Go.Proofs.YtilfjahbdlepjaaGreatDoor
open Go.RowKit Lay
/-- the first k of a row stand -/
def ordTo (n r k : Nat) : Nat → Int := fun i => if i < k then ((ord n r i : Nat) : Int) else 0
theorem ordTo_up (n r k : Nat) (i : Nat) : up (ordTo n r k) k ((ord n r k : Nat) : Int) i = ordTo n r (k + 1) i := by
  unfold up ordTo
  by_cases h : i = k
  · subst h; rw [if_pos rfl, if_pos (by omega)]
  · rw [if_neg h]
    by_cases h2 : i < k
    · rw [if_pos h2, if_pos (by omega)]
    · rw [if_neg h2, if_neg (by omega)]
set_option maxRecDepth 100000 in
set_option maxHeartbeats 1000000 in
theorem order_ok (n r : Nat) (h1 : 3 ≤ n) (h2 : n ≤ 10) (hr : r < 20) (w : World) :
    Calls Tryz.prog 32 #[.int .i64 n, .int .i64 r] w fun e w' => ∃ v', e = .returned (.tuple #[v', .nilIface]) ∧ OwI w.heap.size w' v' n (fun i => ((ord n r i : Nat) : Int)) ∧ Below w.heap.size w w' := by
  obtain ⟨i0, hi0, hz0, hz1, hz2⟩ := info_parts infoI
  have C := lcheck_any n
  have R := norow_any r
  have P := fun (b : Nat) hb => behindP_any n r b h1 h2 hr hb
  have e1 : lbad n = 0 := lbad_of (by omega) (by omega)
  have e2 : decide ((r : Int) < 0 ∨ 20 ≤ (r : Int)) = false := decide_eq_false (by omega)
  rw [e1] at C
  rw [e2] at R
  have HP : Hid (∀ b : Nat, b ≤ 20 → ∀ w, Calls Tryz.prog 60 #[.int .i64 n, .int .i64 r, .int .i64 b] w fun e w' => e = .returned (.int .i64 (((dP n r + b) % n : Nat) : Int)) ∧ w' = w) := P
  clear P e1 e2
  unfold errV at C
  rw [if_pos rfl] at C
  go_enter Tryz.func32, Tryz.ntmps32
  go_wp2_with fail
  refine (C _).mono ?_
  rintro e w1 ⟨rfl, hw⟩
  obtain rfl := hw.symm
  go_wp2_with fail
  refine (R _).mono ?_
  rintro e w1 ⟨rfl, hw⟩
  obtain rfl := hw.symm
  clear C R
  go_wp2_with (first | (at_make; refine wpList_make_full _ rfl _ _ 32 rfl w.heap.size 3 i0 (.int .i64 0) 1 Tryz.underlying32 hi0 hz0 hz1 _ _ _ _ n rfl rfl rfl rfl (by rw [hz2]; omega) (by unfold maxLen; omega) (Nat.le_refl _) ?_))
  intro w1 hown hgrow
  have hO : OwI w.heap.size w1 (.slice (some ⟨w.heap.size, 0, none⟩) n n) n (ordTo n r 0) := (OwI.made hown).congr (fun i _ => by unfold ordTo; rw [if_neg (by omega)])
  have hB : Below w.heap.size w w1 := below_of_grown hgrow
  clear hown hgrow
  go_wp2
  go_loopw [21] (fun t wr => ∃ k : Nat, k ≤ n ∧ t = .int .i64 k ∧ OwI w.heap.size wr (.slice (some ⟨w.heap.size, 0, none⟩) n n) n (ordTo n r k) ∧ Below w.heap.size w wr) (fun t _ => n - (intOf t).toNat)
  case atStart => exact ⟨0, Nat.zero_le _, rfl, hO, hB⟩
  case round =>
    clear hO hB
    obtain ⟨k, hk, rfl, hO, hB⟩ := hrel
    by_cases hlt : k < n
    · have Q := HP.out (k + 2) (by omega)
      rw [ord_data, Int.natCast_add, Int.add_comm] at Q
      have hc := hO.cell k hlt
      have hf := hO.free k
      have hS := hO.stored k ((ord n r k : Nat) : Int)
      have hS1 := OwI.congr hS.1 (fun i _ => ordTo_up n r k i)
      have hB2 := hB.trans (below_of_grownAt hS.2 hB.size (Nat.le_refl _))
      generalize ((ord n r k : Nat) : Int) = z at *
      generalize ordTo n r k k = y at *
      clear hS hO hB
      go_wp2_with fail
      refine (Q _).mono ?_
      rintro e w2 ⟨rfl, hw⟩
      obtain rfl := hw.symm
      clear Q
      go_wp2
      go_roundw
      case rel => exact ⟨k + 1, by omega, by go_num, hS1, hB2⟩
      case measure => simp [intOf]; omega
    · have hF : OwI w.heap.size wr (.slice (some ⟨w.heap.size, 0, none⟩) n n) n (fun i => ((ord n r i : Nat) : Int)) := hO.congr (fun i hi => by unfold ordTo; rw [if_pos (by omega)])
      clear hO
      go_wp2
      go_ret2
      exact ⟨_, rfl, hF, hB⟩
def obd (n r : Int) : Nat := if lbad n ≠ 0 ∨ r < 0 ∨ 20 ≤ r then 1 else 0
theorem order_bad (n r : Int) (h : obd n r ≠ 0) (w : World) :
    Calls Tryz.prog 32 #[.int .i64 n, .int .i64 r] w fun e w' => e = .returned (.tuple #[.slice none 0 0, erange]) ∧ w' = w := by
  have C := lcheck_any n
  by_cases h1 : lbad n = 0
  · rw [h1, errV, if_pos rfl] at C
    have R := norow_any r
    rw [decide_eq_true (show r < 0 ∨ 20 ≤ r by
      unfold obd at h
      split at h
      · rename_i k
        rcases k with k | k
        · exact absurd h1 k
        · exact k
      · exact absurd rfl h)] at R
    clear h h1
    go_enter Tryz.func32, Tryz.ntmps32
    go_wp2_with fail
    refine (C _).mono ?_
    rintro e w1 ⟨rfl, hw⟩
    obtain rfl := hw.symm
    clear C
    go_wp2_with fail
    refine (R _).mono ?_
    rintro e w1 ⟨rfl, hw⟩
    obtain rfl := hw.symm
    clear R
    go_wp2
    go_ret2
    exact ⟨rfl, rfl⟩
  · rw [show lbad n = 1 by unfold lbad at h1 ⊢; split at h1 <;> simp_all, errV, if_neg (by omega)] at C
    clear h h1
    go_enter Tryz.func32, Tryz.ntmps32
    go_wp2_with fail
    refine (C _).mono ?_
    rintro e w1 ⟨rfl, hw⟩
    obtain rfl := hw.symm
    clear C
    go_wp2
    go_ret2
    exact ⟨rfl, rfl⟩
end Go.Proofs.YtilfjahbdlepjaaGreatDoor

/- What layout.Data answers: by walks over the program. -/
namespace Go.Proofs.YtilfjahbdlepjaaGreatDoor
open Go.RowKit Lay
abbrev spt (d r : Int) : Value := .agg #[.int .i64 d, .int .i64 r]
set_option maxHeartbeats 1000000 in
theorem data_ok (n b : Nat) (h1 : 3 ≤ n) (h2 : n ≤ 10) (hb : b < 20 * (n - 2)) (w : World) :
    Calls Tryz.prog 67 #[.int .i64 n, .int .i64 b] w fun e w' => e = .returned (.tuple #[spt ((ord n (b / (n - 2)) (b % (n - 2)) : Nat) : Int) ((b / (n - 2) : Nat) : Int), .nilIface]) ∧ Below w.heap.size w w' := by
  have C := lcheck_any n
  rw [lbad_of (by omega) (by omega), errV, if_pos rfl] at C
  obtain ⟨m, hm⟩ : ∃ m, n - 2 = m := ⟨n - 2, rfl⟩
  rw [hm] at hb ⊢
  have hm0 : 0 < m := by omega
  have hq : b / m < 20 := (Nat.div_lt_iff_lt_mul hm0).2 hb
  have hr : b % m < m := Nat.mod_lt _ hm0
  have P := behindP_any n (b / m) (b % m + 2) h1 h2 hq (by omega)
  rw [ord_data, show ((b % m + 2 : Nat) : Int) = 2 + (b : Int) % (m : Int) by rw [Int.natCast_add, Int.add_comm, Int.natCast_emod]; rfl] at P
  have R := norow_any ((b / m : Nat) : Int)
  rw [decide_eq_false (show ¬ (((b / m : Nat) : Int) < 0 ∨ 20 ≤ ((b / m : Nat) : Int)) from fun h => by
    have := Int.natCast_nonneg (b / m)
    have := Int.ofNat_lt.2 hq
    rcases h with h | h
    · exact absurd h (Int.not_lt.2 ‹_›)
    · exact absurd h (Int.not_le.2 ‹_›))] at R
  have q1 : (0 : Int) ≤ ((b / m : Nat) : Int) := Int.natCast_nonneg _
  have q2 : ((b / m : Nat) : Int) < 20 := Int.ofNat_lt.2 hq
  have r1 : (0 : Int) ≤ (b : Int) % (m : Int) := Int.emod_nonneg _ (by omega)
  have r2 : (b : Int) % (m : Int) < (m : Int) := Int.emod_lt_of_pos _ (by omega)
  rw [Int.natCast_ediv b m] at P R q1 q2 ⊢
  generalize ((ord n (b / m) (b % m) : Nat) : Int) = z at *
  clear hq hr
  have hz : ((m : Int) == 0) = false := by rw [beq_eq_false_iff_ne]; omega
  have hs : (n : Int) - 2 = (m : Int) := by omega
  clear hm
  go_enter Tryz.func67, Tryz.ntmps67
  go_wp2_with fail
  refine (C _).mono ?_
  rintro e w1 ⟨rfl, hw⟩
  obtain rfl := hw.symm
  go_wp2_with fail
  go_quiet (fail)
  go_wp2_with fail
  refine (R _).mono ?_
  rintro e w1 ⟨rfl, hw⟩
  obtain rfl := hw.symm
  go_wp2_with fail
  refine (P _).mono ?_
  rintro e w1 ⟨rfl, hw⟩
  obtain rfl := hw.symm
  clear C R P
  go_wp2
  exact bodyPost_ret (v := .tuple #[spt z ((b : Int) / (m : Int)), .nilIface]) (by simp [results, Tryz.results67, go_sem]) rfl ⟨rfl, ((below_drewN ((Below.refl _ _).alloc (Nat.le_refl _) _) nq).setCell (by simp) _).setCell (by simp) _⟩
/-- what is wrong with a block's number -/
def dbd (n b : Int) : Nat := if lbad n ≠ 0 ∨ b < 0 ∨ 20 * (n - 2) ≤ b then 1 else 0
set_option maxHeartbeats 1000000 in
theorem data_bad (n b : Int) (hb : b ≤ 9223372036854775807) (h : dbd n b ≠ 0) (w : World) :
    Calls Tryz.prog 67 #[.int .i64 n, .int .i64 b] w fun e w' => e = .returned (.tuple #[spt 0 0, erange]) ∧ Below w.heap.size w w' := by
  have C := lcheck_any n
  by_cases h1 : lbad n = 0
  · obtain ⟨g1, g2⟩ := lbad_ok h1
    rw [h1, errV, if_pos rfl] at C
    by_cases h2 : b < 0
    · clear h h1
      go_enter Tryz.func67, Tryz.ntmps67
      go_wp2_with fail
      refine (C _).mono ?_
      rintro e w1 ⟨rfl, hw⟩
      obtain rfl := hw.symm
      clear C
      go_wp2
      exact bodyPost_ret (v := .tuple #[spt 0 0, erange]) (by simp [results, Tryz.results67, go_sem]) rfl ⟨rfl, by repeat (first | exact Below.refl _ _ | refine below_drewN ?_ _ | refine Below.setCell ?_ (by simp) _ | refine Below.alloc ?_ (by simp) _)⟩
    · have h3 : 20 * (n - 2) ≤ b := by
        unfold dbd at h
        split at h
        · omega
        · omega
      obtain ⟨m, hs⟩ : ∃ m, n - 2 = m := ⟨_, rfl⟩
      rw [hs] at h3
      have hm0 : 0 < m := by omega
      have q1 : 20 ≤ b / m := (Int.le_ediv_iff_mul_le hm0).2 h3
      have q2 : b / m ≤ b := Int.ediv_le_self _ (by omega)
      have q0 : 0 ≤ b / m := by omega
      have r1 : 0 ≤ b % m := Int.emod_nonneg _ (by omega)
      have r2 : b % m < m := Int.emod_lt_of_pos _ hm0
      have R := norow_any (b / m)
      rw [decide_eq_true (show b / m < 0 ∨ 20 ≤ b / m from .inr q1)] at R
      have hz : (m == 0) = false := by rw [beq_eq_false_iff_ne]; omega
      clear h h1
      go_enter Tryz.func67, Tryz.ntmps67
      go_wp2_with fail
      refine (C _).mono ?_
      rintro e w1 ⟨rfl, hw⟩
      obtain rfl := hw.symm
      clear C
      go_wp2_with fail
      go_quiet (fail)
      go_wp2_with fail
      refine (R _).mono ?_
      rintro e w1 ⟨rfl, hw⟩
      obtain rfl := hw.symm
      clear R
      go_wp2
      exact bodyPost_ret (v := .tuple #[spt 0 0, erange]) (by simp [results, Tryz.results67, go_sem]) rfl ⟨rfl, by repeat (first | exact Below.refl _ _ | refine below_drewN ?_ _ | refine Below.setCell ?_ (by simp) _ | refine Below.alloc ?_ (by simp) _)⟩
  · rw [show lbad n = 1 by unfold lbad at h1 ⊢; split at h1 <;> simp_all, errV, if_neg (by omega)] at C
    clear h h1
    go_enter Tryz.func67, Tryz.ntmps67
    go_wp2_with fail
    refine (C _).mono ?_
    rintro e w1 ⟨rfl, hw⟩
    obtain rfl := hw.symm
    clear C
    go_wp2
    exact bodyPost_ret (v := .tuple #[spt 0 0, erange]) (by simp [results, Tryz.results67, go_sem]) rfl ⟨rfl, by repeat (first | exact Below.refl _ _ | refine below_drewN ?_ _ | refine Below.setCell ?_ (by simp) _ | refine Below.alloc ?_ (by simp) _)⟩
end Go.Proofs.YtilfjahbdlepjaaGreatDoor
