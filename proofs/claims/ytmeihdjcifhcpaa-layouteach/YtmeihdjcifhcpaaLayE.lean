/- What layout.Role and layout.Block answer: by walks over the program. -/
import Derived.Test.YtmeihdjcifhcpaaLayD
namespace Go.Proofs.Ytmeihdjcifhcpaa
open Go.RowKit Lay
def rbd (n d r : Int) : Nat := if lbad n ≠ 0 ∨ d < 0 ∨ n ≤ d ∨ r < 0 ∨ 20 ≤ r then 1 else 0
theorem beh_int {n r d : Nat} (h1 : 3 ≤ n) (h2 : n ≤ 10) (hd : d < n) :
    ((d : Int) - ((dP n r : Nat) : Int) + (n : Int)) % (n : Int) = (if pos n r d = n - 2 then 0 else if pos n r d = n - 1 then 1 else ((pos n r d : Nat) : Int) + 2) := by
  have hp := dP_lt (r := r) h1
  have := behind (r := r) h1 h2 hd
  rw [show (d : Int) - ((dP n r : Nat) : Int) + (n : Int) = ((d + n - dP n r : Nat) : Int) by omega, ← Int.natCast_emod, this]
  split
  · rfl
  · split
    · rfl
    · rw [Int.natCast_add]; rfl
set_option maxHeartbeats 1000000 in
theorem role_ok (n d r : Nat) (h1 : 3 ≤ n) (h2 : n ≤ 10) (hd : d < n) (hr : r < 20) (w : World) :
    Calls Try.prog 7 #[.int .i64 n, spt d r] w fun e w' => e = .returned (.tuple #[.int .i64 (rol n (pos n r d)), .nilIface]) ∧ Below w.heap.size w w' := by
  have C := lcheck_any n
  rw [lbad_of (by omega) (by omega), errV, if_pos rfl] at C
  have R := norow_any r
  rw [decide_eq_false (show ¬ ((r : Int) < 0 ∨ 20 ≤ (r : Int)) by omega)] at R
  have P := diskP_any n r h1 h2 hr
  have hp := dP_lt (r := r) h1
  have hpos := pos_lt (r := r) (d := d) h1
  have hb := beh_int (r := r) h1 h2 hd
  have hm1 : (0 : Int) ≤ ((d : Int) - ((dP n r : Nat) : Int) + (n : Int)) % (n : Int) := Int.emod_nonneg _ (by omega)
  have hm2 : ((d : Int) - ((dP n r : Nat) : Int) + (n : Int)) % (n : Int) < (n : Int) := Int.emod_lt_of_pos _ (by omega)
  generalize dP n r = p at *
  by_cases k1 : pos n r d = n - 2
  · have E : rol n (pos n r d) = -1 := if_pos k1
    rw [E]
    rw [if_pos k1] at hb
    clear k1 E hpos
    go_enter Try.func7, Try.ntmps7
    go_wp2_with fail
    refine (C _).mono ?_
    rintro e w1 ⟨rfl, hw⟩
    obtain rfl := hw.symm
    clear C
    go_wp2_with fail
    refine (R _).mono ?_
    rintro e w1 ⟨rfl, hw⟩
    obtain rfl := hw.symm
    clear R
    go_wp2_with fail
    go_quiet ((go_at_call 11; exact Calls.quiet_of_same (P _)))
    go_wp2
    go_ret2
    exact ⟨rfl, below_drewN ((Below.refl _ _).alloc (Nat.le_refl _) _) nq⟩
  · rw [if_neg k1] at hb
    by_cases k2 : pos n r d = n - 1
    · have E : rol n (pos n r d) = -2 := by unfold rol; rw [if_neg k1, if_pos k2]
      rw [E]
      rw [if_pos k2] at hb
      clear k1 k2 E hpos
      go_enter Try.func7, Try.ntmps7
      go_wp2_with fail
      refine (C _).mono ?_
      rintro e w1 ⟨rfl, hw⟩
      obtain rfl := hw.symm
      clear C
      go_wp2_with fail
      refine (R _).mono ?_
      rintro e w1 ⟨rfl, hw⟩
      obtain rfl := hw.symm
      clear R
      go_wp2_with fail
      go_quiet ((go_at_call 11; exact Calls.quiet_of_same (P _)))
      go_wp2
      go_ret2
      exact ⟨rfl, below_drewN ((Below.refl _ _).alloc (Nat.le_refl _) _) nq⟩
    · have E : rol n (pos n r d) = ((pos n r d : Nat) : Int) := by unfold rol; rw [if_neg k1, if_neg k2]
      rw [E]
      rw [if_neg k2] at hb
      generalize pos n r d = q at *
      have b0 : ((q : Int) + 2 == 0) = false := by rw [beq_eq_false_iff_ne]; omega
      have b1 : ((q : Int) + 2 == 1) = false := by rw [beq_eq_false_iff_ne]; omega
      clear k1 k2 E
      go_enter Try.func7, Try.ntmps7
      go_wp2_with fail
      refine (C _).mono ?_
      rintro e w1 ⟨rfl, hw⟩
      obtain rfl := hw.symm
      clear C
      go_wp2_with fail
      refine (R _).mono ?_
      rintro e w1 ⟨rfl, hw⟩
      obtain rfl := hw.symm
      clear R
      go_wp2_with fail
      go_quiet ((go_at_call 11; exact Calls.quiet_of_same (P _)))
      go_wp2
      go_ret2
      exact ⟨rfl, below_drewN ((Below.refl _ _).alloc (Nat.le_refl _) _) nq⟩
set_option maxHeartbeats 1000000 in
theorem role_bad (n d r : Int) (h : rbd n d r ≠ 0) (w : World) :
    Calls Try.prog 7 #[.int .i64 n, spt d r] w fun e w' => e = .returned (.tuple #[.int .i64 0, erange]) ∧ Below w.heap.size w w' := by
  have C := lcheck_any n
  by_cases h1 : lbad n = 0
  · rw [h1, errV, if_pos rfl] at C
    have h' : d < 0 ∨ n ≤ d ∨ r < 0 ∨ 20 ≤ r := by
      unfold rbd at h
      split at h
      · rename_i k
        rcases k with k | k
        · exact absurd h1 k
        · exact k
      · exact absurd rfl h
    clear h h1
    by_cases h2 : d < 0
    · clear h'
      go_enter Try.func7, Try.ntmps7
      go_wp2_with fail
      refine (C _).mono ?_
      rintro e w1 ⟨rfl, hw⟩
      obtain rfl := hw.symm
      clear C
      go_wp2
      go_ret2
      exact ⟨rfl, (Below.refl _ _).alloc (Nat.le_refl _) _⟩
    · by_cases h3 : n ≤ d
      · clear h'
        go_enter Try.func7, Try.ntmps7
        go_wp2_with fail
        refine (C _).mono ?_
        rintro e w1 ⟨rfl, hw⟩
        obtain rfl := hw.symm
        clear C
        go_wp2
        go_ret2
        exact ⟨rfl, (Below.refl _ _).alloc (Nat.le_refl _) _⟩
      · have R := norow_any r
        rw [decide_eq_true (show r < 0 ∨ 20 ≤ r by omega)] at R
        clear h'
        go_enter Try.func7, Try.ntmps7
        go_wp2_with fail
        refine (C _).mono ?_
        rintro e w1 ⟨rfl, hw⟩
        obtain rfl := hw.symm
        clear C
        go_wp2_with fail
        refine (R _).mono ?_
        rintro e w1 ⟨rfl, hw⟩
        obtain rfl := hw.symm
        clear R
        go_wp2
        go_ret2
        exact ⟨rfl, (Below.refl _ _).alloc (Nat.le_refl _) _⟩
  · rw [show lbad n = 1 by unfold lbad at h1 ⊢; split at h1 <;> simp_all, errV, if_neg (by omega)] at C
    clear h h1
    go_enter Try.func7, Try.ntmps7
    go_wp2_with fail
    refine (C _).mono ?_
    rintro e w1 ⟨rfl, hw⟩
    obtain rfl := hw.symm
    clear C
    go_wp2
    go_ret2
    exact ⟨rfl, (Below.refl _ _).alloc (Nat.le_refl _) _⟩
theorem bel_box {w w' : World} {o : Obj} (h : Below (w.alloc o).heap.size (w.alloc o) w') : Below w.heap.size w w' := ((Below.refl _ _).alloc (Nat.le_refl _) _).trans (h.mono (by simp))
set_option maxHeartbeats 1000000 in
theorem block_ok (n d r : Nat) (h1 : 3 ≤ n) (h2 : n ≤ 10) (hd : d < n) (hr : r < 20) (hp : pos n r d < n - 2) (w : World) :
    Calls Try.prog 6 #[.int .i64 n, spt d r] w fun e w' => e = .returned (.tuple #[.int .i64 ((r * (n - 2) + pos n r d : Nat) : Int), .nilIface]) ∧ Below w.heap.size w w' := by
  have R := role_ok n d r h1 h2 hd hr
  rw [show rol n (pos n r d) = ((pos n r d : Nat) : Int) by unfold rol; rw [if_neg (by omega), if_neg (by omega)]] at R
  have hm : r * (n - 2) ≤ 20 * 8 := Nat.mul_le_mul (by omega) (by omega)
  have hM : (r : Int) * ((n : Int) - 2) = ((r * (n - 2) : Nat) : Int) := by rw [Int.natCast_mul, Int.natCast_sub (by omega)]; rfl
  have HM : Hid ((r : Int) * ((n : Int) - 2) + ((pos n r d : Nat) : Int) = ((r * (n - 2) + pos n r d : Nat) : Int)) := by (show _ + _ = _); rw [hM, Int.natCast_add]
  have m1 : (0 : Int) ≤ (r : Int) * ((n : Int) - 2) := by rw [hM]; omega
  have m2 : (r : Int) * ((n : Int) - 2) ≤ 160 := by rw [hM]; omega
  clear hM hm
  generalize pos n r d = q at *
  have b0 : ((q : Int) == -1) = false := by rw [beq_eq_false_iff_ne]; omega
  have b1 : ((q : Int) == -2) = false := by rw [beq_eq_false_iff_ne]; omega
  go_enter Try.func6, Try.ntmps6
  go_wp2_with fail
  refine (R _).mono ?_
  rintro e w1 ⟨rfl, hB⟩
  have c1 : w1.cell? ⟨w.heap.size, 1, none⟩ = some (.int .i64 r) := by rw [hB.cell (p := ⟨w.heap.size, 1, none⟩) (by simp)]; simp
  have hB2 := bel_box hB
  clear R hB
  go_wp2
  go_ret2
  exact ⟨ret_int2 HM.out, hB2⟩
set_option maxHeartbeats 1000000 in
theorem block_none (n d r : Nat) (h1 : 3 ≤ n) (h2 : n ≤ 10) (hd : d < n) (hr : r < 20) (hp : n - 2 ≤ pos n r d) (w : World) :
    Calls Try.prog 6 #[.int .i64 n, spt d r] w fun e w' => e = .returned (.tuple #[.int .i64 0, enone]) ∧ Below w.heap.size w w' := by
  have R := role_ok n d r h1 h2 hd hr
  have hlt := pos_lt (r := r) (d := d) h1
  by_cases k1 : pos n r d = n - 2
  all_goals
    first
    | rw [show rol n (pos n r d) = -1 from if_pos k1] at R
    | rw [show rol n (pos n r d) = -2 by unfold rol; rw [if_neg k1, if_pos (by omega)]] at R
    clear k1 hlt hp
    go_enter Try.func6, Try.ntmps6
    go_wp2_with fail
    refine (R _).mono ?_
    rintro e w1 ⟨rfl, hB⟩
    have hB2 := bel_box hB
    clear R hB
    go_wp2
    go_ret2
    exact ⟨rfl, hB2⟩
set_option maxHeartbeats 1000000 in
theorem block_bad (n d r : Int) (h : rbd n d r ≠ 0) (w : World) :
    Calls Try.prog 6 #[.int .i64 n, spt d r] w fun e w' => e = .returned (.tuple #[.int .i64 0, erange]) ∧ Below w.heap.size w w' := by
  have R := role_bad n d r h
  clear h
  go_enter Try.func6, Try.ntmps6
  go_wp2_with fail
  refine (R _).mono ?_
  rintro e w1 ⟨rfl, hB⟩
  have hB2 := bel_box hB
  clear R hB
  go_wp2
  go_ret2
  exact ⟨rfl, hB2⟩
end Go.Proofs.Ytmeihdjcifhcpaa
