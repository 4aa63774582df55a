/- LayoutRound: a walk over the program. -/
import Derived.Test.YtmeihdjcifhcpaaDoorLayD
import Derived.Test.YtmeihdjcifhcpaaDoorRowAt
import Derived.Test.YtmeihdjcifhcpaaDoorErrs
import Derived.BigQuiet
namespace Go.Proofs.YtmeihdjcifhcpaaDoor
open Go.RowKit Lay
/-- how many of the first k blocks stand on disk d -/
def many (n d : Nat) : Nat → Nat
  | 0 => 0
  | k + 1 => many n d k + if ord n (k / (n - 2)) (k % (n - 2)) = d then 1 else 0
theorem many_le (n d : Nat) : ∀ k, many n d k ≤ k
  | 0 => Nat.le_refl _
  | k + 1 => by
    have := many_le n d k
    unfold many
    split <;> omega
theorem many_hit (n d k : Nat) (h : ord n (k / (n - 2)) (k % (n - 2)) = d) : many n d (k + 1) = many n d k + 1 := by rw [many, if_pos h]
theorem many_miss (n d k : Nat) (h : ord n (k / (n - 2)) (k % (n - 2)) ≠ d) : many n d (k + 1) = many n d k := by rw [many, if_neg h, Nat.add_zero]
def alike (n : Nat) : Bool := (List.range n).all (fun d => many n d (n * (n - 2)) == n - 2)
theorem alike_all : (List.range 8).all (fun k => alike (k + 3)) = true := by decide +kernel
theorem many_all {n d : Nat} (h1 : 3 ≤ n) (h2 : n ≤ 10) (hd : d < n) : many n d (n * (n - 2)) = n - 2 := by
  have h := List.all_eq_true.1 alike_all (n - 3) (List.mem_range.2 (by omega))
  rw [show n - 3 + 3 = n by omega] at h
  have := List.all_eq_true.1 h d (List.mem_range.2 hd)
  simpa using this
def ten0 : Array Value := Array.replicate 10 (.int .i64 0)
theorem zero_ten (w : World) : (zeroValue 26).run Tryd.prog w = .ok (.agg ten0) w := by kernel_rfl
set_option maxRecDepth 100000 in
set_option maxHeartbeats 1000000 in
theorem round_ok (n : Nat) (h1 : 3 ≤ n) (h2 : n ≤ 10) (w : World) :
    Calls Tryd.prog 3 #[.int .i64 n] w fun e w' => e = .returned (.bool true) ∧ Below w.heap.size w w' := by
  have hz := zero_ten
  have hA : RowAt (w.alloc (.cells ten0 26)) w.heap.size 10 (fun d => .int .i64 ((many n d 0 : Nat) : Int)) := RowAt.new w 10 _ _
  have hB0 : Below w.heap.size w (w.alloc (.cells ten0 26)) := (Below.refl _ _).alloc (Nat.le_refl _) _
  obtain ⟨m, hm⟩ : ∃ m, n * (n - 2) = m := ⟨_, rfl⟩
  have hm8 : n * (n - 2) ≤ 10 * 8 := Nat.mul_le_mul h2 (by omega)
  obtain ⟨c, hc⟩ : ∃ c, n - 2 = c := ⟨_, rfl⟩
  have hs : (n : Int) - 2 = (c : Int) := by omega
  have hmI : (n : Int) * (c : Int) = (m : Int) := by rw [← hm, ← hc, Int.natCast_mul]
  have HC : Hid (n - 2 = c) := hc
  have hcp : 0 < c := by omega
  have hz0 : ((c : Int) == 0) = false := by rw [beq_eq_false_iff_ne]; omega
  have hmc : m ≤ 20 * c := by rw [← hm, hc]; exact Nat.mul_le_mul (by omega) (Nat.le_refl _)
  have HM : Hid (n * (n - 2) = m) := hm
  have hmle : m ≤ 80 := by omega
  clear hm hm8 hc
  go_enter Tryd.func3, Tryd.ntmps3
  go_wp2
  go_loopw [4] (fun t wr => ∃ k : Nat, k ≤ m ∧ t = .int .i64 k ∧ RowAt wr w.heap.size 10 (fun d => .int .i64 ((many n d k : Nat) : Int)) ∧ Below w.heap.size w wr) (fun t _ => m - (intOf t).toNat)
  case atStart => exact ⟨0, Nat.zero_le _, rfl, hA, hB0⟩
  case round =>
    clear hA hB0
    obtain ⟨k, hk, rfl, hA, hB⟩ := hrel
    by_cases hlt : k < m
    · have D := data_ok n k h1 h2 (by rw [HC.out]; omega)
      rw [HC.out] at D
      have hzl : ord n (k / c) (k % c) < n := ord_lt h1
      have q1 : (0 : Int) ≤ ((k / c : Nat) : Int) := Int.natCast_nonneg _
      have q2 : ((k / c : Nat) : Int) < 20 := Int.ofNat_lt.2 ((Nat.div_lt_iff_lt_mul hcp).2 (Nat.lt_of_lt_of_le hlt hmc))
      rw [Int.natCast_ediv k c] at D q1 q2
      have HZ : Hid (ord n (k / c) (k % c) = ord n (k / (n - 2)) (k % (n - 2))) := by (show _ = _); rw [HC.out]
      generalize ord n (k / c) (k % c) = z at *
      have hle := many_le n z k
      have hd1 : decide ((z : Int) < 0) = false := decide_eq_false (by omega)
      have hd2 : decide (n ≤ z) = false := decide_eq_false (by omega)
      go_wp2_with fail
      refine (D _).mono ?_
      rintro e w2 ⟨rfl, hB2⟩
      clear D
      have hA2 := hA.old hB2
      have hB3 := hB.trans (hB2.mono hB.size)
      clear hA hB hB2
      have HA : Hid (∀ nq, RowAt (((w2.alloc (.cells #[.int .i64 z, .int .i64 ((k : Int) / (c : Int))] 28)).drewN nq).setCell ⟨w.heap.size, z, none⟩ (.int .i64 ((many n z k : Nat) + 1 : Int))) w.heap.size 10 (fun d => .int .i64 ((many n d (k + 1) : Nat) : Int)) ∧ Below w.heap.size w (((w2.alloc (.cells #[.int .i64 z, .int .i64 ((k : Int) / (c : Int))] 28)).drewN nq).setCell ⟨w.heap.size, z, none⟩ (.int .i64 ((many n z k : Nat) + 1 : Int)))) := by
        intro nq
        have hA4 := hA2.old (below_drewN ((Below.refl _ _).alloc (Nat.le_refl _) (.cells #[.int .i64 z, .int .i64 ((k : Int) / (c : Int))] 28)) nq)
        have hP := hA4.put z (.int .i64 ((many n z k : Nat) + 1 : Int))
        refine ⟨hP.1.congr (fun d _ => ?_), (below_drewN (hB3.alloc hB3.size _) nq).trans hP.2⟩
        unfold up
        by_cases e : d = z
        · subst e
          rw [if_pos rfl]
          rw [many_hit n d k HZ.out.symm]
          rfl
        · rw [if_neg e]
          dsimp only
          rw [many_miss n d k (fun q => e (by rw [← q, HZ.out]))]
      have hc := (hA2.old ((Below.refl _ _).alloc (Nat.le_refl _) (.cells #[.int .i64 z, .int .i64 ((k : Int) / (c : Int))] 28))).2 z (by omega)
      have hc1 := hc.1
      have hc2 := hc.2
      dsimp only at hc1
      generalize many n z k = y at *
      clear hc hA2 hB3
      go_wp2_with fail
      go_quiet (fail)
      obtain ⟨R1, R2⟩ := HA.out nq
      clear HA
      go_wp2
      go_roundw
      case rel => exact ⟨k + 1, by omega, by go_num, R1, R2⟩
      case measure => simp [intOf]; omega
    · go_wp2
      go_loopw [7] (fun t wr2 => ∃ d : Nat, d ≤ n ∧ t = .int .i64 d ∧ RowAt wr2 w.heap.size 10 (fun d => .int .i64 ((many n d m : Nat) : Int)) ∧ Below w.heap.size w wr2) (fun t _ => n - (intOf t).toNat)
      case atStart => exact ⟨0, Nat.zero_le _, rfl, by rw [show m = k by omega]; exact hA, hB⟩
      case round =>
        clear hA hB
        obtain ⟨d, hd, rfl, hA, hB⟩ := hrel
        by_cases hlt2 : d < n
        · have hc := (hA.2 d (by omega)).1
          dsimp only at hc
          rw [← HM.out, many_all h1 h2 hlt2, HC.out] at hc
          go_wp2
          go_roundw
          case rel => exact ⟨d + 1, by omega, by go_num, hA, hB⟩
          case measure => simp [intOf]; omega
        · go_wp2
          go_ret
          exact ⟨rfl, hB⟩
theorem round_bad (n : Int) (h : n < 3 ∨ 10 < n) (w : World) (hg : Handle w) :
    Calls Tryd.prog 3 #[.int .i64 n] w fun e w' => e = .returned (.bool true) ∧ Below w.heap.size w w' := by
  have C := lcheck_any n
  rw [show lbad n = 1 from if_pos h, errV, if_neg (by omega)] at C
  have E := err_same 1 w hg
  rcases h with h | h
  all_goals
    go_enter Tryd.func3, Tryd.ntmps3
    go_wp2_with fail
    refine (C _).mono ?_
    rintro e w1 ⟨rfl, hw⟩
    obtain rfl := hw.symm
    go_wp2_with fail
    refine E.mono ?_
    rintro e w2 ⟨rfl, hB⟩
    clear C E
    go_wp2
    go_ret
    exact ⟨rfl, hB⟩
end Go.Proofs.YtmeihdjcifhcpaaDoor
