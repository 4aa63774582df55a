/- What code.parityRows answers: by a walk over the program. -/
import Derived.Test.YtfnbpljgmchhbaaCd
import Derived.Test.YtfnbpljgmchhbaaMatN
namespace Go.Proofs.Ytfnbpljgmchhbaa
open Go.ChangeShapes Go.WideShapes Go.ChangeAt Go.RowKit El Pol Mx
/-- the first k numbers stand -/
def upto (k : Nat) : Nat → El := fun j => if j < k then en j else 0
theorem upto_set (n k : Nat) : (row (upto k) n).set k (en k) = row (upto (k + 1)) n := by
  refine row_set _ _ n k _ (fun j hj => ?_) ?_
  · unfold upto
    by_cases h : j < k
    · rw [if_pos h, if_pos (by omega)]
    · rw [if_neg h, if_neg (by omega)]
  · unfold upto; rw [if_pos (by omega)]
theorem numbers_not (k m : Nat) (h : k + m ≤ 12) : twice (co (row (fun j => en (k + j)) m ++ row en k)) ((row (fun j => en (k + j)) m).length + (row en k).length) = false := by
  rw [Bool.eq_false_iff]
  intro e
  obtain ⟨i, j, hij, hj, hx⟩ := (twice_iff _ _).1 e
  rw [row_length, row_length] at hj
  have hat : ∀ l, l < m + k → co (row (fun j => en (k + j)) m ++ row en k) l = if l < m then en (k + l) else en (l - m) := by
    intro l hl
    by_cases h : l < m
    · rw [if_pos h, co_left _ _ (by rw [row_length]; exact h), co_row_lt _ h]
    · rw [if_neg h]
      have := co_right (row (fun j => en (k + j)) m) (row en k) (l - m)
      rw [row_length, show m + (l - m) = l by omega] at this
      rw [this, co_row_lt _ (by omega)]
  rw [hat i (by omega), hat j hj] at hx
  by_cases h1 : i < m
  · rw [if_pos h1] at hx
    by_cases h2 : j < m
    · rw [if_pos h2] at hx
      have := en_inj (by omega) (by omega) hx
      omega
    · rw [if_neg h2] at hx
      have := en_inj (by omega) (by omega) hx
      omega
  · rw [if_neg h1, if_neg (by omega)] at hx
    have := en_inj (by omega) (by omega) hx
    omega
theorem rows_par (k m : Nat) : ∀ i, i < m → rws (cauchy (co (row (fun j => en (k + j)) m)) (co (row en k))) k i = rws (par k) k i := fun i hi => row_congr (fun j hj => by
  unfold par cauchy
  rw [co_row_lt _ hi, co_row_lt _ hj])
set_option maxRecDepth 100000 in
set_option maxHeartbeats 1000000 in
theorem prows_any (k m : Nat) (h1 : 1 ≤ k) (h2 : k + m ≤ 12) (w : World) :
    Calls Try.prog 26 #[.int .i64 k, .int .i64 m] w fun e w' => ∃ (v' : Value) (rv : Nat → Value), e = .returned v' ∧ OwM w.heap.size w' v' m (rws (par k) k) rv ∧ Below w.heap.size w w' := by
  obtain ⟨i0, hi, hz0, hz1, hz2⟩ := info_parts info8
  go_enter Try.func26, Try.ntmps26
  go_wp2_with (first | (at_make; refine wpList_make_full _ rfl _ _ 30 rfl w.heap.size 5 i0 (.int .u8 0) 1 Try.underlying30 hi hz0 hz1 _ _ _ _ (k + m) rfl rfl rfl rfl (by rw [hz2]; omega) (by unfold maxLen; omega) (Nat.le_refl _) ?_))
  intro w1 hown hgrow
  have hO : Ow w.heap.size w1 (.slice (some ⟨w.heap.size, 0, none⟩) (k + m) (k + m)) (row (upto 0) (k + m)) := by
    have h0 : row (upto 0) (k + m) = row (fun _ => 0) (k + m) := row_congr (fun j _ => by unfold upto; rw [if_neg (by omega)])
    rw [h0, ← replicate_row]; exact Ow.made hown
  have hB : Below w.heap.size w w1 := below_of_grown hgrow
  clear hown hgrow
  go_wp2
  go_loopw [15] (fun t wr => ∃ i : Nat, i ≤ k + m ∧ t = .int .i64 i ∧ Ow w.heap.size wr (.slice (some ⟨w.heap.size, 0, none⟩) (k + m) (k + m)) (row (upto i) (k + m)) ∧ Below w.heap.size w wr) (fun t _ => (k + m) - (intOf t).toNat)
  case atStart => exact ⟨0, Nat.zero_le _, rfl, hO, hB⟩
  case round =>
    clear hO hB
    obtain ⟨i, hik, rfl, hO, hB⟩ := hrel
    by_cases hlt : i < k + m
    · have hcell := hO.cell (by rw [row_length]) i hlt
      have hfree := hO.free (by rw [row_length]) i
      have hS := hO.stored (by rw [row_length]) i (en i)
      rw [upto_set, en_val (by omega)] at hS
      have hB2 := hB.trans (below_of_grownAt hS.2 hB.size (Nat.le_refl _))
      have hS1 := hS.1
      generalize co (row (upto i) (k + m)) i = y at *
      clear hS hO hB
      go_wp2
      go_roundw
      case rel => exact ⟨i + 1, by omega, by go_num, hS1, hB2⟩
      case measure => simp [intOf]; omega
    · have hE : row (upto i) (k + m) = row en (k + m) := row_congr (fun j hj => by unfold upto; rw [if_pos (by omega)])
      rw [hE] at hO
      have hlo := hO.rd.part (k := k) (by omega)
      clear hE
      have hdr : Below wr.heap.size wr wr.drew := ⟨rfl, rfl, rfl, Nat.le_refl _, fun _ _ => rfl⟩
      by_cases hm : m = 0
      · subst hm
        have hhi : Rd wr (.slice (some ⟨w.heap.size, 0, none⟩) 0 0) (row (fun j => en (k + j)) 0) := Rd.none wr _ 0 _ (fun e => by cases e) (by omega)
        have C := cauchy_ok _ _ _ _ wr.drew hhi.drew hlo.drew (by rw [row_length]; omega) (by rw [row_length]; omega) (numbers_not k 0 (by omega))
        rw [row_length, row_length] at C
        clear hO hlo hhi
        go_wp2
        go_region_with (first | (go_at_call 46; refine C.mono ?_; rintro e w2 ⟨v', rv, rfl, hN, hB2⟩))
        all_goals
          have hN2 := (hN.mono (show w.heap.size ≤ wr.drew.heap.size from hB.size)).congr (rows_par k _)
          have hB3 := hB.trans ((hdr.trans hB2).mono hB.size)
          clear hN hB2 C
          go_wp2
          go_ret
          exact ⟨_, _, rfl, hN2, hB3⟩
      · have hhi := Rd.drop (n := k) hO.rd (by omega)
        rw [show k + m - k = m by omega] at hhi
        have C := cauchy_ok _ _ _ _ wr.drew hhi.drew hlo.drew (by rw [row_length]; omega) (by rw [row_length]; omega) (numbers_not k m (by omega))
        rw [row_length, row_length] at C
        clear hO hlo hhi
        go_wp2
        go_region_with (first | (go_at_call 46; refine C.mono ?_; rintro e w2 ⟨v', rv, rfl, hN, hB2⟩))
        all_goals
          have hN2 := (hN.mono (show w.heap.size ≤ wr.drew.heap.size from hB.size)).congr (rows_par k _)
          have hB3 := hB.trans ((hdr.trans hB2).mono hB.size)
          clear hN hB2 C
          go_wp2
          go_ret
          exact ⟨_, _, rfl, hN2, hB3⟩
end Go.Proofs.Ytfnbpljgmchhbaa
