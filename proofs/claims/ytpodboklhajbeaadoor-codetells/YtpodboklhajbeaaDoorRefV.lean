/- What the document's own Line and Mix answer: by walks over the program. -/
import Derived.Test.YtpodboklhajbeaaDoorRefU
import Derived.Test.YtpodboklhajbeaaDoorCd
namespace Go.Proofs.YtpodboklhajbeaaDoor
open Go.ChangeShapes Go.WideShapes Go.ChangeAt Go.RowKit El Pol Mx
theorem invQ3 (x : El) (h : x ≠ 0) (w : World) : Calls Tryd.prog 17 #[.int .u8 ((x.val : Nat) : Int)] w fun e w' => e = .returned (.int .u8 (((iv x).val : Nat) : Int)) ∧ ∃ q, w' = w.drewN q :=
  rinv_any x.val x.isLt (val_ne h) w
/-- the first j of a row of parity stand -/
def lineTo (k i j : Nat) : Nat → El := fun l => if l < j then gen k i l else 0
theorem lineTo_set (k i j : Nat) : (row (lineTo k i j) k).set j (gen k i j) = row (lineTo k i (j + 1)) k := by
  refine row_set _ _ k j _ (fun l hl => ?_) ?_
  · unfold lineTo
    by_cases h : l < j
    · rw [if_pos h, if_pos (by omega)]
    · rw [if_neg h, if_neg (by omega)]
  · unfold lineTo; rw [if_pos (by omega)]
set_option maxRecDepth 100000 in
set_option maxHeartbeats 1000000 in
theorem rline_any (k i : Nat) (hk : 1 ≤ k) (hk2 : k ≤ 12) (hi : i ≤ 12) (w : World) :
    Calls Tryd.prog 47 #[.int .i64 k, .int .i64 i] w fun e w' => ∃ v', e = .returned v' ∧ Ow w.heap.size w' v' (row (gen k i) k) ∧ Below w.heap.size w w' := by
  obtain ⟨i0, hi0, hz0, hz1, hz2⟩ := info_parts info8
  go_enter Tryd.func47, Tryd.ntmps47
  go_wp2_with (first | (at_make; refine wpList_make_full _ rfl _ _ 23 rfl w.heap.size 5 i0 (.int .u8 0) 1 Tryd.underlying23 hi0 hz0 hz1 _ _ _ _ k rfl rfl rfl rfl (by rw [hz2]; omega) (by unfold maxLen; omega) (Nat.le_refl _) ?_))
  intro w1 hown hgrow
  have hO : Ow w.heap.size w1 (.slice (some ⟨w.heap.size, 0, none⟩) k k) (row (fun _ => 0) k) := by rw [← replicate_row]; exact Ow.made hown
  have hB : Below w.heap.size w w1 := below_of_grown hgrow
  clear hown hgrow
  by_cases hik : i < k
  · have hik' : (i : Int) < (k : Int) := by omega
    have hcell := hO.cell (by rw [row_length]) i hik
    have hfree := hO.free (by rw [row_length]) i
    have hS := hO.stored (by rw [row_length]) i 1
    have hS1 : Ow w.heap.size (w1.setCell ⟨w.heap.size, i, none⟩ (.int .u8 1)) (.slice (some ⟨w.heap.size, 0, none⟩) k k) (row (gen k i) k) := by
      have := hS.1
      rw [row_set (fun _ => 0) (gen k i) k i 1 (fun j hj => by unfold gen one; rw [if_pos hik, if_neg (Ne.symm hj)]) (by unfold gen one; rw [if_pos hik, if_pos rfl])] at this
      exact this
    have hB2 : Below w.heap.size w (w1.setCell ⟨w.heap.size, i, none⟩ (.int .u8 1)) := hB.trans (below_of_grownAt hS.2 hB.size (Nat.le_refl _))
    generalize co (row (fun _ => (0 : El)) k) i = y at *
    clear hS hO hB
    go_wp2
    go_ret
    exact ⟨_, rfl, hS1, hB2⟩
  · have hik' : ¬ (i : Int) < (k : Int) := by omega
    have HIK : Hid (¬ i < k) := hik
    have hO0 : Ow w.heap.size w1 (.slice (some ⟨w.heap.size, 0, none⟩) k k) (row (lineTo k i 0) k) := by
      rw [row_congr (g := fun _ => 0) (fun j _ => by unfold lineTo; rw [if_neg (by omega)])]; exact hO
    clear hO
    go_wp2
    go_loopw [6] (fun t wr => ∃ j : Nat, j ≤ k ∧ t = .int .i64 j ∧ Ow w.heap.size wr (.slice (some ⟨w.heap.size, 0, none⟩) k k) (row (lineTo k i j) k) ∧ Below w.heap.size w wr) (fun t _ => k - (intOf t).toNat)
    case atStart => exact ⟨0, Nat.zero_le _, rfl, hO0, hB⟩
    case round =>
      clear hO0 hB
      obtain ⟨j, hj, rfl, hO, hB⟩ := hrel
      by_cases hlt : j < k
      · have HX : Hid (iv (pl (en i) (en j)) = gen k i j) := by (show _ = _); unfold gen; rw [if_neg HIK.out]
        have HP : Hid (∀ w2, (∃ n, w2 = wr.drewN n) → w2.frozen? ⟨w.heap.size, j, none⟩ = false ∧ (∃ old, w2.cell? ⟨w.heap.size, j, none⟩ = some old) ∧ Ow w.heap.size (w2.setCell ⟨w.heap.size, j, none⟩ (.int .u8 (((iv (pl (en i) (en j))).val : Nat) : Int))) (.slice (some ⟨w.heap.size, 0, none⟩) k k) (row (lineTo k i (j + 1)) k) ∧ Below w.heap.size w (w2.setCell ⟨w.heap.size, j, none⟩ (.int .u8 (((iv (pl (en i) (en j))).val : Nat) : Int)))) := by
          rintro w2 ⟨n, rfl⟩
          have hO3 : Ow w.heap.size (wr.drewN n) (.slice (some ⟨w.heap.size, 0, none⟩) k k) (row (lineTo k i j) k) := hO.old (below_drewN (Below.refl _ _) n)
          have hB3 := below_drewN hB n
          have hS := hO3.stored (by rw [row_length]) j (iv (pl (en i) (en j)))
          refine ⟨hO3.free (by rw [row_length]) j, ⟨_, hO3.cell (by rw [row_length]) j hlt⟩, ?_, hB3.trans (below_of_grownAt hS.2 hB3.size (Nat.le_refl _))⟩
          have := hS.1
          rw [HX.out, lineTo_set] at this
          rw [HX.out]
          exact this
        have hnz : pl (en i) (en j) ≠ 0 := fun e => by
          have := en_inj (by omega) (by omega) (pl_eq_zero e)
          omega
        have hvi : (((en i).val : Nat) : Int) = (i : Int) := by rw [en_val (by omega)]
        have hvj : (((en j).val : Nat) : Int) = (j : Int) := by rw [en_val (by omega)]
        have P := plusQ2 (en i) (en j)
        have Q := invQ3 _ hnz
        rw [hvi, hvj] at P
        clear hO hB hvi hvj
        generalize pl (en i) (en j) = z at *
        go_wp2_with fail
        refine (P _).mono ?_
        rintro e w2 ⟨rfl, n2, hw2⟩
        go_wp2_with fail
        refine (Q _).mono ?_
        rintro e w3 ⟨rfl, n3, hw3⟩
        obtain ⟨hf, ⟨old, hc⟩, P1, P2⟩ := HP.out w3 ⟨n2 + n3, by rw [hw3, World.drewN_drewN]⟩
        clear P Q HP hw2 hw3
        go_wp2
        go_roundw
        case rel => exact ⟨j + 1, by omega, by go_num, P1, P2⟩
        case measure => simp [intOf]; omega
      · have hF : Ow w.heap.size wr (.slice (some ⟨w.heap.size, 0, none⟩) k k) (row (gen k i) k) := by
          rw [row_congr (g := lineTo k i j) (fun l hl => by unfold lineTo; rw [if_pos (by omega)])]; exact hO
        clear hO
        go_wp2
        go_ret
        exact ⟨_, rfl, hF, hB⟩
end Go.Proofs.YtpodboklhajbeaaDoor
