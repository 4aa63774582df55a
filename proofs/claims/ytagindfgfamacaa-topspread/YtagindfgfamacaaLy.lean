/- Texts of plain mathematics, of memory and of walks, in one. -/
import Derived.Test.YtagindfgfamacaaGe
import Derived.Test.YtagindfgfamacaaMa
import Derived.Test.YtagindfgfamacaaOwIs
/- What layout.Check, noRow, diskOfP, diskBehindP and Order answer: by walks over the program. -/
namespace Go.Proofs.Ytagindfgfamacaa
open Go.RowKit Lay
def lbad (n : Int) : Nat := if n < 3 ∨ 10 < n then 1 else 0
theorem lbad_ok {n : Int} (h : lbad n = 0) : 3 ≤ n ∧ n ≤ 10 := by
  unfold lbad at h
  split at h <;> omega
theorem lbad_of {n : Int} (h1 : 3 ≤ n) (h2 : n ≤ 10) : lbad n = 0 := if_neg (by omega)
theorem lcheck_any (n : Int) (w : World) : Calls Try.prog 26 #[.int .i64 n] w fun e w' => e = .returned (errV (lbad n)) ∧ w' = w := by
  by_cases h1 : n < 3
  · rw [show lbad n = 1 from if_pos (.inl h1)]
    go_enter Try.func26, Try.ntmps26
    go_wp2
    go_ret
    exact ⟨rfl, rfl⟩
  · by_cases h2 : 10 < n
    · rw [show lbad n = 1 from if_pos (.inr h2)]
      go_enter Try.func26, Try.ntmps26
      go_wp2
      go_ret
      exact ⟨rfl, rfl⟩
    · rw [show lbad n = 0 from if_neg (by omega)]
      go_enter Try.func26, Try.ntmps26
      go_wp2
      go_ret
      exact ⟨rfl, rfl⟩
theorem norow_any (r : Int) (w : World) : Calls Try.prog 27 #[.int .i64 r] w fun e w' => e = .returned (.bool (decide (r < 0 ∨ 20 ≤ r))) ∧ w' = w := by
  by_cases h1 : r < 0
  · rw [decide_eq_true (show r < 0 ∨ 20 ≤ r from .inl h1)]
    go_enter Try.func27, Try.ntmps27
    go_wp2
    go_ret
    exact ⟨rfl, rfl⟩
  · by_cases h2 : 20 ≤ r
    · rw [decide_eq_true (show r < 0 ∨ 20 ≤ r from .inr h2)]
      go_enter Try.func27, Try.ntmps27
      go_wp2
      go_ret
      exact ⟨rfl, rfl⟩
    · rw [decide_eq_false (show ¬ (r < 0 ∨ 20 ≤ r) by omega)]
      go_enter Try.func27, Try.ntmps27
      go_wp2
      go_ret
      exact ⟨rfl, rfl⟩
theorem mod_facts {a n : Nat} (hn : 3 ≤ n) : (0 : Int) ≤ (a : Int) % (n : Int) ∧ (a : Int) % (n : Int) < (n : Int) := ⟨Int.emod_nonneg _ (by omega), Int.emod_lt_of_pos _ (by omega)⟩
theorem diskP_any (n r : Nat) (h1 : 3 ≤ n) (h2 : n ≤ 10) (hr : r < 20) (w : World) :
    Calls Try.prog 49 #[.int .i64 n, .int .i64 r] w fun e w' => e = .returned (.int .i64 ((dP n r : Nat) : Int)) ∧ w' = w := by
  have hm := mod_facts (a := r) h1
  have hm1 := hm.1
  have hm2 := hm.2
  have E : Hid ((n : Int) - 1 - (r : Int) % (n : Int) = ((dP n r : Nat) : Int)) := by
    (show (n : Int) - 1 - (r : Int) % (n : Int) = _)
    unfold dP
    omega
  clear hm
  go_enter Try.func49, Try.ntmps49
  go_wp2
  go_ret
  exact ⟨ret_int E.out, rfl⟩
theorem behindP_any (n r b : Nat) (h1 : 3 ≤ n) (h2 : n ≤ 10) (hr : r < 20) (hb : b ≤ 20) (w : World) :
    Calls Try.prog 28 #[.int .i64 n, .int .i64 r, .int .i64 b] w fun e w' => e = .returned (.int .i64 (((dP n r + b) % n : Nat) : Int)) ∧ w' = w := by
  have hp := dP_lt (r := r) h1
  have C := diskP_any n r h1 h2 hr
  generalize dP n r = p at *
  have hm := mod_facts (a := p + b) h1
  have hm1 := hm.1
  have hm2 := hm.2
  rw [Int.natCast_add] at hm1 hm2
  clear hm
  go_enter Try.func28, Try.ntmps28
  go_wp2_with fail
  refine (C _).mono ?_
  rintro e w1 ⟨rfl, hw⟩
  obtain rfl := hw.symm
  clear C
  go_wp2
  go_ret
  exact ⟨ret_int (by rw [Int.natCast_emod, Int.natCast_add]), rfl⟩
end Go.Proofs.Ytagindfgfamacaa

/- What layout.Order answers: by a walk over the program. -/
namespace Go.Proofs.Ytagindfgfamacaa
open Go.RowKit Lay
/-- the first k of a row stand -/
def ordTo (n r k : Nat) : Nat → Int := fun i => if i < k then ((ord n r i : Nat) : Int) else 0
theorem ordTo_up (n r k : Nat) (i : Nat) : up (ordTo n r k) k ((ord n r k : Nat) : Int) i = ordTo n r (k + 1) i := by
  unfold up ordTo
  by_cases h : i = k
  · subst h; rw [if_pos rfl, if_pos (by omega)]
  · rw [if_neg h]
    by_cases h2 : i < k
    · rw [if_pos h2, if_pos (by omega)]
    · rw [if_neg h2, if_neg (by omega)]
set_option maxRecDepth 100000 in
set_option maxHeartbeats 1000000 in
theorem order_ok (n r : Nat) (h1 : 3 ≤ n) (h2 : n ≤ 10) (hr : r < 20) (w : World) :
    Calls Try.prog 9 #[.int .i64 n, .int .i64 r] w fun e w' => ∃ v', e = .returned (.tuple #[v', .nilIface]) ∧ OwI w.heap.size w' v' n (fun i => ((ord n r i : Nat) : Int)) ∧ Below w.heap.size w w' := by
  obtain ⟨i0, hi0, hz0, hz1, hz2⟩ := info_parts infoI
  have C := lcheck_any n
  have R := norow_any r
  have P := fun (b : Nat) hb => behindP_any n r b h1 h2 hr hb
  have e1 : lbad n = 0 := lbad_of (by omega) (by omega)
  have e2 : decide ((r : Int) < 0 ∨ 20 ≤ (r : Int)) = false := decide_eq_false (by omega)
  rw [e1] at C
  rw [e2] at R
  have HP : Hid (∀ b : Nat, b ≤ 20 → ∀ w, Calls Try.prog 28 #[.int .i64 n, .int .i64 r, .int .i64 b] w fun e w' => e = .returned (.int .i64 (((dP n r + b) % n : Nat) : Int)) ∧ w' = w) := P
  clear P e1 e2
  unfold errV at C
  rw [if_pos rfl] at C
  go_enter Try.func9, Try.ntmps9
  go_wp2_with fail
  refine (C _).mono ?_
  rintro e w1 ⟨rfl, hw⟩
  obtain rfl := hw.symm
  go_wp2_with fail
  refine (R _).mono ?_
  rintro e w1 ⟨rfl, hw⟩
  obtain rfl := hw.symm
  clear C R
  go_wp2_with (first | (at_make; refine wpList_make_full _ rfl _ _ 30 rfl w.heap.size 3 i0 (.int .i64 0) 1 Try.underlying30 hi0 hz0 hz1 _ _ _ _ n rfl rfl rfl rfl (by rw [hz2]; omega) (by unfold maxLen; omega) (Nat.le_refl _) ?_))
  intro w1 hown hgrow
  have hO : OwI w.heap.size w1 (.slice (some ⟨w.heap.size, 0, none⟩) n n) n (ordTo n r 0) := (OwI.made hown).congr (fun i _ => by unfold ordTo; rw [if_neg (by omega)])
  have hB : Below w.heap.size w w1 := below_of_grown hgrow
  clear hown hgrow
  go_wp2
  go_loopw [21] (fun t wr => ∃ k : Nat, k ≤ n ∧ t = .int .i64 k ∧ OwI w.heap.size wr (.slice (some ⟨w.heap.size, 0, none⟩) n n) n (ordTo n r k) ∧ Below w.heap.size w wr) (fun t _ => n - (intOf t).toNat)
  case atStart => exact ⟨0, Nat.zero_le _, rfl, hO, hB⟩
  case round =>
    clear hO hB
    obtain ⟨k, hk, rfl, hO, hB⟩ := hrel
    by_cases hlt : k < n
    · have Q := HP.out (k + 2) (by omega)
      rw [ord_data, Int.natCast_add, Int.add_comm] at Q
      have hc := hO.cell k hlt
      have hf := hO.free k
      have hS := hO.stored k ((ord n r k : Nat) : Int)
      have hS1 := OwI.congr hS.1 (fun i _ => ordTo_up n r k i)
      have hB2 := hB.trans (below_of_grownAt hS.2 hB.size (Nat.le_refl _))
      generalize ((ord n r k : Nat) : Int) = z at *
      generalize ordTo n r k k = y at *
      clear hS hO hB
      go_wp2_with fail
      refine (Q _).mono ?_
      rintro e w2 ⟨rfl, hw⟩
      obtain rfl := hw.symm
      clear Q
      go_wp2
      go_roundw
      case rel => exact ⟨k + 1, by omega, by go_num, hS1, hB2⟩
      case measure => simp [intOf]; omega
    · have hF : OwI w.heap.size wr (.slice (some ⟨w.heap.size, 0, none⟩) n n) n (fun i => ((ord n r i : Nat) : Int)) := hO.congr (fun i hi => by unfold ordTo; rw [if_pos (by omega)])
      clear hO
      go_wp2
      go_ret2
      exact ⟨_, rfl, hF, hB⟩
def obd (n r : Int) : Nat := if lbad n ≠ 0 ∨ r < 0 ∨ 20 ≤ r then 1 else 0
theorem order_bad (n r : Int) (h : obd n r ≠ 0) (w : World) :
    Calls Try.prog 9 #[.int .i64 n, .int .i64 r] w fun e w' => e = .returned (.tuple #[.slice none 0 0, erange]) ∧ w' = w := by
  have C := lcheck_any n
  by_cases h1 : lbad n = 0
  · rw [h1, errV, if_pos rfl] at C
    have R := norow_any r
    rw [decide_eq_true (show r < 0 ∨ 20 ≤ r by
      unfold obd at h
      split at h
      · rename_i k
        rcases k with k | k
        · exact absurd h1 k
        · exact k
      · exact absurd rfl h)] at R
    clear h h1
    go_enter Try.func9, Try.ntmps9
    go_wp2_with fail
    refine (C _).mono ?_
    rintro e w1 ⟨rfl, hw⟩
    obtain rfl := hw.symm
    clear C
    go_wp2_with fail
    refine (R _).mono ?_
    rintro e w1 ⟨rfl, hw⟩
    obtain rfl := hw.symm
    clear R
    go_wp2
    go_ret2
    exact ⟨rfl, rfl⟩
  · rw [show lbad n = 1 by unfold lbad at h1 ⊢; split at h1 <;> simp_all, errV, if_neg (by omega)] at C
    clear h h1
    go_enter Try.func9, Try.ntmps9
    go_wp2_with fail
    refine (C _).mono ?_
    rintro e w1 ⟨rfl, hw⟩
    obtain rfl := hw.symm
    clear C
    go_wp2
    go_ret2
    exact ⟨rfl, rfl⟩
end Go.Proofs.Ytagindfgfamacaa
