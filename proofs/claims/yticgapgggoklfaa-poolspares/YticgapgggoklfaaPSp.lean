/- PoolSpares: walks over the program. -/
import Derived.Test.YticgapgggoklfaaPoL
import Derived.Test.YticgapgggoklfaaPoS
namespace Go.Proofs.Yticgapgggoklfaa
open Go.RowKit
theorem sp_ok {a b : Nat} (h1 : 1 ≤ a) (h2 : a ≤ 10) (h3 : b ≤ 10) : Plo.spOk a b = true := by
  have h := Plo.sp_tab ⟨a - 1, by omega⟩ ⟨b, by omega⟩
  dsimp only at h
  rw [show a - 1 + 1 = a by omega] at h
  exact h
theorem sp_at {a b : Nat} (h1 : 1 ≤ a) (h2 : a ≤ 10) (h3 : b ≤ 10) {i : Nat} (hi : i < a) : (Plo.after a b i).failE (i : Int) = 0 ∧ (Plo.after a b i).failN (i : Int) = Plo.told a b i := by
  have h := sp_ok h1 h2 h3
  unfold Plo.spOk at h
  simp only [Bool.and_eq_true, List.all_eq_true, List.mem_range, decide_eq_true_eq] at h
  exact h.1.1 i hi
theorem sp_end {a b : Nat} (h1 : 1 ≤ a) (h2 : a ≤ 10) (h3 : b ≤ 10) : (Plo.after a b a).newE 0 = 0 ∧ (Plo.after a b a).newN 0 = if b < a then (b : Int) else -1 := by
  have h := sp_ok h1 h2 h3
  unfold Plo.spOk at h
  simp only [Bool.and_eq_true, List.all_eq_true, List.mem_range, decide_eq_true_eq] at h
  exact ⟨h.1.2, h.2⟩
set_option maxRecDepth 100000 in
theorem spares_bad {a b : Int} (h : Plo.bad a b) (w : World) :
    Calls Try.prog 4 #[.int .i64 a, .int .i64 b] w fun e w' => e = .returned (.bool true) ∧ Below w.heap.size w w' := by
  have C := pnew_no h w
  rw [errV, if_neg (by omega)] at C
  by_cases h1 : a < 1
  · clear h
    have d1 : decide (a < 1) = true := decide_eq_true h1
    go_enter Try.func4, Try.ntmps4
    go_wp2_with fail
    refine C.mono ?_
    rintro e w1 ⟨rfl, hw⟩
    obtain rfl := hw.symm
    clear C hw
    go_wp2
    go_ret
    exact ⟨rfl, Below.refl _ _⟩
  · have d1 : decide (a < 1) = false := decide_eq_false h1
    by_cases h2 : 10 < a
    · clear h
      have d2 : decide (10 < a) = true := decide_eq_true h2
      go_enter Try.func4, Try.ntmps4
      go_wp2_with fail
      refine C.mono ?_
      rintro e w1 ⟨rfl, hw⟩
      obtain rfl := hw.symm
      clear C hw
      go_wp2
      go_ret
      exact ⟨rfl, Below.refl _ _⟩
    · have d2 : decide (10 < a) = false := decide_eq_false h2
      by_cases h3 : b < 0
      · clear h
        have d3 : decide (b < 0) = true := decide_eq_true h3
        go_enter Try.func4, Try.ntmps4
        go_wp2_with fail
        refine C.mono ?_
        rintro e w1 ⟨rfl, hw⟩
        obtain rfl := hw.symm
        clear C hw
        go_wp2
        go_ret
        exact ⟨rfl, Below.refl _ _⟩
      · have h4 : 10 < b := by unfold Plo.bad at h; omega
        clear h
        have d3 : decide (b < 0) = false := decide_eq_false h3
        have d4 : decide (10 < b) = true := decide_eq_true h4
        go_enter Try.func4, Try.ntmps4
        go_wp2_with fail
        refine C.mono ?_
        rintro e w1 ⟨rfl, hw⟩
        obtain rfl := hw.symm
        clear C hw
        go_wp2
        go_ret
        exact ⟨rfl, Below.refl _ _⟩
set_option maxRecDepth 100000 in
set_option maxHeartbeats 1000000 in
theorem spares_ok {a b : Nat} (h1 : 1 ≤ a) (h2 : a ≤ 10) (h3 : b ≤ 10) (w : World) :
    Calls Try.prog 4 #[.int .i64 (a : Int), .int .i64 (b : Int)] w fun e w' => e = .returned (.bool true) ∧ Below w.heap.size w w' := by
  have C := pl_new h1 h2 h3 (Below.refl w.heap.size w)
  rw [errV, if_pos rfl] at C
  have a10 : (a : Int) ≤ 10 := by omega
  have b10 : (b : Int) ≤ 10 := by omega
  go_enter Try.func4, Try.ntmps4
  go_wp2_with fail
  refine C.mono ?_
  rintro e w1 ⟨x, rfl, hP, _⟩
  have HP : Hid (PL w x (Plo.after a b 0) w1) := hP
  clear C hP
  go_wp2
  go_loopw [7] (fun c wr => ∃ i : Nat, i ≤ a ∧ c = .int .i64 i ∧ Hid (PL w x (Plo.after a b i) wr)) (fun c _ => a - (intOf c).toNat)
  case atStart => exact ⟨0, Nat.zero_le _, rfl, HP⟩
  case round =>
    obtain ⟨i, hi, rfl, HP⟩ := hrel
    by_cases hlt : i < a
    · have hiz : (i : Int) < (a : Int) := by omega
      obtain ⟨e1, e2⟩ := sp_at h1 h2 h3 hlt
      have A := HP.out.fail (i : Int)
      rw [e1, e2, errV, if_pos rfl] at A
      unfold Plo.told at A
      clear e1 e2
      by_cases hb : i < b
      · have hbz : ¬ (b : Int) ≤ (i : Int) := by omega
        rw [if_pos hb] at A
        have hadd : ((a + i : Nat) : Int) = (a : Int) + (i : Int) := by omega
        rw [hadd] at A
        clear hadd
        have hnn : ((a : Int) + (i : Int) != (a : Int) + (i : Int)) = false := by simp
        go_wp2_with fail
        refine A.mono ?_
        rintro e w2 ⟨rfl, hP2, _⟩
        have HP2 : Hid (PL w x (Plo.after a b (i + 1)) w2) := hP2
        clear A hP2 HP
        go_wp2
        go_roundw
        case rel => exact ⟨i + 1, by omega, by go_num, HP2⟩
        case measure => simp [intOf]; omega
      · have hbz : (b : Int) ≤ (i : Int) := by omega
        rw [if_neg hb] at A
        go_wp2_with fail
        refine A.mono ?_
        rintro e w2 ⟨rfl, hP2, _⟩
        have HP2 : Hid (PL w x (Plo.after a b (i + 1)) w2) := hP2
        clear A hP2 HP
        go_wp2
        go_roundw
        case rel => exact ⟨i + 1, by omega, by go_num, HP2⟩
        case measure => simp [intOf]; omega
    · have hiz : ¬ (i : Int) < (a : Int) := by omega
      obtain rfl : i = a := by omega
      obtain ⟨e1, e2⟩ := sp_end h1 h2 h3
      have A := HP.out.new 0
      rw [e1, e2, errV, if_pos rfl] at A
      clear e1 e2
      by_cases hb : b < i
      · have hbz : ¬ (i : Int) ≤ (b : Int) := by omega
        rw [if_pos hb] at A
        go_wp2_with fail
        refine A.mono ?_
        rintro e w2 ⟨rfl, hP2, _⟩
        have HL : Hid (Below w.heap.size w w2) := hP2.low
        clear A hP2 HP
        go_wp2
        go_ret
        exact ⟨by simp, HL.out⟩
      · have hbz : (i : Int) ≤ (b : Int) := by omega
        rw [if_neg hb] at A
        go_wp2_with fail
        refine A.mono ?_
        rintro e w2 ⟨rfl, hP2, _⟩
        have HL : Hid (Below w.heap.size w w2) := hP2.low
        clear A hP2 HP
        go_wp2
        go_ret
        exact ⟨by simp, HL.out⟩
theorem spares_any (a b : Int) (w : World) :
    Calls Try.prog 4 #[.int .i64 a, .int .i64 b] w fun e w' => e = .returned (.bool true) ∧ Below w.heap.size w w' := by
  by_cases h : Plo.bad a b
  · exact spares_bad h w
  · unfold Plo.bad at h
    obtain ⟨m, rfl⟩ : ∃ m : Nat, a = (m : Int) := ⟨a.toNat, by omega⟩
    obtain ⟨k, rfl⟩ : ∃ k : Nat, b = (k : Int) := ⟨b.toNat, by omega⟩
    exact spares_ok (by omega) (by omega) (by omega) w
end Go.Proofs.Yticgapgggoklfaa
