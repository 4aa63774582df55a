/- LocksShare: a walk over the program. -/
import Derived.Test.YtagindfgfamacaaKLa
import Derived.Test.YtagindfgfamacaaLkS
namespace Go.Proofs.Ytagindfgfamacaa
open Go.RowKit
set_option maxRecDepth 1000000 in
set_option maxHeartbeats 4000000 in
theorem lshare_ok (n : Nat) (h1 : 1 ≤ n) (h2 : n ≤ 28) (w : World) :
    Calls Try.prog 5 #[.int .i64 (n : Int)] w fun e w' => e = .returned (.bool true) ∧ Below w.heap.size w w' := by
  have N := lnew_any w
  have d1 : (1 : Int) ≤ (n : Int) := by omega
  have d2 : (n : Int) ≤ 28 := by omega
  go_enter Try.func5, Try.ntmps5
  go_wp2_with fail
  refine N.mono ?_
  rintro e w1 ⟨x, rfl, hI, hb⟩
  have HK : Hid (KL w x.p Lks.none w1) := KL.new (Below.refl _ _) hI hb
  clear N hI hb
  obtain ⟨p, hp⟩ : ∃ p, x.p = p := ⟨_, rfl⟩
  rw [hp] at HK ⊢
  clear hp
  go_wp2
  go_loopw [4] (fun t wr => ∃ k : Nat, 1 ≤ k ∧ k ≤ n + 1 ∧ t = .int .i64 k ∧ Hid (KL w p ⟨shL 1 (k - 1), []⟩ wr)) (fun t _ => n + 1 - (intOf t).toNat)
  case atStart => exact ⟨1, Nat.le_refl _, by omega, rfl, HK.out⟩
  case round =>
    obtain ⟨k, hk1, hk2, rfl, hS⟩ := hrel
    by_cases hlt : k ≤ n
    · obtain ⟨i, rfl⟩ : ∃ i, k = i + 1 := ⟨k - 1, by omega⟩
      rw [Nat.add_sub_cancel] at hS
      have A := sh_ask i (by omega)
      have C := kl_ask hS.out ⟨((i + 1 : Nat) : Int), 0, 40, false⟩
      unfold alk at C
      rw [A.1, A.2.1, A.2.2, errV, if_pos rfl] at C
      clear A
      have hz : ((i + 1 : Nat) : Int) ≤ (n : Int) := by omega
      generalize hj : i + 1 = j at *
      have HJ : Hid (i + 1 = j) := hj
      clear hj
      go_wp2_with fail
      refine C.mono ?_
      rintro e w2 ⟨rfl, hK2⟩
      have HK2 : Hid (KL w p ⟨shL 1 j, []⟩ w2) := hK2
      clear C hK2
      go_wp2
      go_roundw
      case rel => exact ⟨j + 1, by omega, by omega, by go_num, by rw [Nat.add_sub_cancel]; exact HK2.out⟩
      case measure => simp [intOf]; omega
    · have hz : (n : Int) < (k : Int) := by omega
      obtain rfl : k = n + 1 := by omega
      rw [Nat.add_sub_cancel] at hS
      have A := sh_A n h1 h2
      have C := kl_ask hS.out shA
      rw [A.1, A.2.1, A.2.2, errV, if_pos rfl] at C
      unfold alk shA at C
      clear A
      go_wp2_with fail
      refine C.mono ?_
      rintro e w2 ⟨rfl, hK2⟩
      have A := sh_B n h2
      have hK2 : KL w p ⟨shL 1 n, [shA]⟩ w2 := hK2
      have D := kl_ask hK2 shB
      rw [A.1, A.2.1, A.2.2, errV, if_pos rfl] at D
      unfold alk shB at D
      clear A C hK2
      go_wp2_with fail
      refine D.mono ?_
      rintro e w3 ⟨rfl, hK3⟩
      have HK3 : Hid (KL w p ⟨shL 1 n, [shA, shB]⟩ w3) := hK3
      clear D hK3 hS HK
      go_wp2
      go_loopw [11] (fun t wr => ∃ k : Nat, 1 ≤ k ∧ k ≤ n + 1 ∧ t = .int .i64 k ∧ Hid (KL w p (if k ≤ n then ⟨shL k (n + 1 - k), [shA, shB]⟩ else ⟨[shA], [shB]⟩) wr)) (fun t _ => n + 1 - (intOf t).toNat)
      case atStart => exact ⟨1, Nat.le_refl _, by omega, rfl, by rw [if_pos h1, Nat.add_sub_cancel]; exact HK3.out⟩
      case round =>
        obtain ⟨k, hk1, hk2, rfl, hS⟩ := hrel
        by_cases hlt : k ≤ n
        · rw [if_pos hlt] at hS
          have hz : (k : Int) ≤ (n : Int) := by omega
          have C := kl_free hS.out (k : Int)
          by_cases hl : k = n
          · subst hl
            rw [show k + 1 - k = 1 by omega] at C
            have A := sh_last k (by omega)
            rw [A.1, A.2.1, A.2.2, errV, if_pos rfl] at C
            clear A
            go_wp2_with fail
            refine C.mono ?_
            rintro e w4 ⟨u, rfl, hR, hK4⟩
            obtain ⟨au, cu, rfl, _, _⟩ := hR.len
            have HK4 : Hid (KL w p ⟨[shA], [shB]⟩ w4) := hK4
            clear C hK4 hR
            go_wp2
            go_roundw
            case rel => exact ⟨k + 1, by omega, by omega, by go_num, by rw [if_neg (by omega)]; exact HK4.out⟩
            case measure => simp [intOf]
          · obtain ⟨m, e1, e2⟩ : ∃ m, n + 1 - k = m + 2 ∧ m + 1 + k = n := ⟨n - 1 - k, by omega, by omega⟩
            rw [e1] at C
            have A := sh_more m k (by omega)
            rw [A.1, A.2.1, A.2.2, errV, if_pos rfl] at C
            have hne : ((k : Int) == (n : Int)) = false := beq_eq_false_iff_ne.2 (by omega)
            have HE : Hid (n + 1 - (k + 1) = m + 1) := by (show _ = _); omega
            clear A e1 e2 hl
            go_wp2_with fail
            refine C.mono ?_
            rintro e w4 ⟨u, rfl, hR, hK4⟩
            obtain ⟨au, cu, rfl, _, _⟩ := hR.len
            have HK4 : Hid (KL w p ⟨shL (k + 1) (m + 1), [shA, shB]⟩ w4) := hK4
            clear C hK4 hR
            go_wp2
            go_roundw
            case rel => exact ⟨k + 1, by omega, by omega, by go_num, by rw [if_pos (by have := HE.out; omega), HE.out]; exact HK4.out⟩
            case measure => simp [intOf]; omega
        · have hz : (n : Int) < (k : Int) := by omega
          rw [if_neg hlt] at hS
          have C := kl_free hS.out 99
          rw [sh_end.1, sh_end.2, errV, if_pos rfl] at C
          go_wp2_with fail
          refine C.mono ?_
          rintro e w4 ⟨u, rfl, hR, hK4⟩
          obtain ⟨au, cu, rfl, _, _⟩ := hR.len
          obtain ⟨ad, rfl, hc⟩ := hR.at 0 (by simp)
          have HL : Hid (Below w.heap.size w w4) := hK4.low
          rw [add_zero] at hc
          clear C hK4 hR
          go_wp2
          go_ret
          exact ⟨rfl, HL.out⟩
theorem lshare_any (i : Int) (w : World) :
    Calls Try.prog 5 #[.int .i64 i] w fun e w' => e = .returned (.bool true) ∧ Below w.heap.size w w' := by
  by_cases q1 : i < 1
  · have q3 := q1
    go_enter Try.func5, Try.ntmps5
    go_wp2
    go_ret
    exact ⟨rfl, Below.refl _ _⟩
  · by_cases q2 : 28 < i
    · have q3 := q2
      go_enter Try.func5, Try.ntmps5
      go_wp2
      go_ret
      exact ⟨rfl, Below.refl _ _⟩
    · obtain ⟨n, rfl⟩ : ∃ n : Nat, i = (n : Int) := ⟨i.toNat, by omega⟩
      exact lshare_ok n (by omega) (by omega) w
end Go.Proofs.Ytagindfgfamacaa
