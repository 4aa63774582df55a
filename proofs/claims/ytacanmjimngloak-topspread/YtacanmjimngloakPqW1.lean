/- What pq.tooFewOrMany, inQ and sums answer: by walks over the program. -/
import Derived.Test.YtacanmjimngloakCodeD
import Derived.Test.YtacanmjimngloakWalkP
import Derived.Test.YtacanmjimngloakPqG
namespace Go.Proofs.Ytacanmjimngloak
open Go.ChangeShapes Go.WideShapes Go.ChangeAt Go.RowKit El Pol Mx
theorem few_any (k : Int) (w : World) : Calls Try.prog 24 #[.int .i64 k] w fun e w' => e = .returned (.bool (decide (k < 1 ∨ 10 < k))) ∧ w' = w := by
  by_cases h1 : k < 1
  · rw [decide_eq_true (.inl h1)]
    go_enter Try.func24, Try.ntmps24
    go_wp2
    go_ret
    exact ⟨rfl, rfl⟩
  · by_cases h2 : 10 < k
    · rw [decide_eq_true (.inr h2)]
      go_enter Try.func24, Try.ntmps24
      go_wp2
      go_ret
      exact ⟨rfl, rfl⟩
    · rw [decide_eq_false (by omega)]
      go_enter Try.func24, Try.ntmps24
      go_wp2
      go_ret
      exact ⟨rfl, rfl⟩
theorem inq_any (i : Nat) (hi : i ≤ 1000) (w : World) : Calls Try.prog 44 #[.int .i64 i] w fun e w' => e = .returned (.int .u8 (((g2 i).val : Nat) : Int)) ∧ w' = w := by
  have C := pow_some 2 i (by omega) (by omega) w
  go_enter Try.func44, Try.ntmps44
  go_wp2_with fail
  refine C.mono ?_
  rintro e w1 ⟨rfl, hw⟩
  obtain rfl := hw.symm
  clear C
  go_wp2
  go_ret
  exact ⟨rfl, rfl⟩
set_option maxRecDepth 100000 in
theorem sums_any (u v : Value) (q n L : Nat) (A D : M) (w : World) (hu : RdM w u 2 (rws A q)) (hv : RdF w v n (fun i => st (row (D i) L))) (hqn : q ≤ n) (h0 : 0 < n) (hL : L ≤ 16) :
    Calls Try.prog 26 #[u, v] w fun e w' => e = .returned (.tuple #[st (row (mm q A D 0) L), st (row (mm q A D 1) L)]) ∧ Below w.heap.size w w' := by
  have C := times_any u v 2 q n L A D w hu hv hqn (fun _ => h0) (by omega) hL
  obtain ⟨a1, c1, rfl, _, _⟩ := hu.len
  obtain ⟨a2, c2, rfl, _, _⟩ := hv.len
  clear hu hv
  go_enter Try.func26, Try.ntmps26
  go_wp2_with fail
  refine C.mono ?_
  rintro e w1 ⟨v1, rfl, hO, hB⟩
  have hR := OwL.rdM hO
  obtain ⟨a3, c3, rfl, _, _⟩ := hR.len
  obtain ⟨ad, rfl, hc0⟩ := hR.at 0 (by omega)
  obtain ⟨ad', e, hc1⟩ := hR.at 1 (by omega)
  cases e
  rw [add_zero] at hc0
  unfold st at hc0 hc1
  obtain ⟨s0, hs0⟩ : ∃ s, s = sb (row (mm q A D 0) L) := ⟨_, rfl⟩
  obtain ⟨s1, hs1⟩ : ∃ s, s = sb (row (mm q A D 1) L) := ⟨_, rfl⟩
  have HS0 : Hid (s0 = sb (row (mm q A D 0) L)) := hs0
  have HS1 : Hid (s1 = sb (row (mm q A D 1) L)) := hs1
  rw [← hs0] at hc0
  rw [← hs1] at hc1
  have hc1' : w1.cell? ⟨ad.block, ad.off + 1, none⟩ = some (.string s1) := hc1
  clear C hO hR hs0 hs1
  go_wp2
  go_quiet (fail)
  have hB2 := below_drewN hB nq
  clear hB hc0 hc1 hc1'
  go_wp2
  go_ret2
  exact ⟨by rw [HS0.out, HS1.out]; rfl, hB2⟩
end Go.Proofs.Ytacanmjimngloak
