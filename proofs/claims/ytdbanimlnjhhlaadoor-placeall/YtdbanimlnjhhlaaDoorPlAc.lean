/- Whether a number is in a list: walks over the program. -/
import Derived.Test.YtdbanimlnjhhlaaDoorPlA
namespace Go.Proofs.YtdbanimlnjhhlaaDoor
open Go.RowKit
/-- where a number stands in a list; whether it is there -/
theorem indexI_any (ao : Option Addr) (n cap : Nat) (f : Nat → Int) (z : Int) (w : World) (hr : RdF w (.slice ao n cap) n (fun i => vi (f i))) :
    Calls Tryd.prog 53 #[.slice ao n cap, .int .i64 z] w fun e w' => ∃ y, e = .returned (.int .i64 y) ∧ Fst (fun i => decide (f i = z)) n y ∧ w' = w := by
  obtain ⟨_, _, e0, hn1, hn2⟩ := hr.len
  cases e0
  have HR : Hid (RdF w (.slice ao n cap) n (fun i => vi (f i))) := hr
  clear hr
  go_enter Tryd.func53, Tryd.ntmps53
  go_wp2
  go_loop [8] (fun t => ∃ k : Nat, k ≤ n ∧ t = .int .i64 k ∧ Hid (∀ i, i < k → decide (f i = z) = false)) (fun t => n - (intOf t).toNat)
  case atStart => exact ⟨0, Nat.zero_le _, rfl, fun i hi => absurd hi (Nat.not_lt_zero _)⟩
  case round =>
    obtain ⟨k, hk, rfl, HF⟩ := hrel
    by_cases hlt : k < n
    · obtain ⟨ad, rfl, hc⟩ := HR.out.at k hlt
      unfold vi at hc
      by_cases hb : f k = z
      · have HE : Hid (Fst (fun i => decide (f i = z)) n (k : Int)) := .inr ⟨k, hlt, rfl, decide_eq_true hb⟩
        rw [hb] at hc
        clear hb
        go_wp2
        go_ret
        exact ⟨_, rfl, HE.out, rfl⟩
      · have hb2 : (z == f k) = false := by rw [beq_eq_false_iff_ne]; exact fun e => hb e.symm
        have HG : Hid (∀ i, i < k + 1 → decide (f i = z) = false) := fun i hi => by
          by_cases e : i = k
          · rw [e]; exact decide_eq_false hb
          · exact HF.out i (by omega)
        clear HF
        generalize f k = y at *
        go_wp2
        go_round
        case rel => exact ⟨k + 1, by omega, by go_num, HG⟩
        case measure => simp [intOf]; omega
    · have HE : Hid (Fst (fun i => decide (f i = z)) n (-1)) := .inl ⟨rfl, fun i hi => HF.out i (by omega)⟩
      go_wp2
      go_ret
      exact ⟨_, rfl, HE.out, rfl⟩
theorem containsI_any (v : Value) (n : Nat) (f : Nat → Int) (z : Int) (w : World) (hr : RdF w v n (fun i => vi (f i))) :
    Calls Tryd.prog 33 #[v, .int .i64 z] w fun e w' => e = .returned (.bool (isIn n f z)) ∧ w' = w := by
  obtain ⟨ao, cap, rfl, _, _⟩ := hr.len
  have C := indexI_any ao n cap f z w hr
  clear hr
  go_enter Tryd.func33, Tryd.ntmps33
  go_wp2_with fail
  refine C.mono ?_
  rintro e w1 ⟨y, rfl, hy, hw⟩
  obtain rfl := hw.symm
  have HZ : Hid (decide (0 ≤ y) = isIn n f z) := hy.any
  clear C hy
  go_wp2
  go_ret
  exact ⟨by rw [← HZ.out]; rfl, rfl⟩
end Go.Proofs.YtdbanimlnjhhlaaDoor
