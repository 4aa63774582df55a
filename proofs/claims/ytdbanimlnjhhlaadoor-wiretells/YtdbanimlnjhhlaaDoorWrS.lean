/- What wire.Sum answers: a walk over the program. -/
import Derived.Test.YtdbanimlnjhhlaaDoorWrA
import Derived.Test.YtdbanimlnjhhlaaDoorWrD
namespace Go.Proofs.YtdbanimlnjhhlaaDoor
open Go.RowKit El Pol
theorem wsum_step (xs : List El) {k : Nat} (h : k < xs.length) : wsum (xs.take (k + 1)) = (wsum (xs.take k) * 256 + (co xs k).val) % 65521 := by
  have e : xs.take (k + 1) = xs.take k ++ [co xs k] := by
    rw [List.take_succ_eq_append_getElem h]
    simp [co, List.getD_eq_getElem?_getD, h]
  unfold wsum
  rw [e, wsm_append]
  rfl
theorem sum_any (xs : List El) (w : World) (hl : xs.length ≤ 9223372036854775807) :
    Calls Tryd.prog 25 #[st xs] w fun e w' => e = .returned (.int .i64 ((wsum xs : Nat) : Int)) ∧ w' = w := by
  have hs := sb_size xs
  have HS : Hid (∀ k (hk : k < (sb xs).size), ((sb xs)[k]'hk).toNat = (co xs k).val) := fun k hk => sb_at xs k hk
  have HT : Hid (∀ k, k < xs.length → wsum (xs.take (k + 1)) = (wsum (xs.take k) * 256 + (co xs k).val) % 65521) := fun k hk => wsum_step xs hk
  have HA : Hid (wsum (xs.take xs.length) = wsum xs) := by (show wsum (xs.take xs.length) = wsum xs); rw [List.take_length]
  have HL : Hid (∀ k, wsum (xs.take k) < 65521) := fun k => wsum_lt _
  unfold st
  generalize sb xs = s at *
  go_enter Tryd.func25, Tryd.ntmps25
  go_wp2
  go_loop [3, 7] (fun m t => ∃ k : Nat, k ≤ xs.length ∧ t = .int .i64 k ∧ m = .int .i64 ((wsum (xs.take k) : Nat) : Int)) (fun _ t => xs.length - (intOf t).toNat)
  case atStart => exact ⟨0, Nat.zero_le _, rfl, rfl⟩
  case round =>
    obtain ⟨k, hk, rfl, rfl⟩ := hrel
    by_cases hlt : k < xs.length
    · have hks : k < s.size := by rw [hs]; exact hlt
      have hsk := HS.out k hks
      have HST : Hid (wsum (xs.take (k + 1)) = (wsum (xs.take k) * 256 + (co xs k).val) % 65521) := HT.out k hlt
      have hl := HL.out k
      have hx := (co xs k).isLt
      generalize wsum (xs.take k) = m at *
      generalize (co xs k).val = x at *
      have h1 : (k : Int) < (s.size : Int) := by omega
      have h2 : ((m : Int) * 256 + (x : Int)) % 65521 = (((m * 256 + x) % 65521 : Nat) : Int) := by omega
      go_wp2
      go_round
      case rel => exact ⟨k + 1, by omega, by go_num, by rw [HST.out]; (first | rfl | (congr 1; omega))⟩
      case measure => simp [intOf]; omega
    · have e : k = xs.length := by omega
      have HE : Hid (wsum (xs.take k) = wsum xs) := by (show wsum (xs.take k) = wsum xs); rw [e]; exact HA.out
      have h1 : ¬ (k : Int) < (s.size : Int) := by omega
      clear e
      generalize wsum (xs.take k) = m at *
      go_wp2
      go_ret
      exact ⟨by rw [HE.out]; rfl, rfl⟩
end Go.Proofs.YtdbanimlnjhhlaaDoor
