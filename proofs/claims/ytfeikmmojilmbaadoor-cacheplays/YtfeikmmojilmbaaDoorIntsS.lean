/- Two lists of whole numbers are the same: a walk over the program. -/
import Derived.Test.YtfeikmmojilmbaaDoorOwIs
namespace Go.Proofs.YtfeikmmojilmbaaDoor
open Go.RowKit
/-- are two lists of numbers the same? -/
theorem ints_same (u v : Value) (n : Nat) (f : Nat → Int) (w : World) (hu : RdF w u n (fun i => vi (f i))) (hv : RdF w v n (fun i => vi (f i))) :
    Calls Tryd.prog 15 #[u, v] w fun e w' => e = .returned (.bool true) ∧ Below w.heap.size w w' := by
  have HU : Hid (RdF w u n (fun i => vi (f i))) := hu
  have HV : Hid (RdF w v n (fun i => vi (f i))) := hv
  obtain ⟨a1, c1, rfl, _, _⟩ := hu.len
  obtain ⟨a2, c2, rfl, _, _⟩ := hv.len
  clear hu hv
  go_enter Tryd.func15, Tryd.ntmps15
  go_wp2
  go_loopw [5] (fun t wr => ∃ k : Nat, k ≤ n ∧ t = .int .i64 k ∧ Below w.heap.size w wr) (fun t _ => n - (intOf t).toNat)
  case atStart => exact ⟨0, Nat.zero_le _, rfl, Below.refl _ _⟩
  case round =>
    obtain ⟨k, hk, rfl, hB⟩ := hrel
    by_cases hlt : k < n
    · obtain ⟨ad1, rfl, h1⟩ := (HU.out.old hB).at k hlt
      obtain ⟨ad2, rfl, h2⟩ := (HV.out.old hB).at k hlt
      unfold vi at h1 h2
      generalize f k = z at *
      go_wp2
      go_quiet (fail)
      have hB2 := below_drewN hB nq
      clear hB h1 h2
      go_wp2
      go_roundw
      case rel => exact ⟨k + 1, by omega, by go_num, hB2⟩
      case measure => simp [intOf]; omega
    · go_wp2
      go_ret
      exact ⟨rfl, hB⟩
end Go.Proofs.YtfeikmmojilmbaaDoor
