/- Two lists of lists of texts are the same: walks over the program. -/
import Derived.Test.YtdbanimlnjhhlaaDoorGrX
import Derived.Test.YtdbanimlnjhhlaaDoorTxW
import Derived.BigQuiet
namespace Go.Proofs.YtdbanimlnjhhlaaDoor
open Go.RowKit El Pol
/-- two lists of texts are the same: nothing but draws -/
theorem texts_qt (u v : Value) (n : Nat) (f : Nat → List El) (w : World) (hu : RdT w u n f) (hv : RdT w v n f) :
    Calls Tryd.prog 24 #[u, v] w fun e w' => e = .returned (.bool true) ∧ ∃ q, w' = w.drewN q := by
  have HU : Hid (RdT w u n f) := hu
  have HV : Hid (RdT w v n f) := hv
  obtain ⟨a1, c1, rfl, _, _⟩ := hu.len
  obtain ⟨a2, c2, rfl, _, _⟩ := hv.len
  clear hu hv
  go_enter Tryd.func24, Tryd.ntmps24
  go_wp2
  go_loopw [5] (fun t wr => ∃ k : Nat, k ≤ n ∧ t = .int .i64 k ∧ ∃ q, wr = w.drewN q) (fun t _ => n - (intOf t).toNat)
  case atStart => exact ⟨0, Nat.zero_le _, rfl, 0, rfl⟩
  case round =>
    obtain ⟨k, hk, rfl, hq⟩ := hrel
    have hB : Below w.heap.size w wr := by obtain ⟨q, rfl⟩ := hq; exact below_drewN (Below.refl _ _) q
    by_cases hlt : k < n
    · obtain ⟨ad1, rfl, h1⟩ := (HU.out.old hB).at k hlt
      obtain ⟨ad2, rfl, h2⟩ := (HV.out.old hB).at k hlt
      unfold st at h1 h2
      generalize sb (f k) = z at *
      have HQ : Hid (∀ n, ∃ q, wr.drewN n = w.drewN q) := fun n => drewN_more hq n
      clear hB hq
      go_wp2
      go_quiet (fail)
      have hq2 := HQ.out nq
      clear h1 h2 HQ
      go_wp2
      go_roundw
      case rel => exact ⟨k + 1, by omega, by go_num, hq2⟩
      case measure => simp [intOf]; omega
    · have HQ : Hid (∃ q, wr = w.drewN q) := hq
      clear hB hq
      go_wp2
      go_ret
      exact ⟨rfl, HQ.out⟩
set_option maxRecDepth 100000 in
set_option maxHeartbeats 1000000 in
theorem disks_same (u v : Value) (m : Nat) (L : Nat → Nat) (F : Nat → Nat → List El) (w : World) (hu : RdTT w u m L F) (hv : RdTT w v m L F) :
    Calls Tryd.prog 18 #[u, v] w fun e w' => e = .returned (.bool true) ∧ Below w.heap.size w w' := by
  have HU : Hid (RdTT w u m L F) := hu
  have HV : Hid (RdTT w v m L F) := hv
  obtain ⟨a1, c1, rfl, _, _⟩ := hu.len
  obtain ⟨a2, c2, rfl, _, _⟩ := hv.len
  clear hu hv
  go_enter Tryd.func18, Tryd.ntmps18
  go_wp2
  go_loopw [5] (fun t wr => ∃ k : Nat, k ≤ m ∧ t = .int .i64 k ∧ Below w.heap.size w wr) (fun t _ => m - (intOf t).toNat)
  case atStart => exact ⟨0, Nat.zero_le _, rfl, Below.refl _ _⟩
  case round =>
    obtain ⟨k, hk, rfl, hB⟩ := hrel
    by_cases hlt : k < m
    · obtain ⟨ad1, _, ar1, cr1, e1, hc1, hr1⟩ := HU.out.at hB hlt
      obtain ⟨ad2, _, ar2, cr2, e2, hc2, hr2⟩ := HV.out.at hB hlt
      cases e1
      cases e2
      have C : ∀ n, Calls Tryd.prog 24 #[.slice ar1 (L k) cr1, .slice ar2 (L k) cr2] (wr.drewN n) fun e w' => e = .returned (.bool true) ∧ ∃ q, w' = (wr.drewN n).drewN q := fun n => texts_qt _ _ (L k) (F k) _ (hr1.old (below_drewN (Below.refl _ _) n)) (hr2.old (below_drewN (Below.refl _ _) n))
      have HB : Hid (Below w.heap.size w wr) := hB
      clear hr1 hr2 hB
      generalize L k = lk at *
      go_wp2
      go_quiet ((go_at_call 24; exact Calls.quiet_of (C _)))
      have HB2 : Hid (Below w.heap.size w (wr.drewN nq)) := below_drewN HB.out nq
      clear C hc1 hc2 HB
      go_wp2
      go_roundw
      case rel => exact ⟨k + 1, by omega, by go_num, HB2.out⟩
      case measure => simp [intOf]; omega
    · go_wp2
      go_ret
      exact ⟨rfl, hB⟩
end Go.Proofs.YtdbanimlnjhhlaaDoor
