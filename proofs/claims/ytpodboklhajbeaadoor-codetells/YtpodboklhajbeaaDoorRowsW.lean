/- Two lists of lists of bytes that read alike are told to be the same. -/
import Derived.Test.YtpodboklhajbeaaDoorMatH
import Derived.Test.YtpodboklhajbeaaDoorBytes
namespace Go.Proofs.YtpodboklhajbeaaDoor
open Go.ChangeShapes Go.WideShapes Go.ChangeAt Go.RowKit El Pol
set_option maxRecDepth 100000 in
set_option maxHeartbeats 1000000 in
theorem rows_same (u v : Value) (n : Nat) (R : Nat → List El) (w : World) (hu : RdM w u n R) (hv : RdM w v n R) :
    Calls Tryd.prog 10 #[u, v] w fun e w' => e = .returned (.bool true) ∧ Below w.heap.size w w' := by
  obtain ⟨a1, c1, rfl, hc1, hc1'⟩ := hu.len
  obtain ⟨a2, c2, rfl, _, _⟩ := hv.len
  have HU : Hid (RdM w (.slice a1 n c1) n R) := hu
  have HV : Hid (RdM w (.slice a2 n c2) n R) := hv
  clear hu hv
  go_enter Tryd.func10, Tryd.ntmps10
  go_wp2
  go_loopw [5] (fun t wr => ∃ k : Nat, k ≤ n ∧ t = .int .i64 k ∧ Below w.heap.size w wr) (fun t _ => n - (intOf t).toNat)
  case atStart => exact ⟨0, Nat.zero_le _, rfl, Below.refl _ _⟩
  case round =>
    obtain ⟨k, hk, rfl, hB⟩ := hrel
    by_cases hlt : k < n
    · obtain ⟨ad, av, cv, rfl, hcu, hru⟩ := (HU.out.old hB).some k hlt
      obtain ⟨ae, aw, cw, rfl, hcv, hrv⟩ := (HV.out.old hB).some k hlt
      have hdr : Below wr.heap.size wr wr.drew := ⟨rfl, rfl, rfl, Nat.le_refl _, fun _ _ => rfl⟩
      have C := bytes_same _ _ (R k) wr.drew (hru.old hdr) (hrv.old hdr)
      have hB2 := hB.trans (hdr.mono hB.size)
      clear hB hdr hru hrv
      generalize (R k).length = l at *
      go_wp2
      go_region_with (first | (go_at_call 38; refine C.mono ?_; rintro e w5 ⟨rfl, rfl⟩))
      all_goals
        clear C hcu hcv
        go_wp2
        go_roundw
        case rel => exact ⟨k + 1, by omega, by go_num, hB2⟩
        case measure => simp [intOf]; omega
    · go_wp2
      go_ret
      exact ⟨rfl, hB⟩
end Go.Proofs.YtpodboklhajbeaaDoor
