/- What is wrong with cells, by the document: a walk over the document's own. -/
import Derived.Test.YtdbanimlnjhhlaaDoorRoF
import Derived.Test.YtdbanimlnjhhlaaDoorTxW
import Derived.Test.YtdbanimlnjhhlaaDoorReg
namespace Go.Proofs.YtdbanimlnjhhlaaDoor
open Go.RowKit El Pol
set_option maxHeartbeats 1000000 in
theorem rcells_any (v : Value) (n : Nat) (f : Nat → List El) (w : World) (hr : RdT w v n f) :
    Calls Tryd.prog 17 #[v] w fun e w' => e = .returned (.int .i64 ((cellsE n f : Nat) : Int)) ∧ w' = w := by
  obtain ⟨ao, cap, rfl, _, _⟩ := hr.len
  have HR : Hid (RdT w (.slice ao n cap) n f) := hr
  clear hr
  by_cases h1 : 40 < n
  · have HE : Hid (cellsE n f = 4) := if_pos h1
    have h1' : (40 : Int) < (n : Int) := by omega
    go_enter Tryd.func17, Tryd.ntmps17
    go_wp2
    go_ret
    exact ⟨by rw [HE.out]; rfl, rfl⟩
  · have h1' : ¬ (40 : Int) < (n : Int) := by omega
    have HE : Hid (cellsE n f = if anyB (fun i => decide (16 < (f i).length)) n = true then 1 else 0) := if_neg h1
    go_enter Tryd.func17, Tryd.ntmps17
    go_wp2
    go_loop [3] (fun t => ∃ k : Nat, k ≤ n ∧ t = .int .i64 k ∧ Hid (∀ i, i < k → (f i).length ≤ 16)) (fun t => n - (intOf t).toNat)
    case atStart => exact ⟨0, Nat.zero_le _, rfl, fun i hi => absurd hi (Nat.not_lt_zero _)⟩
    case round =>
      obtain ⟨k, hk, rfl, HF⟩ := hrel
      by_cases hlt : k < n
      · obtain ⟨ad, rfl, hc⟩ := HR.out.at k hlt
        have hs := sb_size (f k)
        have hkz : (k : Int) < (n : Int) := by omega
        by_cases hl : 16 < (f k).length
        · have HX : Hid (cellsE n f = 1) := by
            (show _ = _)
            rw [HE.out, if_pos (anyB_true.2 ⟨k, hlt, by simpa using hl⟩)]
          have hl' : (16 : Int) < ((f k).length : Int) := by omega
          unfold st at hc
          generalize sb (f k) = s at *
          generalize (f k).length = ln at *
          go_wp2
          go_ret
          exact ⟨by rw [HX.out]; rfl, rfl⟩
        · have hl' : ((f k).length : Int) ≤ 16 := by omega
          have HL : Hid ((f k).length ≤ 16) := by (show _ ≤ _); omega
          unfold st at hc
          generalize sb (f k) = s at *
          generalize hln : (f k).length = ln at *
          go_wp2
          go_round
          case rel => exact ⟨k + 1, by omega, by go_num, fun i hi => by
            by_cases e : i = k
            · rw [e, hln]; exact HL.out
            · exact HF.out i (by omega)⟩
          case measure => simp [intOf]; omega
      · have hkz : ¬ (k : Int) < (n : Int) := by omega
        have HX : Hid (cellsE n f = 0) := by
          (show _ = _)
          rw [HE.out, if_neg]
          intro q
          obtain ⟨i, hi, hp⟩ := anyB_true.1 q
          have := HF.out i (by omega)
          simp at hp
          omega
        go_wp2
        go_ret
        exact ⟨by rw [HX.out]; rfl, rfl⟩
end Go.Proofs.YtdbanimlnjhhlaaDoor
