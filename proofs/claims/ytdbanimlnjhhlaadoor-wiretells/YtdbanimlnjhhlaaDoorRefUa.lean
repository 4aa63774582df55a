/- What the document's own Blocks answers: by a walk over the program. -/
import Derived.Test.YtdbanimlnjhhlaaDoorBlkB
import Derived.BigQuiet
namespace Go.Proofs.YtdbanimlnjhhlaaDoor
open Go.ChangeShapes Go.WideShapes Go.ChangeAt Go.RowKit El Pol
set_option maxHeartbeats 1000000 in
theorem rblocks_any (v : Value) (n : Nat) (a : Nat → List El) (w : World) (h : RdF w v n (fun i => st (a i))) (hn : n ≤ 8796093021952) (h0 : 1 ≤ n) :
    Calls Tryd.prog 41 #[v] w fun e w' => e = .returned (.int .i64 ((bbad n a : Nat) : Int)) ∧ Below w.heap.size w w' := by
  have HH : Hid (RdF w v n (fun i => st (a i))) := h
  obtain ⟨ao, cap, rfl, _, _⟩ := h.len
  obtain ⟨ad, rfl, _⟩ := h.at 0 (by omega)
  clear h
  obtain ⟨l0, hl0⟩ : ∃ l, l = (a 0).length := ⟨_, rfl⟩
  have HL0 : Hid (l0 = (a 0).length) := hl0
  clear hl0
  have H0 : Hid (∀ wq, Below w.heap.size w wq → wq.cell? ad = some (.string (sb (a 0)))) := fun wq hq => by
    obtain ⟨ad', e, hc⟩ := (HH.out.old hq).at 0 (by omega)
    cases e
    rw [add_zero] at hc
    exact hc
  have hs0 := sb_size (a 0)
  rw [← HL0.out] at hs0
  generalize sb (a 0) = s0 at *
  go_enter Tryd.func41, Tryd.ntmps41
  go_wp2
  go_loopw [3] (fun t wr => ∃ k : Nat, k ≤ n ∧ t = .int .i64 k ∧ Hid (∀ i, i < k → (a i).length = l0) ∧ Below w.heap.size w wr) (fun t _ => n - (intOf t).toNat)
  case atStart => exact ⟨0, Nat.zero_le _, rfl, fun i hi => absurd hi (Nat.not_lt_zero _), Below.refl _ _⟩
  case round =>
    obtain ⟨k, hk, rfl, HA, hB⟩ := hrel
    have hc0 := H0.out _ hB
    by_cases hlt : k < n
    · obtain ⟨ad', e, hc⟩ := (HH.out.old hB).at k hlt
      cases e
      have hs := sb_size (a k)
      obtain ⟨l, hl⟩ : ∃ l, l = (a k).length := ⟨_, rfl⟩
      have HL : Hid (l = (a k).length) := hl
      rw [← hl] at hs
      unfold st at hc
      generalize sb (a k) = s at *
      have hlt' : (k : Int) < (n : Int) := by omega
      have hn0' : (0 : Int) < (n : Int) := by omega
      clear hl
      by_cases he : l = l0
      · have hb : ((l : Int) != (l0 : Int)) = false := by rw [he]; simp
        have HE : Hid (l = l0) := he
        clear he
        go_wp2
        go_quiet (fail)
        have hB2 := below_drewN hB nq
        clear hB hc hc0
        go_wp2
        go_roundw
        case rel => exact ⟨k + 1, by omega, by go_num, fun i hi => by
          by_cases e : i = k
          · rw [e, ← HL.out, HE.out]
          · exact HA.out i (by omega), hB2⟩
        case measure => simp [intOf]; omega
      · have hb : ((l : Int) != (l0 : Int)) = true := by rw [bne_iff_ne]; omega
        have HE : Hid (bbad n a = 3) := by
          (show bbad n a = 3)
          unfold bbad
          rw [anyB_true.2 ⟨k, hlt, by rw [← HL.out, ← HL0.out]; exact decide_eq_true he⟩, if_pos rfl]
        clear he
        go_wp2
        go_quiet (fail)
        have hB2 := below_drewN hB nq
        clear hB hc hc0
        go_wp2
        go_ret
        exact ⟨by rw [HE.out]; rfl, hB2⟩
    · have hn0' : (0 : Int) < (n : Int) := by omega
      have hall : ∀ i, i < n → (a i).length = (a 0).length := fun i hi => by rw [HA.out i (by omega), HL0.out]
      by_cases h16 : 16 < l0
      · have h16' : (16 : Int) < (l0 : Int) := by omega
        have HE : Hid (bbad n a = 1) := by
          (show bbad n a = 1)
          unfold bbad
          rw [anyB_false.2 (fun i hi => by simpa using hall i hi), if_neg (by simp), if_pos (by rw [← HL0.out]; exact h16)]
        clear hall
        go_wp2
        go_ret
        exact ⟨by rw [HE.out]; rfl, hB⟩
      · have h16' : ¬ (16 : Int) < (l0 : Int) := by omega
        have HE : Hid (bbad n a = 0) := bbad_of hall (by rw [← HL0.out]; omega)
        clear hall
        go_wp2
        go_ret
        exact ⟨by rw [HE.out]; rfl, hB⟩
end Go.Proofs.YtdbanimlnjhhlaaDoor
