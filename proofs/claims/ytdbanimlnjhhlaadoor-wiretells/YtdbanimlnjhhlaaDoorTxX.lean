/- What paritysame.Texts answers: by a walk over the program. -/
import Derived.Test.YtdbanimlnjhhlaaDoorTxW
namespace Go.Proofs.YtdbanimlnjhhlaaDoor
open Go.RowKit El Pol
set_option maxHeartbeats 1000000 in
theorem texts_any (u v : Value) (n m : Nat) (a b : Nat → List El) (w : World) (hu : RdF w u n (fun i => st (a i))) (hv : RdF w v m (fun i => st (b i))) :
    Calls Tryd.prog 24 #[u, v] w fun e w' => e = .returned (.bool (sameL n m a b)) ∧ Below w.heap.size w w' := by
  have HU : Hid (RdF w u n (fun i => st (a i))) := hu
  have HV : Hid (RdF w v m (fun i => st (b i))) := hv
  obtain ⟨a1, c1, rfl, _, _⟩ := hu.len
  obtain ⟨a2, c2, rfl, _, _⟩ := hv.len
  clear hu hv
  by_cases hnm : n = m
  · subst hnm
    go_enter Tryd.func24, Tryd.ntmps24
    go_wp2
    go_loopw [5] (fun t wr => ∃ k : Nat, k ≤ n ∧ t = .int .i64 k ∧ Hid (∀ i, i < k → a i = b i) ∧ Below w.heap.size w wr) (fun t _ => n - (intOf t).toNat)
    case atStart => exact ⟨0, Nat.zero_le _, rfl, fun i hi => absurd hi (Nat.not_lt_zero _), Below.refl _ _⟩
    case round =>
      obtain ⟨k, hk, rfl, HS, hB⟩ := hrel
      by_cases hlt : k < n
      · obtain ⟨ad1, rfl, h1⟩ := (HU.out.old hB).at k hlt
        obtain ⟨ad2, rfl, h2⟩ := (HV.out.old hB).at k hlt
        have hss := sb_same (a k) (b k)
        by_cases he : a k = b k
        · have HE : Hid (a k = b k) := he
          rw [decide_eq_true he] at hss
          unfold st at h1 h2
          clear he
          generalize sb (a k) = s1 at *
          generalize sb (b k) = s2 at *
          go_wp2
          go_quiet (fail)
          have hB2 := below_drewN hB nq
          clear hB h1 h2 hss
          go_wp2
          go_roundw
          case rel => exact ⟨k + 1, by omega, by go_num, fun i hi => by
            by_cases e : i = k
            · rw [e]; exact HE.out
            · exact HS.out i (by omega), hB2⟩
          case measure => simp [intOf]; omega
        · have HE : Hid (sameL n n a b = false) := by
            (show sameL n n a b = false)
            rw [Bool.eq_false_iff]
            exact fun q => he ((sameL_iff.1 q).2 k hlt)
          rw [decide_eq_false he] at hss
          unfold st at h1 h2
          clear he
          generalize sb (a k) = s1 at *
          generalize sb (b k) = s2 at *
          go_wp2
          go_quiet (fail)
          have hB2 := below_drewN hB nq
          clear hB h1 h2 hss
          go_wp2
          go_ret
          exact ⟨by rw [HE.out]; rfl, hB2⟩
      · have HE : Hid (sameL n n a b = true) := by
          (show sameL n n a b = true)
          exact sameL_iff.2 ⟨rfl, fun i hi => HS.out i (by omega)⟩
        go_wp2
        go_ret
        exact ⟨by rw [HE.out]; rfl, hB⟩
  · have HE : Hid (sameL n m a b = false) := by
      (show sameL n m a b = false)
      rw [Bool.eq_false_iff]
      exact fun q => hnm (sameL_iff.1 q).1
    have hb : ((n : Int) != (m : Int)) = true := by rw [bne_iff_ne]; omega
    go_enter Tryd.func24, Tryd.ntmps24
    go_wp2
    go_ret
    exact ⟨by rw [HE.out]; rfl, Below.refl _ _⟩
end Go.Proofs.YtdbanimlnjhhlaaDoor
