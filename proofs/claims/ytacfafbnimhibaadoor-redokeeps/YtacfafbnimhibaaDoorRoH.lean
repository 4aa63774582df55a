/- Whether a redo stops at its next step: a walk over the program. -/
import Derived.Test.YtacfafbnimhibaaDoorRoF
namespace Go.Proofs.YtacfafbnimhibaaDoor
open Go.RowKit El Pol
set_option maxRecDepth 100000 in
set_option maxHeartbeats 1000000 in
theorem stops_any {B : Nat} {w : World} {x : RP} {t : Rdo} (h : MR B w x t) (ho : t.ok) :
    Calls Tryd.prog 38 #[.pointer (some ⟨x.p, 0, none⟩)] w fun e w' => e = .returned (.bool (decide (t.ahead = 0))) ∧ MR B w' x t.step ∧ But (· = x.p) w w' := by
  have T := h.put5 (decide (t.ahead = 0))
  have c4 := h.c4
  have c5 := h.c5
  have f4 := h.free 4
  have f5 := h.free 5
  have d4 := T.1.c4
  have d5 := T.1.c5
  have g4 := T.1.free 4
  dsimp only at d4 d5
  have hlo := ho.lo
  have hhi := ho.hi
  by_cases hp : 0 < t.ahead
  · have T2 := T.1.put4 (t.ahead - 1)
    have e5 := T2.1.c5
    dsimp only at e5
    have hst : t.step = ⟨t.n, t.first, t.rs, t.hf, t.safe, t.ahead - 1, decide (t.ahead = 0)⟩ := by unfold Rdo.step; rw [if_pos hp]
    have hz : decide (t.ahead = 0) = false := decide_eq_false (by omega)
    have hz2 : (t.ahead == 0) = false := by rw [beq_eq_false_iff_ne]; omega
    rw [hz] at T T2 d4 d5 e5 hst g4
    have HE : Hid (decide (t.ahead = 0) = false) := hz
    have HM : Hid (MR B _ x t.step ∧ But (· = x.p) w _) := ⟨by rw [hst]; exact T2.1, T.2.trans T2.2 (Grows.refl _ _)⟩
    clear T T2 hst h hz
    generalize t.ahead = z at *
    go_enter Tryd.func38, Tryd.ntmps38
    go_wp2
    go_ret
    exact ⟨by rw [HE.out]; rfl, HM.out⟩
  · have hst : t.step = ⟨t.n, t.first, t.rs, t.hf, t.safe, t.ahead, decide (t.ahead = 0)⟩ := by unfold Rdo.step; rw [if_neg hp]
    have HM : Hid (MR B _ x t.step ∧ But (· = x.p) w _) := ⟨by rw [hst]; exact T.1, T.2⟩
    have hzb : (t.ahead == 0) = decide (t.ahead = 0) := rfl
    obtain ⟨b, hb⟩ : ∃ b, b = decide (t.ahead = 0) := ⟨_, rfl⟩
    rw [← hb] at HM d4 d5 g4 hzb ⊢
    clear T hst h hb
    generalize t.ahead = z at *
    have hz0 : z ≤ 0 := by omega
    go_enter Tryd.func38, Tryd.ntmps38
    go_wp2
    go_ret
    exact ⟨rfl, HM.out⟩
end Go.Proofs.YtacfafbnimhibaaDoor
