/- A redo in a law: how many bytes are safe. -/
import Derived.Test.YtacfafbnimhibaaDoorRoLf
namespace Go.Proofs.YtacfafbnimhibaaDoor
open Go.RowKit El Pol
variable {w wc : World} {U : Nat → Prop} {p : Nat} {t : Rdo}
theorem rl_safe (h : RL w U p t wc) :
    Calls Tryd.prog 24 #[.pointer (some ⟨p, 0, none⟩)] wc fun e w' => e = .returned (.int .i64 (t.safe : Int)) ∧ w' = wc := by
  obtain ⟨x, hx, hM, _⟩ := h.is
  have C := rsafe_any hM
  rw [hx] at C
  exact C
end Go.Proofs.YtacfafbnimhibaaDoor
