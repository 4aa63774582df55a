/- A redo in a law: it is to fail; how many bytes it has. -/
import Derived.Test.YtacfafbnimhibaaDoorRoL
import Derived.Test.YtacfafbnimhibaaDoorRoI
namespace Go.Proofs.YtacfafbnimhibaaDoor
open Go.RowKit El Pol
variable {w wc w1 : World} {U : Nat → Prop} {p : Nat} {t : Rdo}
theorem rl_fail (h : RL w U p t wc) (z : Int) (h1 : -9223372036854775808 ≤ z) (h2 : z ≤ 9223372036854775807) :
    Calls Tryd.prog 18 #[.pointer (some ⟨p, 0, none⟩), .int .i64 z] wc fun e w' => e = .returned (.tuple #[]) ∧ RL w U p (t.fail z) w' ∧ Kp U wc w' := by
  obtain ⟨x, hx, hM, hU⟩ := h.is
  have C := rfail_any hM z
  rw [hx] at C
  refine C.mono ?_
  rintro e w' ⟨rfl, hM', hb⟩
  have hb' : But x.F wc w' := hb.mono (fun k hk => .inl (by rw [hk, hx]))
  exact ⟨rfl, ⟨h.low.trans (hb'.below h.low.size hM.low), ⟨x, hx, hM', hU⟩, Rdo.fail_ok h.ok h1 h2⟩, hb'.mono (fun k hk e => hU k e hk)⟩
theorem rl_bytes (h : RL w U p t wc) :
    Calls Tryd.prog 23 #[.pointer (some ⟨p, 0, none⟩)] wc fun e w' => e = .returned (.int .i64 (t.log.length : Int)) ∧ w' = wc := by
  obtain ⟨x, hx, hM, _⟩ := h.is
  have C := rbytes_any hM
  rw [hx] at C
  exact C
end Go.Proofs.YtacfafbnimhibaaDoor
