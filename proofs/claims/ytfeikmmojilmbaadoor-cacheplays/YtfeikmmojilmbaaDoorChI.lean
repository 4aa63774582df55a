/- How many hits a cache had: a walk over the program. -/
import Derived.Test.YtfeikmmojilmbaaDoorChD
namespace Go.Proofs.YtfeikmmojilmbaaDoor
open Go.RowKit Go.Maps El Pol
variable {B : Nat} {w : World} {x : CP} {c : Che} {us si : Nat → Nat} {T : Nat}
theorem chits_any (h : MCt B w x c us si T) :
    Calls Tryd.prog 21 #[.pointer (some ⟨x.p, 0, none⟩)] w fun e w' => e = .returned (.int .i64 (c.hits : Int)) ∧ w' = w := by
  have c4 := h.c4
  clear h
  go_enter Tryd.func21, Tryd.ntmps21
  go_wp2
  go_ret
  exact ⟨rfl, rfl⟩
end Go.Proofs.YtfeikmmojilmbaaDoor
