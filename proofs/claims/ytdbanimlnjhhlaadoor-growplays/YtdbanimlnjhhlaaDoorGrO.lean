/- How many of a grow's cells have moved: a walk over the program. -/
import Derived.Test.YtdbanimlnjhhlaaDoorGrC
namespace Go.Proofs.YtdbanimlnjhhlaaDoor
open Go.RowKit El Pol
variable {B : Nat} {w : World} {x : GP} {g : Grw}
theorem gdone_any (h : IsG B w x g) :
    Calls Tryd.prog 16 #[.pointer (some ⟨x.p, 0, none⟩)] w fun e w' => e = .returned (.int .i64 (g.t : Int)) ∧ w' = w := by
  have c2 := h.c2
  clear h
  go_enter Tryd.func16, Tryd.ntmps16
  go_wp2
  go_ret
  exact ⟨rfl, rfl⟩
end Go.Proofs.YtdbanimlnjhhlaaDoor
