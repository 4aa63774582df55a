/- How many writes there were: a walk over the program. -/
import Derived.Test.YtmeihdjcifhcpaaDoorDskB
namespace Go.Proofs.YtmeihdjcifhcpaaDoor
open Go.RowKit El Pol
set_option maxRecDepth 100000 in
theorem dwrites {w : World} {p : Nat} {d : Dsk} (h : IsD w p d) :
    Calls Tryd.prog 16 #[.pointer (some ⟨p, 0, none⟩)] w fun e w' => e = .returned (.int .i64 d.writes) ∧ w' = w := by
  have c3 := h.c3
  go_enter Tryd.func16, Tryd.ntmps16
  go_wp2
  go_ret
  exact ⟨rfl, rfl⟩
end Go.Proofs.YtmeihdjcifhcpaaDoor
