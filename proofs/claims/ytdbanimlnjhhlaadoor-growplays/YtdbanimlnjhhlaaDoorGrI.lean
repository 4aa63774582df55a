/- Whether a grow has such a cell: a walk over the program. -/
import Derived.Test.YtdbanimlnjhhlaaDoorGrC
namespace Go.Proofs.YtdbanimlnjhhlaaDoor
open Go.RowKit El Pol
variable {B : Nat} {w : World} {x : GP} {g : Grw}
set_option maxRecDepth 100000 in
theorem giscell_any (h : IsG B w x g) (i : Int) :
    Calls Tryd.prog 37 #[.pointer (some ⟨x.p, 0, none⟩), .int .i64 i] w fun e w' => e = .returned (.bool (decide (¬ g.noC i))) ∧ w' = w := by
  have c0 := h.c0
  obtain ⟨a1, k1, hv⟩ := OwT.len h.cls
  rw [hv] at c0
  by_cases h1 : i < 0
  · have e : decide (¬ g.noC i) = false := decide_eq_false (by unfold Grw.noC; omega)
    rw [e]
    clear h e
    go_enter Tryd.func37, Tryd.ntmps37
    go_wp2
    go_ret
    exact ⟨rfl, rfl⟩
  · have h1' : 0 ≤ i := by omega
    by_cases h2 : i < (g.m : Int)
    · have e : decide (¬ g.noC i) = true := decide_eq_true (by unfold Grw.noC; omega)
      rw [e]
      have d : decide (i < (g.m : Int)) = true := decide_eq_true h2
      clear h e
      go_enter Tryd.func37, Tryd.ntmps37
      go_wp2
      go_ret
      exact ⟨rfl, rfl⟩
    · have e : decide (¬ g.noC i) = false := decide_eq_false (by unfold Grw.noC; omega)
      rw [e]
      clear h e
      go_enter Tryd.func37, Tryd.ntmps37
      go_wp2
      go_ret
      exact ⟨rfl, rfl⟩
end Go.Proofs.YtdbanimlnjhhlaaDoor
