/- A disk fails: a walk over the program. -/
import Derived.Test.YtmeihdjcifhcpaaDoorDskB
namespace Go.Proofs.YtmeihdjcifhcpaaDoor
open Go.RowKit El Pol
set_option maxRecDepth 100000 in
theorem dfail {w : World} {p : Nat} {d : Dsk} (h : IsD w p d) :
    Calls Tryd.prog 14 #[.pointer (some ⟨p, 0, none⟩)] w fun e w' => e = .returned (errV d.failE) ∧ IsD w' p d.fail ∧ But (· = p) w w' := by
  have c2 := h.c2
  have f2 := h.frozen 2
  have hP := isD_put (d' := d.fail) h 2 (.bool true) rfl
  have HD : Hid (IsD w p d) := h
  clear h
  obtain ⟨dr, ds, df, dw, db⟩ := d
  dsimp only at c2
  unfold Dsk.failE
  cases df with
  | true =>
    go_enter Tryd.func14, Tryd.ntmps14
    go_wp2
    go_ret
    exact ⟨rfl, HD.out, But.refl _ _⟩
  | false =>
    go_enter Tryd.func14, Tryd.ntmps14
    go_wp2
    go_ret
    exact ⟨rfl, hP, but_one _ _ _ _⟩
end Go.Proofs.YtmeihdjcifhcpaaDoor
