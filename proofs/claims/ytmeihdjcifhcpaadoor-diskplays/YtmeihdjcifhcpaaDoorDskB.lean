/- What is asked of a disk alone: walks over the program. -/
import Derived.Test.YtmeihdjcifhcpaaDoorDskA
import Derived.Deep.QuietTactic
import Derived.BigQuiet
import Derived.Laws.Tables
namespace Go.Proofs.YtmeihdjcifhcpaaDoor
open Go.RowKit El Pol
def Dsk.readE (d : Dsk) (row : Int) : Nat := if d.failed = true then 6 else if row < 0 ∨ (d.rows : Int) ≤ row then 1 else 0
theorem errV_pos (k : Nat) : errV (k + 1) = .iface 57 (.int .i64 ((k + 1 : Nat) : Int)) := if_neg (by omega)
set_option maxRecDepth 100000 in
theorem dcheck {w : World} {p : Nat} {d : Dsk} (h : IsD w p d) (row : Int) :
    Calls Tryd.prog 29 #[.pointer (some ⟨p, 0, none⟩), .int .i64 row] w fun e w' => e = .returned (errV (d.readE row)) ∧ w' = w := by
  have c0 := h.c0
  have c2 := h.c2
  obtain ⟨dr, ds, df, dw, db⟩ := d
  clear h
  dsimp only at c0 c2
  unfold Dsk.readE
  cases df with
  | true =>
    go_enter Tryd.func29, Tryd.ntmps29
    go_wp2
    go_ret
    exact ⟨rfl, rfl⟩
  | false =>
    by_cases h1 : row < 0
    · go_enter Tryd.func29, Tryd.ntmps29
      go_wp2
      go_ret
      exact ⟨by simp; rfl, rfl⟩
    · by_cases h2 : (dr : Int) ≤ row
      · go_enter Tryd.func29, Tryd.ntmps29
        go_wp2
        go_ret
        exact ⟨by simp; rfl, rfl⟩
      · go_enter Tryd.func29, Tryd.ntmps29
        go_wp2
        go_ret
        exact ⟨by simp; rfl, rfl⟩
set_option maxRecDepth 100000 in
theorem dworks {w : World} {p : Nat} {d : Dsk} (h : IsD w p d) :
    Calls Tryd.prog 17 #[.pointer (some ⟨p, 0, none⟩)] w fun e w' => e = .returned (.bool (!d.failed)) ∧ w' = w := by
  have c2 := h.c2
  go_enter Tryd.func17, Tryd.ntmps17
  go_wp2
  go_ret
  exact ⟨rfl, rfl⟩
theorem but_one (w : World) (p i : Nat) (u : Value) : But (· = p) w (w.setCell ⟨p, i, none⟩ u) := (But.refl (· = p) w).setCell (p := ⟨p, i, none⟩) rfl u
/-- what fails -/
def Dsk.fail (d : Dsk) : Dsk := { d with failed := true }
def Dsk.failE (d : Dsk) : Nat := if d.failed = true then 6 else 0
/-- what replaces it -/
def Dsk.blank (d : Dsk) : Dsk := { d with failed := false, byte := fun _ => 0 }
def Dsk.replace (d : Dsk) : Dsk := if d.failed = true then d.blank else d
def Dsk.replaceE (d : Dsk) : Nat := if d.failed = true then 0 else 6


theorem infoD : (Tryd.prog.info? 63).map (·.size) = some 324 := by kernel_rfl
end Go.Proofs.YtmeihdjcifhcpaaDoor
