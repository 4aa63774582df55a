/- What is asked of a disk alone: walks over the program. -/
import Derived.Test.YtpneconlinehkadDoorDskA
import Derived.Deep.QuietTactic
import Derived.BigQuiet
import Derived.Laws.Tables
namespace Go.Proofs.YtpneconlinehkadDoor
open Go.RowKit El Pol
def Dsk.readE (d : Dsk) (row : Int) : Nat := if d.failed = true then 6 else if row < 0 ∨ (d.rows : Int) ≤ row then 1 else 0
theorem errV_pos (k : Nat) : errV (k + 1) = .iface 48 (.int .i64 ((k + 1 : Nat) : Int)) := if_neg (by omega)
set_option maxRecDepth 100000 in
theorem dcheck {w : World} {p : Nat} {d : Dsk} (h : IsD w p d) (row : Int) :
    Calls Tryd.prog 19 #[.pointer (some ⟨p, 0, none⟩), .int .i64 row] w fun e w' => e = .returned (errV (d.readE row)) ∧ w' = w := by
  have c0 := h.c0
  have c2 := h.c2
  obtain ⟨dr, ds, df, dw, db⟩ := d
  clear h
  dsimp only at c0 c2
  unfold Dsk.readE
  cases df with
  | true =>
    go_enter Tryd.func19, Tryd.ntmps19
    go_wp2
    go_ret
    exact ⟨rfl, rfl⟩
  | false =>
    by_cases h1 : row < 0
    · go_enter Tryd.func19, Tryd.ntmps19
      go_wp2
      go_ret
      exact ⟨by simp; rfl, rfl⟩
    · by_cases h2 : (dr : Int) ≤ row
      · go_enter Tryd.func19, Tryd.ntmps19
        go_wp2
        go_ret
        exact ⟨by simp; rfl, rfl⟩
      · go_enter Tryd.func19, Tryd.ntmps19
        go_wp2
        go_ret
        exact ⟨by simp; rfl, rfl⟩
set_option maxRecDepth 100000 in
theorem dworks {w : World} {p : Nat} {d : Dsk} (h : IsD w p d) :
    Calls Tryd.prog 15 #[.pointer (some ⟨p, 0, none⟩)] w fun e w' => e = .returned (.bool (!d.failed)) ∧ w' = w := by
  have c2 := h.c2
  go_enter Tryd.func15, Tryd.ntmps15
  go_wp2
  go_ret
  exact ⟨rfl, rfl⟩
set_option maxRecDepth 100000 in
theorem dwrites {w : World} {p : Nat} {d : Dsk} (h : IsD w p d) :
    Calls Tryd.prog 14 #[.pointer (some ⟨p, 0, none⟩)] w fun e w' => e = .returned (.int .i64 d.writes) ∧ w' = w := by
  have c3 := h.c3
  go_enter Tryd.func14, Tryd.ntmps14
  go_wp2
  go_ret
  exact ⟨rfl, rfl⟩
theorem but_one (w : World) (p i : Nat) (u : Value) : But (· = p) w (w.setCell ⟨p, i, none⟩ u) := (But.refl (· = p) w).setCell (p := ⟨p, i, none⟩) rfl u
/-- what fails -/
def Dsk.fail (d : Dsk) : Dsk := { d with failed := true }
def Dsk.failE (d : Dsk) : Nat := if d.failed = true then 6 else 0
set_option maxRecDepth 100000 in
theorem dfail {w : World} {p : Nat} {d : Dsk} (h : IsD w p d) :
    Calls Tryd.prog 12 #[.pointer (some ⟨p, 0, none⟩)] w fun e w' => e = .returned (errV d.failE) ∧ IsD w' p d.fail ∧ But (· = p) w w' := by
  have c2 := h.c2
  have f2 := h.frozen 2
  have hP := isD_put (d' := d.fail) h 2 (.bool true) rfl
  have HD : Hid (IsD w p d) := h
  clear h
  obtain ⟨dr, ds, df, dw, db⟩ := d
  dsimp only at c2
  unfold Dsk.failE
  cases df with
  | true =>
    go_enter Tryd.func12, Tryd.ntmps12
    go_wp2
    go_ret
    exact ⟨rfl, HD.out, But.refl _ _⟩
  | false =>
    go_enter Tryd.func12, Tryd.ntmps12
    go_wp2
    go_ret
    exact ⟨rfl, hP, but_one _ _ _ _⟩
/-- what replaces it -/
def Dsk.blank (d : Dsk) : Dsk := { d with failed := false, byte := fun _ => 0 }
def Dsk.replace (d : Dsk) : Dsk := if d.failed = true then d.blank else d
def Dsk.replaceE (d : Dsk) : Nat := if d.failed = true then 0 else 6


theorem infoD : (Tryd.prog.info? 54).map (·.size) = some 324 := by kernel_rfl
end Go.Proofs.YtpneconlinehkadDoor
