/- A disk is replaced and made: walks over the program. -/
import Derived.Test.YtmeihdjcifhcpaaDoorDskC
import Derived.Deep.Cut
import Derived.Deep.CutRange
namespace Go.Proofs.YtmeihdjcifhcpaaDoor
open Go.RowKit El Pol
def zs : Array Value := (Dsk.cells ⟨0, 0, false, 0, fun _ => 0⟩).toArray
theorem zeroD (w : World) : (zeroValue 63).run Tryd.prog w = .ok (.agg zs) w := by kernel_rfl
theorem zs_size : zs.size = 324 := by simp [zs, Dsk.cells_len]
theorem zs_ne : ¬ zs = #[] := fun e => by have := zs_size; rw [e] at this; simp at this
theorem zs_new (a b : Nat) : (zs.setIfInBounds 0 (.int .i64 a)).setIfInBounds 1 (.int .i64 b) = (Dsk.cells ⟨a, b, false, 0, fun _ => 0⟩).toArray := by
  simp [zs, Dsk.cells]
theorem zs_blank (a b n : Nat) : ((zs.setIfInBounds 0 (.int .i64 a)).setIfInBounds 1 (.int .i64 b)).setIfInBounds 3 (.int .i64 n) = (Dsk.cells ⟨a, b, false, n, fun _ => 0⟩).toArray := by
  simp [zs, Dsk.cells]
theorem Dsk.cells_one (d : Dsk) : d.cells.toArray.all (·.oneCell') = true := by
  rw [Array.all_eq_true_iff_forall_mem]
  intro v hv
  simp [Dsk.cells] at hv
  rcases hv with rfl | rfl | rfl | rfl | ⟨k, _, rfl⟩ <;> rfl
def Dsk.fresh (rows size : Nat) : Dsk := ⟨rows, size, false, 0, fun _ => 0⟩
def newE (rows size : Int) : Nat := if rows < 1 ∨ 20 < rows ∨ size < 1 ∨ 16 < size then 1 else 0
set_option maxRecDepth 100000 in
theorem dnew_ok (rows size : Nat) (hr : 1 ≤ rows ∧ rows ≤ 20) (hs : 1 ≤ size ∧ size ≤ 16) (w : World) :
    Calls Tryd.prog 11 #[.int .i64 rows, .int .i64 size] w fun e w' => e = .returned (.tuple #[.pointer (some ⟨w.heap.size, 0, none⟩), .nilIface]) ∧ w' = w.alloc (.cells (Dsk.fresh rows size).cells.toArray 63) := by
  obtain ⟨hr1, hr2⟩ := hr
  obtain ⟨hs1, hs2⟩ := hs
  have hz := zeroD
  have h0 := zs_size
  have h1 := zs_ne
  have HC : Hid ((zs.setIfInBounds 0 (.int .i64 rows)).setIfInBounds 1 (.int .i64 size) = (Dsk.fresh rows size).cells.toArray) := zs_new rows size
  generalize zs = z at *
  go_enter Tryd.func11, Tryd.ntmps11
  go_wp2
  go_ret2
  exact ⟨rfl, by rw [← HC.out]⟩
set_option maxRecDepth 100000 in
theorem dnew_bad (rows size : Int) (h : rows < 1 ∨ 20 < rows ∨ size < 1 ∨ 16 < size) (w : World) :
    Calls Tryd.prog 11 #[.int .i64 rows, .int .i64 size] w fun e w' => e = .returned (.tuple #[.pointer none, errV 1]) ∧ w' = w := by
  by_cases h1 : rows < 1
  · go_enter Tryd.func11, Tryd.ntmps11
    go_wp2
    go_ret2
    exact ⟨rfl, rfl⟩
  · by_cases h2 : 20 < rows
    · go_enter Tryd.func11, Tryd.ntmps11
      go_wp2
      go_ret2
      exact ⟨rfl, rfl⟩
    · by_cases h3 : size < 1
      · go_enter Tryd.func11, Tryd.ntmps11
        go_wp2
        go_ret2
        exact ⟨rfl, rfl⟩
      · have h4 : 16 < size := by omega
        clear h
        go_enter Tryd.func11, Tryd.ntmps11
        go_wp2
        go_ret2
        exact ⟨rfl, rfl⟩
end Go.Proofs.YtmeihdjcifhcpaaDoor
