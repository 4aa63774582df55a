/- A list of so many empty texts: made. -/
import Derived.Test.YticgapgggoklfaaGe
namespace Go.Proofs.Yticgapgggoklfaa
open Go.RowKit
theorem infoTz : (Try.prog.info? 9).map (fun i => (i.zero, i.size, i.bytes)) = some (some (.string ⟨#[]⟩), 1, 16) := by kernel_rfl
theorem makeT (n : Nat) (hn : n ≤ 100000) (W : World) : (Instr.makeSlice 41 (.int .i64 (n : Int)) (.int .i64 (n : Int))).run Try.prog W = .ok (.slice (some ⟨W.heap.size, 0, none⟩) n n) (W.alloc (.cells (List.replicate n (.string ⟨#[]⟩)).toArray 9)) := by
  obtain ⟨i0, hi, hz0, hz1, hz2⟩ := info_parts infoTz
  have h := run_make (P := Try.prog) W 41 9 i0 (.string ⟨#[]⟩) Try.underlying41 hi hz0 .i64 .i64 (n : Int) (n : Int) (by omega) (by omega) (by rw [hz2]; omega) (by omega)
  have e : madeCells (Value.string ⟨#[]⟩).cells (((n : Nat) : Int).toNat * i0.size) = (List.replicate n (.string ⟨#[]⟩)).toArray := by
    rw [hz1, Int.toNat_natCast, Nat.mul_one]
    have h2 := toList_madeCells_one (.string ⟨#[]⟩) n
    rw [← Array.toArray_toList (xs := madeCells (Value.string ⟨#[]⟩).cells n)]
    exact congrArg List.toArray h2
  rw [e] at h
  simpa using h
end Go.Proofs.Yticgapgggoklfaa
