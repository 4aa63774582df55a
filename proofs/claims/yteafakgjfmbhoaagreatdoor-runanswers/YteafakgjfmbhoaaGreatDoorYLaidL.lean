/- Texts of plain mathematics, of memory and of walks, in one. -/
import Derived.Test.YteafakgjfmbhoaaGreatDoorEr
import Derived.LaidLaws
import Derived.LaidHandle
import Derived.Deep.DeepLaidRun
/- Package-level variables that a row lists besides errors.errorType: a world where they lie as listed. -/
namespace Go.Proofs.YteafakgjfmbhoaaGreatDoor
open Go.RowKit
mutual
/-- a datum of numbers, cell by cell -/
def celL : DataW Unit → List Value
  | .lit (.int k n) => [.int k n]
  | .agg ds => celLs ds
  | _ => []
def celLs : List (DataW Unit) → List Value
  | [] => []
  | d :: r => celL d ++ celLs r
end
/-- a variable's block with other cells -/
def layC (cs : List Value) : Obj → Obj
  | .cells _ t frozen => .cells cs.toArray t frozen
  | o => o
def laidL : List (String × DataW Unit) := [("math/bits.deBruijn32tab", Rows.laid_math_bits_deBruijn32tab), ("math/bits.deBruijn64tab", Rows.laid_math_bits_deBruijn64tab), ("internal/strconv.uint64pow10", Rows.laid_internal_strconv_uint64pow10), ("unicode/utf8.acceptRanges", Rows.laid_unicode_utf8_acceptRanges), ("errors.errorType", Rows.laid_errors_errorType), ("unicode/utf8.first", Rows.laid_unicode_utf8_first)]
noncomputable def laidH (h : Array Obj) : Array Obj := ((((((h).modify 5 (layC (celL Rows.laid_math_bits_deBruijn32tab))).modify 6 (layC (celL Rows.laid_math_bits_deBruijn64tab))).modify 2 (layC (celL Rows.laid_internal_strconv_uint64pow10))).modify 4 (layC (celL Rows.laid_unicode_utf8_acceptRanges))).modify 0 (layC [.iface 152 (.agg #[.pointer (some ⟨7, 32, none⟩)])])).modify 3 (layC (celL Rows.laid_unicode_utf8_first))
noncomputable def laidW (os : Os) : World := { World.holding Tryz.prog os ⟨#[], #[], []⟩ with heap := laidH (World.holding Tryz.prog os ⟨#[], #[], []⟩).heap }
theorem etL : Tryz.prog.globalNamed "errors.errorType" = some 0 := by kernel_rfl
theorem rtL : (Tryz.prog.cutTypes.find? (·.1 == "internal/reflectlite.rtype")).map (·.2) = some 152 := by kernel_rfl
theorem oneRowL : ((List.range 286).filter fun t => Tryz.prog.rowNamed t [101, 114, 114, 111, 114]) = [32] := by kernel_rfl
theorem nTypesL : Tryz.prog.types.size = 286 := by kernel_rfl
/-- what the listed variable reads as gives its one cell -/
theorem handle_of_laid {W : World} (h : laidMetH Tryz.prog laidL W) : Handle W := by
  have h' : laidMet Tryz.prog (laidL.filter fun x => x.2.handleName?.isNone) W ∧ handlesMet Tryz.prog [("errors.errorType", Rows.laid_errors_errorType)] W := h
  obtain ⟨name, u, ty, e1, e2, e3, e4, e5⟩ := h'.2 _ (List.mem_singleton.2 rfl)
  have en : name = [101, 114, 114, 111, 114] := (Option.some.inj e1).symm
  subst en
  obtain rfl := Option.some.inj (rtL.symm.trans e2)
  have hm : ty ∈ (List.range 286).filter fun t => Tryz.prog.rowNamed t [101, 114, 114, 111, 114] := List.mem_filter.2 ⟨List.mem_range.2 (by rw [← nTypesL]; exact e3), e4⟩
  rw [oneRowL] at hm
  obtain rfl := List.mem_singleton.1 hm
  have hh : typeHandle Tryz.prog 32 = .pointer (some ⟨7, 32, none⟩) := by kernel_rfl
  rw [hh] at e5
  simpa [Handle] using World.var?_cell etL e5 0
theorem laidWorld_met (os : Os) (args : Array Value) : laidMetH Tryz.prog laidL ((laidW os).forCall (fun _ _ => 0) ⟨#[], args, []⟩).memory :=
  laidMetH_of_parts (laidMet_of_run3 600 (by kernel_rfl) (by kernel_rfl) (by kernel_rfl)) (by kernel_rfl)
end Go.Proofs.YteafakgjfmbhoaaGreatDoor
