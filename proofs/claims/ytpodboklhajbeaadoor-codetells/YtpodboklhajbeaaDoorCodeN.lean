/- A byte of a text another one. -/
import Derived.Test.YtpodboklhajbeaaDoorCodeK
import Derived.Test.YtpodboklhajbeaaDoorPw
import Derived.Test.YtpodboklhajbeaaDoorCodeM
namespace Go.Proofs.YtpodboklhajbeaaDoor
open Go.ChangeShapes Go.WideShapes Go.ChangeAt Go.RowKit El Pol Mx
/-- a byte of a text another one -/
theorem sb_set (xs : List El) (j : Nat) (x : El) (h : j < xs.length) : (sb xs).extract 0 j ++ ⟨#[UInt8.ofNat x.val]⟩ ++ (sb xs).extract (j + 1) xs.length = sb (xs.set j x) := by
  apply ByteArray.ext
  simp only [ByteArray.data_append, ByteArray.data_extract]
  show (xs.map _).toArray.extract 0 j ++ #[_] ++ (xs.map _).toArray.extract (j + 1) xs.length = ((xs.set j x).map _).toArray
  apply Array.ext'
  simp
  rw [List.set_eq_take_append_cons_drop]
  rw [if_pos (by simpa using h)]
  simp
  rw [List.take_of_length_le (by simp)]
end Go.Proofs.YtpodboklhajbeaaDoor
