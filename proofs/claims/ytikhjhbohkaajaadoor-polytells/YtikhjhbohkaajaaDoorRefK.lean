/- The document's own sum, product and inverse, of elements: memory stays. -/
import Derived.Test.YtikhjhbohkaajaaDoorMemK
import Derived.Test.YtikhjhbohkaajaaDoorRef1
namespace Go.Proofs.YtikhjhbohkaajaaDoor
open Go.ChangeShapes Go.WideShapes Go.ChangeAt Go.RowKit El Pol
theorem plusE (x y : El) (w : World) : Calls Tryd.prog 6 #[.int .u8 ((x.val : Nat) : Int), .int .u8 ((y.val : Nat) : Int)] w fun e w' => e = .returned (.int .u8 (((pl x y).val : Nat) : Int)) ∧ Below w.heap.size w w' :=
  (plus_any x.val y.val x.isLt y.isLt w).mono fun _ _ ⟨he, hk⟩ => ⟨he, hk.kept.below⟩
theorem plusE_0 (x : El) (w : World) : Calls Tryd.prog 6 #[.int .u8 ((x.val : Nat) : Int), .int .u8 0] w fun e w' => e = .returned (.int .u8 (((pl x 0).val : Nat) : Int)) ∧ Below w.heap.size w w' := plusE x 0 w
theorem plus0E (x : El) (w : World) : Calls Tryd.prog 6 #[.int .u8 0, .int .u8 ((x.val : Nat) : Int)] w fun e w' => e = .returned (.int .u8 (((pl 0 x).val : Nat) : Int)) ∧ Below w.heap.size w w' := plusE 0 x w
theorem timesE (x y : El) (w : World) : Calls Tryd.prog 8 #[.int .u8 ((x.val : Nat) : Int), .int .u8 ((y.val : Nat) : Int)] w fun e w' => e = .returned (.int .u8 (((ti x y).val : Nat) : Int)) ∧ Below w.heap.size w w' :=
  (rmul_any x.val y.val x.isLt y.isLt w).mono fun _ _ ⟨he, hk⟩ => ⟨he, hk.kept.below⟩
theorem invE (x : El) (h : x ≠ 0) (w : World) : Calls Tryd.prog 9 #[.int .u8 ((x.val : Nat) : Int)] w fun e w' => e = .returned (.int .u8 (((iv x).val : Nat) : Int)) ∧ Below w.heap.size w w' :=
  (rinv_any x.val x.isLt (val_ne h) w).mono fun _ _ ⟨he, hk⟩ => ⟨he, hk.kept.below⟩
theorem timesQ2 (x y : El) (w : World) : Calls Tryd.prog 8 #[.int .u8 ((x.val : Nat) : Int), .int .u8 ((y.val : Nat) : Int)] w fun e w' => e = .returned (.int .u8 (((ti x y).val : Nat) : Int)) ∧ ∃ q, w' = w.drewN q :=
  rmul_any x.val y.val x.isLt y.isLt w
theorem plusQ2 (x y : El) (w : World) : Calls Tryd.prog 6 #[.int .u8 ((x.val : Nat) : Int), .int .u8 ((y.val : Nat) : Int)] w fun e w' => e = .returned (.int .u8 (((pl x y).val : Nat) : Int)) ∧ ∃ q, w' = w.drewN q :=
  plus_any x.val y.val x.isLt y.isLt w
end Go.Proofs.YtikhjhbohkaajaaDoor
