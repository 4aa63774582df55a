/- A list that was laid out. -/
import Derived.Test.YtjlfaoemejaphacDoorCodeF
namespace Go.Proofs.YtjlfaoemejaphacDoor
open Go.ChangeShapes Go.WideShapes Go.ChangeAt Go.RowKit El Pol Mx
/-- four texts -/
def four (x0 x1 x2 x3 : List El) : Nat → List El := fun i => if i = 0 then x0 else if i = 1 then x1 else if i = 2 then x2 else x3
theorem four_rd (w : World) (x0 x1 x2 x3 : List El) : RdF (w.alloc (.cells #[st x0, st x1, st x2, st x3] 9)) (.slice (some ⟨w.heap.size, 0, none⟩) 4 4) 4 (fun i => st (four x0 x1 x2 x3 i)) :=
  OwL.rdF (own_lit (B := w.heap.size) [st x0, st x1, st x2, st x3] (Nat.le_refl _) (by simp)) (fun i hi => by
    match i, hi with
    | 0, _ => rfl
    | 1, _ => rfl
    | 2, _ => rfl
    | 3, _ => rfl)
/-- bytes that were laid out -/
theorem own_bytes {B : Nat} {w : World} (xs : List El) (hB : B ≤ w.heap.size) (hx : xs.length ≤ 1000) : Ow B (w.alloc (.cells (xs.map eb).toArray 5)) (.slice (some ⟨w.heap.size, 0, none⟩) xs.length xs.length) xs := by
  have := own_lit (B := B) (w := w) (e := 5) (xs.map eb) hB (by simpa using hx)
  rw [List.length_map] at this
  exact this
end Go.Proofs.YtjlfaoemejaphacDoor
