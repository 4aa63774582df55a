/- An array of so many disks, rows, bytes: what keeps it so; a step's numbers. -/
import Derived.Test.YtilfjahbdlepjaaGreatDoorAr
namespace Go.Proofs.YtilfjahbdlepjaaGreatDoor
open El Pol Mx Lay
def vG (L : Nat → Nat) (F : Nat → Nat → Int) (k : Nat) : Nat → Int := fun j => if j < L k then F k j else 0
def Arr.is (a : Arr) (n rows size : Nat) : Prop := a.ok ∧ a.n = n ∧ a.rows = rows ∧ a.size = size
section
variable {n rows size : Nat} {A : Arr}
theorem is_write (h : A.is n rows size) (b : Int) (t : List El) : (A.write b t).is n rows size := by
  refine ⟨Arr.write_ok h.1 b t, ?_⟩
  unfold Arr.write
  split <;> exact h.2
theorem is_fail (h : A.is n rows size) (d : Int) : (A.fail d).is n rows size := by
  refine ⟨Arr.fail_ok h.1 d, ?_⟩
  unfold Arr.fail
  split <;> exact h.2
theorem is_replace (h : A.is n rows size) (d : Int) : (A.replace d).is n rows size := by
  refine ⟨Arr.replace_ok h.1 d, ?_⟩
  unfold Arr.replace
  split <;> exact h.2
theorem is_rebuild (h : A.is n rows size) (d : Int) : (A.rebuild d).is n rows size := by
  refine ⟨Arr.rebuild_ok h.1 d, ?_⟩
  unfold Arr.rebuild
  split <;> exact h.2
theorem is_poke (h : A.is n rows size) (d r : Int) (t : List El) : (A.poke d r t).is n rows size := by
  refine ⟨Arr.poke_ok h.1 d r t, ?_⟩
  unfold Arr.poke
  split <;> exact h.2
end
end Go.Proofs.YtilfjahbdlepjaaGreatDoor
