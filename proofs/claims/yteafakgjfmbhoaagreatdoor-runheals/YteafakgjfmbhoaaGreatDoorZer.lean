/- Texts of plain mathematics, of memory and of walks, in one. -/
import Derived.Test.YteafakgjfmbhoaaGreatDoorEr
import Derived.Test.YteafakgjfmbhoaaGreatDoorGe
/- What errors.As and plain.Told answer of nil and of a plain api.Errno; which memory such a call leaves as it was. -/
namespace Go.Proofs.YteafakgjfmbhoaaGreatDoor
open Go.RowKit Go.Extern.Stop Go.Stop Go.Extern
theorem told_nil (w : World) :
    Calls Tryz.prog 35 #[.nilIface] w fun e w' => e = .returned (.int .i64 0) ∧ w' = w := by
  go_enter Tryz.func35, Tryz.ntmps35
  go_wp2
  go_ret
  exact ⟨rfl, rfl⟩
set_option maxHeartbeats 400000 in
theorem told_errno (n : Int) (w : World) (hg : Handle w) :
    Calls Tryz.prog 35 #[.iface 75 (.int .i64 n)] w fun e w' => e = .returned (.int .i64 n) ∧ Kept w w' := by
  have hk : Kept w (w.alloc (.cells #[.int .i64 0] 75)) := (Kept.refl w).alloc _ _
  have hgA : Handle (w.alloc (.cells #[.int .i64 0] 75)) := hg.kept hk
  have htA : (w.alloc (.cells #[.int .i64 0] 75)).cell? ⟨w.heap.size, 0, none⟩ = some (.int .i64 0) := by simp
  have hfA : (w.alloc (.cells #[.int .i64 0] 75)).frozen? ⟨w.heap.size, 0, none⟩ = false := by simp
  go_enter Tryz.func35, Tryz.ntmps35
  go_wp2_with fail
  refine (as_hit n _ (.int .i64 0) _ hgA htA hfA).mono ?_
  rintro e w' ⟨rfl, rfl⟩
  go_wp2_with fail
  go_ret
  exact ⟨rfl, by repeat (first | exact Kept.refl _ | apply Kept.alloc)⟩
theorem error_nil (k : Int) (w : World) :
    Calls Tryz.prog 11 #[.nilIface, .int .i64 k] w fun e w' => e = .returned (.bool (0 == k)) ∧ w' = w := by
  go_enter Tryz.func11, Tryz.ntmps11
  go_wp2_with fail
  refine (told_nil _).mono ?_
  rintro e w' ⟨rfl, rfl⟩
  go_wp2_with fail
  go_ret
  exact ⟨rfl, rfl⟩
theorem error_errno (n k : Int) (w : World) (hg : Handle w) :
    Calls Tryz.prog 11 #[.iface 75 (.int .i64 n), .int .i64 k] w fun e w' => e = .returned (.bool (n == k)) ∧ Kept w w' := by
  go_enter Tryz.func11, Tryz.ntmps11
  go_wp2_with fail
  refine (told_errno n _ hg).mono ?_
  rintro e w' ⟨rfl, hk⟩
  go_wp2_with fail
  go_ret
  exact ⟨rfl, hk⟩
end Go.Proofs.YteafakgjfmbhoaaGreatDoor

/- Errors told, and the memory that stays. -/
namespace Go.Proofs.YteafakgjfmbhoaaGreatDoor
open Go.ChangeShapes Go.WideShapes Go.ChangeAt Go.RowKit
theorem err_same (k : Int) (w : World) (hg : Handle w) :
    Calls Tryz.prog 11 #[.iface 75 (.int .i64 k), .int .i64 k] w fun e w' => e = .returned (.bool true) ∧ Below w.heap.size w w' :=
  (error_errno k k w hg).mono fun _ _ ⟨he, hk⟩ => ⟨by rw [he]; simp, hk.below⟩
theorem err_none (w : World) :
    Calls Tryz.prog 11 #[.nilIface, .int .i64 0] w fun e w' => e = .returned (.bool true) ∧ w' = w := error_nil 0 w
theorem err_no (w : World) :
    Calls Tryz.prog 11 #[.nilIface, .int .i64 5] w fun e w' => e = .returned (.bool false) ∧ w' = w := error_nil 5 w
theorem err_is (k l : Int) (b : Bool) (h : (k == l) = b) (w : World) (hg : Handle w) :
    Calls Tryz.prog 11 #[.iface 75 (.int .i64 k), .int .i64 l] w fun e w' => e = .returned (.bool b) ∧ Below w.heap.size w w' :=
  (error_errno k l w hg).mono fun _ _ ⟨he, hk⟩ => ⟨by rw [he, h], hk.below⟩
end Go.Proofs.YteafakgjfmbhoaaGreatDoor

/- Errors told, whether there is one or not. -/
namespace Go.Proofs.YteafakgjfmbhoaaGreatDoor
open Go.RowKit
theorem err_v (k : Nat) (w : World) (hg : Handle w) :
    Calls Tryz.prog 11 #[errV k, .int .i64 k] w fun e w' => e = .returned (.bool true) ∧ Below w.heap.size w w' := by
  unfold errV
  split
  · rename_i h
    subst h
    exact (err_none w).mono fun _ _ ⟨he, hw⟩ => ⟨he, by rw [hw]; exact Below.refl _ _⟩
  · exact err_same k w hg
end Go.Proofs.YteafakgjfmbhoaaGreatDoor

/- Errors told, whichever there is, and whatever is asked. -/
namespace Go.Proofs.YteafakgjfmbhoaaGreatDoor
open Go.RowKit
theorem err_x (k l : Nat) (w : World) (hg : Handle w) :
    Calls Tryz.prog 11 #[errV k, .int .i64 l] w fun e w' => e = .returned (.bool (decide (k = l))) ∧ Below w.heap.size w w' := by
  unfold errV
  split
  · rename_i h
    subst h
    refine (error_nil (l : Int) w).mono fun e w' ⟨he, hw⟩ => ⟨?_, by rw [hw]; exact Below.refl _ _⟩
    rw [he]
    congr 2
    rw [Bool.eq_iff_iff]
    simp
    omega
  · refine (error_errno (k : Int) (l : Int) w hg).mono fun e w' ⟨he, hk⟩ => ⟨?_, hk.below⟩
    rw [he]
    congr 2
    rw [Bool.eq_iff_iff]
    simp
    omega
end Go.Proofs.YteafakgjfmbhoaaGreatDoor
