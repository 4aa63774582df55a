/- What errors.As and plain.Told answer of nil and of a plain api.Errno; which memory such a call leaves as it was. -/
import Derived.Test.YtdbanimlnjhhlaaDoorAsH
namespace Go.Proofs.YtdbanimlnjhhlaaDoor
open Go.RowKit Go.Extern.Stop Go.Stop Go.Extern
theorem told_nil (w : World) :
    Calls Tryd.prog 34 #[.nilIface] w fun e w' => e = .returned (.int .i64 0) ∧ w' = w := by
  go_enter Tryd.func34, Tryd.ntmps34
  go_wp2
  go_ret
  exact ⟨rfl, rfl⟩
set_option maxHeartbeats 400000 in
theorem told_errno (n : Int) (w : World) (hg : Handle w) :
    Calls Tryd.prog 34 #[.iface 66 (.int .i64 n)] w fun e w' => e = .returned (.int .i64 n) ∧ Kept w w' := by
  have hk : Kept w (w.alloc (.cells #[.int .i64 0] 66)) := (Kept.refl w).alloc _ _
  have hgA : Handle (w.alloc (.cells #[.int .i64 0] 66)) := hg.kept hk
  have htA : (w.alloc (.cells #[.int .i64 0] 66)).cell? ⟨w.heap.size, 0, none⟩ = some (.int .i64 0) := by simp
  have hfA : (w.alloc (.cells #[.int .i64 0] 66)).frozen? ⟨w.heap.size, 0, none⟩ = false := by simp
  go_enter Tryd.func34, Tryd.ntmps34
  go_wp2_with fail
  refine (as_hit n _ (.int .i64 0) _ hgA htA hfA).mono ?_
  rintro e w' ⟨rfl, rfl⟩
  go_wp2_with fail
  go_ret
  exact ⟨rfl, by repeat (first | exact Kept.refl _ | apply Kept.alloc)⟩
theorem error_nil (k : Int) (w : World) :
    Calls Tryd.prog 9 #[.nilIface, .int .i64 k] w fun e w' => e = .returned (.bool (0 == k)) ∧ w' = w := by
  go_enter Tryd.func9, Tryd.ntmps9
  go_wp2_with fail
  refine (told_nil _).mono ?_
  rintro e w' ⟨rfl, rfl⟩
  go_wp2_with fail
  go_ret
  exact ⟨rfl, rfl⟩
theorem error_errno (n k : Int) (w : World) (hg : Handle w) :
    Calls Tryd.prog 9 #[.iface 66 (.int .i64 n), .int .i64 k] w fun e w' => e = .returned (.bool (n == k)) ∧ Kept w w' := by
  go_enter Tryd.func9, Tryd.ntmps9
  go_wp2_with fail
  refine (told_errno n _ hg).mono ?_
  rintro e w' ⟨rfl, hk⟩
  go_wp2_with fail
  go_ret
  exact ⟨rfl, hk⟩
end Go.Proofs.YtdbanimlnjhhlaaDoor
