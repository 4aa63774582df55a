/- A redo is to fail; how many bytes it has, and how many are safe: walks over the program. -/
import Derived.Test.YtacfafbnimhibaaDoorRoF
namespace Go.Proofs.YtacfafbnimhibaaDoor
open Go.RowKit El Pol
theorem rfail_any {B : Nat} {w : World} {x : RP} {t : Rdo} (h : MR B w x t) (z : Int) :
    Calls Tryd.prog 18 #[.pointer (some ⟨x.p, 0, none⟩), .int .i64 z] w fun e w' => e = .returned (.tuple #[]) ∧ MR B w' x (t.fail z) ∧ But (· = x.p) w w' := by
  have T := h.put4 z
  have c4 := h.c4
  have f4 := h.free 4
  have HM : Hid (MR B _ x (t.fail z) ∧ But (· = x.p) w _) := T
  clear T h
  go_enter Tryd.func18, Tryd.ntmps18
  go_wp2
  go_end0
  exact ⟨rfl, HM.out⟩
theorem rbytes_any {B : Nat} {w : World} {x : RP} {t : Rdo} (h : MR B w x t) :
    Calls Tryd.prog 23 #[.pointer (some ⟨x.p, 0, none⟩)] w fun e w' => e = .returned (.int .i64 (t.log.length : Int)) ∧ w' = w := by
  have c2 := h.c2
  obtain ⟨a1, k1, hv, _, _⟩ := h.lg.rd.len
  rw [hv] at c2
  clear h
  go_enter Tryd.func23, Tryd.ntmps23
  go_wp2
  go_ret
  exact ⟨rfl, rfl⟩
theorem rsafe_any {B : Nat} {w : World} {x : RP} {t : Rdo} (h : MR B w x t) :
    Calls Tryd.prog 24 #[.pointer (some ⟨x.p, 0, none⟩)] w fun e w' => e = .returned (.int .i64 (t.safe : Int)) ∧ w' = w := by
  have c3 := h.c3
  clear h
  go_enter Tryd.func24, Tryd.ntmps24
  go_wp2
  go_ret
  exact ⟨rfl, rfl⟩
end Go.Proofs.YtacfafbnimhibaaDoor
