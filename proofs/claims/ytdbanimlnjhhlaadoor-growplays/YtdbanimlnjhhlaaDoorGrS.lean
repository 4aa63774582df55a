/- The next cell of a grow is moved: a walk over the program. -/
import Derived.Test.YtdbanimlnjhhlaaDoorGrC
import Derived.BigQuiet
namespace Go.Proofs.YtdbanimlnjhhlaaDoor
open Go.RowKit El Pol
variable {B : Nat} {w : World} {x : GP} {g : Grw}
set_option maxRecDepth 100000 in
set_option maxHeartbeats 1000000 in
theorem gstep_any (h : IsG B w x g) (ho : g.ok) :
    Calls Tryd.prog 12 #[.pointer (some ⟨x.p, 0, none⟩)] w fun e w' => e = .returned (.tuple #[.bool g.more, errV g.stepE]) ∧ IsG B w' x g.step ∧ But x.F w w' := by
  have hm := ho.m40
  have ht := ho.tm
  obtain ⟨a1, k1, hv⟩ := OwT.len h.cls
  have HI : Hid (IsG B w x g) := h
  by_cases q : g.t = g.m
  · have e1 : g.more = false := decide_eq_false (by omega)
    rw [e1, Grw.step_end q, Grw.stepE_end q, errV, if_neg (by omega)]
    have c0 : w.cell? ⟨x.p, 0, none⟩ = some (.slice a1 g.m k1) := by rw [← hv]; exact h.c0
    have c2 : w.cell? ⟨x.p, 2, none⟩ = some (.int .i64 (g.m : Int)) := by rw [← q]; exact h.c2
    have HI2 : Hid (∀ nq, IsG B (w.drewN nq) x g ∧ But x.F w (w.drewN nq)) := fun nq => ⟨h.drewN nq, (But.refl _ _).drewN nq⟩
    clear h ho e1 q hv HI
    go_enter Tryd.func12, Tryd.ntmps12
    go_wp2
    go_quiet (fail)
    go_wp2
    go_ret2
    exact ⟨rfl, HI2.out _⟩
  · have hlt : g.t < g.m := by omega
    rw [Grw.step_more hlt, Grw.stepE_more hlt, errV, if_pos rfl]
    have c0 : w.cell? ⟨x.p, 0, none⟩ = some (.slice a1 g.m k1) := by rw [← hv]; exact h.c0
    have c2 := h.c2
    have HT : Hid (∀ nq nr, IsG B (((w.drewN nq).setCell ⟨x.p, 2, none⟩ (.int .i64 ((g.t : Int) + 1))).drewN nr) x ⟨g.n, g.m, g.t + 1, g.c⟩ ∧ But x.F w (((w.drewN nq).setCell ⟨x.p, 2, none⟩ (.int .i64 ((g.t : Int) + 1))).drewN nr)) := fun nq nr => by
      have T := (HI.out.drewN nq).putT (g.t + 1)
      exact ⟨T.1.drewN nr, ((But.refl x.F w).drewN nq).trans (T.2.drewN nr) (Grows.refl _ _)⟩
    have C : ∀ nq, (w.drewN nq).cell? ⟨x.p, 2, none⟩ = some (.int .i64 (g.t : Int)) := fun nq => (HI.out.drewN nq).c2
    have Fz : ∀ nq, (w.drewN nq).frozen? ⟨x.p, 2, none⟩ = false := fun nq => (HI.out.drewN nq).free 2
    have D0 : ∀ nq, ((w.drewN nq).setCell ⟨x.p, 2, none⟩ (.int .i64 ((g.t : Int) + 1))).cell? ⟨x.p, 0, none⟩ = some (.slice a1 g.m k1) := fun nq => by
      have T := ((HI.out.drewN nq).putT (g.t + 1)).1.c0
      rw [hv] at T
      exact T
    have D2 : ∀ nq, ((w.drewN nq).setCell ⟨x.p, 2, none⟩ (.int .i64 ((g.t : Int) + 1))).cell? ⟨x.p, 2, none⟩ = some (.int .i64 ((g.t : Int) + 1)) := fun nq => ((HI.out.drewN nq).putT (g.t + 1)).1.c2
    have hne : ((g.t : Int) == (g.m : Int)) = false := by rw [beq_eq_false_iff_ne]; omega
    have hne2 : (g.t == g.m) = false := by rw [beq_eq_false_iff_ne]; exact q
    have HMo : Hid (g.more = decide ((g.t : Int) + 1 < (g.m : Int))) := by
      unfold Grw.more
      rw [decide_eq_decide]
      exact ⟨fun _ => by omega, fun _ => by omega⟩
    rw [HMo.out]
    clear h ho q hv HI HMo
    generalize g.t = t at *
    generalize g.m = m at *
    go_enter Tryd.func12, Tryd.ntmps12
    go_wp2
    go_quiet (fail)
    have d2 := C nq
    have f2 := Fz nq
    have e0 := D0 nq
    have e2 := D2 nq
    have HT2 := HT.out nq
    clear c0 c2 C Fz D0 D2 HT
    have HT3 : Hid _ := HT2
    clear HT2
    generalize w.drewN nq = wd at *
    go_wp2
    go_quiet (fail)
    go_wp2
    go_ret2
    exact ⟨rfl, HT3.out _⟩
end Go.Proofs.YtdbanimlnjhhlaaDoor
