/- A cell of a grow is read: a walk over the program. -/
import Derived.Test.YtdbanimlnjhhlaaDoorGrI
namespace Go.Proofs.YtdbanimlnjhhlaaDoor
open Go.RowKit El Pol
variable {B : Nat} {w : World} {x : GP} {g : Grw}
set_option maxRecDepth 100000 in
set_option maxHeartbeats 1000000 in
theorem gread_any (h : IsG B w x g) (ho : g.ok) (i : Int) :
    Calls Tryd.prog 13 #[.pointer (some ⟨x.p, 0, none⟩), .int .i64 i] w fun e w' => e = .returned (.tuple #[st (g.readT i), errV (g.readE i)]) ∧ Below w.heap.size w w' := by
  have C := giscell_any h i
  by_cases q : g.noC i
  · have e1 : g.readE i = 1 := if_pos q
    have e2 : g.readT i = [] := if_pos q
    rw [decide_eq_false (fun z => z q)] at C
    rw [e1, e2, errV, if_neg (by omega)]
    clear h ho q e1 e2
    go_enter Tryd.func13, Tryd.ntmps13
    go_wp2_with fail
    refine C.mono ?_
    rintro e w1 ⟨rfl, hw⟩
    obtain rfl := hw.symm
    clear C hw
    go_wp2
    go_ret2
    exact ⟨rfl, Below.refl _ _⟩
  · rw [decide_eq_true q] at C
    obtain ⟨k, rfl, hk⟩ := Grw.nat_of q
    rw [Grw.readE_nat hk, Grw.readT_nat hk, errV, if_pos rfl]
    obtain ⟨gb, cap, hv, _, _, _, _⟩ := OwT.at h.cls (by omega)
    have c0 := h.c0
    have hc := h.cls
    rw [hv] at c0 hc
    have hx := OwT.cell hc k hk
    have hl := ho.short k hk
    have hm := ho.m40
    have D := clone_any (sb (g.c k)) w (by rw [sb_size]; omega)
    unfold st at hx ⊢
    clear h ho q hc hv
    generalize g.m = m at *
    generalize sb (g.c k) = z at *
    have hki : (k : Int) < (m : Int) := by omega
    go_enter Tryd.func13, Tryd.ntmps13
    go_wp2_with fail
    refine C.mono ?_
    rintro e w1 ⟨rfl, hw⟩
    obtain rfl := hw.symm
    clear C hw
    go_wp2_with fail
    refine D.mono ?_
    rintro e w2 ⟨rfl, hB⟩
    clear D
    go_wp2
    go_ret2
    exact ⟨rfl, hB⟩
end Go.Proofs.YtdbanimlnjhhlaaDoor
