/- The keys; a new reserve: walks over the program. -/
import Derived.Test.YtfeikmmojilmbaaDoorRvD
import Derived.Test.YtfeikmmojilmbaaDoorCloI
namespace Go.Proofs.YtfeikmmojilmbaaDoor
open Go.RowKit
theorem IsV.rd {w : World} {p : Nat} {t : Rsv} (hI : IsV w p t) : RdF w (.slice (some ⟨p, 0, none⟩) 9 9) 9 (fun i => vi (t.key (i + 1))) :=
  .inr ⟨⟨p, 0, none⟩, 9, rfl, Nat.le_refl _, by omega, fun i hi => by
    have e : (⟨p, 0, none⟩ : Addr).add i = ⟨p, i, none⟩ := by unfold Addr.add; split <;> simp_all
    rw [e]
    exact hI.key i hi⟩
set_option maxRecDepth 100000 in
theorem vkeys {w : World} {p : Nat} {t : Rsv} (hI : IsV w p t) :
    Calls Tryd.prog 35 #[.pointer (some ⟨p, 0, none⟩)] w fun e w' => ∃ v, e = .returned v ∧ OwI w.heap.size w' v 9 (fun i => t.key (i + 1)) ∧ Below w.heap.size w w' := by
  have C := clone_ints hI.rd (by omega)
  clear hI
  go_enter Tryd.func35, Tryd.ntmps35
  go_wp2_with fail
  refine C.mono ?_
  rintro e w1 ⟨v, rfl, hO, hB⟩
  have HO : Hid (OwI w.heap.size w1 v 9 (fun i => t.key (i + 1))) := hO
  have HB : Hid (Below w.heap.size w w1) := hB
  clear C hO hB
  go_wp2
  go_ret
  exact ⟨_, rfl, HO.out, HB.out⟩
set_option maxRecDepth 100000 in
theorem vnew (w : World) :
    Calls Tryd.prog 22 #[] w fun e w' => ∃ p, e = .returned (.pointer (some ⟨p, 0, none⟩)) ∧ IsV w' p Rsv.fresh ∧ w.heap.size ≤ p ∧ Below w.heap.size w w' := by
  go_enter Tryd.func22, Tryd.ntmps22
  go_wp2
  go_ret
  exact ⟨_, rfl, heap_alloc_new _ _, Nat.le_refl _, al_below _ _⟩
end Go.Proofs.YtfeikmmojilmbaaDoor
