/- A cache crashes: a walk over the program. -/
import Derived.Test.YtfeikmmojilmbaaDoorChF
namespace Go.Proofs.YtfeikmmojilmbaaDoor
open Go.RowKit Go.Maps El Pol
variable {B : Nat} {w : World} {x : CP} {c : Che} {N : Nat}
set_option maxRecDepth 100000 in
theorem ccrash_any (h : MC B w x c N) :
    Calls Tryd.prog 16 #[.pointer (some ⟨x.p, 0, none⟩)] w fun e w' => e = .returned (.tuple #[]) ∧ MC B w' x c.crash N ∧ But x.F w w' := by
  obtain ⟨us, si, T, hM, hT⟩ := h.is
  have c2 := hM.c2
  obtain ⟨D, hD⟩ := hM.mp
  obtain ⟨w', R, hD', hgr⟩ := run_clearH hD
  have P := hM.turn (c' := c.crash) (us' := us) (si' := si) hgr hD' rfl rfl rfl rfl (Tns.crash c us si T)
  have HF : Hid (MC B w' x c.crash N ∧ But x.F w w') := ⟨⟨⟨us, si, T, P.1, hT⟩, Che.crash_ok h.ok, h.hit⟩, P.2⟩
  clear h hM hD hD' hgr P
  go_enter Tryd.func16, Tryd.ntmps16
  go_wp2
  go_end0
  exact ⟨rfl, HF.out⟩
end Go.Proofs.YtfeikmmojilmbaaDoor
