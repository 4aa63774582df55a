/- What a strings.Builder's String answers: walks over the program. -/
import Derived.Test.YtdbanimlnjhhlaaDoorBldA
import Derived.Test.YtdbanimlnjhhlaaDoorUnsV
import Derived.Deep.RegionWith
namespace Go.Proofs.YtdbanimlnjhhlaaDoor
open Go.RowKit El Pol
set_option maxHeartbeats 1000000 in
set_option maxRecDepth 100000 in
theorem bstring_some {B b : Nat} {xs : List El} {w : World} (h : Bld B b xs w) (h0 : xs ≠ []) :
    Calls Tryd.prog 63 #[.pointer (some ⟨b, 0, none⟩)] w fun e w' => e = .returned (st xs) ∧ Below B w w' := by
  obtain ⟨_, v, hT, hO⟩ := h
  obtain ⟨g, cap, rfl, _⟩ := hO.at h0
  obtain ⟨text, hc, hg⟩ := run_view (w := w.drew) (hO.old ⟨rfl, rfl, rfl, Nat.le_refl _, fun _ _ => rfl⟩) h0
  have data : (Builtin.unsafeSliceData_ #[62] 129 #[.slice (some ⟨g, 0, none⟩) xs.length cap]).run Tryd.prog w.drew = .ok (.pointer (some ⟨g, 0, none⟩)) w.drew := Lib.run_unsafeSliceData_row _ _ _ _ _ _ hc
  have c : w.drew.cell? ⟨b, 1, none⟩ = some (.slice (some ⟨g, 0, none⟩) xs.length cap) := hT.two
  have HF : Hid (Below B w (w.drew.freeze ⟨g, 0, none⟩ xs.length)) := Lib.below_freeze (Below.drew (Below.refl B w)) (p := ⟨g, 0, none⟩) hg _
  obtain ⟨s, hs⟩ : ∃ s, s = sb xs := ⟨_, rfl⟩
  have HS : Hid (Value.string s = st xs) := by (show Value.string s = st xs); rw [hs]
  rw [← hs] at text
  clear hT hO hc hg h0 hs
  go_enter Tryd.func63, Tryd.ntmps63
  go_wp2
  go_region
  all_goals (go_wp2; go_ret; exact ⟨by rw [← HS.out]; rfl, HF.out⟩)
set_option maxHeartbeats 1000000 in
set_option maxRecDepth 100000 in
theorem bstring_nil {B b : Nat} {w : World} (h : NilB b w) :
    Calls Tryd.prog 63 #[.pointer (some ⟨b, 0, none⟩)] w fun e w' => e = .returned (st []) ∧ Below B w w' := by
  have text : ∀ W : World, (Builtin.unsafeString_ #[129, 3] 9 #[.pointer none, .int .i64 0]).run Tryd.prog W = .ok (.string .empty) W := fun W => Lib.run_unsafeString_none W _ _ _ none
  have data : ∀ W : World, (Builtin.unsafeSliceData_ #[62] 129 #[.slice none 0 0]).run Tryd.prog W = .ok (.pointer none) W := fun _ => rfl
  have c : w.drew.cell? ⟨b, 1, none⟩ = some (.slice none 0 0) := h.two
  clear h
  go_enter Tryd.func63, Tryd.ntmps63
  go_wp2
  go_region
  all_goals (go_wp2; go_ret; exact ⟨rfl, (Below.refl B w).drew⟩)
/-- String, whatever it holds -/
theorem bstring_any {B b : Nat} {xs : List El} {w : World} (h : Bld B b xs w) (h0 : xs = [] → NilB b w) :
    Calls Tryd.prog 63 #[.pointer (some ⟨b, 0, none⟩)] w fun e w' => e = .returned (st xs) ∧ Below B w w' := by
  by_cases e : xs = []
  · subst e
    exact bstring_nil (h0 rfl)
  · exact bstring_some h e
end Go.Proofs.YtdbanimlnjhhlaaDoor
