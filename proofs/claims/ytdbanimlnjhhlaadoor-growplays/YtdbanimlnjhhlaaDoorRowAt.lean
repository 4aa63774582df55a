/- A row of cells in a block of the call's own (an array variable): what it holds, and what keeps it. -/
import Derived.Test.YtdbanimlnjhhlaaDoorFoot
namespace Go.Proofs.YtdbanimlnjhhlaaDoor
open Go.RowKit
/-- block h holds f 0, f 1 .. -/
def RowAt (w : World) (h m : Nat) (f : Nat → Value) : Prop := h < w.heap.size ∧ ∀ i, i < m → w.cell? ⟨h, i, none⟩ = some (f i) ∧ w.frozen? ⟨h, i, none⟩ = false
theorem RowAt.new (w : World) (m : Nat) (z : Value) (t : TypeId) : RowAt (w.alloc (.cells (Array.replicate m z) t)) w.heap.size m (fun _ => z) := by
  have h := heap_alloc_new w (.cells (Array.replicate m z) t)
  refine ⟨by simp, fun i hi => ⟨?_, ?_⟩⟩
  · rw [cell_of_row _ _ _ _ _ _ h]
    simp [hi]
  · exact frozen_of_row _ _ _ _ _ h
theorem RowAt.old {w w' : World} {h m : Nat} {f : Nat → Value} (hr : RowAt w h m f) (hb : Below w.heap.size w w') : RowAt w' h m f :=
  ⟨Nat.lt_of_lt_of_le hr.1 hb.size, fun i hi => ⟨by rw [hb.cell (p := ⟨h, i, none⟩) hr.1]; exact (hr.2 i hi).1, by rw [hb.frozen (p := ⟨h, i, none⟩) hr.1]; exact (hr.2 i hi).2⟩⟩
theorem RowAt.put {w : World} {h m : Nat} {f : Nat → Value} (hr : RowAt w h m f) (i : Nat) (x : Value) : RowAt (w.setCell ⟨h, i, none⟩ x) h m (up f i x) ∧ Below h w (w.setCell ⟨h, i, none⟩ x) := by
  refine ⟨⟨by simpa using hr.1, fun k hk => ?_⟩, (Below.refl h w).setCell (p := ⟨h, i, none⟩) (Nat.le_refl _) _⟩
  rw [World.frozen?_setCell]
  obtain ⟨h1, h2⟩ := hr.2 k hk
  refine ⟨?_, h2⟩
  by_cases e : k = i
  · subst e
    rw [World.cell?_setCell_same _ _ _ h1, up_at]
  · rw [World.cell?_setCell_other _ _ _ _ (by simp), h1, up_ne _ _ e]
theorem RowAt.apart {w : World} {h g m : Nat} {f : Nat → Value} (hr : RowAt w h m f) (hg : h ≠ g) (i : Nat) (x : Value) : RowAt (w.setCell ⟨g, i, none⟩ x) h m f := by
  refine ⟨by simpa using hr.1, fun k hk => ?_⟩
  rw [World.frozen?_setCell]
  obtain ⟨h1, h2⟩ := hr.2 k hk
  refine ⟨?_, h2⟩
  rw [World.cell?_setCell_other _ _ _ _ (by simp), h1]
theorem RowAt.congr {w : World} {h m : Nat} {f g : Nat → Value} (hr : RowAt w h m f) (e : ∀ i, i < m → f i = g i) : RowAt w h m g :=
  ⟨hr.1, fun i hi => by rw [← e i hi]; exact hr.2 i hi⟩
theorem RowAt.but {F : Nat → Prop} {w w' : World} {h m : Nat} {f : Nat → Value} (hr : RowAt w h m f) (hb : But F w w') (hn : ¬ F h) : RowAt w' h m f :=
  ⟨Nat.lt_of_lt_of_le hr.1 hb.size, fun i hi => ⟨by rw [hb.cell (p := ⟨h, i, none⟩) hr.1 hn]; exact (hr.2 i hi).1, by rw [hb.frozen (p := ⟨h, i, none⟩) hr.1 hn]; exact (hr.2 i hi).2⟩⟩
theorem but_cell (w : World) (p i : Nat) (u : Value) : But (· = p) w (w.setCell ⟨p, i, none⟩ u) := (But.refl (· = p) w).setCell (p := ⟨p, i, none⟩) rfl u
end Go.Proofs.YtdbanimlnjhhlaaDoor
