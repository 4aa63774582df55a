/- An intent in memory: its block, and its map's; what keeps them. -/
import Derived.Test.YtacfafbnimhibaaDoorItA
import Derived.Test.YtacfafbnimhibaaDoorMapA
import Derived.Test.YtacfafbnimhibaaDoorErrv
namespace Go.Proofs.YtacfafbnimhibaaDoor
open Go.RowKit Go.Maps
/-- a value of each cell -/
def Itn.cells (t : Itn) (b : Nat) : List Value := .int .i64 t.wide :: .map (some b) :: (List.range 40).map (fun k => .bool (t.dirty k))
/-- block p is the intent t, block b its map -/
structure IsI (w : World) (p b : Nat) (t : Itn) (N : Nat) : Prop where
  row : w.heap[p]? = some (.cells (t.cells b).toArray 67 (0, 0))
  mp : ∃ D, HasM w b 40 t.many N D
  ok : t.ok
/-- its blocks -/
def IF (p b : Nat) : Nat → Prop := fun k => k = p ∨ k = b
variable {w w' : World} {p b N : Nat} {t : Itn}
theorem Itn.cells_len (t : Itn) (b : Nat) : (t.cells b).length = 42 := by simp [Itn.cells]
theorem IsI.lt (h : IsI w p b t N) : p < w.heap.size := lt_of_block h.row
theorem IsI.ltb (h : IsI w p b t N) : b < w.heap.size := by obtain ⟨D, hD⟩ := h.mp; exact hD.lt
theorem IsI.ne (h : IsI w p b t N) : p ≠ b := by obtain ⟨D, hD⟩ := h.mp; exact hD.notCells h.row
theorem IsI.cell (h : IsI w p b t N) (i : Nat) : w.cell? ⟨p, i, none⟩ = (t.cells b)[i]? := by rw [cell_of_row _ _ _ _ _ _ h.row]; simp
theorem IsI.frozen (h : IsI w p b t N) (i : Nat) : w.frozen? ⟨p, i, none⟩ = false := frozen_of_row _ _ _ _ _ h.row
theorem IsI.c0 (h : IsI w p b t N) : w.cell? ⟨p, 0, none⟩ = some (.int .i64 t.wide) := by rw [h.cell]; rfl
theorem IsI.c1 (h : IsI w p b t N) : w.cell? ⟨p, 1, none⟩ = some (.map (some b)) := by rw [h.cell]; rfl
theorem Itn.cell_dirty (t : Itn) (b k : Nat) (hk : k < 40) : (t.cells b)[2 + k]? = some (.bool (t.dirty k)) := by
  rw [Itn.cells, show 2 + k = k + 1 + 1 by omega]
  simp only [List.getElem?_cons_succ]
  simp [hk]
theorem IsI.c2 (h : IsI w p b t N) (k : Nat) (hk : k < 40) : w.cell? ⟨p, 2 + k, none⟩ = some (.bool (t.dirty k)) := by rw [h.cell, t.cell_dirty b k hk]
theorem IsI.blk (h : IsI w p b t N) (e1 : w'.heap[p]? = w.heap[p]?) (e2 : w'.heap[b]? = w.heap[b]?) : IsI w' p b t N := by
  obtain ⟨h1, ⟨D, hD⟩, h3⟩ := h
  exact ⟨e1.trans h1, ⟨D, hD.blk e2⟩, h3⟩
theorem IsI.old (h : IsI w p b t N) (hb : Below w.heap.size w w') : IsI w' p b t N := h.blk (hb.block p h.lt) (hb.block b h.ltb)
theorem IsI.but {F : Nat → Prop} (h : IsI w p b t N) (hb : But F w w') (h1 : ¬ F p) (h2 : ¬ F b) : IsI w' p b t N := h.blk (hb.block p h.lt h1) (hb.block b h.ltb h2)
theorem IsI.mono (h : IsI w p b t N) {N' : Nat} (hn : N ≤ N') : IsI w p b t N' := by
  obtain ⟨h1, ⟨D, hD⟩, h3⟩ := h
  exact ⟨h1, ⟨D, hD.mono hn⟩, h3⟩
theorem IsI.le (h : IsI w p b t N) (k : Nat) : t.many k ≤ N := by obtain ⟨D, hD⟩ := h.mp; exact hD.le k
/-- the map another one -/
theorem IsI.turn (h : IsI w p b t N) (hg : w.grownBy w' (some b)) {f : Nat → Nat} {N' : Nat} {D : DataW Unit} (hD : HasM w' b 40 f N' D) : IsI w' p b ⟨t.wide, f, t.dirty⟩ N' ∧ But (IF p b) w w' :=
  ⟨⟨(hg.block p h.lt (fun e => h.ne (by injection e))).trans h.row, ⟨D, hD⟩, h.ok⟩, But.grown hg (fun k e => .inr (by injection e with e; exact e.symm))⟩
/-- one region another one -/
theorem IsI.put (h : IsI w p b t N) (k : Nat) (x : Bool) : IsI (w.setCell ⟨p, 2 + k, none⟩ (.bool x)) p b ⟨t.wide, t.many, up t.dirty k x⟩ N ∧ But (IF p b) w (w.setCell ⟨p, 2 + k, none⟩ (.bool x)) := by
  obtain ⟨D, hD⟩ := h.mp
  refine ⟨⟨?_, ⟨D, hD.blk (RowKit.Below.heap_setCell _ _ _ _ (fun e => h.ne e.symm))⟩, h.ok⟩, (But.refl (IF p b) w).setCell (p := ⟨p, 2 + k, none⟩) (.inl rfl) _⟩
  rw [heap_setCell_same _ _ _ _ _ _ h.row]
  congr 2
  have : (t.cells b).set (2 + k) (.bool x) = Itn.cells ⟨t.wide, t.many, up t.dirty k x⟩ b := by
    rw [Itn.cells, show 2 + k = k + 1 + 1 by omega, List.set_cons_succ, List.set_cons_succ, set_map_up]
    unfold Itn.cells
    congr 3
    funext j
    show up (fun k => Value.bool (t.dirty k)) k (.bool x) j = .bool (up t.dirty k x j)
    by_cases e : j = k
    · rw [e, up_at, up_at]
    · rw [up_ne _ _ e, up_ne _ _ e]
  rw [← this]
  simp
end Go.Proofs.YtacfafbnimhibaaDoor
