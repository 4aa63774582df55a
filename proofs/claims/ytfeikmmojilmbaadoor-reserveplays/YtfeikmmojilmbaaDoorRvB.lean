/- A reserve in memory: its block, and what keeps it. -/
import Derived.Test.YtfeikmmojilmbaaDoorRvA
import Derived.Test.YtfeikmmojilmbaaDoorRowAt
import Derived.Test.YtfeikmmojilmbaaDoorErrv
namespace Go.Proofs.YtfeikmmojilmbaaDoor
open Go.RowKit
/-- a value of each cell -/
def Rsv.cells (t : Rsv) : List Value := (List.range 9).map (fun k => .int .i64 (t.key (k + 1))) ++ [.int .i64 t.host, .int .i64 t.kind]
/-- block p is the reserve t -/
def IsV (w : World) (p : Nat) (t : Rsv) : Prop := w.heap[p]? = some (.cells t.cells.toArray 97 (0, 0))
variable {w w' : World} {p : Nat} {t : Rsv}
theorem IsV.lt (h : IsV w p t) : p < w.heap.size := lt_of_block h
theorem IsV.cell (h : IsV w p t) (i : Nat) : w.cell? ⟨p, i, none⟩ = t.cells[i]? := by rw [cell_of_row _ _ _ _ _ _ h]; simp
theorem IsV.frozen (h : IsV w p t) (i : Nat) : w.frozen? ⟨p, i, none⟩ = false := frozen_of_row _ _ _ _ _ h
theorem IsV.c9 (h : IsV w p t) : w.cell? ⟨p, 9, none⟩ = some (.int .i64 t.host) := by rw [h.cell]; rfl
theorem IsV.c10 (h : IsV w p t) : w.cell? ⟨p, 10, none⟩ = some (.int .i64 t.kind) := by rw [h.cell]; rfl
theorem IsV.key (h : IsV w p t) (j : Nat) (hj : j < 9) : w.cell? ⟨p, j, none⟩ = some (.int .i64 (t.key (j + 1))) := by
  rw [h.cell, Rsv.cells, List.getElem?_append_left (by simpa using hj)]
  simp [hj]
theorem IsV.blk (h : IsV w p t) (e : w'.heap[p]? = w.heap[p]?) : IsV w' p t := by unfold IsV; rw [e]; exact h
theorem IsV.old (h : IsV w p t) (hb : Below w.heap.size w w') : IsV w' p t := h.blk (hb.block p h.lt)
theorem IsV.but {F : Nat → Prop} (h : IsV w p t) (hb : But F w w') (hn : ¬ F p) : IsV w' p t := h.blk (hb.block p h.lt hn)
/-- a key another one -/
theorem IsV.put (h : IsV w p t) (j : Nat) (hj : j < 9) (x : Int) : IsV (w.setCell ⟨p, j, none⟩ (.int .i64 x)) p ⟨up t.key (j + 1) x, t.host, t.kind⟩ := by
  have e : t.cells.set j (.int .i64 x) = Rsv.cells ⟨up t.key (j + 1) x, t.host, t.kind⟩ := by
    unfold Rsv.cells
    rw [List.set_append_left _ _ (by simpa using hj), set_map_up]
    congr 2
    funext k
    show up (fun k => Value.int .i64 (t.key (k + 1))) j (.int .i64 x) k = .int .i64 (up t.key (j + 1) x (k + 1))
    by_cases e : k = j
    · rw [e, up_at, up_at]
    · rw [up_ne _ _ e, up_ne _ _ (by omega)]
  unfold IsV at h ⊢
  rw [heap_setCell_same _ _ _ _ _ _ h, ← e]
  simp
/-- another one holds it -/
theorem IsV.holds (h : IsV w p t) (a b : Int) : IsV ((w.setCell ⟨p, 9, none⟩ (.int .i64 a)).setCell ⟨p, 10, none⟩ (.int .i64 b)) p ⟨t.key, a, b⟩ := by
  have e : (t.cells.set 9 (.int .i64 a)).set 10 (.int .i64 b) = Rsv.cells ⟨t.key, a, b⟩ := rfl
  unfold IsV at h ⊢
  have h1 := heap_setCell_same w p 9 _ _ (.int .i64 a) h
  have h2 := heap_setCell_same _ p 10 _ _ (.int .i64 b) h1
  rw [h2, ← e]
  simp
theorem but_cells2 (w : World) (p i j : Nat) (a b : Value) : But (· = p) w ((w.setCell ⟨p, i, none⟩ a).setCell ⟨p, j, none⟩ b) := (but_cell w p i a).setCell (p := ⟨p, j, none⟩) rfl b
/-- where a host's key stands -/
theorem Rsv.host_at {h : Int} (q : ¬ Rsv.noH h) : ∃ j : Nat, h - 1 = (j : Int) ∧ j < 9 ∧ h.toNat = j + 1 ∧ 1 ≤ h ∧ h ≤ 9 := ⟨(h - 1).toNat, by unfold Rsv.noH at q; omega, by unfold Rsv.noH at q; omega, by unfold Rsv.noH at q; omega, by unfold Rsv.noH at q; omega, by unfold Rsv.noH at q; omega⟩
end Go.Proofs.YtfeikmmojilmbaaDoor
