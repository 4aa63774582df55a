/- The document's reserve in memory: one block; what keeps it. Its hosts and keys: walks over the program. -/
import Derived.Test.YtfeikmmojilmbaaDoorRvA
import Derived.Test.YtfeikmmojilmbaaDoorRowAt
import Derived.Test.YtfeikmmojilmbaaDoorErrv
namespace Go.Proofs.YtfeikmmojilmbaaDoor
open Go.RowKit
/-- a value of each cell -/
def Rsv.rcells (t : Rsv) : List Value := (List.range 10).map (fun k => .int .i64 (t.key k)) ++ [.int .i64 t.host, .int .i64 t.kind]
/-- block g is the document's reserve t -/
def IsW (w : World) (g : Nat) (t : Rsv) : Prop := w.heap[g]? = some (.cells t.rcells.toArray 58 (0, 0))
variable {w w' : World} {g : Nat} {t : Rsv}
theorem IsW.lt (h : IsW w g t) : g < w.heap.size := lt_of_block h
theorem IsW.cell (h : IsW w g t) (i : Nat) : w.cell? ⟨g, i, none⟩ = t.rcells[i]? := by rw [cell_of_row _ _ _ _ _ _ h]; simp
theorem IsW.frozen (h : IsW w g t) (i : Nat) : w.frozen? ⟨g, i, none⟩ = false := frozen_of_row _ _ _ _ _ h
theorem IsW.c10 (h : IsW w g t) : w.cell? ⟨g, 10, none⟩ = some (.int .i64 t.host) := by rw [h.cell]; rfl
theorem IsW.c11 (h : IsW w g t) : w.cell? ⟨g, 11, none⟩ = some (.int .i64 t.kind) := by rw [h.cell]; rfl
theorem IsW.key (h : IsW w g t) (j : Nat) (hj : j < 10) : w.cell? ⟨g, j, none⟩ = some (.int .i64 (t.key j)) := by
  rw [h.cell, Rsv.rcells, List.getElem?_append_left (by simpa using hj)]
  simp [hj]
theorem IsW.blk (h : IsW w g t) (e : w'.heap[g]? = w.heap[g]?) : IsW w' g t := by unfold IsW; rw [e]; exact h
theorem IsW.old (h : IsW w g t) (hb : Below w.heap.size w w') : IsW w' g t := h.blk (hb.block g h.lt)
theorem IsW.but {F : Nat → Prop} (h : IsW w g t) (hb : But F w w') (hn : ¬ F g) : IsW w' g t := h.blk (hb.block g h.lt hn)
/-- a key another one -/
theorem IsW.put (h : IsW w g t) (j : Nat) (hj : j < 10) (x : Int) : IsW (w.setCell ⟨g, j, none⟩ (.int .i64 x)) g ⟨up t.key j x, t.host, t.kind⟩ := by
  have e : t.rcells.set j (.int .i64 x) = Rsv.rcells ⟨up t.key j x, t.host, t.kind⟩ := by
    unfold Rsv.rcells
    rw [List.set_append_left _ _ (by simpa using hj), set_map_up]
    congr 2
    funext k
    show up (fun k => Value.int .i64 (t.key k)) j (.int .i64 x) k = .int .i64 (up t.key j x k)
    by_cases e : k = j
    · rw [e, up_at, up_at]
    · rw [up_ne _ _ e, up_ne _ _ e]
  unfold IsW at h ⊢
  rw [heap_setCell_same _ _ _ _ _ _ h, ← e]
  simp
/-- another one holds it -/
theorem IsW.holds (h : IsW w g t) (a b : Int) : IsW ((w.setCell ⟨g, 10, none⟩ (.int .i64 a)).setCell ⟨g, 11, none⟩ (.int .i64 b)) g ⟨t.key, a, b⟩ := by
  have e : (t.rcells.set 10 (.int .i64 a)).set 11 (.int .i64 b) = Rsv.rcells ⟨t.key, a, b⟩ := rfl
  unfold IsW at h ⊢
  have h1 := heap_setCell_same w g 10 _ _ (.int .i64 a) h
  have h2 := heap_setCell_same _ g 11 _ _ (.int .i64 b) h1
  rw [h2, ← e]
  simp
theorem but_w2 (w : World) (p i j : Nat) (a b : Value) : But (· = p) w ((w.setCell ⟨p, i, none⟩ a).setCell ⟨p, j, none⟩ b) := (but_cell w p i a).setCell (p := ⟨p, j, none⟩) rfl b
theorem dhost (c : Int) (w : World) : Calls Tryd.prog 54 #[.int .i64 c] w fun e w' => e = .returned (.bool (!decide (Rsv.noH c))) ∧ w' = w := by
  by_cases h1 : c < 1
  · rw [decide_eq_true (show Rsv.noH c from .inl h1)]
    go_enter Tryd.func54, Tryd.ntmps54
    go_wp2
    go_ret
    exact ⟨rfl, rfl⟩
  · by_cases h2 : 9 < c
    · rw [decide_eq_true (show Rsv.noH c from .inr h2)]
      go_enter Tryd.func54, Tryd.ntmps54
      go_wp2
      go_ret
      exact ⟨by simp; omega, rfl⟩
    · rw [decide_eq_false (show ¬ Rsv.noH c from fun h => by unfold Rsv.noH at h; omega)]
      go_enter Tryd.func54, Tryd.ntmps54
      go_wp2
      go_ret
      exact ⟨rfl, rfl⟩
theorem dhost_no {c : Int} (h : Rsv.noH c) (w : World) : Calls Tryd.prog 54 #[.int .i64 c] w fun e w' => e = .returned (.bool false) ∧ w' = w := by
  have := dhost c w
  rw [decide_eq_true h] at this
  exact this
theorem dhost_ok {c : Int} (h : ¬ Rsv.noH c) (w : World) : Calls Tryd.prog 54 #[.int .i64 c] w fun e w' => e = .returned (.bool true) ∧ w' = w := by
  have := dhost c w
  rw [decide_eq_false h] at this
  exact this
theorem dkey (c : Int) (w : World) : Calls Tryd.prog 55 #[.int .i64 c] w fun e w' => e = .returned (.bool (!decide (Rsv.noK c))) ∧ w' = w := by
  by_cases h1 : c < 1
  · rw [decide_eq_true (show Rsv.noK c from .inl h1)]
    go_enter Tryd.func55, Tryd.ntmps55
    go_wp2
    go_ret
    exact ⟨rfl, rfl⟩
  · by_cases h2 : 1000000 < c
    · rw [decide_eq_true (show Rsv.noK c from .inr h2)]
      go_enter Tryd.func55, Tryd.ntmps55
      go_wp2
      go_ret
      exact ⟨by simp; omega, rfl⟩
    · rw [decide_eq_false (show ¬ Rsv.noK c from fun h => by unfold Rsv.noK at h; omega)]
      go_enter Tryd.func55, Tryd.ntmps55
      go_wp2
      go_ret
      exact ⟨rfl, rfl⟩
theorem dkey_no {c : Int} (h : Rsv.noK c) (w : World) : Calls Tryd.prog 55 #[.int .i64 c] w fun e w' => e = .returned (.bool false) ∧ w' = w := by
  have := dkey c w
  rw [decide_eq_true h] at this
  exact this
theorem dkey_ok {c : Int} (h : ¬ Rsv.noK c) (w : World) : Calls Tryd.prog 55 #[.int .i64 c] w fun e w' => e = .returned (.bool true) ∧ w' = w := by
  have := dkey c w
  rw [decide_eq_false h] at this
  exact this
end Go.Proofs.YtfeikmmojilmbaaDoor
