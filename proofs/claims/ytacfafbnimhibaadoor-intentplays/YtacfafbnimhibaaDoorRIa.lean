/- The document's intent in memory: one block; what keeps it. -/
import Derived.Test.YtacfafbnimhibaaDoorItA
import Derived.Test.YtacfafbnimhibaaDoorPuts
import Derived.Test.YtacfafbnimhibaaDoorErrv
import Derived.Deep.MidRow
namespace Go.Proofs.YtacfafbnimhibaaDoor
open Go.RowKit
/-- a value of each cell -/
def Itn.rcells (t : Itn) : List Value := .int .i64 t.wide :: ((List.range 40).map (fun k => .int .i64 ((t.many k : Nat) : Int)) ++ (List.range 40).map (fun k => .bool (t.dirty k)))
/-- block m is the document's intent t -/
def IsR (w : World) (m : Nat) (t : Itn) : Prop := w.heap[m]? = some (.cells t.rcells.toArray 33 (0, 0))
variable {w w' : World} {m : Nat} {t : Itn}
theorem Itn.rcells_len (t : Itn) : t.rcells.length = 81 := by simp [Itn.rcells]
theorem IsR.lt (h : IsR w m t) : m < w.heap.size := lt_of_block h
theorem IsR.cell (h : IsR w m t) (i : Nat) : w.cell? ⟨m, i, none⟩ = t.rcells[i]? := by rw [cell_of_row _ _ _ _ _ _ h]; simp
theorem IsR.frozen (h : IsR w m t) (i : Nat) : w.frozen? ⟨m, i, none⟩ = false := frozen_of_row _ _ _ _ _ h
theorem IsR.c0 (h : IsR w m t) : w.cell? ⟨m, 0, none⟩ = some (.int .i64 t.wide) := by rw [h.cell]; rfl
theorem Itn.rcell_many (t : Itn) (k : Nat) (hk : k < 40) : t.rcells[1 + k]? = some (.int .i64 ((t.many k : Nat) : Int)) := by
  rw [Itn.rcells, Nat.add_comm, List.getElem?_cons_succ, List.getElem?_append_left (by simpa using hk)]
  simp [hk]
theorem Itn.rcell_dirty (t : Itn) (k : Nat) (hk : k < 40) : t.rcells[41 + k]? = some (.bool (t.dirty k)) := by
  rw [Itn.rcells, show 41 + k = 40 + k + 1 by omega, List.getElem?_cons_succ, List.getElem?_append_right (by simp)]
  simp [hk]
theorem IsR.c1 (h : IsR w m t) (k : Nat) (hk : k < 40) : w.cell? ⟨m, 1 + k, none⟩ = some (.int .i64 ((t.many k : Nat) : Int)) := by rw [h.cell, t.rcell_many k hk]
theorem IsR.c41 (h : IsR w m t) (k : Nat) (hk : k < 40) : w.cell? ⟨m, 41 + k, none⟩ = some (.bool (t.dirty k)) := by rw [h.cell, t.rcell_dirty k hk]
theorem IsR.but {F : Nat → Prop} (h : IsR w m t) (hb : But F w w') (hn : ¬ F m) : IsR w' m t := by unfold IsR; rw [hb.block m h.lt hn]; exact h
theorem IsR.old (h : IsR w m t) (hb : Below w.heap.size w w') : IsR w' m t := by unfold IsR; rw [hb.block m h.lt]; exact h
theorem rcells_many (t : Itn) (k n : Nat) : t.rcells.set (1 + k) (.int .i64 (n : Int)) = Itn.rcells ⟨t.wide, if k < 40 then up t.many k n else t.many, if k < 40 then t.dirty else up t.dirty (k - 40) true⟩ ∨ 40 ≤ k := by
  by_cases hk : k < 40
  · refine .inl ?_
    rw [if_pos hk, if_pos hk, Itn.rcells, Nat.add_comm, List.set_cons_succ, List.set_append_left _ _ (by simpa using hk), set_map_up]
    unfold Itn.rcells
    congr 2
    congr 1
    funext j
    show up (fun k => Value.int .i64 ((t.many k : Nat) : Int)) k (.int .i64 (n : Int)) j = .int .i64 ((up t.many k n j : Nat) : Int)
    by_cases e : j = k
    · rw [e, up_at, up_at]
    · rw [up_ne _ _ e, up_ne _ _ e]
  · exact .inr (by omega)
theorem IsR.putM (h : IsR w m t) (k n : Nat) (hk : k < 40) : IsR (w.setCell ⟨m, 1 + k, none⟩ (.int .i64 (n : Int))) m ⟨t.wide, up t.many k n, t.dirty⟩ := by
  have e := (rcells_many t k n).resolve_right (by omega)
  rw [if_pos hk, if_pos hk] at e
  unfold IsR at h ⊢
  rw [heap_setCell_same _ _ _ _ _ _ h, ← e]
  simp
theorem IsR.putD (h : IsR w m t) (k : Nat) (x : Bool) : IsR (w.setCell ⟨m, 41 + k, none⟩ (.bool x)) m ⟨t.wide, t.many, up t.dirty k x⟩ := by
  have e : t.rcells.set (41 + k) (.bool x) = Itn.rcells ⟨t.wide, t.many, up t.dirty k x⟩ := by
    rw [Itn.rcells, show 41 + k = 40 + k + 1 by omega, List.set_cons_succ, List.set_append_right _ _ (by simp)]
    simp only [List.length_map, List.length_range, Nat.add_sub_cancel_left]
    rw [set_map_up]
    unfold Itn.rcells
    congr 2
    congr 1
    funext j
    show up (fun k => Value.bool (t.dirty k)) k (.bool x) j = .bool (up t.dirty k x j)
    by_cases e : j = k
    · rw [e, up_at, up_at]
    · rw [up_ne _ _ e, up_ne _ _ e]
  unfold IsR at h ⊢
  rw [heap_setCell_same _ _ _ _ _ _ h, ← e]
  simp
/-- nothing is being written any more -/
theorem IsR.crash (h : IsR w m t) : IsR (w.setCells m 1 (List.replicate 40 (.int .i64 0))) m t.crash := by
  obtain ⟨cs', h1, h2, h3⟩ := puts_at (List.replicate 40 (.int .i64 0)) 1 w t.rcells h
  unfold IsR
  rw [h1]
  have e : cs' = t.crash.rcells := ?_
  · rw [e]
  apply List.ext_getElem?
  intro i
  rw [h3 i, t.rcells_len, List.length_replicate]
  by_cases h0 : i = 0
  · subst h0; rw [if_neg (by omega)]; rfl
  · by_cases h4 : i < 41
    · obtain ⟨k, rfl⟩ : ∃ k, i = 1 + k := ⟨i - 1, by omega⟩
      rw [if_pos (by omega), Itn.rcell_many t.crash k (by omega), Nat.add_sub_cancel_left, List.getElem?_replicate_of_lt (by omega)]
      rfl
    · rw [if_neg (by omega)]
      by_cases h8 : i < 81
      · obtain ⟨k, rfl⟩ : ∃ k, i = 41 + k := ⟨i - 41, by omega⟩
        rw [Itn.rcell_dirty t k (by omega), Itn.rcell_dirty t.crash k (by omega)]
        rfl
      · rw [List.getElem?_eq_none (by rw [Itn.rcells_len]; omega), List.getElem?_eq_none (by rw [Itn.rcells_len]; omega)]
theorem up_same {α : Type} (f : Nat → α) (k : Nat) {x : α} (h : f k = x) : up f k x = f := by
  funext j
  by_cases e : j = k
  · rw [e, up_at, h]
  · rw [up_ne _ _ e]
end Go.Proofs.YtacfafbnimhibaaDoor
