/- A disk in memory: one block; what it holds, and what keeps it. -/
import Derived.Test.YtmeihdjcifhcpaaDoorFoot
import Derived.Test.YtmeihdjcifhcpaaDoorPuts
import Derived.Test.YtmeihdjcifhcpaaDoorTxt
import Derived.Test.YtmeihdjcifhcpaaDoorErrv
import Derived.Laws.IdiomCopy
namespace Go.Proofs.YtmeihdjcifhcpaaDoor
open Go.RowKit El Pol
/-- what a disk is: how many rows, how great a block, whether it has failed, how many writes, and its bytes, 16 a row -/
structure Dsk where
  rows : Nat
  size : Nat
  failed : Bool
  writes : Nat
  byte : Nat → El
/-- a value of each cell -/
def Dsk.cells (d : Dsk) : List Value := .int .i64 d.rows :: .int .i64 d.size :: .bool d.failed :: .int .i64 d.writes :: (List.range 320).map (fun k => eb (d.byte k))
def Dsk.ok (d : Dsk) : Prop := (1 ≤ d.rows ∧ d.rows ≤ 20) ∧ (1 ≤ d.size ∧ d.size ≤ 16)
/-- block p is the disk d -/
def IsD (w : World) (p : Nat) (d : Dsk) : Prop := w.heap[p]? = some (.cells d.cells.toArray 63 (0, 0))
/-- a row of it -/
def Dsk.row (d : Dsk) (r : Nat) : List El := (List.range d.size).map (fun j => d.byte (16 * r + j))
theorem Dsk.cells_len (d : Dsk) : d.cells.length = 324 := by simp [Dsk.cells]
theorem Dsk.row_len (d : Dsk) (r : Nat) : (d.row r).length = d.size := by simp [Dsk.row]
theorem IsD.lt {w : World} {p : Nat} {d : Dsk} (h : IsD w p d) : p < w.heap.size := lt_of_block h
theorem IsD.cell {w : World} {p : Nat} {d : Dsk} (h : IsD w p d) (i : Nat) : w.cell? ⟨p, i, none⟩ = d.cells[i]? := by
  rw [cell_of_row _ _ _ _ _ _ h]; simp
theorem IsD.frozen {w : World} {p : Nat} {d : Dsk} (h : IsD w p d) (i : Nat) : w.frozen? ⟨p, i, none⟩ = false := frozen_of_row _ _ _ _ _ h
theorem IsD.c0 {w : World} {p : Nat} {d : Dsk} (h : IsD w p d) : w.cell? ⟨p, 0, none⟩ = some (.int .i64 d.rows) := by rw [h.cell]; rfl
theorem IsD.c1 {w : World} {p : Nat} {d : Dsk} (h : IsD w p d) : w.cell? ⟨p, 1, none⟩ = some (.int .i64 d.size) := by rw [h.cell]; rfl
theorem IsD.c2 {w : World} {p : Nat} {d : Dsk} (h : IsD w p d) : w.cell? ⟨p, 2, none⟩ = some (.bool d.failed) := by rw [h.cell]; rfl
theorem IsD.c3 {w : World} {p : Nat} {d : Dsk} (h : IsD w p d) : w.cell? ⟨p, 3, none⟩ = some (.int .i64 d.writes) := by rw [h.cell]; rfl
theorem Dsk.cell_byte (d : Dsk) (k : Nat) (hk : k < 320) : d.cells[4 + k]? = some (eb (d.byte k)) := by
  rw [Dsk.cells, show 4 + k = k + 1 + 1 + 1 + 1 by omega]
  simp only [List.getElem?_cons_succ]
  simp [hk]
theorem IsD.byte {w : World} {p : Nat} {d : Dsk} (h : IsD w p d) (k : Nat) (hk : k < 320) : w.cell? ⟨p, 4 + k, none⟩ = some (eb (d.byte k)) := by
  rw [h.cell, d.cell_byte k hk]
theorem IsD.but {F : Nat → Prop} {w w' : World} {p : Nat} {d : Dsk} (h : IsD w p d) (hb : But F w w') (hn : ¬ F p) : IsD w' p d := by
  unfold IsD; rw [hb.block p h.lt hn]; exact h
theorem IsD.old {w w' : World} {p : Nat} {d : Dsk} (h : IsD w p d) (hb : Below w.heap.size w w') : IsD w' p d := by
  unfold IsD; rw [hb.block p h.lt]; exact h
/-- the slice over a row reads as the row -/
theorem IsD.rd {w : World} {p : Nat} {d : Dsk} (h : IsD w p d) (hk : d.ok) (r : Nat) (hr : r < d.rows) : Rd w (.slice (some ⟨p, 4 + 16 * r, none⟩) d.size 16) (d.row r) := by
  obtain ⟨⟨_, h1⟩, _, h2⟩ := hk
  refine .inr ⟨_, 16, by rw [d.row_len], by rw [d.row_len]; exact h2, by omega, fun i hi => ?_⟩
  rw [d.row_len] at hi
  have e : (⟨p, 4 + 16 * r, none⟩ : Addr).add i = ⟨p, 4 + (16 * r + i), none⟩ := by
    unfold Addr.add
    split
    · subst_vars; rfl
    · simp; omega
  rw [e, h.byte _ (by omega)]
  simp [Dsk.row, co, List.getD_eq_getElem?_getD, hi]
/-- one cell another one -/
theorem isD_put {w : World} {p : Nat} {d d' : Dsk} (h : IsD w p d) (i : Nat) (x : Value) (hx : d'.cells = d.cells.set i x) : IsD (w.setCell ⟨p, i, none⟩ x) p d' := by
  unfold IsD at h ⊢
  rw [heap_setCell_same _ _ _ _ _ _ h, hx]
  simp
/-- a row of it another one -/
def Dsk.put (d : Dsk) (r : Nat) (xs : List El) : Dsk := { d with byte := fun k => if 16 * r ≤ k ∧ k < 16 * r + xs.length then co xs (k - 16 * r) else d.byte k }
theorem isD_row {w : World} {p : Nat} {d : Dsk} (h : IsD w p d) (r : Nat) (xs : List El) : IsD (w.setCells p (4 + 16 * r) (xs.map eb)) p (d.put r xs) := by
  obtain ⟨cs', h1, h2, h3⟩ := puts_at (xs.map eb) (4 + 16 * r) w d.cells h
  unfold IsD
  rw [h1]
  congr 2
  congr 1
  apply List.ext_getElem?
  intro i
  rw [h3 i, d.cells_len, List.length_map]
  by_cases hi : i < 324
  · by_cases h4 : i < 4
    · rw [if_neg (by omega)]
      have : i = 0 ∨ i = 1 ∨ i = 2 ∨ i = 3 := by omega
      rcases this with rfl | rfl | rfl | rfl <;> rfl
    · obtain ⟨k, rfl⟩ : ∃ k, i = 4 + k := ⟨i - 4, by omega⟩
      rw [(d.put r xs).cell_byte k (by omega), d.cell_byte k (by omega)]
      by_cases q : 16 * r ≤ k ∧ k < 16 * r + xs.length
      · rw [if_pos (by omega), show 4 + k - (4 + 16 * r) = k - 16 * r by omega, map_eb _ _ (by omega)]
        simp [Dsk.put, q]
      · rw [if_neg (by omega)]
        simp only [Dsk.put, if_neg q]
  · rw [if_neg (by omega), List.getElem?_eq_none (by rw [d.cells_len]; omega), List.getElem?_eq_none (by rw [Dsk.cells_len]; omega)]
/-- 'copy(row, text)' -/
theorem run_copy_text (w : World) (dT sT ty elem : TypeId) (b o dLen dCap : Nat) (xs : List El)
    (hu : Tryd.prog.underlying dT = some (.slice elem)) (hz : ∀ w, (Go.sizeOf elem).run Tryd.prog w = .ok 1 w) (hle : xs.length ≤ dLen)
    (hc : ∀ j, j < xs.length → (w.cell? ⟨b, o + j, none⟩).isSome = true) (hf : ∀ j, j < xs.length → w.frozen? ⟨b, o + j, none⟩ = false) :
    (Builtin.copy_ #[dT, sT] ty #[.slice (some ⟨b, o, none⟩) dLen dCap, st xs]).run Tryd.prog w = .ok (goInt xs.length) (w.setCells b o (xs.map eb)) := by
  have hmin : Nat.min (sb xs).size dLen = xs.length := by rw [sb_size]; exact Nat.min_eq_left hle
  have hm : ((sb xs).data.toList.map fun x => Value.int .u8 (x.toNat : Int)) = xs.map eb := by
    show ((xs.map (fun x => UInt8.ofNat x.val)).map fun x => Value.int .u8 (x.toNat : Int)) = _
    rw [List.map_map]
    apply List.map_congr_left
    intro x _
    show Value.int .u8 ((UInt8.ofNat x.val).toNat : Int) = _
    rw [u8_val]
  have hst := run_storeCells_cells (P := Tryd.prog) b o (xs.map eb) 0 w (by simpa using hc) (by simpa using hf) (by
    intro v hv
    obtain ⟨x, _, rfl⟩ := List.mem_map.1 hv
    rfl)
  simp [Builtin.copy_, run_underlying hu, Builtin.lenOf, Builtin.firstCells, hz, hmin]
  rw [hm, List.take_of_length_le (by simp), hst]
  rfl
end Go.Proofs.YtmeihdjcifhcpaaDoor
