/- What writing and replacing make of a disk's rows: plain. -/
import Derived.Test.YtmeihdjcifhcpaaDoorDskD
namespace Go.Proofs.YtmeihdjcifhcpaaDoor
open Go.RowKit El Pol
theorem list_of_co (xs : List El) (n : Nat) (h : xs.length = n) : (List.range n).map (fun j => co xs j) = xs := by
  apply List.ext_getElem (by simp [h])
  intro i h1 h2
  simp [co, List.getD_eq_getElem?_getD, h2]
theorem put_row (d : Dsk) (hk : d.ok) (r0 : Nat) (xs : List El) (hx : xs.length = d.size) (r : Nat) : (d.put r0 xs).row r = if r = r0 then xs else d.row r := by
  obtain ⟨_, _, h16⟩ := hk
  by_cases e : r = r0
  · subst e
    rw [if_pos rfl]
    refine Eq.trans ?_ (list_of_co xs d.size hx)
    show (List.range d.size).map _ = _
    apply List.map_congr_left
    intro j hj
    have := List.mem_range.1 hj
    show (if 16 * r ≤ 16 * r + j ∧ 16 * r + j < 16 * r + xs.length then co xs (16 * r + j - 16 * r) else _) = _
    rw [if_pos (by omega), Nat.add_sub_cancel_left]
  · rw [if_neg e]
    show (List.range d.size).map _ = (List.range d.size).map _
    apply List.map_congr_left
    intro j hj
    have := List.mem_range.1 hj
    show (if 16 * r0 ≤ 16 * r + j ∧ 16 * r + j < 16 * r0 + xs.length then _ else d.byte (16 * r + j)) = _
    rw [if_neg (by omega)]
theorem writeE_zero {d : Dsk} {z : Int} {n : Nat} (h : d.writeE z n = 0) : d.readE z = 0 ∧ n = d.size := by
  unfold Dsk.writeE at h
  split at h
  · rename_i h0
    split at h
    · exact ⟨h0, by assumption⟩
    · omega
  · rename_i h0
    exact absurd h h0
theorem write_row (d : Dsk) (hk : d.ok) (z : Int) (xs : List El) (h : d.writeE z xs.length = 0) (r : Nat) : (d.write z xs).row r = if r = z.toNat then xs else d.row r := by
  unfold Dsk.write
  rw [if_pos h]
  exact put_row d hk z.toNat xs (writeE_zero h).2 r
theorem write_no (d : Dsk) (z : Int) (xs : List El) (h : d.writeE z xs.length ≠ 0) : d.write z xs = d := if_neg h
theorem blank_row' (d : Dsk) (r : Nat) : d.blank.row r = List.replicate d.size 0 := by
  show (List.range d.size).map (fun _ => (0 : El)) = _
  rw [List.map_const', List.length_range]
theorem write_rows (d : Dsk) (z : Int) (xs : List El) : (d.write z xs).rows = d.rows := by unfold Dsk.write; split <;> rfl
theorem write_size (d : Dsk) (z : Int) (xs : List El) : (d.write z xs).size = d.size := by unfold Dsk.write; split <;> rfl
theorem write_failed (d : Dsk) (z : Int) (xs : List El) : (d.write z xs).failed = d.failed := by unfold Dsk.write; split <;> rfl
theorem replace_rows (d : Dsk) : d.replace.rows = d.rows := by unfold Dsk.replace; split <;> rfl
theorem replace_size (d : Dsk) : d.replace.size = d.size := by unfold Dsk.replace; split <;> rfl
theorem replace_writes (d : Dsk) : d.replace.writes = d.writes := by unfold Dsk.replace; split <;> rfl
theorem replace_failed (d : Dsk) : d.replace.failed = false := by
  unfold Dsk.replace
  split
  · rfl
  · rename_i h; simpa using h
theorem write_writes_le (d : Dsk) (z : Int) (xs : List El) : (d.write z xs).writes ≤ d.writes + 1 := by
  unfold Dsk.write
  split
  · exact Nat.le_refl _
  · omega
end Go.Proofs.YtmeihdjcifhcpaaDoor
