/- Cells that are read one behind the other, plainly: the last are there; read again, they are hits. -/
import Derived.Test.YtfeikmmojilmbaaChA
namespace Go.Proofs.Ytfeikmmojilmbaa
open El Pol
namespace Che
/-- the first k cells read, one behind the other -/
def readsTo (n : Nat) (f : Nat → List El) (R : Nat) : Nat → Che
  | 0 => fresh n f R
  | k + 1 => (readsTo n f R k).read k
theorem readsTo_ok {n R : Nat} {f : Nat → List El} (hn : n ≤ 40) (hs : ∀ i, i < n → (f i).length ≤ 16) (h1 : 1 ≤ R) (h2 : R ≤ 12) : ∀ k, k ≤ n → (readsTo n f R k).ok ∧ (readsTo n f R k).n = n ∧ (readsTo n f R k).room = R
  | 0, _ => ⟨fresh_ok hn hs h1 h2, rfl, rfl⟩
  | k + 1, hk => by
    obtain ⟨a, b, c⟩ := readsTo_ok hn hs h1 h2 k (by omega)
    obtain ⟨_, u2, u3, _⟩ := use_in (hits_ok a ((readsTo n f R k).hits + if k ∈ (readsTo n f R k).row then 1 else 0)) k ((readsTo n f R k).now k)
    exact ⟨read_ok a (by rw [b]; omega), u2.trans b, u3.trans c⟩
/-- the row behind a read of one that is not there, and of one that is -/
theorem read_row_new {c : Che} (h : c.ok) {i : Nat} (hi : i ∉ c.row) : (c.read i).hits = c.hits ∧ (c.read i).row = if c.room < c.row.length + 1 then (c.row ++ [i]).drop 1 else c.row ++ [i] := by
  have h0 := hits_ok h (c.hits + if i ∈ c.row then 1 else 0)
  obtain ⟨_, _, _, _, _, _, u7⟩ := use_in h0 i (c.now i)
  have hnw : (Che.newest ⟨c.n, c.below, c.room, c.row, c.val, c.dirty, c.hits + if i ∈ c.row then 1 else 0⟩ i) = c.row ++ [i] := by unfold newest; rw [wo_none hi]
  refine ⟨u7.trans (by show c.hits + (if i ∈ c.row then 1 else 0) = _; rw [if_neg hi]; rfl), ?_⟩
  unfold read use
  by_cases hl : c.room < c.row.length + 1
  · have hl' : c.room < (Che.newest ⟨c.n, c.below, c.room, c.row, c.val, c.dirty, c.hits + if i ∈ c.row then 1 else 0⟩ i).length := by rw [hnw, List.length_append]; exact hl
    obtain ⟨l, e1, e2, e3, e4, e5⟩ := old_spec h0 (i := i) hl'
    rw [if_pos hl', if_pos hl]
    refine e4.trans ?_
    rw [hnw] at e1
    rw [e1]
    rfl
  · have hl' : ¬ c.room < (Che.newest ⟨c.n, c.below, c.room, c.row, c.val, c.dirty, c.hits + if i ∈ c.row then 1 else 0⟩ i).length := by rw [hnw, List.length_append]; exact hl
    rw [if_neg hl', if_neg hl]
    exact hnw
theorem wo_lt {l : List Nat} (hn : l.Nodup) {i : Nat} (hi : i ∈ l) : (wo l i).length + 1 = l.length := by
  obtain ⟨a, b, rfl⟩ := List.append_of_mem hi
  have h1 := List.nodup_append.1 hn
  have h2 := List.nodup_cons.1 h1.2.1
  have ha : i ∉ a := fun q => h1.2.2 i q i List.mem_cons_self rfl
  have e : wo (a ++ i :: b) i = a ++ b := by
    unfold wo
    rw [List.filter_append]
    have e1 := wo_none ha
    have e2 := wo_head h2.1
    unfold wo at e1 e2
    rw [e1, e2]
  rw [e]
  simp
  omega
theorem read_row_old {c : Che} (h : c.ok) {i : Nat} (hi : i ∈ c.row) : (c.read i).hits = c.hits + 1 ∧ (c.read i).row = wo c.row i ++ [i] := by
  have h0 := hits_ok h (c.hits + if i ∈ c.row then 1 else 0)
  obtain ⟨_, _, _, _, _, _, u7⟩ := use_in h0 i (c.now i)
  refine ⟨u7.trans (by show c.hits + (if i ∈ c.row then 1 else 0) = _; rw [if_pos hi]), ?_⟩
  have h1 := wo_lt h.nd hi
  have h2 := h.len
  unfold read use
  rw [if_neg (by show ¬ c.room < (wo c.row i ++ [i]).length; rw [List.length_append, List.length_singleton]; omega)]
  rfl
theorem readsTo_row {n R : Nat} {f : Nat → List El} (hn : n ≤ 40) (hs : ∀ i, i < n → (f i).length ≤ 16) (h1 : 1 ≤ R) (h2 : R ≤ 12) : ∀ k, k ≤ n → (readsTo n f R k).row = (List.range k).drop (k - R) ∧ (readsTo n f R k).hits = 0
  | 0, _ => ⟨by simp [readsTo, fresh], rfl⟩
  | k + 1, hk => by
    obtain ⟨a, b, c⟩ := readsTo_ok hn hs h1 h2 k (by omega)
    obtain ⟨e1, e2⟩ := readsTo_row hn hs h1 h2 k (by omega)
    have hnot : k ∉ (readsTo n f R k).row := by
      rw [e1]
      intro q
      have := List.mem_range.1 (List.mem_of_mem_drop q)
      omega
    obtain ⟨g1, g2⟩ := read_row_new a hnot
    refine ⟨?_, g1.trans e2⟩
    show ((readsTo n f R k).read k).row = _
    rw [g2, c, e1]
    have hl : ((List.range k).drop (k - R)).length = k - (k - R) := by rw [List.length_drop, List.length_range]
    have ha : (List.range k).drop (k - R) ++ [k] = (List.range (k + 1)).drop (k - R) := by
      rw [List.range_succ, List.drop_append_of_le_length (by rw [List.length_range]; omega)]
    rw [hl, ha]
    by_cases q : R < k - (k - R) + 1
    · rw [if_pos q, List.drop_drop]
      congr 1
      omega
    · rw [if_neg q, show k - R = 0 by omega, show k + 1 - R = 0 by omega]
/-- read again, one behind the other -/
def again (c : Che) (l : List Nat) : Nat → Che
  | 0 => c
  | j + 1 => (again c l j).read (l.getD j 0)
theorem again_row {c : Che} (h : c.ok) : ∀ j, j ≤ c.row.length → (again c c.row j).ok ∧ (again c c.row j).row = c.row.drop j ++ c.row.take j ∧ (again c c.row j).hits = c.hits + j ∧ (again c c.row j).n = c.n
  | 0, _ => ⟨h, by simp [again], rfl, rfl⟩
  | j + 1, hj => by
    obtain ⟨a, b, d, e⟩ := again_row h j (by omega)
    have hg : c.row.getD j 0 = c.row[j] := by simp [List.getD_eq_getElem?_getD, show j < c.row.length by omega]
    have hd : c.row.drop j = c.row[j] :: c.row.drop (j + 1) := List.drop_eq_getElem_cons (by omega)
    have hin : c.row[j] ∈ (again c c.row j).row := by rw [b, hd]; exact List.mem_append_left _ List.mem_cons_self
    have hlt : c.row[j] < (again c c.row j).n := by rw [e]; exact h.inn _ (List.getElem_mem _)
    obtain ⟨g1, g2⟩ := read_row_old a hin
    obtain ⟨_, u2, _⟩ := use_in (hits_ok a ((again c c.row j).hits + if c.row[j] ∈ (again c c.row j).row then 1 else 0)) c.row[j] ((again c c.row j).now c.row[j])
    show ((again c c.row j).read (c.row.getD j 0)).ok ∧ ((again c c.row j).read (c.row.getD j 0)).row = _ ∧ ((again c c.row j).read (c.row.getD j 0)).hits = _ ∧ ((again c c.row j).read (c.row.getD j 0)).n = _
    rw [hg]
    refine ⟨read_ok a hlt, ?_, by rw [g1, d]; omega, u2.trans e⟩
    rw [g2, b, hd, List.cons_append]
    have hnd : (c.row[j] :: (c.row.drop (j + 1) ++ c.row.take j)).Nodup := by
      have := a.nd
      rw [b, hd, List.cons_append] at this
      exact this
    rw [wo_head (List.nodup_cons.1 hnd).1, List.append_assoc, ← List.take_succ_eq_append_getElem (by omega)]
end Che
end Go.Proofs.Ytfeikmmojilmbaa
