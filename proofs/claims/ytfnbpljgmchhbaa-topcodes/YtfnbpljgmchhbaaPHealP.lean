/- Any two may be lost: parts, parts of which two are junk, and that they come back. -/
import Derived.Test.YtfnbpljgmchhbaaPw
namespace Go.Proofs.Ytfnbpljgmchhbaa
open Go.ChangeShapes Go.WideShapes Go.ChangeAt Go.RowKit El Pol Mx
/-- two that are lost -/
def lost2 (i k : Nat) : Nat → Bool := fun x => decide (x = i ∨ x = k)
theorem ix_lost2' (i k : Nat) : ∀ n, n ≤ (ix (lost2 i k) n).length + (if i < n then 1 else 0) + (if k < n then 1 else 0)
  | 0 => by simp
  | n + 1 => by
    have h := ix_lost2' i k n
    have e := ix_len_succ (lost2 i k) n
    by_cases hl : lost2 i k n = true
    · rw [hl, if_pos rfl] at e
      have : n = i ∨ n = k := by simpa [lost2] using hl
      rw [e]
      rcases this with q | q
      · subst q
        rw [if_neg (by omega)] at h
        rw [if_pos (by omega)]
        have : (if k < n then 1 else 0) ≤ (if k < n + 1 then 1 else 0) := by split <;> split <;> omega
        omega
      · subst q
        rw [if_neg (show ¬ n < n by omega)] at h
        rw [if_pos (show n < n + 1 by omega)]
        have : (if i < n then 1 else 0) ≤ (if i < n + 1 then 1 else 0) := by split <;> split <;> omega
        omega
    · rw [if_neg hl] at e
      rw [e]
      have h1 : (if i < n then 1 else 0) ≤ (if i < n + 1 then 1 else 0) := by split <;> split <;> omega
      have h2 : (if k < n then 1 else 0) ≤ (if k < n + 1 then 1 else 0) := by split <;> split <;> omega
      omega
theorem ix_lost2 (i k d : Nat) : d ≤ (ix (lost2 i k) (d + 2)).length := by
  have h := ix_lost2' i k (d + 2)
  split at h <;> split at h <;> omega
/-- data, then P and Q, as texts -/
abbrev prts (d L : Nat) (D : M) : Nat → List El := fun x => row (pqp d D x) L
theorem prts_data {d L : Nat} {a : Nat → List El} (hl : ∀ i, i < d → (a i).length = L) : ∀ i, i < d → a i = prts d L (mx a) i := fun i hi => by
  show a i = row (pqp d (mx a) i) L
  rw [pqp_data hi]
  show a i = row (co (a i)) L
  rw [← hl i hi, row_co]
theorem prts_all {d L : Nat} {a : Nat → List El} (hl : ∀ i, i < d → (a i).length = L) : (List.range d).map (fun i => st (a i)) ++ [st (row (pp d (mx a)) L), st (row (qq d (mx a)) L)] = (List.range (d + 2)).map (fun i => st (prts d L (mx a) i)) := by
  rw [← pqp_texts]
  congr 1
  exact List.map_congr_left (fun i hi => by
    have hi' := List.mem_range.1 hi
    rw [prts_data hl i hi']
    show st (row (pqp d (mx a) i) L) = _
    rw [pqp_data hi'])
/-- two of them junk -/
abbrev trn (d L : Nat) (D : M) (i k : Nat) (junk : List El) : Nat → List El := up (up (prts d L D) i junk) k junk
theorem trn_at {d L : Nat} {D : M} {i k x : Nat} {junk : List El} (h : lost2 i k x = false) : trn d L D i k junk x = prts d L D x := by
  have : x ≠ i ∧ x ≠ k := by
    unfold lost2 at h
    have := of_decide_eq_false h
    omega
  unfold trn
  rw [up_ne _ _ this.2, up_ne _ _ this.1]
theorem trn_len {d L : Nat} {D : M} {i k : Nat} {junk : List El} : ∀ j, j < (ix (lost2 i k) (d + 2)).length → (trn d L D i k junk (at' (lost2 i k) (d + 2) j)).length = L := fun j hj => by
  rw [trn_at (at_mem hj).2, row_length]
theorem trn_back {d L : Nat} (hd : d ≤ 10) {D E : M} {i k : Nat} {junk : List El} (h : Healed d L (mx (trn d L D i k junk)) (lost2 i k) E) : sameL (d + 2) (d + 2) (fun x => row (pqp d E x) L) (prts d L D) = true := by
  have e : Eqm d L E D := healed_back hd (ix_lost2 i k d) (fun x _ hl l hlL => by
    show co (trn d L D i k junk x) l = _
    rw [trn_at hl, co_row_lt _ hlL]) h
  exact sameL_iff.2 ⟨rfl, fun x _ => row_congr (fun l hl => pqp_congr e x l hl)⟩
/-- the i-th and the k-th of noughts set -/
theorem lost_cells (n i k : Nat) : (((List.replicate n (Value.bool false)).set i (.bool true)).set k (.bool true)) = (List.range n).map (fun x => .bool (lost2 i k x)) := by
  apply List.ext_getElem (by simp)
  intro x h1 h2
  simp only [List.length_map, List.length_range] at h2
  rw [List.getElem_set, List.getElem_set]
  simp only [List.getElem_replicate, List.getElem_map, List.getElem_range]
  unfold lost2
  by_cases q1 : k = x
  · rw [if_pos q1, decide_eq_true (.inr q1.symm)]
  · rw [if_neg q1]
    by_cases q2 : i = x
    · rw [if_pos q2, decide_eq_true (.inl q2.symm)]
    · rw [if_neg q2, decide_eq_false (by omega)]
theorem st_up (P : Nat → List El) (i : Nat) (x : List El) : up (fun j => st (P j)) i (st x) = fun j => st (up P i x j) := by
  funext j
  by_cases h : j = i
  · rw [h, up_at, up_at]
  · rw [up_ne _ _ h, up_ne _ _ h]
end Go.Proofs.Ytfnbpljgmchhbaa
