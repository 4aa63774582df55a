/- What was made by the rows of a code comes back. -/
import Derived.Test.YtlacogjgohbeoabDoorCodeI
namespace Go.Proofs.YtlacogjgohbeoabDoor
open Go.RowKit El Pol Mx
theorem decode_back {k L : Nat} {T D : M} {s : Nat → Nat} {lf : Nat → List El} (h : Inv k (fun i j => gen k (s i) j) T) (hl : ∀ i, i < k → lf i = row (mm k (gen k) D (s i)) L) (i : Nat) (hi : i < k) :
    row (mm k T (mx lf) i) L = row (D i) L := by
  refine row_congr (fun j hj => ?_)
  have e : Eqm k L (mx lf) (mm k (fun i j => gen k (s i) j) D) := fun a b ha hb => by
    show co (lf a) b = _
    rw [hl a ha, co_row_lt _ hb]
    rfl
  rw [mm_congr (Eqm.refl k k T) e i j hi hj]
  exact mm_back h i j hi hj
theorem gen_data {k : Nat} {D : M} {i j : Nat} (hi : i < k) : mm k (gen k) D i j = D i j := by
  rw [← one_mm k D i j hi]
  exact sm_congr k (fun l _ => by unfold gen; rw [if_pos hi])
theorem gen_parity {k : Nat} {D : M} (i j : Nat) : mm k (gen k) D (k + i) j = mm k (par k) D i j := sm_congr k (fun l _ => by rw [gen_par])
theorem RdF.grown {w w' : World} {v : Value} {n g : Nat} {f : Nat → Value} (h : RdF w v n f) (hg : w.grownBy w' (some g)) (hne : v.ownBlock ≠ some g) : RdF w' v n f := by
  rcases h with h | ⟨ad, cap, rfl, h1, h2, h3⟩
  · exact .inl h
  · exact .inr ⟨ad, cap, rfl, h1, h2, fun i hi => hg.cell (h3 i hi) (by rw [add_block]; simp [Value.ownBlock] at hne; simp; exact hne)⟩
theorem getElem_set_rep (n t i : Nat) (x z : Value) (hi : i < n) : ((List.replicate n z).set t x)[i]? = some (if i = t then x else z) := by
  rw [List.getElem?_set]
  by_cases e : t = i
  · subst e
    rw [if_pos rfl, if_pos rfl, if_pos (by simpa using hi)]
  · rw [if_neg e, if_neg (Ne.symm e), List.getElem?_replicate_of_lt hi]
end Go.Proofs.YtlacogjgohbeoabDoor
