/- Texts that are the same; texts behind texts, appended; small laws on lists of texts. -/
import Derived.Test.YtdbanimlnjhhlaaDoorTxt
import Derived.BigQuiet
namespace Go.Proofs.YtdbanimlnjhhlaaDoor
open Go.RowKit El Pol
/-- are two lists of texts the same? -/
def sameL (n m : Nat) (a b : Nat → List El) : Bool := decide (n = m) && !anyB (fun i => decide (a i ≠ b i)) n
theorem sameL_iff {n m : Nat} {a b : Nat → List El} : sameL n m a b = true ↔ n = m ∧ ∀ i, i < n → a i = b i := by
  unfold sameL
  rw [Bool.and_eq_true, decide_eq_true_iff, Bool.not_eq_true', anyB_false]
  simp
/-- texts behind texts, appended -/
theorem wpList_append_texts {w : World} {ops : Array Oper} {rest : List Oper} {o : Oper} {a : Act} {Q : Exit → Act → World → Prop} (hgd : o.guard = none) (s x : Operand)
    (ho : o.op = .call { callee := .builtin .append, args := #[s, x], argTypes := #[33, 33] })
    (B : Nat) (v u : Value) (xs : List Value) (n : Nat) (f : Nat → List El) (hs : a.eval s = v) (hO : OwL B 9 w v xs) (hx : a.eval x = u) (hR : RdF w u n (fun i => st (f i))) (h1 : xs.length ≤ 1000) (h2 : n ≤ 1000) (hB : B ≤ w.heap.size)
    (h : ∀ v' w', OwL B 9 w' v' (xs ++ (List.range n).map (fun i => st (f i))) → w.grownBy w' v.ownBlock → wpList Tryd.prog ops Q rest (a.put o.dst v') w') : wpList Tryd.prog ops Q (o :: rest) a w := by
  obtain ⟨i0, hi, hz0, hz1, hz2⟩ := info_parts infoT
  rcases hR with ⟨rfl, rfl⟩ | ⟨ad, cap, rfl, _, _, hc⟩
  · exact wpList_append_own_none hgd s x _ ho B 9 i0 1 Tryd.underlying33 hi v _ _ hs hO hx (h v w (by simpa using hO) (grownBy_refl _ _))
  · refine wpList_append_own (P := Tryd.prog) w hgd s x _ ho B 9 i0 (.string ⟨#[]⟩) 1 16 Tryd.underlying33 hi hz0 hz1 hz2 rfl (by decide) v _ _ hs hO ad n cap ((List.range n).map (fun i => st (f i))) hx (by simp) (fun j y hj => ?_) (fun y hy => ?_) (by unfold maxLen; omega) (by omega) hB (fun v' w' h3 h4 _ => h v' w' ?_ h4)
    · have hjn : j < n := by
        have := (List.getElem?_eq_some_iff.1 hj).1
        simpa using this
      rw [hc j hjn, ← hj]
      simp [hjn]
    · obtain ⟨i, _, rfl⟩ := List.mem_map.1 hy
      rfl
    · unfold OwL
      rw [List.length_append, List.length_map, List.length_range]
      exact h3
theorem rep_texts (n : Nat) (f : Nat → List El) (m : Nat) (g : Nat → List El) : (List.range n).map (fun i => st (f i)) ++ (List.range m).map (fun i => st (g i)) = (List.range (n + m)).map (fun i => st (if i < n then f i else g (i - n))) := by
  apply List.ext_getElem (by simp)
  intro i h1 h2
  simp only [List.length_map, List.length_range] at h2
  rw [List.getElem_append]
  by_cases h : i < n
  · simp [h]
  · simp [h]
end Go.Proofs.YtdbanimlnjhhlaaDoor
