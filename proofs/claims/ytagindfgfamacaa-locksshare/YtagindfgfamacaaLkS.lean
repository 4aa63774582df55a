/- So many locks on the same cells, then one that is alone, then one more (LocksShare): plain. -/
import Derived.Test.YtagindfgfamacaaLkA
namespace Go.Proofs.Ytagindfgfamacaa
/-- the locks that are not alone: from k on, so many -/
def shL : Nat → Nat → List Lk
  | _, 0 => []
  | k, m + 1 => ⟨(k : Int), 0, 40, false⟩ :: shL (k + 1) m
theorem shL_len : ∀ (m k : Nat), (shL k m).length = m
  | 0, _ => rfl
  | m + 1, k => by show (shL (k + 1) m).length + 1 = m + 1; rw [shL_len m]
theorem shL_snoc : ∀ (m k : Nat), shL k (m + 1) = shL k m ++ [⟨((k + m : Nat) : Int), 0, 40, false⟩]
  | 0, k => rfl
  | m + 1, k => by
    show _ :: shL (k + 1) (m + 1) = _ :: (shL (k + 1) m ++ _)
    rw [shL_snoc m (k + 1), show k + 1 + m = k + (m + 1) by omega]
theorem shL_in : ∀ (m k : Nat) (x : Lk), x ∈ shL k m → (k : Int) ≤ x.who ∧ x.who < (k : Int) + m ∧ x.fr = 0 ∧ x.to = 40 ∧ x.al = false
  | 0, _, x, h => by cases h
  | m + 1, k, x, h => by
    rcases List.mem_cons.1 h with rfl | h
    · exact ⟨by simp, by simp; omega, rfl, rfl, rfl⟩
    · obtain ⟨h1, h2, h3⟩ := shL_in m (k + 1) x h
      exact ⟨by omega, by omega, h3⟩
theorem shL_has (m k : Nat) (z : Int) (h : z < (k : Int) ∨ (k : Int) + m ≤ z) : hasW (shL k m) z = false :=
  hasW_false.2 (fun y hy e => by obtain ⟨h1, h2, _⟩ := shL_in m k y hy; omega)
theorem shL_drop (m k : Nat) (z : Int) (h : z < (k : Int) ∨ (k : Int) + m ≤ z) : Lks.drop (shL k m) z = shL k m := by
  unfold Lks.drop
  exact List.filter_eq_self.2 (fun y hy => by obtain ⟨h1, h2, _⟩ := shL_in m k y hy; simp; omega)
def shA : Lk := ⟨99, 3, 4, true⟩
def shB : Lk := ⟨100, 0, 40, false⟩
theorem shL_free (m k : Nat) (z : Int) : oddL (shL k m) ⟨z, 0, 40, false⟩ = false :=
  oddL_false.2 (fun y hy => by obtain ⟨_, _, _, _, h⟩ := shL_in m k y hy; unfold odd; rw [h]; rfl)
theorem shL_odd (m k : Nat) (hm : 0 < m) : oddL (shL k m) shA = true := by
  cases m with
  | zero => omega
  | succ m => exact oddL_true.2 ⟨_, List.mem_cons_self .., rfl⟩
/-- asked for, it is held -/
theorem sh_ask (i : Nat) (hi : i < 28) : (Lks.mk (shL 1 i) []).askE ⟨((i + 1 : Nat) : Int), 0, 40, false⟩ = 0 ∧ (Lks.mk (shL 1 i) []).askB ⟨((i + 1 : Nat) : Int), 0, 40, false⟩ = true ∧ (Lks.mk (shL 1 i) []).ask ⟨((i + 1 : Nat) : Int), 0, 40, false⟩ = ⟨shL 1 (i + 1), []⟩ := by
  have hf : (Lks.mk (shL 1 i) []).free' ⟨((i + 1 : Nat) : Int), 0, 40, false⟩ = true := by
    unfold Lks.free'
    (show (!oddL (shL 1 i) _ && !oddL [] _) = true)
    rw [shL_free]
    rfl
  have he : (Lks.mk (shL 1 i) []).askE ⟨((i + 1 : Nat) : Int), 0, 40, false⟩ = 0 := by
    unfold Lks.askE
    rw [if_neg (by unfold Lks.bad; simp; omega), if_neg (by
      (show ¬ (hasW (shL 1 i) _ || hasW [] _) = true)
      rw [shL_has i 1 _ (.inr (by simp; omega))]
      exact Bool.false_ne_true), if_neg (by (show ¬ 30 ≤ (shL 1 i).length + 0); rw [shL_len]; omega)]
  refine ⟨he, by unfold Lks.askB; rw [he, hf]; rfl, ?_⟩
  unfold Lks.ask
  rw [if_pos he]
  unfold Lks.add
  rw [if_pos hf]
  show Lks.mk (shL 1 i ++ [_]) [] = _
  rw [shL_snoc i 1, show 1 + i = i + 1 by omega]
/-- the one that is alone waits -/
theorem sh_A (n : Nat) (h1 : 1 ≤ n) (h2 : n ≤ 28) : (Lks.mk (shL 1 n) []).askE shA = 0 ∧ (Lks.mk (shL 1 n) []).askB shA = false ∧ (Lks.mk (shL 1 n) []).ask shA = ⟨shL 1 n, [shA]⟩ := by
  have hf : (Lks.mk (shL 1 n) []).free' shA = false := by
    unfold Lks.free'
    (show (!oddL (shL 1 n) _ && !oddL [] _) = false)
    rw [shL_odd n 1 (by omega)]
    rfl
  have he : (Lks.mk (shL 1 n) []).askE shA = 0 := by
    unfold Lks.askE
    rw [if_neg (by decide), if_neg (by
      (show ¬ (hasW (shL 1 n) 99 || hasW [] 99) = true)
      rw [shL_has n 1 _ (.inr (by simp; omega))]
      decide), if_neg (by (show ¬ 30 ≤ (shL 1 n).length + 0); rw [shL_len]; omega)]
  refine ⟨he, by unfold Lks.askB; rw [he, hf]; rfl, ?_⟩
  unfold Lks.ask
  rw [if_pos he]
  unfold Lks.add
  rw [hf, if_neg Bool.false_ne_true]
  rfl
/-- who comes behind it waits for it -/
theorem sh_B (n : Nat) (h2 : n ≤ 28) : (Lks.mk (shL 1 n) [shA]).askE shB = 0 ∧ (Lks.mk (shL 1 n) [shA]).askB shB = false ∧ (Lks.mk (shL 1 n) [shA]).ask shB = ⟨shL 1 n, [shA, shB]⟩ := by
  have hf : (Lks.mk (shL 1 n) [shA]).free' shB = false := by
    unfold Lks.free'
    (show (!oddL (shL 1 n) _ && !oddL [shA] shB) = false)
    rw [show oddL [shA] shB = true by decide, Bool.not_true, Bool.and_false]
  have he : (Lks.mk (shL 1 n) [shA]).askE shB = 0 := by
    unfold Lks.askE
    rw [if_neg (by decide), if_neg (by
      (show ¬ (hasW (shL 1 n) 100 || hasW [shA] 100) = true)
      rw [shL_has n 1 _ (.inr (by simp; omega))]
      decide), if_neg (by (show ¬ 30 ≤ (shL 1 n).length + 1); rw [shL_len]; omega)]
  refine ⟨he, by unfold Lks.askB; rw [he, hf]; rfl, ?_⟩
  unfold Lks.ask
  rw [if_pos he]
  unfold Lks.add
  rw [hf, if_neg Bool.false_ne_true]
  rfl
theorem shL_cons_drop (m k : Nat) : Lks.drop (shL k (m + 1)) (k : Int) = shL (k + 1) m := by
  show List.filter _ (⟨(k : Int), 0, 40, false⟩ :: shL (k + 1) m) = _
  rw [List.filter_cons_of_neg (by simp)]
  exact shL_drop m (k + 1) (k : Int) (.inl (by omega))
theorem shL_cons_has (m k : Nat) : hasW (shL k (m + 1)) (k : Int) = true := hasW_true.2 ⟨_, List.mem_cons_self .., rfl⟩
theorem sh_who (k : Nat) (hk : k ≤ 28) : Lks.drop [shA, shB] (k : Int) = [shA, shB] := by
  unfold Lks.drop
  exact List.filter_eq_self.2 (fun y hy => by
    simp only [List.mem_cons, List.not_mem_nil, or_false] at hy
    rcases hy with rfl | rfl
    · exact decide_eq_true (show (99 : Int) ≠ (k : Int) by omega)
    · exact decide_eq_true (show (100 : Int) ≠ (k : Int) by omega))
/-- freed, one of more -/
theorem sh_more (m k : Nat) (hk : k ≤ 28) : (Lks.mk (shL k (m + 2)) [shA, shB]).freeE (k : Int) = 0 ∧ (Lks.mk (shL k (m + 2)) [shA, shB]).freeW (k : Int) = [] ∧ (Lks.mk (shL k (m + 2)) [shA, shB]).free (k : Int) = ⟨shL (k + 1) (m + 1), [shA, shB]⟩ := by
  have he : (Lks.mk (shL k (m + 2)) [shA, shB]).freeE (k : Int) = 0 := by
    unfold Lks.freeE
    rw [if_pos (by (show (hasW (shL k (m + 2)) _ || hasW _ _) = true); rw [shL_cons_has]; rfl)]
  have f1 : (Lks.mk (shL (k + 1) (m + 1)) []).free' shA = false := by
    unfold Lks.free'
    (show (!oddL (shL (k + 1) (m + 1)) _ && !oddL [] _) = false)
    rw [shL_odd (m + 1) (k + 1) (by omega)]
    rfl
  have f2 : (Lks.mk (shL (k + 1) (m + 1)) [shA]).free' shB = false := by
    unfold Lks.free'
    (show (!oddL (shL (k + 1) (m + 1)) _ && !oddL [shA] shB) = false)
    rw [show oddL [shA] shB = true by decide, Bool.not_true, Bool.and_false]
  have a1 : (Lks.mk (shL (k + 1) (m + 1)) []).add shA = ⟨shL (k + 1) (m + 1), [shA]⟩ := by unfold Lks.add; rw [f1, if_neg Bool.false_ne_true]; rfl
  have a2 : (Lks.mk (shL (k + 1) (m + 1)) [shA]).add shB = ⟨shL (k + 1) (m + 1), [shA, shB]⟩ := by unfold Lks.add; rw [f2, if_neg Bool.false_ne_true]; rfl
  refine ⟨he, ?_, ?_⟩
  · unfold Lks.freeW
    rw [if_pos he]
    (show Lks.goW ⟨Lks.drop (shL k (m + 2)) _, []⟩ (Lks.drop [shA, shB] _) = [])
    rw [shL_cons_drop, sh_who k hk]
    (show (if _ then _ else _) ++ ((if _ then _ else _) ++ []) = [])
    rw [f1, a1, f2]
    rfl
  · unfold Lks.free
    rw [if_pos he]
    (show Lks.go ⟨Lks.drop (shL k (m + 2)) _, []⟩ (Lks.drop [shA, shB] _) = _)
    rw [shL_cons_drop, sh_who k hk]
    (show ((Lks.mk (shL (k + 1) (m + 1)) []).add shA).add shB = _)
    rw [a1, a2]
/-- freed, the last one -/
theorem sh_last (k : Nat) (hk : k ≤ 28) : (Lks.mk (shL k 1) [shA, shB]).freeE (k : Int) = 0 ∧ (Lks.mk (shL k 1) [shA, shB]).freeW (k : Int) = [99] ∧ (Lks.mk (shL k 1) [shA, shB]).free (k : Int) = ⟨[shA], [shB]⟩ := by
  have he : (Lks.mk (shL k 1) [shA, shB]).freeE (k : Int) = 0 := by
    unfold Lks.freeE
    rw [if_pos (by (show (hasW (shL k 1) _ || hasW _ _) = true); rw [shL_cons_has]; rfl)]
  refine ⟨he, ?_, ?_⟩
  · unfold Lks.freeW
    rw [if_pos he]
    (show Lks.goW ⟨Lks.drop (shL k 1) _, []⟩ (Lks.drop [shA, shB] _) = [99])
    rw [shL_cons_drop, sh_who k hk]
    rfl
  · unfold Lks.free
    rw [if_pos he]
    (show Lks.go ⟨Lks.drop (shL k 1) _, []⟩ (Lks.drop [shA, shB] _) = _)
    rw [shL_cons_drop, sh_who k hk]
    rfl
/-- the first one that is held can be freed -/
theorem free_head {t : Lks} {x : Lk} {l : List Lk} (h : t.h = x :: l) : t.freeE x.who = 0 := by
  unfold Lks.freeE
  rw [if_pos (by rw [h, hasW_true.2 ⟨x, List.mem_cons_self .., rfl⟩]; rfl)]
/-- two that have cells in common -/
def faA : Lk := ⟨1, 0, 5, true⟩
def faB : Lk := ⟨2, 4, 6, false⟩
theorem fact_lk : Lks.none.askE faA = 0 ∧ Lks.none.askB faA = true ∧ (Lks.none.ask faA).askE faB = 0 ∧ (Lks.none.ask faA).askB faB = false ∧ ((Lks.none.ask faA).ask faB).freeE 1 = 0 ∧ ((Lks.none.ask faA).ask faB).freeW 1 = [2] := by decide
theorem sh_end : (Lks.mk [shA] [shB]).freeE 99 = 0 ∧ (Lks.mk [shA] [shB]).freeW 99 = [100] := by decide
end Go.Proofs.Ytagindfgfamacaa
