/- Texts of plain mathematics, of memory and of walks, in one. -/
import Derived.Test.YtbpmfmjohhbbcacDoorCd
import Derived.BigQuiet
/- Texts that are the same; texts behind texts, appended; small laws on lists of texts. -/
namespace Go.Proofs.YtbpmfmjohhbbcacDoor
open Go.ChangeShapes Go.WideShapes Go.ChangeAt Go.RowKit El Pol Mx
/-- are two lists of texts the same? -/
def sameL (n m : Nat) (a b : Nat → List El) : Bool := decide (n = m) && !anyB (fun i => decide (a i ≠ b i)) n
theorem sameL_iff {n m : Nat} {a b : Nat → List El} : sameL n m a b = true ↔ n = m ∧ ∀ i, i < n → a i = b i := by
  unfold sameL
  rw [Bool.and_eq_true, decide_eq_true_iff, Bool.not_eq_true', anyB_false]
  simp
/-- texts behind texts, appended -/
theorem wpList_append_texts {w : World} {ops : Array Oper} {rest : List Oper} {o : Oper} {a : Act} {Q : Exit → Act → World → Prop} (hgd : o.guard = none) (s x : Operand)
    (ho : o.op = .call { callee := .builtin .append, args := #[s, x], argTypes := #[22, 22] })
    (B : Nat) (v u : Value) (xs : List Value) (n : Nat) (f : Nat → List El) (hs : a.eval s = v) (hO : OwL B 9 w v xs) (hx : a.eval x = u) (hR : RdF w u n (fun i => st (f i))) (h1 : xs.length ≤ 1000) (h2 : n ≤ 1000) (hB : B ≤ w.heap.size)
    (h : ∀ v' w', OwL B 9 w' v' (xs ++ (List.range n).map (fun i => st (f i))) → w.grownBy w' v.ownBlock → wpList Tryd.prog ops Q rest (a.put o.dst v') w') : wpList Tryd.prog ops Q (o :: rest) a w := by
  obtain ⟨i0, hi, hz0, hz1, hz2⟩ := info_parts infoT
  rcases hR with ⟨rfl, rfl⟩ | ⟨ad, cap, rfl, _, _, hc⟩
  · exact wpList_append_own_none hgd s x _ ho B 9 i0 1 Tryd.underlying22 hi v _ _ hs hO hx (h v w (by simpa using hO) (grownBy_refl _ _))
  · refine wpList_append_own (P := Tryd.prog) w hgd s x _ ho B 9 i0 (.string ⟨#[]⟩) 1 16 Tryd.underlying22 hi hz0 hz1 hz2 rfl (by decide) v _ _ hs hO ad n cap ((List.range n).map (fun i => st (f i))) hx (by simp) (fun j y hj => ?_) (fun y hy => ?_) (by unfold maxLen; omega) (by omega) hB (fun v' w' h3 h4 _ => h v' w' ?_ h4)
    · have hjn : j < n := by
        have := (List.getElem?_eq_some_iff.1 hj).1
        simpa using this
      rw [hc j hjn, ← hj]
      simp [hjn]
    · obtain ⟨i, _, rfl⟩ := List.mem_map.1 hy
      rfl
    · unfold OwL
      rw [List.length_append, List.length_map, List.length_range]
      exact h3
theorem rep_texts (n : Nat) (f : Nat → List El) (m : Nat) (g : Nat → List El) : (List.range n).map (fun i => st (f i)) ++ (List.range m).map (fun i => st (g i)) = (List.range (n + m)).map (fun i => st (if i < n then f i else g (i - n))) := by
  apply List.ext_getElem (by simp)
  intro i h1 h2
  simp only [List.length_map, List.length_range] at h2
  rw [List.getElem_append]
  by_cases h : i < n
  · simp [h]
  · simp [h]
end Go.Proofs.YtbpmfmjohhbbcacDoor

/- What paritysame.Texts answers: by a walk over the program. -/
namespace Go.Proofs.YtbpmfmjohhbbcacDoor
open Go.ChangeShapes Go.WideShapes Go.ChangeAt Go.RowKit El Pol Mx
set_option maxHeartbeats 1000000 in
theorem texts_any (u v : Value) (n m : Nat) (a b : Nat → List El) (w : World) (hu : RdF w u n (fun i => st (a i))) (hv : RdF w v m (fun i => st (b i))) :
    Calls Tryd.prog 10 #[u, v] w fun e w' => e = .returned (.bool (sameL n m a b)) ∧ Below w.heap.size w w' := by
  have HU : Hid (RdF w u n (fun i => st (a i))) := hu
  have HV : Hid (RdF w v m (fun i => st (b i))) := hv
  obtain ⟨a1, c1, rfl, _, _⟩ := hu.len
  obtain ⟨a2, c2, rfl, _, _⟩ := hv.len
  clear hu hv
  by_cases hnm : n = m
  · subst hnm
    go_enter Tryd.func10, Tryd.ntmps10
    go_wp2
    go_loopw [5] (fun t wr => ∃ k : Nat, k ≤ n ∧ t = .int .i64 k ∧ Hid (∀ i, i < k → a i = b i) ∧ Below w.heap.size w wr) (fun t _ => n - (intOf t).toNat)
    case atStart => exact ⟨0, Nat.zero_le _, rfl, fun i hi => absurd hi (Nat.not_lt_zero _), Below.refl _ _⟩
    case round =>
      obtain ⟨k, hk, rfl, HS, hB⟩ := hrel
      by_cases hlt : k < n
      · obtain ⟨ad1, rfl, h1⟩ := (HU.out.old hB).at k hlt
        obtain ⟨ad2, rfl, h2⟩ := (HV.out.old hB).at k hlt
        have hss := sb_same (a k) (b k)
        by_cases he : a k = b k
        · have HE : Hid (a k = b k) := he
          rw [decide_eq_true he] at hss
          unfold st at h1 h2
          clear he
          generalize sb (a k) = s1 at *
          generalize sb (b k) = s2 at *
          go_wp2
          go_quiet (fail)
          have hB2 := below_drewN hB nq
          clear hB h1 h2 hss
          go_wp2
          go_roundw
          case rel => exact ⟨k + 1, by omega, by go_num, fun i hi => by
            by_cases e : i = k
            · rw [e]; exact HE.out
            · exact HS.out i (by omega), hB2⟩
          case measure => simp [intOf]; omega
        · have HE : Hid (sameL n n a b = false) := by
            (show sameL n n a b = false)
            rw [Bool.eq_false_iff]
            exact fun q => he ((sameL_iff.1 q).2 k hlt)
          rw [decide_eq_false he] at hss
          unfold st at h1 h2
          clear he
          generalize sb (a k) = s1 at *
          generalize sb (b k) = s2 at *
          go_wp2
          go_quiet (fail)
          have hB2 := below_drewN hB nq
          clear hB h1 h2 hss
          go_wp2
          go_ret
          exact ⟨by rw [HE.out]; rfl, hB2⟩
      · have HE : Hid (sameL n n a b = true) := by
          (show sameL n n a b = true)
          exact sameL_iff.2 ⟨rfl, fun i hi => HS.out i (by omega)⟩
        go_wp2
        go_ret
        exact ⟨by rw [HE.out]; rfl, hB⟩
  · have HE : Hid (sameL n m a b = false) := by
      (show sameL n m a b = false)
      rw [Bool.eq_false_iff]
      exact fun q => hnm (sameL_iff.1 q).1
    have hb : ((n : Int) != (m : Int)) = true := by rw [bne_iff_ne]; omega
    go_enter Tryd.func10, Tryd.ntmps10
    go_wp2
    go_ret
    exact ⟨by rw [HE.out]; rfl, Below.refl _ _⟩
end Go.Proofs.YtbpmfmjohhbbcacDoor
