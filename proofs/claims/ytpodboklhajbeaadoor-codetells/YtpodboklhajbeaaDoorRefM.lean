/- What the document's own Matrix and Unit answer: by walks over the program. -/
import Derived.Test.YtpodboklhajbeaaDoorMatK
import Derived.Test.YtpodboklhajbeaaDoorRf
import Derived.BigCall
import Derived.BigGuard
namespace Go.Proofs.YtpodboklhajbeaaDoor
open Go.ChangeShapes Go.WideShapes Go.ChangeAt Go.RowKit El Pol Mx
theorem bad_full {n : Nat} {R : Nat → List El} {k : Nat} (hn : n ≤ 12) (hk : k < n) (h : 12 < (R k).length) : bad n R = 4 := by
  unfold bad
  rw [if_neg (by omega), if_pos (anyB_true.2 ⟨k, hk, decide_eq_true h⟩)]
theorem bad_shape {n : Nat} {R : Nat → List El} {k : Nat} (hn : n ≤ 12) (hl : ∀ i, i < n → (R i).length ≤ 12) (hk : k < n) (h : (R k).length ≠ (R 0).length) : bad n R = 3 := by
  unfold bad
  rw [if_neg (by omega), anyB_false.2 (fun i hi => decide_eq_false (by have := hl i hi; omega)), if_neg (by simp), if_pos (anyB_true.2 ⟨k, hk, decide_eq_true (by unfold wd; rw [if_neg (by omega)]; exact h)⟩)]
theorem bad_none {n : Nat} {R : Nat → List El} (hn : n ≤ 12) (hl : ∀ i, i < n → (R i).length ≤ 12) (hs : ∀ i, i < n → (R i).length = (R 0).length) : bad n R = 0 := by
  unfold bad
  rw [if_neg (by omega), anyB_false.2 (fun i hi => decide_eq_false (by have := hl i hi; omega)), if_neg (by simp), anyB_false.2 (fun i hi => decide_eq_false (by unfold wd; rw [if_neg (by omega)]; exact fun k => k (hs i hi))), if_neg (by simp)]
set_option maxRecDepth 100000 in
set_option maxHeartbeats 1000000 in
theorem rmatrix_any (v : Value) (n : Nat) (R : Nat → List El) (w : World) (h : RdM w v n R) :
    Calls Tryd.prog 5 #[v] w fun e w' => e = .returned (.int .i64 ((bad n R : Nat) : Int)) ∧ Below w.heap.size w w' := by
  obtain ⟨ao, cap, rfl, _, _⟩ := h.len
  have HM : Hid (RdM w (.slice ao n cap) n R) := h
  clear h
  by_cases h12 : 12 < n
  · rw [show bad n R = 4 from if_pos h12]
    go_enter Tryd.func5, Tryd.ntmps5
    go_wp2
    go_ret
    exact ⟨rfl, Below.refl _ _⟩
  · have hn12 : n ≤ 12 := by omega
    go_enter Tryd.func5, Tryd.ntmps5
    go_wp2
    go_loop [3] (fun t => ∃ k : Nat, k ≤ n ∧ t = .int .i64 k ∧ Hid (∀ i, i < k → (R i).length ≤ 12)) (fun t => n - (intOf t).toNat)
    case atStart => exact ⟨0, Nat.zero_le _, rfl, fun i hi => absurd hi (Nat.not_lt_zero _)⟩
    case round =>
      obtain ⟨k, hk, rfl, HF⟩ := hrel
      by_cases hlt : k < n
      · obtain ⟨ad, av, cv, rfl, hc, _⟩ := HM.out.some k hlt
        obtain ⟨l, hl⟩ : ∃ l, l = (R k).length := ⟨_, rfl⟩
        rw [← hl] at hc
        have HL : Hid (l = (R k).length) := hl
        clear hl
        by_cases hl12 : 12 < l
        · have HE : Hid (bad n R = 4) := bad_full hn12 hlt (by rw [← HL.out]; exact hl12)
          go_wp2
          go_ret
          exact ⟨by rw [HE.out]; rfl, Below.refl _ _⟩
        · go_wp2
          go_round
          case rel => exact ⟨k + 1, by omega, by go_num, fun i hi => by
            by_cases e : i = k
            · rw [e, ← HL.out]; omega
            · exact HF.out i (by omega)⟩
          case measure => simp [intOf]; omega
      · have HL : Hid (∀ i, i < n → (R i).length ≤ 12) := fun i hi => HF.out i (by omega)
        clear HF
        go_wp2
        go_loopw [4] (fun t wr => ∃ k : Nat, k ≤ n ∧ t = .int .i64 k ∧ Hid (∀ i, i < k → (R i).length = (R 0).length) ∧ Below w.heap.size w wr) (fun t _ => n - (intOf t).toNat)
        case atStart => exact ⟨0, Nat.zero_le _, rfl, fun i hi => absurd hi (Nat.not_lt_zero _), Below.refl _ _⟩
        case round =>
          clear hk hlt
          obtain ⟨k, hk, rfl, HF, hB⟩ := hrel
          by_cases hlt : k < n
          · obtain ⟨ad, av, cv, rfl, hc, _⟩ := (HM.out.old hB).some k hlt
            obtain ⟨ad', aw, cw, e, hc0, _⟩ := (HM.out.old hB).some 0 (by omega)
            cases e
            rw [add_zero] at hc0
            obtain ⟨l, hl⟩ : ∃ l, l = (R k).length := ⟨_, rfl⟩
            obtain ⟨m, hm⟩ : ∃ m, m = (R 0).length := ⟨_, rfl⟩
            rw [← hl] at hc
            rw [← hm] at hc0
            have HK : Hid (l = (R k).length) := hl
            have HM0 : Hid (m = (R 0).length) := hm
            clear hl hm
            have hdr : Below wr.heap.size wr wr.drew := ⟨rfl, rfl, rfl, Nat.le_refl _, fun _ _ => rfl⟩
            have hB2 := hB.trans (hdr.mono hB.size)
            clear hB hdr
            by_cases hlm : l = m
            · have hb : ((l : Int) != (m : Int)) = false := by rw [hlm]; simp
              have HLM : Hid (l = m) := hlm
              clear hlm
              go_wp2
              go_region
              all_goals
                clear hc hc0
                go_wp2
                go_roundw
                case rel => exact ⟨k + 1, by omega, by go_num, fun i hi => by
                  by_cases e : i = k
                  · rw [e, ← HK.out, ← HM0.out, HLM.out]
                  · exact HF.out i (by omega), hB2⟩
                case measure => simp [intOf]; omega
            · have hb : ((l : Int) != (m : Int)) = true := by rw [bne_iff_ne]; omega
              have HE : Hid (bad n R = 3) := bad_shape hn12 HL.out hlt (by rw [← HK.out, ← HM0.out]; exact hlm)
              clear hlm
              go_wp2
              go_region
              all_goals
                clear hc hc0
                go_wp2
                go_ret
                exact ⟨by rw [HE.out]; rfl, hB2⟩
          · have HE : Hid (bad n R = 0) := bad_none hn12 HL.out (fun i hi => HF.out i (by omega))
            go_wp2
            go_ret
            exact ⟨by rw [HE.out]; rfl, hB⟩
theorem up_if {α : Type} (f : Nat → α) (n : Nat) (x : α) : (fun i => if i = n then x else f i) = up f n x := rfl
/-- a row more, appended -/
theorem wpList_append_row {w : World} {ops : Array Oper} {rest : List Oper} {o : Oper} {a : Act} {Q : Exit → Act → World → Prop} (hgd : o.guard = none) (s x : Operand)
    (ho : o.op = .call { callee := .builtin .append, args := #[s, x], argTypes := #[22, 22] })
    (B : Nat) (v r : Value) (n : Nat) (A : Nat → List El) (rv : Nat → Value) (b : List El) (ad : Addr) (hs : a.eval s = v) (hO : OwM B w v n A rv) (hx : a.eval x = .slice (some ad) 1 1) (hc : w.cell? ad = some r) (hr : Ow B w r b)
    (hne : ∀ i, i < n → (rv i).ownBlock = none ∨ (rv i).ownBlock ≠ r.ownBlock) (hn : n ≤ 1000) (hB : B ≤ w.heap.size)
    (h : ∀ v' w', OwM B w' v' (n + 1) (up A n b) (up rv n r) → w.grownBy w' v.ownBlock → wpList Tryd.prog ops Q rest (a.put o.dst v') w') : wpList Tryd.prog ops Q (o :: rest) a w := by
  obtain ⟨j0, hj, hy0, hy1, hy2⟩ := info_parts infoS
  refine wpList_append_own (P := Tryd.prog) w hgd s x _ ho B 23 j0 (.slice none 0 0) 1 24 Tryd.underlying22 hj hy0 hy1 hy2 rfl (by decide) v _ _ hs hO.out ad 1 1 [r] hx rfl (fun j y hj => ?_) (fun y hy => ?_) (by unfold maxLen; omega) (by omega) hB (fun v' w' h3 h4 _ => h v' w' ?_ h4)
  · match j, hj with
    | 0, hj => simp at hj; subst hj; rw [add_zero]; exact hc
  · simp at hy
    subst hy
    obtain ⟨_, _, e, _, _⟩ := hr.rd.len
    rw [e]; rfl
  · exact hO.push hr hne h4 h3
end Go.Proofs.YtpodboklhajbeaaDoor
