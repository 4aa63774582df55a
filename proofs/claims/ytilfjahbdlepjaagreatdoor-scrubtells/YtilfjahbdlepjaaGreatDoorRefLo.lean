/- What the document's own Locate answers: by a walk over the program. -/
import Derived.Test.YtilfjahbdlepjaaGreatDoorRefHc
import Derived.Test.YtilfjahbdlepjaaGreatDoorPw
import Derived.Test.YtilfjahbdlepjaaGreatDoorGe
import Derived.Test.YtilfjahbdlepjaaGreatDoorMa
namespace Go.Proofs.YtilfjahbdlepjaaGreatDoor
open Go.ChangeShapes Go.WideShapes Go.ChangeAt Go.RowKit El Pol Mx
theorem lost1_cells (n i : Nat) : (List.replicate n (Value.bool false)).set i (.bool true) = (List.range n).map (fun x => .bool (lost1 i x)) := by
  apply List.ext_getElem (by simp)
  intro x h1 h2
  simp only [List.length_map, List.length_range] at h2
  rw [List.getElem_set]
  simp only [List.getElem_replicate, List.getElem_map, List.getElem_range]
  unfold lost1
  by_cases q : i = x
  · rw [if_pos q, decide_eq_true q.symm]
  · rw [if_neg q, decide_eq_false (fun e => q e.symm)]
/-- so far all but the i-th are as they stand -/
def sameTo (k L : Nat) (D A : M) (i j : Nat) : Bool := (List.range j).all (fun x => decide (x = i) || decide (row (pqp k D x) L = row (A x) L))
theorem sameTo_succ (k L : Nat) (D A : M) (i j : Nat) : sameTo k L D A i (j + 1) = (sameTo k L D A i j && (decide (j = i) || decide (row (pqp k D j) L = row (A j) L))) := by
  unfold sameTo
  rw [List.range_succ, List.all_append]
  simp
theorem row_inj {f g : Nat → El} {L : Nat} (h : row f L = row g L) : ∀ l, l < L → f l = g l := fun l hl => by
  have := congrArg (fun x => co x l) h
  simpa [co_row_lt _ hl] using this
theorem sameTo_iff {k L : Nat} {D A : M} {i : Nat} : sameTo k L D A i (k + 2) = true ↔ ∀ j, j < k + 2 → j ≠ i → ∀ l, l < L → pqp k D j l = A j l := by
  unfold sameTo
  rw [List.all_eq_true]
  constructor
  · intro h j hj hne l hl
    have := h j (List.mem_range.2 hj)
    rw [decide_eq_false hne, Bool.false_or, decide_eq_true_iff] at this
    exact row_inj this l hl
  · intro h j hj
    by_cases e : j = i
    · rw [decide_eq_true e, Bool.true_or]
    · rw [decide_eq_false e, Bool.false_or, decide_eq_true_iff]
      exact row_congr (fun l hl => h j (List.mem_range.1 hj) e l hl)
set_option maxRecDepth 100000 in
set_option maxHeartbeats 4000000 in
theorem rlocate_any (k L : Nat) (h1 : 1 ≤ k) (h2 : k ≤ 10) (v : Value) (a : Nat → List El) (w : World) (h : RdF w v (k + 2) (fun i => st (a i))) (hl : ∀ i, i < k + 2 → (a i).length = L) (hL : L ≤ 16) :
    Calls Tryz.prog 54 #[v] w fun e w' => ∃ (z : Int) (f : Nat), e = .returned (.tuple #[.int .i64 z, .bool (decide (f = 0))]) ∧ Lct k L (mx a) z f ∧ Below w.heap.size w w' := by
  obtain ⟨b0, hb0, hx0, hx1, hx2⟩ := info_parts infoB
  have HH : Hid (RdF w v (k + 2) (fun i => st (a i))) := h
  have HLN : Hid (∀ i, i < k + 2 → (a i).length = L) := hl
  have HRA0 := blocks_rows h hl
  obtain ⟨A, hA⟩ : ∃ A : M, A = mx a := ⟨_, rfl⟩
  have HA : Hid (A = mx a) := hA
  rw [← hA] at HRA0 ⊢
  have HRA : Hid (RdF w v (k + 2) (fun i => st (row (A i) L))) := HRA0
  obtain ⟨ao, cap, rfl, hcap, _⟩ := h.len
  obtain ⟨ad, rfl, _⟩ := h.at 0 (by omega)
  have C := rpq_any (.slice (some ad) k cap) k L A w (HRA0.cut (by omega)) h1 h2 hL
  have hkk2 : (k : Int) < (k : Int) + 2 := by omega
  have hkk3 : (k : Int) + 1 < (k : Int) + 2 := by omega
  have had := add_zero ad
  obtain ⟨sp, hsp⟩ : ∃ s, s = sb (row (pp k A) L) := ⟨_, rfl⟩
  obtain ⟨sq, hsq⟩ : ∃ s, s = sb (row (qq k A) L) := ⟨_, rfl⟩
  have hss1 := sb_same (row (pp k A) L) (row (A k) L)
  have hss2 := sb_same (row (qq k A) L) (row (A (k + 1)) L)
  unfold st at C
  rw [← hsp, ← hsq] at C
  rw [← hsp] at hss1
  rw [← hsq] at hss2
  clear h hl hA HRA0 hsp hsq
  go_enter Tryz.func54, Tryz.ntmps54
  go_wp2_with fail
  refine C.mono ?_
  rintro e w3 ⟨rfl, hB4⟩
  obtain ⟨_, e1, hck⟩ := (HRA.out.old hB4).at k (by omega)
  cases e1
  obtain ⟨_, e2, hcq⟩ := (HRA.out.old hB4).at (k + 1) (by omega)
  cases e2
  unfold st at hck hcq
  generalize sb (row (A k) L) = sk at *
  generalize sb (row (A (k + 1)) L) = sl at *
  have hcq' : w3.cell? ⟨ad.block, ad.off + (k + 1), none⟩ = some (.string sl) := by
    have e : ad.add (k + 1) = ⟨ad.block, ad.off + (k + 1), none⟩ := by unfold Addr.add; simp
    rw [← e]
    exact hcq
  clear C
  by_cases e1 : row (pp k A) L = row (A k) L
  · rw [decide_eq_true e1] at hss1
    by_cases e2 : row (qq k A) L = row (A (k + 1)) L
    · rw [decide_eq_true e2] at hss2
      have HN : Hid (Rgt k L A (A k) (A (k + 1))) := fun l hl => ⟨(row_inj e1 l hl).symm, (row_inj e2 l hl).symm⟩
      clear e1 e2
      go_wp2
      go_ret2
      exact ⟨_, 0, rfl, .inl ⟨HN.out, rfl, rfl⟩, hB4⟩
    · rw [decide_eq_false e2] at hss2
      have HN : Hid (¬ Rgt k L A (A k) (A (k + 1))) := fun q => e2 (row_congr (fun l hl => ((q l hl).2).symm))
      clear e1 e2
      go_wp2
      go_loopw [7] (fun t wr => ∃ i : Nat, i ≤ k + 2 ∧ t = .int .i64 i ∧ Hid (∀ j, j < i → ¬ Fit k L A (A k) (A (k + 1)) j) ∧ Below w.heap.size w wr) (fun t _ => (k + 2) - (intOf t).toNat)
      case atStart => exact ⟨0, Nat.zero_le _, rfl, fun i hi => absurd hi (Nat.not_lt_zero _), hB4⟩
      case round =>
        clear hB4
        obtain ⟨i, hi, rfl, HF, hB⟩ := hrel
        by_cases hlt : i < k + 2
        · have hlt' : (i : Int) < (k : Int) + 2 := by omega
          have HB : Hid (Below w.heap.size w wr) := hB
          have hsz := hB.size
          rename World => wo
          go_wp2_with (first | (at_make; refine wpList_make_full _ rfl _ _ 49 rfl wo.heap.size 4 b0 (.bool false) 1 Tryz.underlying49 hb0 hx0 hx1 _ _ _ _ (k + 2) rfl rfl rfl rfl (by rw [hx2]; omega) (by unfold maxLen; omega) (Nat.le_refl _) ?_))
          intro w6 hown6 hg6
          have hb6 := below_of_grown hg6
          have hL6 : w6.ownsRow wo.heap.size 4 1 (.slice (some ⟨wo.heap.size, 0, none⟩) (k + 2) (k + 2)) (k + 2) (List.replicate (k + 2) (.bool false)) := by
            have := hown6
            rw [toList_madeCells_one] at this
            exact this
          have c7 := World.ownsRow.cellAt hL6 i (by omega)
          rw [List.getElem?_replicate_of_lt hlt] at c7
          have f7 := World.ownsRow.frozenAt hL6 i
          have S7 := World.ownsRow.stored hL6 i (.bool true)
          rw [lost1_cells] at S7
          have hb7 := hb6.trans (below_of_grownAt S7.2 hb6.size (Nat.le_refl _))
          have hL7 := S7.1
          have hb7' : Below wo.heap.size wo (w6.setCell ⟨wo.heap.size, i, none⟩ (.bool true)) := hb7
          clear hown6 hg6 hb6 hL6 S7 hB hb7
          go_upto_region 10 with fail
          generalize w6.setCell ⟨wo.heap.size, i, none⟩ (.bool true) = w7 at *
          clear c7 f7
          have hB7 := HB.out.trans (hb7'.mono hsz)
          have hLr : RdF w7 (.slice (some ⟨wo.heap.size, 0, none⟩) (k + 2) (k + 2)) (k + 2) (fun x => .bool (lost1 i x)) := OwL.rdM hL7
          have C := rheal_any k L h1 h2 (.slice (some ad) (k + 2) cap) _ a (lost1 i) w7 (HH.out.old hB7) hLr (ix_lost1 i k) (fun x hx => HLN.out _ (at_mem hx).1) hL
          clear hLr hL7 hb7'
          go_wp2_with fail
          refine C.mono ?_
          rintro e w8 ⟨v8, D, rfl, hD, hR8, hB8⟩
          have hB08 := hB7.trans (hB8.mono hB7.size)
          have HD : Hid (sameTo k L D A i (k + 2) = true ↔ Fit k L A (A k) (A (k + 1)) i) := by
            (show _ ↔ _)
            rw [sameTo_iff, HA.out]
            exact fit_heal h2 hlt hD
          have HR8 : Hid (RdF w8 v8 (k + 2) (fun x => st (row (pqp k D x) L))) := hR8
          obtain ⟨ao8, c8, rfl, _, _⟩ := hR8.len
          obtain ⟨ad8, rfl, _⟩ := hR8.at 0 (by omega)
          have HB08 : Hid (Below w.heap.size w w8) := hB08
          have hs8 := hB08.size
          clear C hD hR8 hB8 hB7 hB08
          go_wp2
          go_loopw [10, 11] (fun s t wq => ∃ j : Nat, j ≤ k + 2 ∧ s = .bool (sameTo k L D A i j) ∧ t = .int .i64 j ∧ Below w8.heap.size w8 wq) (fun _ t _ => (k + 2) - (intOf t).toNat)
          case atStart => exact ⟨0, Nat.zero_le _, rfl, rfl, Below.refl _ _⟩
          case round =>
            obtain ⟨j, hj, rfl, rfl, hBq⟩ := hrel
            by_cases hjlt : j < k + 2
            · have hjlt' : (j : Int) < (k : Int) + 2 := by omega
              obtain ⟨_, e1, hc1⟩ := (HR8.out.old hBq).at j hjlt
              cases e1
              obtain ⟨_, e2, hc2⟩ := (HRA.out.old (HB08.out.trans (hBq.mono hs8))).at j hjlt
              cases e2
              have hss := sb_same (row (pqp k D j) L) (row (A j) L)
              have hsu := sameTo_succ k L D A i j
              have HSU : Hid (sameTo k L D A i (j + 1) = (sameTo k L D A i j && (decide (j = i) || decide (row (pqp k D j) L = row (A j) L)))) := hsu
              unfold st at hc1 hc2
              obtain ⟨b3, hb3⟩ : ∃ b, b = decide (row (pqp k D j) L = row (A j) L) := ⟨_, rfl⟩
              rw [← hb3] at HSU hss
              generalize sb (row (pqp k D j) L) = s1 at *
              generalize sb (row (A j) L) = s2 at *
              obtain ⟨b1, hb1⟩ : ∃ b, b = sameTo k L D A i j := ⟨_, rfl⟩
              rw [← hb1] at HSU ⊢
              clear hb1 hb3 hsu
              cases b1 with
              | false =>
                clear hss
                go_wp2
                go_quiet (fail)
                have hBq2 := below_drewN hBq nq
                clear hBq hc1 hc2
                go_wp2
                go_roundw
                case rel => exact ⟨j + 1, by omega, by rw [HSU.out]; rfl, by go_num, hBq2⟩
                case measure => simp [intOf]; omega
              | true =>
                by_cases hji : j = i
                · have hji' : ((j : Int) == (i : Int)) = true := by rw [hji]; simp
                  have HJ : Hid (decide (j = i) = true) := decide_eq_true hji
                  clear hji hss
                  go_wp2
                  go_quiet (fail)
                  have hBq2 := below_drewN hBq nq
                  clear hBq hc1 hc2
                  go_wp2
                  go_roundw
                  case rel => exact ⟨j + 1, by omega, by rw [HSU.out, HJ.out]; rfl, by go_num, hBq2⟩
                  case measure => simp [intOf]; omega
                · have hji' : ((j : Int) == (i : Int)) = false := by rw [beq_eq_false_iff_ne]; omega
                  have HJ : Hid (decide (j = i) = false) := decide_eq_false hji
                  clear hji
                  cases b3
                  all_goals
                    go_wp2
                    go_quiet (fail)
                    have hBq2 := below_drewN hBq nq
                    clear hBq hc1 hc2 hss
                    go_wp2
                    go_roundw
                    case rel => exact ⟨j + 1, by omega, by rw [HSU.out, HJ.out]; rfl, by go_num, hBq2⟩
                    case measure => simp [intOf]; omega
            · obtain rfl : j = k + 2 := by omega
              have hge : ¬ (k : Int) + 2 < (k : Int) + 2 := by omega
              have hBf := HB08.out.trans (hBq.mono hs8)
              clear hjlt hj hBq
              obtain ⟨b1, hb1⟩ : ∃ b, b = sameTo k L D A i (k + 2) := ⟨_, rfl⟩
              rw [← hb1] at HD ⊢
              clear hb1
              cases b1 with
              | true =>
                go_wp2
                go_ret2
                exact ⟨_, 0, rfl, .inr (.inl ⟨HN.out, ⟨i, hlt, HD.out.1 (by first | rfl | trivial), rfl⟩, rfl⟩), hBf⟩
              | false =>
                go_wp2
                go_roundw
                case rel => exact ⟨i + 1, by omega, by go_num, fun x hx => by
                  by_cases e : x = i
                  · rw [e]; exact fun q => absurd (HD.out.2 q) (by simp)
                  · exact HF.out x (by omega), hBf⟩
                case measure => simp [intOf]; omega
        · obtain rfl : i = k + 2 := by omega
          have hge : ¬ (k : Int) + 2 < (k : Int) + 2 := by omega
          clear hlt hi
          go_wp2
          go_ret2
          exact ⟨_, 8, rfl, .inr (.inr ⟨HN.out, fun x hx => HF.out x hx, rfl, rfl⟩), hB⟩
  · rw [decide_eq_false e1] at hss1
    have HN : Hid (¬ Rgt k L A (A k) (A (k + 1))) := fun q => e1 (row_congr (fun l hl => ((q l hl).1).symm))
    clear e1 hss2
    go_wp2
    go_loopw [7] (fun t wr => ∃ i : Nat, i ≤ k + 2 ∧ t = .int .i64 i ∧ Hid (∀ j, j < i → ¬ Fit k L A (A k) (A (k + 1)) j) ∧ Below w.heap.size w wr) (fun t _ => (k + 2) - (intOf t).toNat)
    case atStart => exact ⟨0, Nat.zero_le _, rfl, fun i hi => absurd hi (Nat.not_lt_zero _), hB4⟩
    case round =>
      clear hB4
      obtain ⟨i, hi, rfl, HF, hB⟩ := hrel
      by_cases hlt : i < k + 2
      · have hlt' : (i : Int) < (k : Int) + 2 := by omega
        have HB : Hid (Below w.heap.size w wr) := hB
        have hsz := hB.size
        rename World => wo
        go_wp2_with (first | (at_make; refine wpList_make_full _ rfl _ _ 49 rfl wo.heap.size 4 b0 (.bool false) 1 Tryz.underlying49 hb0 hx0 hx1 _ _ _ _ (k + 2) rfl rfl rfl rfl (by rw [hx2]; omega) (by unfold maxLen; omega) (Nat.le_refl _) ?_))
        intro w6 hown6 hg6
        have hb6 := below_of_grown hg6
        have hL6 : w6.ownsRow wo.heap.size 4 1 (.slice (some ⟨wo.heap.size, 0, none⟩) (k + 2) (k + 2)) (k + 2) (List.replicate (k + 2) (.bool false)) := by
          have := hown6
          rw [toList_madeCells_one] at this
          exact this
        have c7 := World.ownsRow.cellAt hL6 i (by omega)
        rw [List.getElem?_replicate_of_lt hlt] at c7
        have f7 := World.ownsRow.frozenAt hL6 i
        have S7 := World.ownsRow.stored hL6 i (.bool true)
        rw [lost1_cells] at S7
        have hb7 := hb6.trans (below_of_grownAt S7.2 hb6.size (Nat.le_refl _))
        have hL7 := S7.1
        have hb7' : Below wo.heap.size wo (w6.setCell ⟨wo.heap.size, i, none⟩ (.bool true)) := hb7
        clear hown6 hg6 hb6 hL6 S7 hB hb7
        go_upto_region 10 with fail
        generalize w6.setCell ⟨wo.heap.size, i, none⟩ (.bool true) = w7 at *
        clear c7 f7
        have hB7 := HB.out.trans (hb7'.mono hsz)
        have hLr : RdF w7 (.slice (some ⟨wo.heap.size, 0, none⟩) (k + 2) (k + 2)) (k + 2) (fun x => .bool (lost1 i x)) := OwL.rdM hL7
        have C := rheal_any k L h1 h2 (.slice (some ad) (k + 2) cap) _ a (lost1 i) w7 (HH.out.old hB7) hLr (ix_lost1 i k) (fun x hx => HLN.out _ (at_mem hx).1) hL
        clear hLr hL7 hb7'
        go_wp2_with fail
        refine C.mono ?_
        rintro e w8 ⟨v8, D, rfl, hD, hR8, hB8⟩
        have hB08 := hB7.trans (hB8.mono hB7.size)
        have HD : Hid (sameTo k L D A i (k + 2) = true ↔ Fit k L A (A k) (A (k + 1)) i) := by
          (show _ ↔ _)
          rw [sameTo_iff, HA.out]
          exact fit_heal h2 hlt hD
        have HR8 : Hid (RdF w8 v8 (k + 2) (fun x => st (row (pqp k D x) L))) := hR8
        obtain ⟨ao8, c8, rfl, _, _⟩ := hR8.len
        obtain ⟨ad8, rfl, _⟩ := hR8.at 0 (by omega)
        have HB08 : Hid (Below w.heap.size w w8) := hB08
        have hs8 := hB08.size
        clear C hD hR8 hB8 hB7 hB08
        go_wp2
        go_loopw [10, 11] (fun s t wq => ∃ j : Nat, j ≤ k + 2 ∧ s = .bool (sameTo k L D A i j) ∧ t = .int .i64 j ∧ Below w8.heap.size w8 wq) (fun _ t _ => (k + 2) - (intOf t).toNat)
        case atStart => exact ⟨0, Nat.zero_le _, rfl, rfl, Below.refl _ _⟩
        case round =>
          obtain ⟨j, hj, rfl, rfl, hBq⟩ := hrel
          by_cases hjlt : j < k + 2
          · have hjlt' : (j : Int) < (k : Int) + 2 := by omega
            obtain ⟨_, e1, hc1⟩ := (HR8.out.old hBq).at j hjlt
            cases e1
            obtain ⟨_, e2, hc2⟩ := (HRA.out.old (HB08.out.trans (hBq.mono hs8))).at j hjlt
            cases e2
            have hss := sb_same (row (pqp k D j) L) (row (A j) L)
            have hsu := sameTo_succ k L D A i j
            have HSU : Hid (sameTo k L D A i (j + 1) = (sameTo k L D A i j && (decide (j = i) || decide (row (pqp k D j) L = row (A j) L)))) := hsu
            unfold st at hc1 hc2
            obtain ⟨b3, hb3⟩ : ∃ b, b = decide (row (pqp k D j) L = row (A j) L) := ⟨_, rfl⟩
            rw [← hb3] at HSU hss
            generalize sb (row (pqp k D j) L) = s1 at *
            generalize sb (row (A j) L) = s2 at *
            obtain ⟨b1, hb1⟩ : ∃ b, b = sameTo k L D A i j := ⟨_, rfl⟩
            rw [← hb1] at HSU ⊢
            clear hb1 hb3 hsu
            cases b1 with
            | false =>
              clear hss
              go_wp2
              go_quiet (fail)
              have hBq2 := below_drewN hBq nq
              clear hBq hc1 hc2
              go_wp2
              go_roundw
              case rel => exact ⟨j + 1, by omega, by rw [HSU.out]; rfl, by go_num, hBq2⟩
              case measure => simp [intOf]; omega
            | true =>
              by_cases hji : j = i
              · have hji' : ((j : Int) == (i : Int)) = true := by rw [hji]; simp
                have HJ : Hid (decide (j = i) = true) := decide_eq_true hji
                clear hji hss
                go_wp2
                go_quiet (fail)
                have hBq2 := below_drewN hBq nq
                clear hBq hc1 hc2
                go_wp2
                go_roundw
                case rel => exact ⟨j + 1, by omega, by rw [HSU.out, HJ.out]; rfl, by go_num, hBq2⟩
                case measure => simp [intOf]; omega
              · have hji' : ((j : Int) == (i : Int)) = false := by rw [beq_eq_false_iff_ne]; omega
                have HJ : Hid (decide (j = i) = false) := decide_eq_false hji
                clear hji
                cases b3
                all_goals
                  go_wp2
                  go_quiet (fail)
                  have hBq2 := below_drewN hBq nq
                  clear hBq hc1 hc2 hss
                  go_wp2
                  go_roundw
                  case rel => exact ⟨j + 1, by omega, by rw [HSU.out, HJ.out]; rfl, by go_num, hBq2⟩
                  case measure => simp [intOf]; omega
          · obtain rfl : j = k + 2 := by omega
            have hge : ¬ (k : Int) + 2 < (k : Int) + 2 := by omega
            have hBf := HB08.out.trans (hBq.mono hs8)
            clear hjlt hj hBq
            obtain ⟨b1, hb1⟩ : ∃ b, b = sameTo k L D A i (k + 2) := ⟨_, rfl⟩
            rw [← hb1] at HD ⊢
            clear hb1
            cases b1 with
            | true =>
              go_wp2
              go_ret2
              exact ⟨_, 0, rfl, .inr (.inl ⟨HN.out, ⟨i, hlt, HD.out.1 (by first | rfl | trivial), rfl⟩, rfl⟩), hBf⟩
            | false =>
              go_wp2
              go_roundw
              case rel => exact ⟨i + 1, by omega, by go_num, fun x hx => by
                by_cases e : x = i
                · rw [e]; exact fun q => absurd (HD.out.2 q) (by simp)
                · exact HF.out x (by omega), hBf⟩
              case measure => simp [intOf]; omega
      · obtain rfl : i = k + 2 := by omega
        have hge : ¬ (k : Int) + 2 < (k : Int) + 2 := by omega
        clear hlt hi
        go_wp2
        go_ret2
        exact ⟨_, 8, rfl, .inr (.inr ⟨HN.out, fun x hx => HF.out x hx, rfl, rfl⟩), hB⟩
end Go.Proofs.YtilfjahbdlepjaaGreatDoor
