/- What pq.Locate answers, of anything at all: by walks over the program. -/
import Derived.Test.YtogkfbemccahmacDoorPqW6
namespace Go.Proofs.YtogkfbemccahmacDoor
open Go.ChangeShapes Go.WideShapes Go.ChangeAt Go.RowKit El Pol Mx
/-- the fault of parts that are looked at -/
def plf (np : Nat) (a : Nat → List El) : Nat := if np < 3 ∨ 12 < np then 1 else bbad np a
theorem plf_ok {n : Nat} {a : Nat → List El} (h : plf n a = 0) : 3 ≤ n ∧ n ≤ 12 ∧ bbad n a = 0 := by
  unfold plf at h
  by_cases q : n < 3 ∨ 12 < n
  · rw [if_pos q] at h; omega
  · rw [if_neg q] at h; exact ⟨by omega, by omega, h⟩
set_option maxRecDepth 100000 in
set_option maxHeartbeats 400000 in
theorem plocate_bad (v : Value) (np c : Nat) (a : Nat → List El) (w : World) (h : RdF w v np (fun i => st (a i))) (hn : np ≤ 8796093021952) (hc : plf np a = c) (h0 : c ≠ 0) :
    Calls Tryd.prog 17 #[v] w fun e w' => e = .returned (.tuple #[.int .i64 0, .iface 63 (.int .i64 c)]) ∧ Below w.heap.size w w' := by
  obtain ⟨ao, cap, rfl, _, _⟩ := h.len
  unfold plf at hc
  have C := few_any ((np : Int) - 2) w
  by_cases q : np < 3 ∨ 12 < np
  · rw [if_pos q] at hc
    subst hc
    rw [decide_eq_true (by omega)] at C
    clear h q
    go_enter Tryd.func17, Tryd.ntmps17
    go_wp2_with fail
    refine C.mono ?_
    rintro e w1 ⟨rfl, hw⟩
    obtain rfl := hw.symm
    clear C
    go_wp2
    go_ret2
    exact ⟨rfl, Below.refl _ _⟩
  · rw [if_neg q] at hc
    rw [decide_eq_false (by omega)] at C
    have D := blocks_bad (.slice ao np cap) np c a w h hn (by omega) hc h0
    clear h hc q
    go_enter Tryd.func17, Tryd.ntmps17
    go_wp2_with fail
    refine C.mono ?_
    rintro e w1 ⟨rfl, hw⟩
    obtain rfl := hw.symm
    clear C
    go_wp2_with fail
    refine D.mono ?_
    rintro e w2 ⟨rfl, hB⟩
    clear D
    go_wp2
    go_ret2
    exact ⟨rfl, hB⟩
set_option maxRecDepth 100000 in
set_option maxHeartbeats 4000000 in
theorem plocate_ok (k L : Nat) (h1 : 1 ≤ k) (h2 : k ≤ 10) (v : Value) (a : Nat → List El) (w : World) (h : RdF w v (k + 2) (fun i => st (a i))) (hl : ∀ i, i < k + 2 → (a i).length = L) (hL : L ≤ 16) :
    Calls Tryd.prog 17 #[v] w fun e w' => ∃ (z : Int) (f : Nat), e = .returned (.tuple #[.int .i64 z, errV f]) ∧ Lct k L (mx a) z f ∧ Below w.heap.size w w' := by
  have C := few_any (k : Int) w
  rw [decide_eq_false (by omega)] at C
  have D := blocks_ok v (k + 2) a w h (by omega) (by omega) (bbad_of (fun i hi => by rw [hl i hi, hl 0 (by omega)]) (by rw [hl 0 (by omega)]; exact hL))
  have HR : Hid (RdF w v (k + 2) (fun i => st (row (mx a i) L))) := blocks_rows h hl
  obtain ⟨ao, cap, rfl, _, _⟩ := h.len
  obtain ⟨A, hA⟩ : ∃ A : M, A = mx a := ⟨_, rfl⟩
  rw [← hA] at HR ⊢
  clear h hl hA
  go_enter Tryd.func17, Tryd.ntmps17
  go_wp2_with fail
  refine C.mono ?_
  rintro e w1 ⟨rfl, hw⟩
  obtain rfl := hw.symm
  clear C
  go_wp2_with fail
  refine D.mono ?_
  rintro e w2 ⟨rfl, hB2⟩
  clear D
  go_wp2_with fail
  refine (ckrows_any k h1 h2 w2).mono ?_
  rintro e w3 ⟨v3, rfl, hR3, hB3⟩
  have hB4 := hB2.trans (hB3.mono hB2.size)
  have T := sums_any v3 (.slice ao (k + 2) cap) (k + 2) (k + 2) L (ckr k) A w3 hR3 (HR.out.old hB4) (Nat.le_refl _) (by omega) hL
  rw [row_congr (g := sP k A (A k)) (fun l _ => ckr_p k A l), row_congr (f := mm (k + 2) (ckr k) A 1) (g := sQ k A (A (k + 1))) (fun l _ => ckr_q k A l)] at T
  obtain ⟨ar, cr, rfl, _, _⟩ := hR3.len
  obtain ⟨adr, _, _, rfl, _, _⟩ := hR3.some 0 (by omega)
  have E1 := fun W => allnoughts_any L (sP k A (A k)) W hL
  have E2 := fun W => allnoughts_any L (sQ k A (A (k + 1))) W hL
  obtain ⟨sp, hsp⟩ : ∃ s, s = sb (row (sP k A (A k)) L) := ⟨_, rfl⟩
  obtain ⟨sq, hsq⟩ : ∃ s, s = sb (row (sQ k A (A (k + 1))) L) := ⟨_, rfl⟩
  have HSP : Hid (sp = sb (row (sP k A (A k)) L)) := hsp
  have HSQ : Hid (sq = sb (row (sQ k A (A (k + 1))) L)) := hsq
  unfold st at T E1 E2
  rw [← hsp, ← hsq] at T
  rw [← hsp] at E1
  rw [← hsq] at E2
  have H1 := nilB_iff (L := L) (f := sP k A (A k))
  have H2 := nilB_iff (L := L) (f := sQ k A (A (k + 1)))
  clear hB2 hB3 hsp hsq HR
  go_wp2_with fail
  refine T.mono ?_
  rintro e w5 ⟨rfl, hB5⟩
  have hB6 := hB4.trans (hB5.mono hB4.size)
  have hR6 := hR3.old hB5
  clear T hB5 hB4 hR3
  cases hn1 : nilB L (sP k A (A k)) with
  | true =>
    have D1 := E1 w5
    rw [hn1] at D1
    go_wp2_with fail
    refine D1.mono ?_
    rintro e w6 ⟨rfl, hB7⟩
    have hB7' := hB6.trans (hB7.mono hB6.size)
    have hR7 := hR6.old hB7
    clear D1 hB7 hB6 hR6 E1
    cases hn2 : nilB L (sQ k A (A (k + 1))) with
    | true =>
      have D2 := E2 w6
      rw [hn2] at D2
      have HN : Hid (Rgt k L A (A k) (A (k + 1))) := rgt_iff.2 (fun l hl => ⟨H1.1 hn1 l hl, H2.1 hn2 l hl⟩)
      clear H1 H2 hn1 hn2 E2
      go_wp2_with fail
      refine D2.mono ?_
      rintro e w7 ⟨rfl, hB8⟩
      have hB8' := hB7'.trans (hB8.mono hB7'.size)
      clear D2 hB8 hB7' hR7
      go_wp2
      go_ret2
      exact ⟨_, 0, rfl, .inl ⟨HN.out, rfl, rfl⟩, hB8'⟩
    | false =>
      have D2 := E2 w6
      rw [hn2] at D2
      have HN : Hid (¬ Rgt k L A (A k) (A (k + 1))) := fun q => by
        have := H2.2 (fun l hl => (rgt_iff.1 q l hl).2)
        rw [hn2] at this
        cases this
      clear H1 H2 hn1 hn2 E2
      go_wp2_with fail
      refine D2.mono ?_
      rintro e w7 ⟨rfl, hB8⟩
      have hB8' := hB7'.trans (hB8.mono hB7'.size)
      have hR8 := hR7.old hB8
      clear D2 hB8 hB7' hR7
      rename Below w.heap.size w w7 => hB8
      go_wp2
      go_loopw [37] (fun t wr => ∃ j : Nat, j ≤ k + 2 ∧ t = .int .i64 j ∧ Hid (∀ i, i < j → ¬ Fit k L A (A k) (A (k + 1)) i) ∧ Below w.heap.size w wr ∧ RdM wr (.slice (some adr) 2 cr) 2 (rws (ckr k) (k + 2))) (fun t _ => (k + 2) - (intOf t).toNat)
      case atStart => exact ⟨0, Nat.zero_le _, rfl, fun i hi => absurd hi (Nat.not_lt_zero _), hB8, hR8⟩
      case round =>
        clear hB8 hR8
        obtain ⟨j, hj, rfl, HF, hB, hR⟩ := hrel
        by_cases hlt : j < k + 2
        · have HR : Hid (RdM wr (.slice (some adr) 2 cr) 2 (rws (ckr k) (k + 2))) := hR
          obtain ⟨_, av, cv, e1, hc0, hr0⟩ := hR.some 0 (by omega)
          cases e1
          obtain ⟨_, bv, dv, e2, hc1, hr1⟩ := hR.some 1 (by omega)
          cases e2
          rw [row_length] at hc0 hr0 hc1 hr1
          obtain ⟨ad0, rfl, hx⟩ := hr0.at j (by rw [row_length]; exact hlt)
          obtain ⟨ad1, rfl, hy⟩ := hr1.at j (by rw [row_length]; exact hlt)
          rw [co_row_lt _ hlt] at hx hy
          rw [add_zero] at hc0
          have hc1' : wr.cell? ⟨adr.block, adr.off + 1, none⟩ = some (.slice (some ad1) (k + 2) dv) := hc1
          have C := fun W => onet_any L (sP k A (A k)) (sQ k A (A (k + 1))) (ckr k 0 j) (ckr k 1 j) W hL
          unfold st at C
          rw [← HSP.out, ← HSQ.out] at C
          have HB : Hid (oneB L (sP k A (A k)) (sQ k A (A (k + 1))) (ckr k 0 j) (ckr k 1 j) = true ↔ Fit k L A (A k) (A (k + 1)) j) := by
            (show _ ↔ _)
            rw [oneB_iff]
            exact fits_iff hlt A
          generalize oneB L (sP k A (A k)) (sQ k A (A (k + 1))) (ckr k 0 j) (ckr k 1 j) = b at *
          generalize ckr k 0 j = x at *
          generalize ckr k 1 j = y at *
          have hlt' : (j : Int) < (k : Int) + 2 := by omega
          clear hR hr0 hr1 hc1
          cases b with
          | true =>
            go_wp2
            go_quiet ((go_at_call 43; exact Calls.quiet_of (C _)))
            have hB2 := below_drewN hB nq
            clear hB hc0 hc1' hx hy C
            go_wp2
            go_ret2
            exact ⟨_, 0, rfl, .inr (.inl ⟨HN.out, ⟨j, hlt, HB.out.1 (by first | rfl | trivial), rfl⟩, rfl⟩), hB2⟩
          | false =>
            go_wp2
            go_quiet ((go_at_call 43; exact Calls.quiet_of (C _)))
            have hB2 := below_drewN hB nq
            have hR2 : RdM (wr.drewN nq) (.slice (some adr) 2 cr) 2 (rws (ckr k) (k + 2)) := HR.out.old (below_drewN (Below.refl _ _) nq)
            clear hB hc0 hc1' hx hy C HR
            go_wp2
            go_roundw
            case rel => exact ⟨j + 1, by omega, by go_num, fun i hi => by
              by_cases e : i = j
              · rw [e]; exact fun q => absurd (HB.out.2 q) (by simp)
              · exact HF.out i (by omega), hB2, hR2⟩
            case measure => simp [intOf]; omega
        · go_wp2
          go_ret2
          exact ⟨_, 8, rfl, .inr (.inr ⟨HN.out, fun i hi => HF.out i (by omega), rfl, rfl⟩), hB⟩
  | false =>
    have D1 := E1 w5
    rw [hn1] at D1
    have HN : Hid (¬ Rgt k L A (A k) (A (k + 1))) := fun q => by
      have := H1.2 (fun l hl => (rgt_iff.1 q l hl).1)
      rw [hn1] at this
      cases this
    clear H1 H2 hn1 E2 E1
    go_wp2_with fail
    refine D1.mono ?_
    rintro e w6 ⟨rfl, hB7⟩
    have hB8 := hB6.trans (hB7.mono hB6.size)
    have hR8 := hR6.old hB7
    clear D1 hB7 hB6 hR6
    go_wp2
    go_loopw [37] (fun t wr => ∃ j : Nat, j ≤ k + 2 ∧ t = .int .i64 j ∧ Hid (∀ i, i < j → ¬ Fit k L A (A k) (A (k + 1)) i) ∧ Below w.heap.size w wr ∧ RdM wr (.slice (some adr) 2 cr) 2 (rws (ckr k) (k + 2))) (fun t _ => (k + 2) - (intOf t).toNat)
    case atStart => exact ⟨0, Nat.zero_le _, rfl, fun i hi => absurd hi (Nat.not_lt_zero _), hB8, hR8⟩
    case round =>
      clear hB8 hR8
      obtain ⟨j, hj, rfl, HF, hB, hR⟩ := hrel
      by_cases hlt : j < k + 2
      · have HR : Hid (RdM wr (.slice (some adr) 2 cr) 2 (rws (ckr k) (k + 2))) := hR
        obtain ⟨_, av, cv, e1, hc0, hr0⟩ := hR.some 0 (by omega)
        cases e1
        obtain ⟨_, bv, dv, e2, hc1, hr1⟩ := hR.some 1 (by omega)
        cases e2
        rw [row_length] at hc0 hr0 hc1 hr1
        obtain ⟨ad0, rfl, hx⟩ := hr0.at j (by rw [row_length]; exact hlt)
        obtain ⟨ad1, rfl, hy⟩ := hr1.at j (by rw [row_length]; exact hlt)
        rw [co_row_lt _ hlt] at hx hy
        rw [add_zero] at hc0
        have hc1' : wr.cell? ⟨adr.block, adr.off + 1, none⟩ = some (.slice (some ad1) (k + 2) dv) := hc1
        have C := fun W => onet_any L (sP k A (A k)) (sQ k A (A (k + 1))) (ckr k 0 j) (ckr k 1 j) W hL
        unfold st at C
        rw [← HSP.out, ← HSQ.out] at C
        have HB : Hid (oneB L (sP k A (A k)) (sQ k A (A (k + 1))) (ckr k 0 j) (ckr k 1 j) = true ↔ Fit k L A (A k) (A (k + 1)) j) := by
          (show _ ↔ _)
          rw [oneB_iff]
          exact fits_iff hlt A
        generalize oneB L (sP k A (A k)) (sQ k A (A (k + 1))) (ckr k 0 j) (ckr k 1 j) = b at *
        generalize ckr k 0 j = x at *
        generalize ckr k 1 j = y at *
        have hlt' : (j : Int) < (k : Int) + 2 := by omega
        clear hR hr0 hr1 hc1
        cases b with
        | true =>
          go_wp2
          go_quiet ((go_at_call 43; exact Calls.quiet_of (C _)))
          have hB2 := below_drewN hB nq
          clear hB hc0 hc1' hx hy C
          go_wp2
          go_ret2
          exact ⟨_, 0, rfl, .inr (.inl ⟨HN.out, ⟨j, hlt, HB.out.1 (by first | rfl | trivial), rfl⟩, rfl⟩), hB2⟩
        | false =>
          go_wp2
          go_quiet ((go_at_call 43; exact Calls.quiet_of (C _)))
          have hB2 := below_drewN hB nq
          have hR2 : RdM (wr.drewN nq) (.slice (some adr) 2 cr) 2 (rws (ckr k) (k + 2)) := HR.out.old (below_drewN (Below.refl _ _) nq)
          clear hB hc0 hc1' hx hy C HR
          go_wp2
          go_roundw
          case rel => exact ⟨j + 1, by omega, by go_num, fun i hi => by
            by_cases e : i = j
            · rw [e]; exact fun q => absurd (HB.out.2 q) (by simp)
            · exact HF.out i (by omega), hB2, hR2⟩
          case measure => simp [intOf]; omega
      · go_wp2
        go_ret2
        exact ⟨_, 8, rfl, .inr (.inr ⟨HN.out, fun i hi => HF.out i (by omega), rfl, rfl⟩), hB⟩
end Go.Proofs.YtogkfbemccahmacDoor
