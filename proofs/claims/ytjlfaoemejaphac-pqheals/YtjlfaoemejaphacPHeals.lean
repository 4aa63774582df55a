/- Texts of plain mathematics, of memory and of walks, in one. -/
import Derived.Test.YtjlfaoemejaphacPqW6
import Derived.Test.YtjlfaoemejaphacPqW3
import Derived.Test.YtjlfaoemejaphacLits
import Derived.Test.YtjlfaoemejaphacTextsW
import Derived.Test.YtjlfaoemejaphacTextsX
import Derived.BigCall
import Derived.BigGuard
import Derived.Deep.Cut
import Derived.Deep.CutRange
/- What pq.Locate answers, of anything at all: by walks over the program. -/
namespace Go.Proofs.Ytjlfaoemejaphac
open Go.ChangeShapes Go.WideShapes Go.ChangeAt Go.RowKit El Pol Mx
/-- the fault of parts that are looked at -/
def plf (np : Nat) (a : Nat → List El) : Nat := if np < 3 ∨ 12 < np then 1 else bbad np a
theorem plf_ok {n : Nat} {a : Nat → List El} (h : plf n a = 0) : 3 ≤ n ∧ n ≤ 12 ∧ bbad n a = 0 := by
  unfold plf at h
  by_cases q : n < 3 ∨ 12 < n
  · rw [if_pos q] at h; omega
  · rw [if_neg q] at h; exact ⟨by omega, by omega, h⟩
set_option maxRecDepth 100000 in
set_option maxHeartbeats 400000 in
theorem plocate_bad (v : Value) (np c : Nat) (a : Nat → List El) (w : World) (h : RdF w v np (fun i => st (a i))) (hn : np ≤ 8796093021952) (hc : plf np a = c) (h0 : c ≠ 0) :
    Calls Try.prog 11 #[v] w fun e w' => e = .returned (.tuple #[.int .i64 0, .iface 40 (.int .i64 c)]) ∧ Below w.heap.size w w' := by
  obtain ⟨ao, cap, rfl, _, _⟩ := h.len
  unfold plf at hc
  have C := few_any ((np : Int) - 2) w
  by_cases q : np < 3 ∨ 12 < np
  · rw [if_pos q] at hc
    subst hc
    rw [decide_eq_true (by omega)] at C
    clear h q
    go_enter Try.func11, Try.ntmps11
    go_wp2_with fail
    refine C.mono ?_
    rintro e w1 ⟨rfl, hw⟩
    obtain rfl := hw.symm
    clear C
    go_wp2
    go_ret2
    exact ⟨rfl, Below.refl _ _⟩
  · rw [if_neg q] at hc
    rw [decide_eq_false (by omega)] at C
    have D := blocks_bad (.slice ao np cap) np c a w h hn (by omega) hc h0
    clear h hc q
    go_enter Try.func11, Try.ntmps11
    go_wp2_with fail
    refine C.mono ?_
    rintro e w1 ⟨rfl, hw⟩
    obtain rfl := hw.symm
    clear C
    go_wp2_with fail
    refine D.mono ?_
    rintro e w2 ⟨rfl, hB⟩
    clear D
    go_wp2
    go_ret2
    exact ⟨rfl, hB⟩
set_option maxRecDepth 100000 in
set_option maxHeartbeats 4000000 in
theorem plocate_ok (k L : Nat) (h1 : 1 ≤ k) (h2 : k ≤ 10) (v : Value) (a : Nat → List El) (w : World) (h : RdF w v (k + 2) (fun i => st (a i))) (hl : ∀ i, i < k + 2 → (a i).length = L) (hL : L ≤ 16) :
    Calls Try.prog 11 #[v] w fun e w' => ∃ (z : Int) (f : Nat), e = .returned (.tuple #[.int .i64 z, errV f]) ∧ Lct k L (mx a) z f ∧ Below w.heap.size w w' := by
  have C := few_any (k : Int) w
  rw [decide_eq_false (by omega)] at C
  have D := blocks_ok v (k + 2) a w h (by omega) (by omega) (bbad_of (fun i hi => by rw [hl i hi, hl 0 (by omega)]) (by rw [hl 0 (by omega)]; exact hL))
  have HR : Hid (RdF w v (k + 2) (fun i => st (row (mx a i) L))) := blocks_rows h hl
  obtain ⟨ao, cap, rfl, _, _⟩ := h.len
  obtain ⟨A, hA⟩ : ∃ A : M, A = mx a := ⟨_, rfl⟩
  rw [← hA] at HR ⊢
  clear h hl hA
  go_enter Try.func11, Try.ntmps11
  go_wp2_with fail
  refine C.mono ?_
  rintro e w1 ⟨rfl, hw⟩
  obtain rfl := hw.symm
  clear C
  go_wp2_with fail
  refine D.mono ?_
  rintro e w2 ⟨rfl, hB2⟩
  clear D
  go_wp2_with fail
  refine (ckrows_any k h1 h2 w2).mono ?_
  rintro e w3 ⟨v3, rfl, hR3, hB3⟩
  have hB4 := hB2.trans (hB3.mono hB2.size)
  have T := sums_any v3 (.slice ao (k + 2) cap) (k + 2) (k + 2) L (ckr k) A w3 hR3 (HR.out.old hB4) (Nat.le_refl _) (by omega) hL
  rw [row_congr (g := sP k A (A k)) (fun l _ => ckr_p k A l), row_congr (f := mm (k + 2) (ckr k) A 1) (g := sQ k A (A (k + 1))) (fun l _ => ckr_q k A l)] at T
  obtain ⟨ar, cr, rfl, _, _⟩ := hR3.len
  obtain ⟨adr, _, _, rfl, _, _⟩ := hR3.some 0 (by omega)
  have E1 := fun W => allnoughts_any L (sP k A (A k)) W hL
  have E2 := fun W => allnoughts_any L (sQ k A (A (k + 1))) W hL
  obtain ⟨sp, hsp⟩ : ∃ s, s = sb (row (sP k A (A k)) L) := ⟨_, rfl⟩
  obtain ⟨sq, hsq⟩ : ∃ s, s = sb (row (sQ k A (A (k + 1))) L) := ⟨_, rfl⟩
  have HSP : Hid (sp = sb (row (sP k A (A k)) L)) := hsp
  have HSQ : Hid (sq = sb (row (sQ k A (A (k + 1))) L)) := hsq
  unfold st at T E1 E2
  rw [← hsp, ← hsq] at T
  rw [← hsp] at E1
  rw [← hsq] at E2
  have H1 := nilB_iff (L := L) (f := sP k A (A k))
  have H2 := nilB_iff (L := L) (f := sQ k A (A (k + 1)))
  clear hB2 hB3 hsp hsq HR
  go_wp2_with fail
  refine T.mono ?_
  rintro e w5 ⟨rfl, hB5⟩
  have hB6 := hB4.trans (hB5.mono hB4.size)
  have hR6 := hR3.old hB5
  clear T hB5 hB4 hR3
  cases hn1 : nilB L (sP k A (A k)) with
  | true =>
    have D1 := E1 w5
    rw [hn1] at D1
    go_wp2_with fail
    refine D1.mono ?_
    rintro e w6 ⟨rfl, hB7⟩
    have hB7' := hB6.trans (hB7.mono hB6.size)
    have hR7 := hR6.old hB7
    clear D1 hB7 hB6 hR6 E1
    cases hn2 : nilB L (sQ k A (A (k + 1))) with
    | true =>
      have D2 := E2 w6
      rw [hn2] at D2
      have HN : Hid (Rgt k L A (A k) (A (k + 1))) := rgt_iff.2 (fun l hl => ⟨H1.1 hn1 l hl, H2.1 hn2 l hl⟩)
      clear H1 H2 hn1 hn2 E2
      go_wp2_with fail
      refine D2.mono ?_
      rintro e w7 ⟨rfl, hB8⟩
      have hB8' := hB7'.trans (hB8.mono hB7'.size)
      clear D2 hB8 hB7' hR7
      go_wp2
      go_ret2
      exact ⟨_, 0, rfl, .inl ⟨HN.out, rfl, rfl⟩, hB8'⟩
    | false =>
      have D2 := E2 w6
      rw [hn2] at D2
      have HN : Hid (¬ Rgt k L A (A k) (A (k + 1))) := fun q => by
        have := H2.2 (fun l hl => (rgt_iff.1 q l hl).2)
        rw [hn2] at this
        cases this
      clear H1 H2 hn1 hn2 E2
      go_wp2_with fail
      refine D2.mono ?_
      rintro e w7 ⟨rfl, hB8⟩
      have hB8' := hB7'.trans (hB8.mono hB7'.size)
      have hR8 := hR7.old hB8
      clear D2 hB8 hB7' hR7
      rename Below w.heap.size w w7 => hB8
      go_wp2
      go_loopw [37] (fun t wr => ∃ j : Nat, j ≤ k + 2 ∧ t = .int .i64 j ∧ Hid (∀ i, i < j → ¬ Fit k L A (A k) (A (k + 1)) i) ∧ Below w.heap.size w wr ∧ RdM wr (.slice (some adr) 2 cr) 2 (rws (ckr k) (k + 2))) (fun t _ => (k + 2) - (intOf t).toNat)
      case atStart => exact ⟨0, Nat.zero_le _, rfl, fun i hi => absurd hi (Nat.not_lt_zero _), hB8, hR8⟩
      case round =>
        clear hB8 hR8
        obtain ⟨j, hj, rfl, HF, hB, hR⟩ := hrel
        by_cases hlt : j < k + 2
        · have HR : Hid (RdM wr (.slice (some adr) 2 cr) 2 (rws (ckr k) (k + 2))) := hR
          obtain ⟨_, av, cv, e1, hc0, hr0⟩ := hR.some 0 (by omega)
          cases e1
          obtain ⟨_, bv, dv, e2, hc1, hr1⟩ := hR.some 1 (by omega)
          cases e2
          rw [row_length] at hc0 hr0 hc1 hr1
          obtain ⟨ad0, rfl, hx⟩ := hr0.at j (by rw [row_length]; exact hlt)
          obtain ⟨ad1, rfl, hy⟩ := hr1.at j (by rw [row_length]; exact hlt)
          rw [co_row_lt _ hlt] at hx hy
          rw [add_zero] at hc0
          have hc1' : wr.cell? ⟨adr.block, adr.off + 1, none⟩ = some (.slice (some ad1) (k + 2) dv) := hc1
          have C := fun W => onet_any L (sP k A (A k)) (sQ k A (A (k + 1))) (ckr k 0 j) (ckr k 1 j) W hL
          unfold st at C
          rw [← HSP.out, ← HSQ.out] at C
          have HB : Hid (oneB L (sP k A (A k)) (sQ k A (A (k + 1))) (ckr k 0 j) (ckr k 1 j) = true ↔ Fit k L A (A k) (A (k + 1)) j) := by
            (show _ ↔ _)
            rw [oneB_iff]
            exact fits_iff hlt A
          generalize oneB L (sP k A (A k)) (sQ k A (A (k + 1))) (ckr k 0 j) (ckr k 1 j) = b at *
          generalize ckr k 0 j = x at *
          generalize ckr k 1 j = y at *
          have hlt' : (j : Int) < (k : Int) + 2 := by omega
          clear hR hr0 hr1 hc1
          cases b with
          | true =>
            go_wp2
            go_quiet ((go_at_call 23; exact Calls.quiet_of (C _)))
            have hB2 := below_drewN hB nq
            clear hB hc0 hc1' hx hy C
            go_wp2
            go_ret2
            exact ⟨_, 0, rfl, .inr (.inl ⟨HN.out, ⟨j, hlt, HB.out.1 (by first | rfl | trivial), rfl⟩, rfl⟩), hB2⟩
          | false =>
            go_wp2
            go_quiet ((go_at_call 23; exact Calls.quiet_of (C _)))
            have hB2 := below_drewN hB nq
            have hR2 : RdM (wr.drewN nq) (.slice (some adr) 2 cr) 2 (rws (ckr k) (k + 2)) := HR.out.old (below_drewN (Below.refl _ _) nq)
            clear hB hc0 hc1' hx hy C HR
            go_wp2
            go_roundw
            case rel => exact ⟨j + 1, by omega, by go_num, fun i hi => by
              by_cases e : i = j
              · rw [e]; exact fun q => absurd (HB.out.2 q) (by simp)
              · exact HF.out i (by omega), hB2, hR2⟩
            case measure => simp [intOf]; omega
        · go_wp2
          go_ret2
          exact ⟨_, 8, rfl, .inr (.inr ⟨HN.out, fun i hi => HF.out i (by omega), rfl, rfl⟩), hB⟩
  | false =>
    have D1 := E1 w5
    rw [hn1] at D1
    have HN : Hid (¬ Rgt k L A (A k) (A (k + 1))) := fun q => by
      have := H1.2 (fun l hl => (rgt_iff.1 q l hl).1)
      rw [hn1] at this
      cases this
    clear H1 H2 hn1 E2 E1
    go_wp2_with fail
    refine D1.mono ?_
    rintro e w6 ⟨rfl, hB7⟩
    have hB8 := hB6.trans (hB7.mono hB6.size)
    have hR8 := hR6.old hB7
    clear D1 hB7 hB6 hR6
    go_wp2
    go_loopw [37] (fun t wr => ∃ j : Nat, j ≤ k + 2 ∧ t = .int .i64 j ∧ Hid (∀ i, i < j → ¬ Fit k L A (A k) (A (k + 1)) i) ∧ Below w.heap.size w wr ∧ RdM wr (.slice (some adr) 2 cr) 2 (rws (ckr k) (k + 2))) (fun t _ => (k + 2) - (intOf t).toNat)
    case atStart => exact ⟨0, Nat.zero_le _, rfl, fun i hi => absurd hi (Nat.not_lt_zero _), hB8, hR8⟩
    case round =>
      clear hB8 hR8
      obtain ⟨j, hj, rfl, HF, hB, hR⟩ := hrel
      by_cases hlt : j < k + 2
      · have HR : Hid (RdM wr (.slice (some adr) 2 cr) 2 (rws (ckr k) (k + 2))) := hR
        obtain ⟨_, av, cv, e1, hc0, hr0⟩ := hR.some 0 (by omega)
        cases e1
        obtain ⟨_, bv, dv, e2, hc1, hr1⟩ := hR.some 1 (by omega)
        cases e2
        rw [row_length] at hc0 hr0 hc1 hr1
        obtain ⟨ad0, rfl, hx⟩ := hr0.at j (by rw [row_length]; exact hlt)
        obtain ⟨ad1, rfl, hy⟩ := hr1.at j (by rw [row_length]; exact hlt)
        rw [co_row_lt _ hlt] at hx hy
        rw [add_zero] at hc0
        have hc1' : wr.cell? ⟨adr.block, adr.off + 1, none⟩ = some (.slice (some ad1) (k + 2) dv) := hc1
        have C := fun W => onet_any L (sP k A (A k)) (sQ k A (A (k + 1))) (ckr k 0 j) (ckr k 1 j) W hL
        unfold st at C
        rw [← HSP.out, ← HSQ.out] at C
        have HB : Hid (oneB L (sP k A (A k)) (sQ k A (A (k + 1))) (ckr k 0 j) (ckr k 1 j) = true ↔ Fit k L A (A k) (A (k + 1)) j) := by
          (show _ ↔ _)
          rw [oneB_iff]
          exact fits_iff hlt A
        generalize oneB L (sP k A (A k)) (sQ k A (A (k + 1))) (ckr k 0 j) (ckr k 1 j) = b at *
        generalize ckr k 0 j = x at *
        generalize ckr k 1 j = y at *
        have hlt' : (j : Int) < (k : Int) + 2 := by omega
        clear hR hr0 hr1 hc1
        cases b with
        | true =>
          go_wp2
          go_quiet ((go_at_call 23; exact Calls.quiet_of (C _)))
          have hB2 := below_drewN hB nq
          clear hB hc0 hc1' hx hy C
          go_wp2
          go_ret2
          exact ⟨_, 0, rfl, .inr (.inl ⟨HN.out, ⟨j, hlt, HB.out.1 (by first | rfl | trivial), rfl⟩, rfl⟩), hB2⟩
        | false =>
          go_wp2
          go_quiet ((go_at_call 23; exact Calls.quiet_of (C _)))
          have hB2 := below_drewN hB nq
          have hR2 : RdM (wr.drewN nq) (.slice (some adr) 2 cr) 2 (rws (ckr k) (k + 2)) := HR.out.old (below_drewN (Below.refl _ _) nq)
          clear hB hc0 hc1' hx hy C HR
          go_wp2
          go_roundw
          case rel => exact ⟨j + 1, by omega, by go_num, fun i hi => by
            by_cases e : i = j
            · rw [e]; exact fun q => absurd (HB.out.2 q) (by simp)
            · exact HF.out i (by omega), hB2, hR2⟩
          case measure => simp [intOf]; omega
      · go_wp2
        go_ret2
        exact ⟨_, 8, rfl, .inr (.inr ⟨HN.out, fun i hi => HF.out i (by omega), rfl, rfl⟩), hB⟩
end Go.Proofs.Ytjlfaoemejaphac

/- What pq.Delta answers, of anything at all: by walks over the program. -/
namespace Go.Proofs.Ytjlfaoemejaphac
open Go.ChangeShapes Go.WideShapes Go.ChangeAt Go.RowKit El Pol Mx
/-- the fault of Delta -/
def pdf (i : Int) (a : Nat → List El) : Nat := if i < 0 ∨ 9 < i then 1 else bbad 4 a
theorem pdf_ok {i : Int} {a : Nat → List El} (h : pdf i a = 0) : 0 ≤ i ∧ i ≤ 9 ∧ bbad 4 a = 0 := by
  unfold pdf at h
  by_cases q : i < 0 ∨ 9 < i
  · rw [if_pos q] at h; omega
  · rw [if_neg q] at h; exact ⟨by omega, by omega, h⟩
set_option maxRecDepth 100000 in
set_option maxHeartbeats 400000 in
theorem pdelta_bad (i : Int) (x0 x1 x2 x3 : List El) (c : Nat) (w : World) (hc : pdf i (four x0 x1 x2 x3) = c) (h0 : c ≠ 0) :
    Calls Try.prog 12 #[.int .i64 i, st x0, st x1, st x2, st x3] w fun e w' => e = .returned (.tuple #[.string ⟨#[]⟩, .string ⟨#[]⟩, .iface 40 (.int .i64 c)]) ∧ Below w.heap.size w w' := by
  have hal : Below w.heap.size w (w.alloc (.cells #[st x0, st x1, st x2, st x3] 9)) := al_below _ _
  unfold pdf at hc
  by_cases q : i < 0
  · rw [if_pos (.inl q)] at hc
    subst hc
    unfold st
    generalize sb x0 = s0
    generalize sb x1 = s1
    generalize sb x2 = s2
    generalize sb x3 = s3
    clear hal
    go_enter Try.func12, Try.ntmps12
    go_wp2
    go_ret3
    exact ⟨rfl, Below.refl _ _⟩
  · by_cases q2 : 9 < i
    · rw [if_pos (.inr q2)] at hc
      subst hc
      unfold st
      generalize sb x0 = s0
      generalize sb x1 = s1
      generalize sb x2 = s2
      generalize sb x3 = s3
      have q3 : 10 ≤ i := by omega
      clear hal
      go_enter Try.func12, Try.ntmps12
      go_wp2
      go_ret3
      exact ⟨rfl, Below.refl _ _⟩
    · rw [if_neg (by omega)] at hc
      have D := blocks_bad _ 4 c (four x0 x1 x2 x3) _ (four_rd w x0 x1 x2 x3) (by omega) (by omega) hc h0
      unfold st at D hal ⊢
      generalize sb x0 = s0 at *
      generalize sb x1 = s1 at *
      generalize sb x2 = s2 at *
      generalize sb x3 = s3 at *
      have q3 : ¬ 10 ≤ i := by omega
      clear hc
      go_enter Try.func12, Try.ntmps12
      go_wp2_with fail
      refine D.mono ?_
      rintro e w2 ⟨rfl, hB⟩
      have hB2 := hal.trans (hB.mono hal.size)
      clear D hal hB
      go_wp2
      go_ret3
      exact ⟨rfl, hB2⟩
/-- the two rows of Delta, laid out -/
theorem dl_rows (w : World) (x : El) : RdM (((w.alloc (.cells #[.int .u8 1, .int .u8 1, .int .u8 1, .int .u8 0] 5)).alloc (.cells #[.int .u8 ((x.val : Nat) : Int), .int .u8 ((x.val : Nat) : Int), .int .u8 0, .int .u8 1] 5)).alloc (.cells #[.slice (some ⟨w.heap.size, 0, none⟩) 4 4, .slice (some ⟨w.heap.size + 1, 0, none⟩) 4 4] 52)) (.slice (some ⟨w.heap.size + 1 + 1, 0, none⟩) 2 2) 2 (rws (dlr x) 4) := by
  have o1 : Ow w.heap.size (w.alloc (.cells #[.int .u8 1, .int .u8 1, .int .u8 1, .int .u8 0] 5)) (.slice (some ⟨w.heap.size, 0, none⟩) 4 4) [1, 1, 1, 0] := own_bytes (B := w.heap.size) (w := w) [1, 1, 1, 0] (Nat.le_refl _) (by simp)
  have o2 : Ow w.heap.size ((w.alloc (.cells #[.int .u8 1, .int .u8 1, .int .u8 1, .int .u8 0] 5)).alloc (.cells #[.int .u8 ((x.val : Nat) : Int), .int .u8 ((x.val : Nat) : Int), .int .u8 0, .int .u8 1] 5)) (.slice (some ⟨w.heap.size + 1, 0, none⟩) 4 4) [x, x, 0, 1] := by
    have := own_bytes (B := w.heap.size) (w := w.alloc (.cells #[.int .u8 1, .int .u8 1, .int .u8 1, .int .u8 0] 5)) [x, x, 0, 1] (by simp) (by simp)
    simp only [World.size_alloc] at this
    exact this
  have o3 := own_two (B := w.heap.size) (w := (w.alloc (.cells #[.int .u8 1, .int .u8 1, .int .u8 1, .int .u8 0] 5)).alloc (.cells #[.int .u8 ((x.val : Nat) : Int), .int .u8 ((x.val : Nat) : Int), .int .u8 0, .int .u8 1] 5)) (e := 52) (.slice (some ⟨w.heap.size, 0, none⟩) 4 4) (.slice (some ⟨w.heap.size + 1, 0, none⟩) 4 4) (by simp; omega)
  have q1 := ((o1.old (al_below _ _)).old (al_below _ (.cells #[.slice (some ⟨w.heap.size, 0, none⟩) 4 4, .slice (some ⟨w.heap.size + 1, 0, none⟩) 4 4] 52))).rd (w := ((w.alloc (.cells #[.int .u8 1, .int .u8 1, .int .u8 1, .int .u8 0] 5)).alloc (.cells #[.int .u8 ((x.val : Nat) : Int), .int .u8 ((x.val : Nat) : Int), .int .u8 0, .int .u8 1] 5)).alloc (.cells #[.slice (some ⟨w.heap.size, 0, none⟩) 4 4, .slice (some ⟨w.heap.size + 1, 0, none⟩) 4 4] 52))
  have q2 := (o2.old (al_below _ (.cells #[.slice (some ⟨w.heap.size, 0, none⟩) 4 4, .slice (some ⟨w.heap.size + 1, 0, none⟩) 4 4] 52))).rd
  simp only [World.size_alloc] at o3
  refine RdF.rdM (rv := fun i => if i = 0 then .slice (some ⟨w.heap.size, 0, none⟩) 4 4 else .slice (some ⟨w.heap.size + 1, 0, none⟩) 4 4) (OwL.rdF o3 (fun i hi => ?_)) (fun i hi => ?_)
  · match i, hi with
    | 0, _ => rfl
    | 1, _ => rfl
  · match i, hi with
    | 0, _ => exact q1
    | 1, _ => exact q2
theorem four_rows {L : Nat} {x0 x1 x2 x3 : List El} (h0 : x0.length = L) (h1 : x1.length = L) (h2 : x2.length = L) (h3 : x3.length = L) : ∀ i, i < 4 → (four x0 x1 x2 x3 i).length = L := fun i hi => by
  match i, hi with
  | 0, _ => exact h0
  | 1, _ => exact h1
  | 2, _ => exact h2
  | 3, _ => exact h3
set_option maxRecDepth 100000 in
set_option maxHeartbeats 400000 in
theorem pdelta_ok (i : Nat) (hi : i ≤ 9) (L : Nat) (x0 x1 x2 x3 : List El) (w : World) (h0 : x0.length = L) (h1 : x1.length = L) (h2 : x2.length = L) (h3 : x3.length = L) (hL : L ≤ 16) :
    Calls Try.prog 12 #[.int .i64 i, st x0, st x1, st x2, st x3] w fun e w' => e = .returned (.tuple #[st (row (fun l => pl (pl (co x0 l) (co x1 l)) (co x2 l)) L), st (row (fun l => pl (pl (ti (g2 i) (co x0 l)) (ti (g2 i) (co x1 l))) (co x3 l)) L), .nilIface]) ∧ Below w.heap.size w w' := by
  have hal : Below w.heap.size w (w.alloc (.cells #[st x0, st x1, st x2, st x3] 9)) := al_below _ _
  have hfr := four_rows h0 h1 h2 h3
  have D := blocks_ok _ 4 (four x0 x1 x2 x3) _ (four_rd w x0 x1 x2 x3) (by omega) (by omega) (bbad_of (fun j hj => by rw [hfr j hj, hfr 0 (by omega)]) (by rw [hfr 0 (by omega)]; exact hL))
  have HR : Hid (RdF (w.alloc (.cells #[st x0, st x1, st x2, st x3] 9)) (.slice (some ⟨w.heap.size, 0, none⟩) 4 4) 4 (fun i => st (row (mx (four x0 x1 x2 x3) i) L))) := blocks_rows (four_rd w x0 x1 x2 x3) hfr
  have HT : Hid (∀ (W : World) (x : El), Below (w.alloc (.cells #[st x0, st x1, st x2, st x3] 9)).heap.size (w.alloc (.cells #[st x0, st x1, st x2, st x3] 9)) W → Calls Try.prog 19 #[.slice (some ⟨W.heap.size + 1 + 1, 0, none⟩) 2 2, .slice (some ⟨w.heap.size, 0, none⟩) 4 4]
      (((W.alloc (.cells #[.int .u8 1, .int .u8 1, .int .u8 1, .int .u8 0] 5)).alloc (.cells #[.int .u8 ((x.val : Nat) : Int), .int .u8 ((x.val : Nat) : Int), .int .u8 0, .int .u8 1] 5)).alloc (.cells #[.slice (some ⟨W.heap.size, 0, none⟩) 4 4, .slice (some ⟨W.heap.size + 1, 0, none⟩) 4 4] 52)) fun e w' =>
      e = .returned (.tuple #[st (row (fun l => pl (pl (co x0 l) (co x1 l)) (co x2 l)) L), st (row (fun l => pl (pl (ti x (co x0 l)) (ti x (co x1 l))) (co x3 l)) L)]) ∧ Below W.heap.size W w') := fun W x hW => by
    have b3 : Below W.heap.size W (((W.alloc (.cells #[.int .u8 1, .int .u8 1, .int .u8 1, .int .u8 0] 5)).alloc (.cells #[.int .u8 ((x.val : Nat) : Int), .int .u8 ((x.val : Nat) : Int), .int .u8 0, .int .u8 1] 5)).alloc (.cells #[.slice (some ⟨W.heap.size, 0, none⟩) 4 4, .slice (some ⟨W.heap.size + 1, 0, none⟩) 4 4] 52)) :=
      (((Below.refl _ _).alloc (Nat.le_refl _) _).alloc (by simp) _).alloc (by simp; omega) _
    have := sums_any _ _ 4 4 L (dlr x) (mx (four x0 x1 x2 x3)) _ (dl_rows W x) ((HR.out.old hW).old b3) (Nat.le_refl _) (by omega) hL
    rw [row_congr (g := fun l => pl (pl (co x0 l) (co x1 l)) (co x2 l)) (fun l _ => dlr_p x (mx (four x0 x1 x2 x3)) l), row_congr (f := mm 4 (dlr x) (mx (four x0 x1 x2 x3)) 1) (g := fun l => pl (pl (ti x (co x0 l)) (ti x (co x1 l))) (co x3 l)) (fun l _ => dlr_q x (mx (four x0 x1 x2 x3)) l)] at this
    exact this.mono fun e w' ⟨he, hb⟩ => ⟨he, b3.trans (hb.mono b3.size)⟩
  obtain ⟨sp, hsp⟩ : ∃ s, s = st (row (fun l => pl (pl (co x0 l) (co x1 l)) (co x2 l)) L) := ⟨_, rfl⟩
  obtain ⟨sq, hsq⟩ : ∃ s, s = st (row (fun l => pl (pl (ti (g2 i) (co x0 l)) (ti (g2 i) (co x1 l))) (co x3 l)) L) := ⟨_, rfl⟩
  have HSP : Hid (sp = st (row (fun l => pl (pl (co x0 l) (co x1 l)) (co x2 l)) L)) := hsp
  have HSQ : Hid (sq = st (row (fun l => pl (pl (ti (g2 i) (co x0 l)) (ti (g2 i) (co x1 l))) (co x3 l)) L)) := hsq
  have HT2 : Hid (∀ (W : World), Below (w.alloc (.cells #[st x0, st x1, st x2, st x3] 9)).heap.size (w.alloc (.cells #[st x0, st x1, st x2, st x3] 9)) W → Calls Try.prog 19 #[.slice (some ⟨W.heap.size + 1 + 1, 0, none⟩) 2 2, .slice (some ⟨w.heap.size, 0, none⟩) 4 4]
      (((W.alloc (.cells #[.int .u8 1, .int .u8 1, .int .u8 1, .int .u8 0] 5)).alloc (.cells #[.int .u8 (((g2 i).val : Nat) : Int), .int .u8 (((g2 i).val : Nat) : Int), .int .u8 0, .int .u8 1] 5)).alloc (.cells #[.slice (some ⟨W.heap.size, 0, none⟩) 4 4, .slice (some ⟨W.heap.size + 1, 0, none⟩) 4 4] 52)) fun e w' => e = .returned (.tuple #[sp, sq]) ∧ Below W.heap.size W w') := fun W hW => by
    have := HT.out W (g2 i) hW
    rw [← hsp, ← hsq] at this
    exact this
  have I := fun W => inq_any i (by omega) W
  clear hsp hsq hfr HT HR h0 h1 h2 h3
  have hw1 : (w.alloc (.cells #[st x0, st x1, st x2, st x3] 9)).heap.size = w.heap.size + 1 := by simp
  unfold st at D hal HT2 hw1 ⊢
  generalize sb x0 = s0 at *
  generalize sb x1 = s1 at *
  generalize sb x2 = s2 at *
  generalize sb x3 = s3 at *
  generalize g2 i = y at *
  go_enter Try.func12, Try.ntmps12
  go_wp2_with fail
  refine D.mono ?_
  rintro e w2 ⟨rfl, hB⟩
  have hB2 := hal.trans (hB.mono hal.size)
  have T := HT2.out w2 hB
  clear D hal hB HT2
  go_wp2_with fail
  refine (I _).mono ?_
  rintro e w3 ⟨rfl, hw⟩
  obtain rfl := hw.symm
  clear I
  go_wp2_with fail
  refine T.mono ?_
  rintro e w4 ⟨rfl, hB4⟩
  have hB5 := hB2.trans (hB4.mono hB2.size)
  clear T hB4 hB2
  go_wp2
  go_ret3
  exact ⟨by rw [HSP.out, HSQ.out]; rfl, hB5⟩
end Go.Proofs.Ytjlfaoemejaphac

/- Any two may be lost: what is right of parts, of parts of which two are junk, of parts with one another one. -/
namespace Go.Proofs.Ytjlfaoemejaphac
open Go.ChangeShapes Go.WideShapes Go.ChangeAt Go.RowKit El Pol Mx
/-- five and six alone -/
def ff : Nat → List El := fun i => if i = 0 then [5] else [6]
theorem ff_rd (w : World) : RdF (w.alloc (.cells #[.string ⟨#[5]⟩, .string ⟨#[6]⟩] 9)) (.slice (some ⟨w.heap.size, 0, none⟩) 2 2) 2 (fun i => st (ff i)) :=
  OwL.rdF (own_lit (B := w.heap.size) [.string ⟨#[5]⟩, .string ⟨#[6]⟩] (Nat.le_refl _) (by simp)) (fun i hi => by
    match i, hi with
    | 0, _ => rfl
    | 1, _ => rfl)
theorem ff_p : row (pp 2 (mx ff)) 1 = [3] := by decide +kernel
theorem ff_q : row (qq 2 (mx ff)) 1 = [9] := by decide +kernel
theorem fact56 (w : World) : Calls Try.prog 8 #[.slice (some ⟨w.heap.size, 0, none⟩) 2 2] (w.alloc (.cells #[.string ⟨#[5]⟩, .string ⟨#[6]⟩] 9)) fun e w' => e = .returned (.tuple #[.string ⟨#[3]⟩, .string ⟨#[9]⟩, .nilIface]) ∧ Below w.heap.size w w' := by
  refine (pencode_ok 2 1 (by omega) (by omega) _ ff _ (ff_rd w) (fun i hi => by
    match i, hi with
    | 0, _ => rfl
    | 1, _ => rfl) (by omega)).mono ?_
  rintro e w' ⟨rfl, hB⟩
  rw [ff_p, ff_q]
  exact ⟨rfl, (al_below w _).trans (hB.mono (al_below w _).size)⟩
/-- two that are lost -/
def lost2 (i k : Nat) : Nat → Bool := fun x => decide (x = i ∨ x = k)
theorem ix_lost2' (i k : Nat) : ∀ n, n ≤ (ix (lost2 i k) n).length + (if i < n then 1 else 0) + (if k < n then 1 else 0)
  | 0 => by simp
  | n + 1 => by
    have h := ix_lost2' i k n
    have e := ix_len_succ (lost2 i k) n
    by_cases hl : lost2 i k n = true
    · rw [hl, if_pos rfl] at e
      have : n = i ∨ n = k := by simpa [lost2] using hl
      rw [e]
      rcases this with q | q
      · subst q
        rw [if_neg (by omega)] at h
        rw [if_pos (by omega)]
        have : (if k < n then 1 else 0) ≤ (if k < n + 1 then 1 else 0) := by split <;> split <;> omega
        omega
      · subst q
        rw [if_neg (show ¬ n < n by omega)] at h
        rw [if_pos (show n < n + 1 by omega)]
        have : (if i < n then 1 else 0) ≤ (if i < n + 1 then 1 else 0) := by split <;> split <;> omega
        omega
    · rw [if_neg hl] at e
      rw [e]
      have h1 : (if i < n then 1 else 0) ≤ (if i < n + 1 then 1 else 0) := by split <;> split <;> omega
      have h2 : (if k < n then 1 else 0) ≤ (if k < n + 1 then 1 else 0) := by split <;> split <;> omega
      omega
theorem ix_lost2 (i k d : Nat) : d ≤ (ix (lost2 i k) (d + 2)).length := by
  have h := ix_lost2' i k (d + 2)
  split at h <;> split at h <;> omega
/-- data, then P and Q, as texts -/
abbrev prts (d L : Nat) (D : M) : Nat → List El := fun x => row (pqp d D x) L
theorem prts_data {d L : Nat} {a : Nat → List El} (hl : ∀ i, i < d → (a i).length = L) : ∀ i, i < d → a i = prts d L (mx a) i := fun i hi => by
  show a i = row (pqp d (mx a) i) L
  rw [pqp_data hi]
  show a i = row (co (a i)) L
  rw [← hl i hi, row_co]
theorem prts_all {d L : Nat} {a : Nat → List El} (hl : ∀ i, i < d → (a i).length = L) : (List.range d).map (fun i => st (a i)) ++ [st (row (pp d (mx a)) L), st (row (qq d (mx a)) L)] = (List.range (d + 2)).map (fun i => st (prts d L (mx a) i)) := by
  rw [← pqp_texts]
  congr 1
  exact List.map_congr_left (fun i hi => by
    have hi' := List.mem_range.1 hi
    rw [prts_data hl i hi']
    show st (row (pqp d (mx a) i) L) = _
    rw [pqp_data hi'])
theorem prts_at {d L : Nat} {D : M} {x l : Nat} (hl : l < L) : mx (prts d L D) x l = pqp d D x l := co_row_lt _ hl
theorem prts_low {d L : Nat} {D : M} : Eqm d L (mx (prts d L D)) D := fun x l hx hl => by rw [prts_at hl, pqp_data hx]
theorem prts_right (d L : Nat) (D : M) : Rgt d L (mx (prts d L D)) (mx (prts d L D) d) (mx (prts d L D) (d + 1)) := fun l hl => by
  rw [pp_congr prts_low hl, qq_congr prts_low hl, prts_at hl, prts_at hl, pqp_p, pqp_q]
  exact ⟨rfl, rfl⟩
theorem lct_parts {d L : Nat} (hd : d ≤ 10) {D : M} {z : Int} {f : Nat} (h : Lct d L (mx (prts d L D)) z f) : z = -1 ∧ f = 0 := h.same hd (loc_right (prts_right d L D))
theorem mx_up (P : Nat → List El) (i : Nat) (x : List El) : mx (up P i x) = upd (mx P) i (co x) := by
  funext j l
  show co (up P i x j) l = (if j = i then co x else mx P j) l
  by_cases h : j = i
  · rw [h, up_at, if_pos rfl]
  · rw [up_ne _ _ h, if_neg h]
theorem lct_moved {d L : Nat} (hd : d ≤ 10) {D : M} {i : Nat} (hi : i < d + 2) {x : List El} (hx : x.length = L) {z : Int} {f : Nat} (h : Lct d L (mx (up (prts d L D) i x)) z f) : z = (if x = prts d L D i then -1 else (i : Int)) ∧ f = 0 := by
  by_cases e : x = prts d L D i
  · rw [if_pos e]
    have : up (prts d L D) i x = prts d L D := by
      funext j
      by_cases h : j = i
      · rw [h, up_at, e]
      · rw [up_ne _ _ h]
    rw [this] at h
    exact lct_parts hd h
  · rw [if_neg e]
    rw [mx_up] at h
    refine h.same hd (loc_moved hd (prts_right d L D) hi ?_)
    rcases Classical.em (∃ l, l < L ∧ co x l ≠ mx (prts d L D) i l) with q | q
    · exact q
    · exfalso
      apply e
      rw [← row_co x, hx]
      exact row_congr (fun l hl => by
        rcases Classical.em (co x l = pqp d D i l) with q2 | q2
        · exact q2
        · exact absurd ⟨l, hl, by rw [prts_at hl]; exact q2⟩ q)
/-- two of them junk -/
abbrev trn (d L : Nat) (D : M) (i k : Nat) (junk : List El) : Nat → List El := up (up (prts d L D) i junk) k junk
theorem trn_at {d L : Nat} {D : M} {i k x : Nat} {junk : List El} (h : lost2 i k x = false) : trn d L D i k junk x = prts d L D x := by
  have : x ≠ i ∧ x ≠ k := by
    unfold lost2 at h
    have := of_decide_eq_false h
    omega
  unfold trn
  rw [up_ne _ _ this.2, up_ne _ _ this.1]
theorem trn_len {d L : Nat} {D : M} {i k : Nat} {junk : List El} : ∀ j, j < (ix (lost2 i k) (d + 2)).length → (trn d L D i k junk (at' (lost2 i k) (d + 2) j)).length = L := fun j hj => by
  rw [trn_at (at_mem hj).2, row_length]
theorem trn_back {d L : Nat} (hd : d ≤ 10) {D E : M} {i k : Nat} {junk : List El} (h : Healed d L (mx (trn d L D i k junk)) (lost2 i k) E) : sameL (d + 2) (d + 2) (fun x => row (pqp d E x) L) (prts d L D) = true := by
  have e : Eqm d L E D := healed_back hd (ix_lost2 i k d) (fun x _ hl l hlL => by
    show co (trn d L D i k junk x) l = _
    rw [trn_at hl, co_row_lt _ hlL]) h
  exact sameL_iff.2 ⟨rfl, fun x _ => row_congr (fun l hl => pqp_congr e x l hl)⟩
/-- mended: one of them another one -/
theorem trn_up {d L : Nat} {D : M} {i k : Nat} {junk x : List El} : up (up (trn d L D i k junk) k (prts d L D k)) i x = up (prts d L D) i x := by
  funext j
  by_cases h1 : j = i
  · rw [h1, up_at, up_at]
  · rw [up_ne _ _ h1, up_ne _ _ h1]
    by_cases h2 : j = k
    · rw [h2, up_at]
    · rw [up_ne _ _ h2]; unfold trn; rw [up_ne _ _ h2, up_ne _ _ h1]
/-- P and Q with one block another one -/
theorem delta_p {d i : Nat} (hi : i < d) (a : Nat → List El) (x : List El) (L : Nat) : row (pp d (mx (up a i x))) L = row (fun l => pl (pl (co (a i) l) (co x l)) (co (row (pp d (mx a)) L) l)) L := row_congr (fun l hl => by
  rw [mx_up, pp_up hi, co_row_lt _ hl]
  show pl (pl (pp d (mx a) l) (co (a i) l)) (co x l) = _
  rw [pl_assoc, pl_comm])
theorem delta_q {d i : Nat} (hi : i < d) (a : Nat → List El) (x : List El) (L : Nat) : row (qq d (mx (up a i x))) L = row (fun l => pl (pl (ti (g2 i) (co (a i) l)) (ti (g2 i) (co x l))) (co (row (qq d (mx a)) L) l)) L := row_congr (fun l hl => by
  rw [mx_up, qq_up hi, co_row_lt _ hl]
  show pl (pl (qq d (mx a) l) (ti (g2 i) (co (a i) l))) (ti (g2 i) (co x l)) = _
  rw [pl_assoc, pl_comm])
/-- the i-th and the k-th of noughts set -/
theorem lost_cells (n i k : Nat) : (((List.replicate n (Value.bool false)).set i (.bool true)).set k (.bool true)) = (List.range n).map (fun x => .bool (lost2 i k x)) := by
  apply List.ext_getElem (by simp)
  intro x h1 h2
  simp only [List.length_map, List.length_range] at h2
  rw [List.getElem_set, List.getElem_set]
  simp only [List.getElem_replicate, List.getElem_map, List.getElem_range]
  unfold lost2
  by_cases q1 : k = x
  · rw [if_pos q1, decide_eq_true (.inr q1.symm)]
  · rw [if_neg q1]
    by_cases q2 : i = x
    · rw [if_pos q2, decide_eq_true (.inl q2.symm)]
    · rw [if_neg q2, decide_eq_false (by omega)]
theorem st_up (P : Nat → List El) (i : Nat) (x : List El) : up (fun j => st (P j)) i (st x) = fun j => st (up P i x j) := by
  funext j
  by_cases h : j = i
  · rw [h, up_at, up_at]
  · rw [up_ne _ _ h, up_ne _ _ h]
end Go.Proofs.Ytjlfaoemejaphac

/- Any two may be lost: where the data have a fault, or a place is none: by walks over the program. -/
namespace Go.Proofs.Ytjlfaoemejaphac
open Go.ChangeShapes Go.WideShapes Go.ChangeAt Go.RowKit El Pol Mx
set_option maxRecDepth 100000 in
set_option maxHeartbeats 1000000 in
theorem heals_bad (v : Value) (n : Nat) (a : Nat → List El) (i k : Int) (s t : ByteArray) (w : World) (h : RdF w v n (fun i => st (a i))) (hn : n ≤ 8796093021952) (hb : pqf n a ≠ 0) :
    Calls Try.prog 4 #[v, .int .i64 i, .int .i64 k, .string s, .string t] w fun e w' => e = .returned (.bool true) ∧ Below w.heap.size w w' := by
  have HH : Hid (RdF w v n (fun i => st (a i))) := h
  obtain ⟨ao, cap, rfl, _, _⟩ := h.len
  obtain ⟨c, hc⟩ : ∃ c, c = pqf n a := ⟨_, rfl⟩
  have HC : Hid (pqf n a = c) := hc.symm
  rw [← hc] at hb
  clear h hc
  go_enter Try.func4, Try.ntmps4
  go_wp2_with fail
  refine (fact56 w).mono ?_
  rintro e w1 ⟨rfl, hB1⟩
  have C := pencode_bad (.slice ao n cap) n c a w1 (HH.out.old hB1) hn HC.out hb
  go_wp2_with fail
  refine C.mono ?_
  rintro e w2 ⟨rfl, hB2⟩
  have hB := hB1.trans (hB2.mono hB1.size)
  clear C hB2 hB1
  go_wp2
  go_ret
  exact ⟨rfl, hB⟩
set_option maxRecDepth 100000 in
set_option maxHeartbeats 1000000 in
theorem heals_out (v : Value) (d L : Nat) (a : Nat → List El) (i k : Int) (s t : ByteArray) (w : World) (h : RdF w v d (fun i => st (a i))) (h1 : 1 ≤ d) (h2 : d ≤ 10) (hl : ∀ i, i < d → (a i).length = L) (hL : L ≤ 16) (ho : i < 0 ∨ (d : Int) + 2 ≤ i ∨ k < 0 ∨ (d : Int) + 2 ≤ k) :
    Calls Try.prog 4 #[v, .int .i64 i, .int .i64 k, .string s, .string t] w fun e w' => e = .returned (.bool true) ∧ Below w.heap.size w w' := by
  have HH : Hid (RdF w v d (fun i => st (a i))) := h
  have HL : Hid (∀ i, i < d → (a i).length = L) := hl
  obtain ⟨ao, cap, rfl, _, _⟩ := h.len
  have hd3 : ¬ (d : Int) + 2 < 3 := by omega
  have hd12 : ¬ (12 : Int) < (d : Int) + 2 := by omega
  have hd3' : (3 : Int) ≤ (d : Int) + 2 := by omega
  have hd12' : (d : Int) + 2 ≤ 12 := by omega
  clear h hl
  by_cases q1 : i < 0
  · clear ho
    go_enter Try.func4, Try.ntmps4
    go_wp2_with fail
    refine (fact56 w).mono ?_
    rintro e w1 ⟨rfl, hB1⟩
    have C := pencode_ok d L h1 h2 (.slice ao d cap) a w1 (HH.out.old hB1) HL.out hL
    unfold st at C
    generalize sb (row (pp d (mx a)) L) = p at *
    generalize sb (row (qq d (mx a)) L) = q at *
    go_wp2_with fail
    refine C.mono ?_
    rintro e w2 ⟨rfl, hB2⟩
    have hB := hB1.trans (hB2.mono hB1.size)
    clear C hB2 hB1
    go_wp2
    go_ret
    exact ⟨rfl, hB⟩
  · by_cases q2 : (d : Int) + 2 ≤ i
    · clear ho
      go_enter Try.func4, Try.ntmps4
      go_wp2_with fail
      refine (fact56 w).mono ?_
      rintro e w1 ⟨rfl, hB1⟩
      have C := pencode_ok d L h1 h2 (.slice ao d cap) a w1 (HH.out.old hB1) HL.out hL
      unfold st at C
      generalize sb (row (pp d (mx a)) L) = p at *
      generalize sb (row (qq d (mx a)) L) = q at *
      go_wp2_with fail
      refine C.mono ?_
      rintro e w2 ⟨rfl, hB2⟩
      have hB := hB1.trans (hB2.mono hB1.size)
      clear C hB2 hB1
      go_wp2
      go_ret
      exact ⟨rfl, hB⟩
    · by_cases q3 : k < 0
      · clear ho
        go_enter Try.func4, Try.ntmps4
        go_wp2_with fail
        refine (fact56 w).mono ?_
        rintro e w1 ⟨rfl, hB1⟩
        have C := pencode_ok d L h1 h2 (.slice ao d cap) a w1 (HH.out.old hB1) HL.out hL
        unfold st at C
        generalize sb (row (pp d (mx a)) L) = p at *
        generalize sb (row (qq d (mx a)) L) = q at *
        go_wp2_with fail
        refine C.mono ?_
        rintro e w2 ⟨rfl, hB2⟩
        have hB := hB1.trans (hB2.mono hB1.size)
        clear C hB2 hB1
        go_wp2
        go_ret
        exact ⟨rfl, hB⟩
      · have q4 : (d : Int) + 2 ≤ k := by omega
        clear ho
        go_enter Try.func4, Try.ntmps4
        go_wp2_with fail
        refine (fact56 w).mono ?_
        rintro e w1 ⟨rfl, hB1⟩
        have C := pencode_ok d L h1 h2 (.slice ao d cap) a w1 (HH.out.old hB1) HL.out hL
        unfold st at C
        generalize sb (row (pp d (mx a)) L) = p at *
        generalize sb (row (qq d (mx a)) L) = q at *
        go_wp2_with fail
        refine C.mono ?_
        rintro e w2 ⟨rfl, hB2⟩
        have hB := hB1.trans (hB2.mono hB1.size)
        clear C hB2 hB1
        go_wp2
        go_ret
        exact ⟨rfl, hB⟩
end Go.Proofs.Ytjlfaoemejaphac

/- Any two may be lost, of data without a fault: the call answers true. -/
namespace Go.Proofs.Ytjlfaoemejaphac
open Go.ChangeShapes Go.WideShapes Go.ChangeAt Go.RowKit El Pol Mx
theorem infoB : (Try.prog.info? 4).map (fun i => (i.zero, i.size, i.bytes)) = some (some (.bool false), 1, 1) := by kernel_rfl
theorem OwL.as {B n : Nat} {T : TypeId} {w : World} {v : Value} {xs ys : List Value} (h : OwL B T w v xs) (e : xs = ys) (hn : ys.length = n) : w.ownsRow B T 1 v n ys := by
  subst e
  subst hn
  exact h
set_option maxRecDepth 100000 in
set_option maxHeartbeats 8000000 in
theorem heals_ok (v : Value) (d L : Nat) (a : Nat → List El) (i k : Nat) (junk now : List El) (w : World) (h : RdF w v d (fun i => st (a i))) (h1 : 1 ≤ d) (h2 : d ≤ 10) (hl : ∀ i, i < d → (a i).length = L) (hL : L ≤ 16) (hi : i < d + 2) (hk : k < d + 2) :
    Calls Try.prog 4 #[v, .int .i64 i, .int .i64 k, st junk, st now] w fun e w' => e = .returned (.bool true) ∧ Below w.heap.size w w' := by
  obtain ⟨j0, hj, hy0, hy1, hy2⟩ := info_parts infoT
  obtain ⟨b0, hb0, hx0, hx1, hx2⟩ := info_parts infoB
  have HH : Hid (RdF w v d (fun i => st (a i))) := h
  have HL : Hid (∀ i, i < d → (a i).length = L) := hl
  have HPA : Hid ((List.range d).map (fun i => st (a i)) ++ [st (row (pp d (mx a)) L), st (row (qq d (mx a)) L)] = (List.range (d + 2)).map (fun i => st (prts d L (mx a) i))) := prts_all hl
  obtain ⟨ao, cap, rfl, _, _⟩ := h.len
  obtain ⟨ad, rfl, _⟩ := h.at 0 (by omega)
  have hd3 : ¬ (d : Int) + 2 < 3 := by omega
  have hd12 : ¬ (12 : Int) < (d : Int) + 2 := by omega
  have hi0 : ¬ (i : Int) < 0 := by omega
  have hk0 : ¬ (k : Int) < 0 := by omega
  have hid : ¬ (d : Int) + 2 ≤ (i : Int) := by omega
  have hkd : ¬ (d : Int) + 2 ≤ (k : Int) := by omega
  have hid' : (i : Int) < (d : Int) + 2 := by omega
  have hkd' : (k : Int) < (d : Int) + 2 := by omega
  obtain ⟨sj, hsj⟩ : ∃ s, s = sb junk := ⟨_, rfl⟩
  obtain ⟨sn, hsn⟩ : ∃ s, s = sb now := ⟨_, rfl⟩
  have HSJ : Hid (sj = sb junk) := hsj
  have HSN : Hid (sn = sb now) := hsn
  have hnsz := sb_size now
  rw [← hsn] at hnsz
  unfold st
  rw [← hsj, ← hsn]
  clear h hl hsj hsn
  go_enter Try.func4, Try.ntmps4
  go_wp2_with fail
  refine (fact56 w).mono ?_
  rintro e w1 ⟨rfl, hB1⟩
  have C := pencode_ok d L h1 h2 (.slice (some ad) d cap) a w1 (HH.out.old hB1) HL.out hL
  obtain ⟨sp, hsp⟩ : ∃ s, s = sb (row (pp d (mx a)) L) := ⟨_, rfl⟩
  obtain ⟨sq, hsq⟩ : ∃ s, s = sb (row (qq d (mx a)) L) := ⟨_, rfl⟩
  have HSP : Hid (sp = sb (row (pp d (mx a)) L)) := hsp
  have HSQ : Hid (sq = sb (row (qq d (mx a)) L)) := hsq
  unfold st at C
  rw [← hsp, ← hsq] at C
  clear hsp hsq
  go_wp2_with fail
  refine C.mono ?_
  rintro e w2 ⟨rfl, hB2⟩
  have hBw := hB1.trans (hB2.mono hB1.size)
  have hd2 := HH.out.old hBw
  have hnil : OwL w2.heap.size 9 w2 (.slice none 0 0) [] := World.ownsRow_nil _ _ _ _
  clear C hB2 hB1
  go_wp2_with (first | (at_builtin; refine wpList_append_texts rfl _ _ rfl w2.heap.size _ _ _ d a rfl hnil rfl hd2 (by simp) (by omega) (Nat.le_refl _) ?_))
  intro v3 w3 hO3 hg3
  have hB3 : Below w2.heap.size w2 w3 := below_of_grownR hg3 (Nat.le_refl _) (fun g e => by simp [Value.ownBlock] at e)
  have hs3 := hB3.size
  obtain ⟨a3, c3, e3⟩ := OwL.len hO3
  rw [List.length_map, List.length_range] at e3
  subst e3
  have hO3' : w3.ownsRow w2.heap.size 9 1 (.slice a3 d c3) d ((List.range d).map (fun i => st (a i))) := by
    have := hO3
    unfold OwL at this
    rw [List.length_map, List.length_range] at this
    exact this
  clear hnil hd2 hg3 hO3
  go_wp2_with (first | (at_builtin; refine wpList_append_own _ rfl _ _ 22 rfl w2.heap.size 9 j0 (.string ⟨#[]⟩) 1 16 Try.underlying22 hj hy0 hy1 hy2 rfl (by decide) _ _ _ rfl (World.ownsRow.alloc hO3' _) ⟨w3.heap.size, 0, none⟩ 2 2 [.string sp, .string sq] rfl rfl (two_cells _) (by intro u hu; simp at hu; rcases hu with rfl | rfl <;> rfl) (by unfold maxLen; omega) (by omega) (by simp; omega) ?_))
  intro v4 w4 hown4 hg4 _
  have hB24 : Below w2.heap.size w2 w4 := (hB3.alloc hs3 _).grown hg4 (by simp; omega) (fun g e => (World.ownsRow.lt hO3' g e).1)
  have hP4 : w4.ownsRow w2.heap.size 9 1 v4 (d + 2) ((List.range (d + 2)).map (fun i => st (prts d L (mx a) i))) := by
    rw [← HPA.out]
    unfold st
    rw [← HSP.out, ← HSQ.out]
    exact hown4
  obtain ⟨g4, c4, e4⟩ : ∃ g c, v4 = .slice (some ⟨g, 0, none⟩) (d + 2) c := by
    rcases hP4.2 with ⟨_, e⟩ | ⟨g, c, cur, e, _⟩
    · omega
    · exact ⟨g, c, e⟩
  subst e4
  have HP4 : Hid (w4.ownsRow w2.heap.size 9 1 (.slice (some ⟨g4, 0, none⟩) (d + 2) c4) (d + 2) ((List.range (d + 2)).map (fun i => st (prts d L (mx a) i)))) := hP4
  have HB04 : Hid (Below w.heap.size w w4) := hBw.trans (hB24.mono hBw.size)
  have hg4lt := (World.ownsRow.lt hP4 g4 rfl).2
  have hP4r := OwL.rdM hP4
  have hnil : OwL w4.heap.size 9 w4 (.slice none 0 0) [] := World.ownsRow_nil _ _ _ _
  clear hO3' hown4 hg4 hB3 hs3 hB24 hBw hP4
  go_wp2_with (first | (at_builtin; refine wpList_append_texts rfl _ _ rfl w4.heap.size _ _ _ (d + 2) (prts d L (mx a)) rfl hnil rfl hP4r (by simp) (by omega) (Nat.le_refl _) ?_))
  intro v5 w5 hO5 hg5
  have hB5 : Below w4.heap.size w4 w5 := below_of_grownR hg5 (Nat.le_refl _) (fun g e => by simp [Value.ownBlock] at e)
  obtain ⟨g5, c5, e5⟩ : ∃ g c, v5 = .slice (some ⟨g, 0, none⟩) (d + 2) c := by
    rcases hO5.2 with ⟨_, e⟩ | ⟨g, c, cur, e, _⟩
    · simp at e
    · exact ⟨g, c, by rw [e]; simp⟩
  subst e5
  have hT5 : w5.ownsRow w4.heap.size 9 1 (.slice (some ⟨g5, 0, none⟩) (d + 2) c5) (d + 2) ((List.range (d + 2)).map (fun i => st (prts d L (mx a) i))) :=
    OwL.as hO5 (by simp [List.range_succ]) (by simp)
  have hg5b := (World.ownsRow.lt hT5 g5 rfl).1
  clear hO5 hg5 hnil hP4r
  go_wp2_with (first | (at_make; refine wpList_make_full _ rfl _ _ 27 rfl w4.heap.size 4 b0 (.bool false) 1 Try.underlying27 hb0 hx0 hx1 _ _ _ _ (d + 2) rfl rfl rfl rfl (by rw [hx2]; omega) (by unfold maxLen; omega) hB5.size ?_))
  intro w6 hown6 hg6
  have hB6 : Below w4.heap.size w4 w6 := hB5.trans ((below_of_grown hg6).mono hB5.size)
  have hT6 := ownsRow_old hT5 (below_of_grown hg6)
  have hL6 : w6.ownsRow w4.heap.size 4 1 (.slice (some ⟨w5.heap.size, 0, none⟩) (d + 2) (d + 2)) (d + 2) (List.replicate (d + 2) (.bool false)) := by
    have := hown6
    rw [toList_madeCells_one] at this
    exact this
  have hgl := (World.ownsRow.lt hL6 w5.heap.size rfl).1
  obtain ⟨gl, hgle⟩ : ∃ gl, gl = w5.heap.size := ⟨_, rfl⟩
  rw [← hgle] at hL6 hgl ⊢
  clear hown6 hg6 hT5 hB5 hgle
  -- lost[i] = true
  have c7 := World.ownsRow.cellAt hL6 i (by omega)
  rw [List.getElem?_replicate_of_lt hi] at c7
  have f7 := World.ownsRow.frozenAt hL6 i
  have S7 := World.ownsRow.stored hL6 i (.bool true)
  have hT7 := keep_type (by decide) hL6 hT6 S7.2
  have hB7 := hB6.trans (below_of_grownAt S7.2 hB6.size hgl)
  have hL7 := S7.1
  clear S7 hL6 hT6 hB6
  go_upto_region 17 with fail
  generalize w6.setCell ⟨gl, i, none⟩ (.bool true) = w7 at *
  clear c7 f7
  -- lost[k] = true
  have c8 := World.ownsRow.cellAt hL7 k (by omega)
  obtain ⟨z8, hz8⟩ : ∃ z, (((List.replicate (d + 2) (Value.bool false)).set i (.bool true)))[k]? = some z := ⟨_, List.getElem?_eq_getElem (by simpa using hk)⟩
  rw [hz8] at c8
  have f8 := World.ownsRow.frozenAt hL7 k
  have S8 := World.ownsRow.stored hL7 k (.bool true)
  rw [lost_cells] at S8
  have hT8 := keep_type (by decide) hL7 hT7 S8.2
  have hB8 := hB7.trans (below_of_grownAt S8.2 hB7.size hgl)
  have hL8 := S8.1
  clear S8 hL7 hT7 hB7 hz8
  go_upto_region 18 with fail
  generalize w7.setCell ⟨gl, k, none⟩ (.bool true) = w8 at *
  clear c8 f8
  -- torn[i] = junk
  have c9 := World.ownsRow.cellAt hT8 i (by omega)
  rw [range_map_at _ _ _ hi] at c9
  have f9 := World.ownsRow.frozenAt hT8 i
  have S9 := World.ownsRow.stored hT8 i (.string sj)
  have hT9 := S9.1
  rw [set_map_up, HSJ.out, st_up] at hT9
  rw [← HSJ.out] at hT9
  have hL9 := keep_type (by decide) hT8 hL8 S9.2
  have hB9 := hB8.trans (below_of_grownAt S9.2 hB8.size hg5b)
  generalize st (prts d L (mx a) i) = z9 at c9
  clear S9 hT8 hL8 hB8
  go_upto_region 19 with fail
  generalize w8.setCell ⟨g5, i, none⟩ (.string sj) = w9 at *
  clear c9 f9
  -- torn[k] = junk
  have c10 := World.ownsRow.cellAt hT9 k (by omega)
  rw [range_map_at _ _ _ hk] at c10
  have f10 := World.ownsRow.frozenAt hT9 k
  have S10 := World.ownsRow.stored hT9 k (.string sj)
  have hT10 := S10.1
  rw [set_map_up, HSJ.out, st_up] at hT10
  rw [← HSJ.out] at hT10
  have hL10 := keep_type (by decide) hT9 hL9 S10.2
  have hB10 := hB9.trans (below_of_grownAt S10.2 hB9.size hg5b)
  generalize st (up (prts d L (mx a)) i junk k) = z10 at c10
  clear S10 hT9 hL9 hB9
  go_upto_region 20 with fail
  generalize w9.setCell ⟨g5, k, none⟩ (.string sj) = w10 at *
  clear c10 f10
  -- l, e := Heal(torn, lost); Texts(l, parts)
  have hLr : RdF w10 (.slice (some ⟨gl, 0, none⟩) (d + 2) (d + 2)) (d + 2) (fun x => .bool (lost2 i k x)) := OwL.rdM hL10
  have C := pheal_ok d L h1 h2 _ _ (trn d L (mx a) i k junk) (lost2 i k) w10 (OwL.rdM hT10) hLr (ix_lost2 i k d) trn_len hL
  have HT10 : Hid (w10.ownsRow w4.heap.size 9 1 (.slice (some ⟨g5, 0, none⟩) (d + 2) c5) (d + 2) ((List.range (d + 2)).map (fun x => st (trn d L (mx a) i k junk x)))) := hT10
  clear hLr hL10 hT10
  go_wp2_with fail
  refine C.mono ?_
  rintro e w11 ⟨v11, E, rfl, hE, hO11, hB11⟩
  have hB11' := hB10.trans (hB11.mono hB10.size)
  have T := texts_any v11 (.slice (some ⟨g4, 0, none⟩) (d + 2) c4) (d + 2) (d + 2) _ _ w11 (OwL.rdM hO11) ((OwL.rdM HP4.out).old hB11')
  rw [trn_back h2 hE] at T
  have hT11 := ownsRow_old HT10.out hB11
  obtain ⟨a11, c11, rfl, _, _⟩ := (OwL.rdM hO11).len
  clear C hE hO11 hB11 hB10 HT10
  go_wp2_with fail
  refine T.mono ?_
  rintro e w12 ⟨rfl, hB12⟩
  have hB12' := hB11'.trans (hB12.mono hB11'.size)
  have HT12 : Hid (w12.ownsRow w4.heap.size 9 1 (.slice (some ⟨g5, 0, none⟩) (d + 2) c5) (d + 2) ((List.range (d + 2)).map (fun x => st (trn d L (mx a) i k junk x)))) := ownsRow_old hT11 hB12
  clear T hB12 hB11' hT11
  -- none, e := Locate(parts)
  have D := plocate_ok d L h1 h2 (.slice (some ⟨g4, 0, none⟩) (d + 2) c4) (prts d L (mx a)) w12 ((OwL.rdM HP4.out).old hB12') (fun x _ => row_length _ _) hL
  go_wp2_with fail
  refine D.mono ?_
  rintro e w13 ⟨z, f, rfl, hZ, hB13⟩
  obtain ⟨hz, hf⟩ := lct_parts h2 hZ
  subst hz
  subst hf
  have hB13' := hB12'.trans (hB13.mono hB12'.size)
  have hT13 := ownsRow_old HT12.out hB13
  have hd13 := (HH.out.old HB04.out).old hB13'
  obtain ⟨_, e0, hc0⟩ := hd13.at 0 (by omega)
  cases e0
  rw [add_zero] at hc0
  have hs0 := sb_size (a 0)
  rw [HL.out 0 (by omega)] at hs0
  unfold st at hc0
  generalize sb (a 0) = s0 at *
  have herr : errV 0 = .nilIface := rfl
  rw [herr]
  clear D hZ hB13 HT12 hB12' herr hd13
  by_cases hlen : now.length = L
  · have HLN : Hid (now.length = L) := hlen
    rw [hlen] at hnsz
    have hbn : ((L : Int) != (L : Int)) = false := by simp
    clear hlen
    -- torn[k] = parts[k]
    have c14 := World.ownsRow.cellAt hT13 k (by omega)
    rw [range_map_at _ _ _ hk] at c14
    have f14 := World.ownsRow.frozenAt hT13 k
    have p14 := World.ownsRow.cellAt HP4.out k (by omega)
    rw [range_map_at _ _ _ hk] at p14
    have p14' : w13.cell? ⟨g4, k, none⟩ = some (st (prts d L (mx a) k)) := by rw [hB13'.cell (World.block_lt_of_cell? _ _ p14)]; exact p14
    have S14 := World.ownsRow.stored hT13 k (st (prts d L (mx a) k))
    have hT14 := S14.1
    rw [set_map_up, st_up] at hT14
    have hB14 := hB13'.trans (below_of_grownAt S14.2 hB13'.size hg5b)
    generalize st (trn d L (mx a) i k junk k) = z14 at c14
    unfold st at p14' hB14
    obtain ⟨spk, hspk⟩ : ∃ s, s = sb (prts d L (mx a) k) := ⟨_, rfl⟩
    have hT14' : (w13.setCell ⟨g5, k, none⟩ (.string spk)).ownsRow w4.heap.size 9 1 (.slice (some ⟨g5, 0, none⟩) (d + 2) c5) (d + 2) ((List.range (d + 2)).map (fun x => st (up (trn d L (mx a) i k junk) k (prts d L (mx a) k) x))) := by
      rw [hspk]; exact hT14
    rw [← hspk] at p14' hB14
    clear S14 hT14 hT13 p14 hB13' hspk
    go_upto_region 29 with fail
    generalize w13.setCell ⟨g5, k, none⟩ (.string spk) = w14 at *
    clear c14 f14 p14' hc0 hs0
    -- torn[i] = now
    have c15 := World.ownsRow.cellAt hT14' i (by omega)
    rw [range_map_at _ _ _ hi] at c15
    have f15 := World.ownsRow.frozenAt hT14' i
    have S15 := World.ownsRow.stored hT14' i (.string sn)
    have hT15 := S15.1
    rw [set_map_up, HSN.out, st_up, trn_up] at hT15
    rw [← HSN.out] at hT15
    have hB15 := hB14.trans (below_of_grownAt S15.2 hB14.size hg5b)
    generalize st (up (trn d L (mx a) i k junk) k (prts d L (mx a) k) i) = z15 at c15
    clear S15 hT14' hB14
    go_upto_region 30 with fail
    generalize w14.setCell ⟨g5, i, none⟩ (.string sn) = w15 at *
    clear c15 f15
    -- at, e := Locate(torn)
    have D := plocate_ok d L h1 h2 (.slice (some ⟨g5, 0, none⟩) (d + 2) c5) (up (prts d L (mx a)) i now) w15 (OwL.rdM hT15) (fun x _ => by
      by_cases e : x = i
      · rw [e, up_at]; exact HLN.out
      · rw [up_ne _ _ e, row_length]) hL
    clear hT15
    go_wp2_with fail
    refine D.mono ?_
    rintro e w16 ⟨z, f, rfl, hZ, hB16⟩
    obtain ⟨hz, hf⟩ := lct_moved h2 hi HLN.out hZ
    subst hf
    have hB16' := hB15.trans (hB16.mono hB15.size)
    have p16 := World.ownsRow.cellAt HP4.out i (by omega)
    rw [range_map_at _ _ _ hi] at p16
    have p16' : w16.cell? ⟨g4, i, none⟩ = some (st (prts d L (mx a) i)) := by rw [hB16'.cell (World.block_lt_of_cell? _ _ p16)]; exact p16
    have hss := sb_same now (prts d L (mx a) i)
    rw [← HSN.out] at hss
    obtain ⟨spi, hspi⟩ : ∃ s, s = sb (prts d L (mx a) i) := ⟨_, rfl⟩
    unfold st at p16'
    rw [← hspi] at p16' hss
    have HZ : Hid (z = (if now = prts d L (mx a) i then -1 else (i : Int))) := hz
    have herr : errV 0 = .nilIface := rfl
    rw [herr]
    clear D hZ hB16 hB15 p16 hspi herr
    by_cases hsame : now = prts d L (mx a) i
    · rw [decide_eq_true hsame] at hss
      rw [if_pos hsame] at hz
      subst hz
      clear hsame HZ
      by_cases hid2 : i < d
      · have hid3 : ¬ (d : Int) ≤ (i : Int) := by omega
        have hid4 : (i : Int) < (d : Int) := by omega
        have hnil : OwL w16.heap.size 9 w16 (.slice none 0 0) [] := World.ownsRow_nil _ _ _ _
        have hd16 := (HH.out.old HB04.out).old hB16'
        have HBW : Hid (Below w.heap.size w w16) := HB04.out.trans (hB16'.mono HB04.out.size)
        clear hB16'
        go_wp2_with (first | (at_builtin; refine wpList_append_texts rfl _ _ rfl w16.heap.size _ _ _ d a rfl hnil rfl hd16 (by simp) (by omega) (Nat.le_refl _) ?_))
        intro v17 w17 hO17 hg17
        have hB17 : Below w16.heap.size w16 w17 := below_of_grownR hg17 (Nat.le_refl _) (fun g e => by simp [Value.ownBlock] at e)
        have hT17 : w17.ownsRow w16.heap.size 9 1 v17 d ((List.range d).map (fun i => st (a i))) := OwL.as hO17 (by simp) (by simp)
        obtain ⟨g17, c17, e17⟩ : ∃ g c, v17 = .slice (some ⟨g, 0, none⟩) d c := by
          rcases hT17.2 with ⟨_, e⟩ | ⟨g, c, cur, e, _⟩
          · omega
          · exact ⟨g, c, e⟩
        subst e17
        have hg17b := (World.ownsRow.lt hT17 g17 rfl).1
        have c18 := World.ownsRow.cellAt hT17 i (by omega)
        rw [range_map_at _ _ _ hid2] at c18
        have f18 := World.ownsRow.frozenAt hT17 i
        have S18 := World.ownsRow.stored hT17 i (.string sn)
        have hT18 := S18.1
        rw [set_map_up, HSN.out, st_up] at hT18
        rw [← HSN.out] at hT18
        have hB18 := hB17.trans (below_of_grownAt S18.2 hB17.size hg17b)
        generalize st (a i) = z18 at c18
        clear S18 hT17 hB17 hO17 hg17 hnil hd16
        go_upto_region 41 with fail
        generalize w17.setCell ⟨g17, i, none⟩ (.string sn) = w18 at *
        clear c18 f18
        have E1 := pencode_ok d L h1 h2 (.slice (some ⟨g17, 0, none⟩) d c17) (up a i now) w18 (OwL.rdM hT18) (fun x hx => by
          by_cases e : x = i
          · rw [e, up_at]; exact HLN.out
          · rw [up_ne _ _ e]; exact HL.out x hx) hL
        rw [delta_p hid2, delta_q hid2] at E1
        obtain ⟨sa, hsa⟩ : ∃ s, s = sb (row (fun l => pl (pl (co (a i) l) (co now l)) (co (row (pp d (mx a)) L) l)) L) := ⟨_, rfl⟩
        obtain ⟨sc, hsc⟩ : ∃ s, s = sb (row (fun l => pl (pl (ti (g2 i) (co (a i) l)) (ti (g2 i) (co now l))) (co (row (qq d (mx a)) L) l)) L) := ⟨_, rfl⟩
        have E2 := fun W => pdelta_ok i (by omega) L (a i) now (row (pp d (mx a)) L) (row (qq d (mx a)) L) W (HL.out i hid2) HLN.out (row_length _ _) (row_length _ _) hL
        unfold st at E1 E2
        rw [← hsa, ← hsc] at E1 E2
        rw [← HSP.out, ← HSQ.out, ← HSN.out] at E2
        clear hsa hsc hT18
        go_wp2_with fail
        refine E1.mono ?_
        rintro e w19 ⟨rfl, hB19⟩
        have hB19' := hB18.trans (hB19.mono hB18.size)
        obtain ⟨_, e1, hc19⟩ := ((HH.out.old HBW.out).old hB19').at i hid2
        cases e1
        have E3 := E2 w19
        unfold st at hc19
        generalize sb (a i) = si at *
        clear E1 E2 hB19 hB18
        go_wp2_with fail
        refine E3.mono ?_
        rintro e w20 ⟨rfl, hB20⟩
        have hB20' := hB19'.trans (hB20.mono hB19'.size)
        have hBf := HBW.out.trans (hB20'.mono HBW.out.size)
        clear E3 hB20 hB20' hB19' hc19
        go_wp2
        go_ret
        exact ⟨rfl, hBf⟩
      · have hid3 : (d : Int) ≤ (i : Int) := by omega
        have hBf := HB04.out.trans (hB16'.mono HB04.out.size)
        clear hB16'
        go_wp2
        go_ret
        exact ⟨rfl, hBf⟩
    · rw [decide_eq_false hsame] at hss
      rw [if_neg hsame] at hz
      subst hz
      have hii : ((i : Int) != (i : Int)) = false := by simp
      clear hsame HZ
      by_cases hid2 : i < d
      · have hid3 : ¬ (d : Int) ≤ (i : Int) := by omega
        have hid4 : (i : Int) < (d : Int) := by omega
        have hnil : OwL w16.heap.size 9 w16 (.slice none 0 0) [] := World.ownsRow_nil _ _ _ _
        have hd16 := (HH.out.old HB04.out).old hB16'
        have HBW : Hid (Below w.heap.size w w16) := HB04.out.trans (hB16'.mono HB04.out.size)
        clear hB16'
        go_wp2_with (first | (at_builtin; refine wpList_append_texts rfl _ _ rfl w16.heap.size _ _ _ d a rfl hnil rfl hd16 (by simp) (by omega) (Nat.le_refl _) ?_))
        intro v17 w17 hO17 hg17
        have hB17 : Below w16.heap.size w16 w17 := below_of_grownR hg17 (Nat.le_refl _) (fun g e => by simp [Value.ownBlock] at e)
        have hT17 : w17.ownsRow w16.heap.size 9 1 v17 d ((List.range d).map (fun i => st (a i))) := OwL.as hO17 (by simp) (by simp)
        obtain ⟨g17, c17, e17⟩ : ∃ g c, v17 = .slice (some ⟨g, 0, none⟩) d c := by
          rcases hT17.2 with ⟨_, e⟩ | ⟨g, c, cur, e, _⟩
          · omega
          · exact ⟨g, c, e⟩
        subst e17
        have hg17b := (World.ownsRow.lt hT17 g17 rfl).1
        have c18 := World.ownsRow.cellAt hT17 i (by omega)
        rw [range_map_at _ _ _ hid2] at c18
        have f18 := World.ownsRow.frozenAt hT17 i
        have S18 := World.ownsRow.stored hT17 i (.string sn)
        have hT18 := S18.1
        rw [set_map_up, HSN.out, st_up] at hT18
        rw [← HSN.out] at hT18
        have hB18 := hB17.trans (below_of_grownAt S18.2 hB17.size hg17b)
        generalize st (a i) = z18 at c18
        clear S18 hT17 hB17 hO17 hg17 hnil hd16
        go_upto_region 41 with fail
        generalize w17.setCell ⟨g17, i, none⟩ (.string sn) = w18 at *
        clear c18 f18
        have E1 := pencode_ok d L h1 h2 (.slice (some ⟨g17, 0, none⟩) d c17) (up a i now) w18 (OwL.rdM hT18) (fun x hx => by
          by_cases e : x = i
          · rw [e, up_at]; exact HLN.out
          · rw [up_ne _ _ e]; exact HL.out x hx) hL
        rw [delta_p hid2, delta_q hid2] at E1
        obtain ⟨sa, hsa⟩ : ∃ s, s = sb (row (fun l => pl (pl (co (a i) l) (co now l)) (co (row (pp d (mx a)) L) l)) L) := ⟨_, rfl⟩
        obtain ⟨sc, hsc⟩ : ∃ s, s = sb (row (fun l => pl (pl (ti (g2 i) (co (a i) l)) (ti (g2 i) (co now l))) (co (row (qq d (mx a)) L) l)) L) := ⟨_, rfl⟩
        have E2 := fun W => pdelta_ok i (by omega) L (a i) now (row (pp d (mx a)) L) (row (qq d (mx a)) L) W (HL.out i hid2) HLN.out (row_length _ _) (row_length _ _) hL
        unfold st at E1 E2
        rw [← hsa, ← hsc] at E1 E2
        rw [← HSP.out, ← HSQ.out, ← HSN.out] at E2
        clear hsa hsc hT18
        go_wp2_with fail
        refine E1.mono ?_
        rintro e w19 ⟨rfl, hB19⟩
        have hB19' := hB18.trans (hB19.mono hB18.size)
        obtain ⟨_, e1, hc19⟩ := ((HH.out.old HBW.out).old hB19').at i hid2
        cases e1
        have E3 := E2 w19
        unfold st at hc19
        generalize sb (a i) = si at *
        clear E1 E2 hB19 hB18
        go_wp2_with fail
        refine E3.mono ?_
        rintro e w20 ⟨rfl, hB20⟩
        have hB20' := hB19'.trans (hB20.mono hB19'.size)
        have hBf := HBW.out.trans (hB20'.mono HBW.out.size)
        clear E3 hB20 hB20' hB19' hc19
        go_wp2
        go_ret
        exact ⟨rfl, hBf⟩
      · have hid3 : (d : Int) ≤ (i : Int) := by omega
        have hBf := HB04.out.trans (hB16'.mono HB04.out.size)
        clear hB16'
        go_wp2
        go_ret
        exact ⟨rfl, hBf⟩
  · have hbn : ((now.length : Int) != (L : Int)) = true := by rw [bne_iff_ne]; omega
    have hBf := HB04.out.trans (hB13'.mono HB04.out.size)
    generalize now.length = ln at *
    clear hlen hT13 hB13'
    go_wp2
    go_ret
    exact ⟨rfl, hBf⟩
end Go.Proofs.Ytjlfaoemejaphac
