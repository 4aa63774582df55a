/- ONE OF DATA HAS COPIES: by a walk over the program. -/
import Derived.Test.YtcjokofebnfkkaaCodeJ
import Derived.Test.YtcjokofebnfkkaaCodeM
import Derived.BigCall
import Derived.BigGuard
namespace Go.Proofs.Ytcjokofebnfkkaa
open Go.ChangeShapes Go.WideShapes Go.ChangeAt Go.RowKit El Pol Mx
theorem infoQ : (Try.prog.info? 4).map (fun i => (i.zero, i.size, i.bytes)) = some (some (.bool false), 1, 1) := by kernel_rfl
/-- all but the one at t are lost -/
abbrev but (t : Nat) : Nat → Bool := fun i => decide (i ≠ t)
theorem ix_but (t : Nat) : ∀ n, ix (but t) n = if t < n then [t] else []
  | 0 => rfl
  | n + 1 => by
    rw [ix, ix_but t n]
    by_cases h : t < n
    · rw [if_pos h, if_pos (show but t n = true by simp; omega), if_pos (show t < n + 1 by omega)]
    · rw [if_neg h]
      by_cases e : n = t
      · rw [if_neg (show ¬ but t n = true by simp [e]), if_pos (show t < n + 1 by omega), e]; rfl
      · rw [if_pos (show but t n = true by simp [e]), if_neg (show ¬ t < n + 1 by omega)]
def lostTo (t k : Nat) : Nat → Value := fun i => .bool (decide (i < k) && but t i)
theorem lostTo_up (t k : Nat) : up (lostTo t k) k (.bool (but t k)) = lostTo t (k + 1) := by
  funext i
  unfold up lostTo
  by_cases e : i = k
  · rw [if_pos e, e, decide_eq_true (show k < k + 1 by omega)]; rfl
  · rw [if_neg e]
    by_cases h : i < k
    · rw [decide_eq_true h, decide_eq_true (show i < k + 1 by omega)]
    · rw [decide_eq_false h, decide_eq_false (show ¬ i < k + 1 by omega)]
theorem lostTo_all (t n : Nat) : ∀ i, i < n → lostTo t n i = .bool (but t i) := fun i hi => by unfold lostTo; rw [decide_eq_true hi]; rfl
theorem lostTo_none (t n : Nat) : (List.range n).map (lostTo t 0) = List.replicate n (.bool false) := by
  apply List.ext_getElem <;> simp [lostTo]
/-- one text alone -/
abbrev lone (w : World) (xs : List El) : World := w.alloc (.cells #[st xs] 9)
theorem lone_rd (w : World) (xs : List El) : RdF (lone w xs) (.slice (some ⟨w.heap.size, 0, none⟩) 1 1) 1 (fun i => st ((fun _ => xs) i)) :=
  .inr ⟨_, 1, rfl, Nat.le_refl _, by omega, fun i hi => by
    have : i = 0 := by omega
    subst this
    rw [add_zero]
    exact cell_new w (st xs) 9⟩
theorem lone_below (w : World) (xs : List El) : Below w.heap.size w (lone w xs) := (Below.refl _ _).alloc (Nat.le_refl _) _
theorem lone_bad {m : Int} {xs : List El} (h : ebad 1 m 1 (fun _ => xs) ≠ 0) : m < 0 ∨ 11 < m ∨ 16 < xs.length := by
  unfold ebad at h
  by_cases hb : cbad 1 m = 0
  · rw [if_neg (by simpa using hb), if_neg (by simp)] at h
    right; right
    rcases Nat.lt_or_ge 16 xs.length with q | q
    · exact q
    · exact absurd (bbad_of (fun i _ => rfl) q) h
  · unfold cbad at hb
    split at hb
    · omega
    · exact absurd rfl hb
theorem lone_ok {m : Int} {xs : List El} (h : ebad 1 m 1 (fun _ => xs) = 0) : 0 ≤ m ∧ m ≤ 11 ∧ xs.length ≤ 16 := by
  unfold ebad at h
  by_cases hb : cbad 1 m = 0
  · rw [if_neg (by simpa using hb), if_neg (by simp)] at h
    have := cbad_ok hb
    have := (bbad_ok h).2
    omega
  · rw [if_pos hb] at h; omega
set_option maxRecDepth 100000 in
set_option maxHeartbeats 1000000 in
theorem copies_bad (m : Int) (hm : I64 m) (xs : List El) (t : Int) (w : World) (hb : ebad 1 m 1 (fun _ => xs) ≠ 0) :
    Calls Try.prog 6 #[.int .i64 m, st xs, .int .i64 t] w fun e w' => e = .returned (.bool true) ∧ Below w.heap.size w w' := by
  have C := encode_bad 1 m (by omega) hm _ 1 _ (fun _ => xs) _ (lone_rd w xs) (by omega) rfl hb
  have hal := lone_below w xs
  have hs := sb_size xs
  have hD := lone_bad hb
  unfold lone st at *
  generalize ebad 1 m 1 (fun _ => xs) = c at *
  generalize sb xs = s at *
  generalize xs.length = l at *
  clear hb
  by_cases h1 : m < 0
  · clear hD
    go_enter Try.func6, Try.ntmps6
    go_wp2_with fail
    refine C.mono ?_
    rintro e w1 ⟨rfl, hB⟩
    have hB1 := hal.trans (hB.mono hal.size)
    clear C hB hal
    go_wp2
    go_ret
    exact ⟨rfl, hB1⟩
  · by_cases h2 : 11 < m
    · clear hD
      go_enter Try.func6, Try.ntmps6
      go_wp2_with fail
      refine C.mono ?_
      rintro e w1 ⟨rfl, hB⟩
      have hB1 := hal.trans (hB.mono hal.size)
      clear C hB hal
      go_wp2
      go_ret
      exact ⟨rfl, hB1⟩
    · have h3 : (16 : Int) < (l : Int) := by omega
      have HD : Hid ((decide (m < 0) || decide (11 < m) || decide ((16 : Int) < (l : Int))) = true) := by
        (show _ = true)
        rw [decide_eq_true h3, Bool.or_true]
      clear hD h3
      go_enter Try.func6, Try.ntmps6
      go_wp2_with fail
      refine C.mono ?_
      rintro e w1 ⟨rfl, hB⟩
      have hB1 := hal.trans (hB.mono hal.size)
      clear C hB hal
      go_wp2
      go_ret
      exact ⟨congrArg (fun b => Ending.returned (.bool b)) HD.out, hB1⟩
set_option maxRecDepth 100000 in
set_option maxHeartbeats 2000000 in
theorem copies_ok (m : Nat) (hm : m ≤ 11) (xs : List El) (hx : xs.length ≤ 16) (t : Int) (ht : I64 t) (w : World) :
    Calls Try.prog 6 #[.int .i64 m, st xs, .int .i64 t] w fun e w' => e = .returned (.bool true) ∧ Below w.heap.size w w' := by
  have C := encode_ok 1 m xs.length (by omega) (by omega) _ (fun _ => xs) _ (lone_rd w xs) (fun _ _ => rfl) hx
  obtain ⟨j0, hj, hy0, hy1, hy2⟩ := info_parts infoT
  obtain ⟨k0, hk, hq0, hq1, hq2⟩ := info_parts infoQ
  have hal := lone_below w xs
  unfold lone st at C
  unfold lone at hal
  unfold st at hal
  obtain ⟨s, hs⟩ : ∃ s, s = sb xs := ⟨_, rfl⟩
  unfold st
  rw [← hs] at C hal ⊢
  have HS : Hid (s = sb xs) := hs
  clear hs
  go_enter Try.func6, Try.ntmps6
  go_wp2_with fail
  refine C.mono ?_
  rintro e w2 ⟨v2, rfl, hO2, hB2⟩
  have HP : Hid (RdF w2 v2 m (fun i => st (row (mm 1 (par 1) (mx fun _ => xs) i) xs.length))) := OwL.rdM hO2
  have hB3 := hal.trans (hB2.mono hal.size)
  obtain ⟨a2, c2, rfl, _, _⟩ := HP.out.len
  clear C hO2 hB2 hal
  have hmm : ((m : Int) != (m : Int)) = false := by simp
  by_cases ht0 : t < 0
  · go_wp2
    go_ret
    exact ⟨rfl, hB3⟩
  · by_cases htm : (m : Int) ≤ t
    · go_wp2
      go_ret
      exact ⟨rfl, hB3⟩
    · obtain ⟨t, rfl⟩ : ∃ t' : Nat, t = t' := ⟨t.toNat, by omega⟩
      have htlt : t < m := by omega
      go_wp2_with (first | (at_make; refine wpList_make_full _ rfl _ _ 47 rfl w2.heap.size 9 j0 (.string ⟨#[]⟩) 1 Try.underlying47 hj hy0 hy1 _ _ _ _ (m + 1) rfl rfl rfl rfl (by rw [hy2]; omega) (by unfold maxLen; omega) (Nat.le_refl _) ?_))
      intro w3 hown hgrow
      have hPa : w3.ownsRow w2.heap.size 9 1 (.slice (some ⟨w2.heap.size, 0, none⟩) (m + 1) (m + 1)) (m + 1) (List.replicate (m + 1) (.string ⟨#[]⟩)) := by
        have := hown
        rw [toList_madeCells_one] at this
        exact this
      have hB23 : Below w2.heap.size w2 w3 := below_of_grown hgrow
      clear hown hgrow
      go_wp2_with (first | (at_make; refine wpList_make_full _ rfl _ _ 50 rfl w3.heap.size 4 k0 (.bool false) 1 Try.underlying50 hk hq0 hq1 _ _ _ _ (m + 1) rfl rfl rfl rfl (by rw [hq2]; omega) (by unfold maxLen; omega) (Nat.le_refl _) ?_))
      intro w4 hown hgrow
      have hLo : w4.ownsRow w3.heap.size 4 1 (.slice (some ⟨w3.heap.size, 0, none⟩) (m + 1) (m + 1)) (m + 1) ((List.range (m + 1)).map (lostTo (t + 1) 0)) := by
        have := hown
        rw [toList_madeCells_one] at this
        rw [lostTo_none]
        exact this
      have hB34 : Below w3.heap.size w3 w4 := below_of_grown hgrow
      have HPa : Hid (w3.ownsRow w2.heap.size 9 1 (.slice (some ⟨w2.heap.size, 0, none⟩) (m + 1) (m + 1)) (m + 1) (List.replicate (m + 1) (.string ⟨#[]⟩))) := hPa
      have HB3 : Hid (Below w.heap.size w w2) := hB3
      have HB23 : Hid (Below w2.heap.size w2 w3) := hB23
      have hsz := hB23.size
      have hsz0 := hB3.size
      clear hown hgrow hPa hB3 hB23
      go_wp2
      go_loopw [11] (fun q wr => ∃ i : Nat, i ≤ m + 1 ∧ q = .int .i64 i ∧ wr.ownsRow w3.heap.size 4 1 (.slice (some ⟨w3.heap.size, 0, none⟩) (m + 1) (m + 1)) (m + 1) ((List.range (m + 1)).map (lostTo (t + 1) i)) ∧ Below w3.heap.size w3 wr) (fun q _ => (m + 1) - (intOf q).toNat)
      case atStart => exact ⟨0, Nat.zero_le _, rfl, hLo, hB34⟩
      case round =>
        clear hLo hB34
        obtain ⟨i, hi, rfl, hLo, hB⟩ := hrel
        by_cases hlt : i < m + 1
        · have hcell := World.ownsRow.cellAt hLo i (by omega)
          rw [range_map_at _ _ _ hlt] at hcell
          have hfree := World.ownsRow.frozenAt hLo i
          have hP := World.ownsRow.stored hLo i (.bool (but (t + 1) i))
          rw [set_map_up, lostTo_up] at hP
          have hBs := hB.trans (below_of_grownAt hP.2 hB.size (Nat.le_refl _))
          have hP1 := hP.1
          have hbb : ((i : Int) != (t : Int) + 1) = but (t + 1) i := by
            rw [Bool.eq_iff_iff, bne_iff_ne]
            simp
            omega
          generalize but (t + 1) i = bb at *
          generalize lostTo (t + 1) i i = z at *
          clear hP hLo hB
          go_wp2
          go_roundw
          case rel => exact ⟨i + 1, by omega, by go_num, hP1, hBs⟩
          case measure => simp [intOf]; omega
        · have hLr : RdF wr (.slice (some ⟨w3.heap.size, 0, none⟩) (m + 1) (m + 1)) (m + 1) (fun i => .bool (but (t + 1) i)) := by
            rw [show i = m + 1 by omega] at hLo
            exact (OwL.rdM hLo).congr (lostTo_all (t + 1) (m + 1))
          obtain ⟨ad, rfl, hpc⟩ := (HP.out.old (HB23.out.trans (hB.mono hsz))).at t htlt
          have hPa := ownsRow_old HPa.out hB
          have hcell := World.ownsRow.cellAt hPa (t + 1) (by omega)
          rw [List.getElem?_replicate_of_lt (by omega)] at hcell
          have hfree := World.ownsRow.frozenAt hPa (t + 1)
          have hS := World.ownsRow.stored hPa (t + 1) (st (row (mm 1 (par 1) (mx fun _ => xs) t) xs.length))
          obtain ⟨a', ha'⟩ : ∃ a' : Nat → List El, a' = fun i => if i = t + 1 then row (mm 1 (par 1) (mx fun _ => xs) t) xs.length else [] := ⟨_, rfl⟩
          have hRa : RdF (wr.setCell ⟨w2.heap.size, t + 1, none⟩ (st (row (mm 1 (par 1) (mx fun _ => xs) t) xs.length))) (.slice (some ⟨w2.heap.size, 0, none⟩) (m + 1) (m + 1)) (m + 1) (fun i => st (a' i)) :=
            OwL.rdF hS.1 (fun i hi => by
              rw [getElem_set_rep _ _ _ _ _ hi, ha']
              dsimp only
              split <;> rfl)
          have hlt23 := (World.ownsRow.lt HPa.out w2.heap.size rfl).2
          have hRl := hLr.grown hS.2 (by simp [Value.ownBlock]; omega)
          have hBs := (HB3.out.trans ((HB23.out.trans (hB.mono hsz)).mono hsz0)).trans (below_of_grownAt hS.2 (by have := hB.size; omega) hsz0)
          have hat : at' (but (t + 1)) (1 + m) 0 = t + 1 := by
            show (ix (but (t + 1)) (1 + m)).getD 0 0 = t + 1
            rw [ix_but, if_pos (by omega)]; rfl
          have hlen : (ix (but (t + 1)) (1 + m)).length = 1 := by rw [ix_but, if_pos (by omega)]; rfl
          rw [show m + 1 = 1 + m by omega] at hRa hRl
          have D := decode_ok 1 m xs.length (by omega) (by omega) _ _ a' (but (t + 1)) _ hRa hRl (by rw [hlen]; omega) (fun i hi => by
            rw [hlen] at hi
            rw [show i = 0 by omega, hat, ha']
            dsimp only
            rw [if_pos rfl, row_length]) hx
          have HBK : Hid (∀ T, Inv 1 (fun i j => gen 1 (at' (but (t + 1)) (1 + m) i) j) T → row (mm 1 T (mx (fun i => a' (at' (but (t + 1)) (1 + m) i))) 0) xs.length = xs) := by
            intro T hT
            rw [decode_back hT (D := mx fun _ => xs) (fun i hi => by
              rw [show i = 0 by omega, hat, ha']
              dsimp only
              rw [if_pos rfl]
              exact row_congr (fun j _ => by rw [show t + 1 = 1 + t by omega, gen_parity])) 0 (by omega)]
            exact row_co xs
          rw [show 1 + m = m + 1 by omega] at D HBK
          unfold st at D hpc hBs
          generalize sb (row (mm 1 (par 1) (mx fun _ => xs) t) xs.length) = s2 at *
          clear hS hRa hRl hLr hPa hLo hB hat hlen
          go_wp2_with fail
          refine D.mono ?_
          rintro e w7 ⟨v7, T, rfl, hI, hO7, hB7⟩
          have hB8 := hBs.trans (hB7.mono (by have := hBs.size; omega))
          have hR7 := OwL.rdM hO7
          obtain ⟨a7, c7, rfl, _, _⟩ := hR7.len
          obtain ⟨ad7, rfl, hc7⟩ := hR7.at 0 (by omega)
          rw [add_zero] at hc7
          rw [HBK.out T hI] at hc7
          rw [← HS.out] at hc7
          clear D hI hO7 hB7 hBs hR7 hpc hcell hfree HBK
          go_wp2
          go_ret
          exact ⟨rfl, hB8⟩
end Go.Proofs.Ytcjokofebnfkkaa
