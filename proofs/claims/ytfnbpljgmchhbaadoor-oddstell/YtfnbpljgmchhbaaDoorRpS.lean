/- Whether a number is in a list, what is wrong with stripes, as the document says: walks. -/
import Derived.Test.YtfnbpljgmchhbaaDoorPlB
import Derived.Test.YtfnbpljgmchhbaaDoorRow2
namespace Go.Proofs.YtfnbpljgmchhbaaDoor
open Go.RowKit
theorem inI_any (v : Value) (n : Nat) (f : Nat → Int) (z : Int) (w : World) (h : RdF w v n (fun i => vi (f i))) :
    Calls Tryd.prog 13 #[v, .int .i64 z] w fun e w' => e = .returned (.bool (isIn n f z)) ∧ w' = w := by
  obtain ⟨ao, cap, rfl, hn1, hn2⟩ := h.len
  have HR : Hid (RdF w (.slice ao n cap) n (fun i => vi (f i))) := h
  clear h
  go_enter Tryd.func13, Tryd.ntmps13
  go_wp2
  go_loop [5] (fun c => ∃ k : Nat, k ≤ n ∧ c = .int .i64 k ∧ Hid (∀ i, i < k → f i ≠ z)) (fun c => n - (intOf c).toNat)
  case atStart => exact ⟨0, Nat.zero_le _, rfl, fun i hi => absurd hi (Nat.not_lt_zero _)⟩
  case round =>
    obtain ⟨k, hk, rfl, HF⟩ := hrel
    by_cases hlt : k < n
    · obtain ⟨ad, rfl, hc⟩ := HR.out.at k hlt
      unfold vi at hc
      by_cases e : f k = z
      · have HM : Hid (isIn n f z = true) := isIn_true.2 ⟨k, hlt, e⟩
        rw [e] at hc
        clear e
        go_wp2
        go_ret
        exact ⟨by rw [HM.out]; rfl, rfl⟩
      · have hne : (f k == z) = false := by rw [beq_eq_false_iff_ne]; exact e
        have HF2 : Hid (∀ i, i < k + 1 → f i ≠ z) := fun i hi => by
          by_cases ei : i = k
          · rw [ei]; exact e
          · exact HF.out i (by omega)
        clear HF
        generalize f k = y at *
        go_wp2
        go_round
        case rel => exact ⟨k + 1, by omega, by go_num, HF2⟩
        case measure => simp [intOf]; omega
    · have HM : Hid (isIn n f z = false) := isIn_false.2 (fun i hi => HF.out i (by omega))
      go_wp2
      go_ret
      exact ⟨by rw [HM.out]; rfl, rfl⟩
set_option maxRecDepth 100000 in
set_option maxHeartbeats 2000000 in
theorem stripes_any (n : Int) (v : Value) (m : Nat) (L : Nat → Nat) (F : Nat → Nat → Int) (w : World) (hr : RdII w v m L F) :
    Calls Tryd.prog 7 #[.int .i64 n, v] w fun e w' => e = .returned (.int .i64 ((stE n m L F : Nat) : Int)) ∧ Below w.heap.size w w' := by
  have HR : Hid (RdII w v m L F) := hr
  obtain ⟨ao, cap, rfl, _, _⟩ := hr.len
  clear hr
  by_cases h1 : n < 1 ∨ 10 < n
  · rw [show stE n m L F = 1 from if_pos h1]
    by_cases h2 : n < 1
    · have d1 : decide (n < 1) = true := decide_eq_true h2
      clear h1
      go_enter Tryd.func7, Tryd.ntmps7
      go_wp2
      go_ret
      exact ⟨rfl, Below.refl _ _⟩
    · have d1 : decide (n < 1) = false := decide_eq_false h2
      have h3 : 10 < n := by omega
      have d2 : decide (10 < n) = true := decide_eq_true h3
      clear h1
      go_enter Tryd.func7, Tryd.ntmps7
      go_wp2
      go_ret
      exact ⟨rfl, Below.refl _ _⟩
  · have d1 : decide (n < 1) = false := decide_eq_false (by omega)
    have d2 : decide (10 < n) = false := decide_eq_false (by omega)
    by_cases h2 : 40 < m
    · rw [show stE n m L F = 4 by unfold stE; rw [if_neg h1, if_pos h2]]
      have hm : decide ((40 : Int) < (m : Int)) = true := decide_eq_true (by omega)
      clear h1
      go_enter Tryd.func7, Tryd.ntmps7
      go_wp2
      go_ret
      exact ⟨rfl, Below.refl _ _⟩
    · have hm : decide ((40 : Int) < (m : Int)) = false := decide_eq_false (by omega)
      have HE : Hid (stE n m L F = fstE (fun i => rowE n (L i) (F i)) m) := by (show _ = _); unfold stE; rw [if_neg h1, if_neg h2]
      have hm40 : m ≤ 40 := by omega
      clear h1 h2
      go_enter Tryd.func7, Tryd.ntmps7
      go_wp2
      go_loopw [5] (fun t wr => ∃ k : Nat, k ≤ m ∧ t = .int .i64 k ∧ Hid (∀ i, i < k → rowE n (L i) (F i) = 0) ∧ Below w.heap.size w wr) (fun t _ => m - (intOf t).toNat)
      case atStart => exact ⟨0, Nat.zero_le _, rfl, fun i hi => absurd hi (Nat.not_lt_zero _), Below.refl _ _⟩
      case round =>
        obtain ⟨k, hk, rfl, HF, hB⟩ := hrel
        by_cases hlt : k < m
        · obtain ⟨ad, _, _, ar, cr, e0, hc, hrk, _⟩ := row_at HR.out hB hlt
          cases e0
          have HRK : Hid (RdF wr (.slice ar (L k) cr) (L k) (fun i => vi (F k i))) := hrk
          obtain ⟨_, _, e0, hl1, hl2⟩ := hrk.len
          cases e0
          have HB : Hid (Below w.heap.size w wr) := hB
          have hkz : (k : Int) < (m : Int) := by omega
          have HR1 : Hid (badR n (L k) (F k) = true → stE n m L F = 1) := fun q => by
            have e1 := rowE_range q
            rw [HE.out, fstE_at HF.out (by rw [e1]; omega) m hlt, e1]
          have HR7 : Hid (badR n (L k) (F k) = false → badT (L k) (F k) = true → stE n m L F = 7) := fun q1 q2 => by
            have e1 := rowE_clash q1 q2
            rw [HE.out, fstE_at HF.out (by rw [e1]; omega) m hlt, e1]
          have HF2 : Hid (badR n (L k) (F k) = false → badT (L k) (F k) = false → ∀ i, i < k + 1 → rowE n (L i) (F i) = 0) := fun q1 q2 i hi => by
            by_cases e : i = k
            · rw [e]
              unfold rowE
              rw [q1, q2, if_neg Bool.false_ne_true, if_neg Bool.false_ne_true]
            · exact HF.out i (by omega)
          clear hrk hB HF
          generalize L k = lk at *
          generalize F k = f at *
          go_wp2
          go_loop [6] (fun c => ∃ j : Nat, j ≤ lk ∧ c = .int .i64 j ∧ Hid (∀ i, i < j → noDk n (f i) = false)) (fun c => lk - (intOf c).toNat)
          case atStart => exact ⟨0, Nat.zero_le _, rfl, fun i hi => absurd hi (Nat.not_lt_zero _)⟩
          case round =>
            obtain ⟨j, hj, rfl, HN⟩ := hrel
            by_cases hjl : j < lk
            · obtain ⟨ar', rfl, hcj⟩ := HRK.out.at j hjl
              unfold vi at hcj
              have hjz : (j : Int) < (lk : Int) := by omega
              have HJ : Hid (noDk n (f j) = noDk n (f j)) := rfl
              cases hb : noDk n (f j) with
              | true =>
                have HZ : Hid (stE n m L F = 1) := HR1.out (anyB_true.2 ⟨j, hjl, hb⟩)
                have hb' := noDk_true.1 hb
                clear hb HJ
                generalize f j = y at *
                by_cases hy : y < 0
                · have dy : decide (y < 0) = true := decide_eq_true hy
                  clear hb'
                  go_wp2
                  go_ret
                  exact ⟨by rw [HZ.out]; rfl, HB.out⟩
                · have dy : decide (y < 0) = false := decide_eq_false hy
                  have hy2 : n ≤ y := by omega
                  have dy2 : decide (n ≤ y) = true := decide_eq_true hy2
                  clear hb'
                  go_wp2
                  go_ret
                  exact ⟨by rw [HZ.out]; rfl, HB.out⟩
              | false =>
                have HN2 : Hid (∀ i, i < j + 1 → noDk n (f i) = false) := fun i hi => by
                  by_cases e : i = j
                  · rw [e]; exact hb
                  · exact HN.out i (by omega)
                have hb' := noDk_false.1 hb
                clear hb HJ HN
                generalize f j = y at *
                have dy : decide (y < 0) = false := decide_eq_false (by omega)
                have dy2 : decide (n ≤ y) = false := decide_eq_false (by omega)
                clear hb'
                go_wp2
                go_round
                case rel => exact ⟨j + 1, by omega, by go_num, HN2⟩
                case measure => simp [intOf]; omega
            · have hjz : ¬ (j : Int) < (lk : Int) := by omega
              have HBR : Hid (badR n lk f = false) := anyB_false.2 (fun i hi => HN.out i (by omega))
              clear HN
              go_wp2
              obtain ⟨w0, hw0⟩ : ∃ w0, w0 = wr := ⟨_, rfl⟩
              rw [← hw0] at HB HRK hc ⊢
              clear hw0
              go_loopw [7] (fun c wq => ∃ j : Nat, j ≤ lk ∧ c = .int .i64 j ∧ Hid (∀ i, i < j → isIn i f (f i) = false) ∧ ∃ q, wq = w0.drewN q) (fun c _ => lk - (intOf c).toNat)
              case atStart => exact ⟨0, Nat.zero_le _, rfl, fun i hi => absurd hi (Nat.not_lt_zero _), 0, rfl⟩
              case round =>
                obtain ⟨t, ht, rfl, HN, hq⟩ := hrel
                have hBq : Below w0.heap.size w0 wr := by obtain ⟨q, rfl⟩ := hq; exact below_drewN (Below.refl _ _) q
                have hcq := (hBq.cell (World.block_lt_of_cell? w0 _ hc)).trans hc
                have HBq : Hid (Below w.heap.size w wr) := by obtain ⟨q, rfl⟩ := hq; exact below_drewN HB.out q
                by_cases htl : t < lk
                · have hrq := HRK.out.old hBq
                  obtain ⟨ar', rfl, hct⟩ := hrq.at t htl
                  unfold vi at hct
                  have htz : (t : Int) < (lk : Int) := by omega
                  have htz2 : (t : Int) ≤ (lk : Int) := by omega
                  have C : ∀ n, Calls Tryd.prog 13 #[.slice (some ar') t cr, .int .i64 (f t)] (wr.drewN n) fun e w' => e = .returned (.bool (isIn t f (f t))) ∧ w' = wr.drewN n := fun n => inI_any _ t f (f t) _ ((hrq.cut (by omega)).old (below_drewN (Below.refl _ _) n))
                  have HQ : Hid (∀ n, ∃ q, wr.drewN n = w0.drewN q) := fun n => drewN_more hq n
                  obtain ⟨b, hb⟩ : ∃ b, b = isIn t f (f t) := ⟨_, rfl⟩
                  rw [← hb] at C
                  have HT : Hid (b = isIn t f (f t)) := hb
                  obtain ⟨y, hy⟩ : ∃ y, y = f t := ⟨_, rfl⟩
                  rw [← hy] at C hct
                  clear hb hy hBq hrq hq
                  cases b with
                  | true =>
                    have HZ : Hid (stE n m L F = 7) := HR7.out HBR.out (anyB_true.2 ⟨t, htl, HT.out.symm⟩)
                    go_wp2
                    go_quiet ((go_at_call 13; exact Calls.quiet_of_same (C _)))
                    have HB2 : Hid (Below w.heap.size w (wr.drewN nq)) := below_drewN HBq.out nq
                    clear C HQ
                    go_wp2
                    go_ret
                    exact ⟨by rw [HZ.out]; rfl, HB2.out⟩
                  | false =>
                    have HN2 : Hid (∀ i, i < t + 1 → isIn i f (f i) = false) := fun i hi => by
                      by_cases e : i = t
                      · rw [e]; exact HT.out.symm
                      · exact HN.out i (by omega)
                    go_wp2
                    go_quiet ((go_at_call 13; exact Calls.quiet_of_same (C _)))
                    have HQ2 : Hid (∃ q, wr.drewN nq = w0.drewN q) := HQ.out nq
                    clear C HQ HN HT hct hcq
                    go_wp2
                    go_roundw
                    case rel => exact ⟨t + 1, by omega, by go_num, HN2, HQ2.out⟩
                    case measure => simp [intOf]; omega
                · have htz : ¬ (t : Int) < (lk : Int) := by omega
                  have HX : Hid (∀ i, i < k + 1 → rowE n (L i) (F i) = 0) := HF2.out HBR.out (anyB_false.2 (fun i hi => HN.out i (by omega)))
                  clear hq hBq
                  go_wp2
                  go_roundw
                  case rel => exact ⟨k + 1, by omega, by go_num, HX, HBq.out⟩
                  case measure => simp [intOf]; omega
        · have hkz : ¬ (k : Int) < (m : Int) := by omega
          have HZ : Hid (stE n m L F = 0) := by
            (show _ = _)
            rw [HE.out, fstE_zero]
            exact fun i hi => HF.out i (by omega)
          go_wp2
          go_ret
          exact ⟨by rw [HZ.out]; rfl, hB⟩
end Go.Proofs.YtfnbpljgmchhbaaDoor
