/- What matrix.Rank answers, whatever lists of bytes it is given: by walks over the program. -/
import Derived.Test.YtpodboklhajbeaaDoorMt
namespace Go.Proofs.YtpodboklhajbeaaDoor
open Go.ChangeShapes Go.WideShapes Go.ChangeAt Go.RowKit El Pol Mx
set_option maxHeartbeats 400000 in
theorem rank_bad (v : Value) (n k : Nat) (R : Nat → List El) (w : World) (h : RdM w v n R) (hk : Go.Proofs.YtpodboklhajbeaaDoor.bad n R = k) (h0 : k ≠ 0) :
    Calls Tryd.prog 14 #[v] w fun e w' => e = .returned (.tuple #[.int .i64 0, .iface 61 (.int .i64 k)]) ∧ Below w.heap.size w w' := by
  have C := check_bad h hk h0
  obtain ⟨ao, cap, rfl, _, _⟩ := h.len
  clear h hk
  go_enter Tryd.func14, Tryd.ntmps14
  go_wp2_with fail
  refine C.mono ?_
  rintro e w1 ⟨rfl, hB⟩
  clear C
  go_wp2
  go_ret2
  exact ⟨rfl, hB⟩
set_option maxRecDepth 100000 in
set_option maxHeartbeats 1000000 in
theorem rank_ok (v : Value) (p q : Nat) (A : M) (w : World) (h : Mt w v p q A) :
    Calls Tryd.prog 14 #[v] w fun e w' => ∃ r : Nat, e = .returned (.tuple #[.int .i64 r, .nilIface]) ∧ Rk p q A r ∧ Below w.heap.size w w' := by
  have C := check_ok h
  have HM : Hid (Mt w v p q A) := h
  have hp := h.hp
  have hq := h.hq
  obtain ⟨ao, cap, rfl, _, _⟩ := h.rd.len
  clear h
  go_enter Tryd.func14, Tryd.ntmps14
  go_wp2_with fail
  refine C.mono ?_
  rintro e w1 ⟨rfl, hB1⟩
  clear C
  go_wp2_with fail
  refine (width_ok (HM.out.old hB1)).mono ?_
  rintro e w2 ⟨rfl, hw⟩
  obtain rfl := hw.symm
  go_wp2_with fail
  refine (noughts_any p q w1 (by omega) (by omega)).mono ?_
  rintro e w2 ⟨rv0, rfl, hN, hB2⟩
  have hB2' := hB1.trans (hB2.mono hB1.size)
  have hs1 := hB1.size
  have hg1 := hN.lt.2
  clear hB1 hB2
  go_wp2
  go_loopw [20] (fun t wr => ∃ k : Nat, k ≤ p ∧ t = .int .i64 k ∧ OwM w1.heap.size wr (.slice (some ⟨w1.heap.size, 0, none⟩) p p) p (rws (first A k) q) rv0 ∧ Below w.heap.size w wr ∧ w1.heap.size ≤ wr.heap.size) (fun t _ => p - (intOf t).toNat)
  case atStart => exact ⟨0, Nat.zero_le _, rfl, hN.congr (fun i _ => row_congr (fun j _ => by unfold first; rw [if_neg (by omega)])), hB2', by omega⟩
  case round =>
    clear hN hB2' hg1
    obtain ⟨k, hk, rfl, hN, hB, hsz⟩ := hrel
    by_cases hlt : k < p
    · obtain ⟨ad, av, cv, rfl, hcell, hrd⟩ := (HM.out.rd.old hB).some k hlt
      rw [row_length] at hcell hrd
      have hcell2 := hN.cell k hlt
      have hrow := hN.row k hlt
      obtain ⟨a2, c2, e2, _, _⟩ := hrow.rd.len
      rw [row_length] at e2
      have hT : Hid (∀ w', Ow w1.heap.size w' (rv0 k) (row (A k) q) → wr.grownBy w' (rv0 k).ownBlock → OwM w1.heap.size w' (.slice (some ⟨w1.heap.size, 0, none⟩) p p) p (rws (first A (k + 1)) q) rv0 ∧ Below w.heap.size w w' ∧ w1.heap.size ≤ w'.heap.size) := by
        intro w' h1 h2
        have h3 := hN.turned k hlt h2 h1
        rw [rws_up, first_up] at h3
        have h4 := hN.below hsz k hlt h2
        exact ⟨h3, hB.trans (h4.mono hs1), Nat.le_trans hsz h4.size⟩
      rw [e2] at hcell2 hrow hT
      clear hN hB e2
      obtain ⟨w3, hrun, h1, h2⟩ := run_copy_ow (P := Tryd.prog) 23 23 3 Tryd.underlying23 size8 _ _ w1.heap.size _ _ hrow hrd (by rw [row_length, row_length]; exact Nat.le_refl _)
      rw [row_length] at hrun
      rw [drop_all] at h1
      have h3 := hT.out w3 h1 h2
      have hN3 := h3.1
      have hB3 := h3.2.1
      have hS3 := h3.2.2
      clear hT h1 h2 h3 hrd hrow
      go_wp2
      go_roundw
      case rel => exact ⟨k + 1, by omega, by go_num, hN3, hB3, hS3⟩
      case measure => simp [intOf]; omega
    · have hF : OwM w1.heap.size wr (.slice (some ⟨w1.heap.size, 0, none⟩) p p) p (rws A q) rv0 := hN.congr (fun i hi => row_congr (fun j _ => by unfold first; rw [if_pos (by omega)]))
      clear hN
      go_wp2_with fail
      refine (width_ok (HM.out.old hB)).mono ?_
      rintro e w2 ⟨rfl, hw⟩
      obtain rfl := hw.symm
      go_wp2_with fail
      refine (reduce_any w1.heap.size w1.heap.size p q q A rv0 wr (by omega) (by omega) (Nat.le_refl _) hsz hF).mono ?_
      rintro e w3 ⟨r, R, piv, rv, rfl, hG, _, hB3⟩
      have HR : Hid (Rk p q A r) := gj_end hG
      have hB3' := hB.trans (hB3.mono hs1)
      clear hG hB3 hB hF
      go_wp2
      go_ret2
      exact ⟨_, rfl, HR.out, hB3'⟩
end Go.Proofs.YtpodboklhajbeaaDoor
