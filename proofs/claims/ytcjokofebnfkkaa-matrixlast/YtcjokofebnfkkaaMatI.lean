/- What matrix.withIdentity and Inverse answer, whatever lists of bytes they are given: by walks over the program. -/
import Derived.Test.YtcjokofebnfkkaaMatHo
namespace Go.Proofs.Ytcjokofebnfkkaa
open Go.ChangeShapes Go.WideShapes Go.ChangeAt Go.RowKit El Pol Mx
/-- the first k rows stand beside the identity -/
def wide (A : M) (n k : Nat) : M := fun i j => if i < k then beside n A i j else 0
theorem wide_up (A : M) (n k : Nat) : up (wide A n k) k (beside n A k) = wide A n (k + 1) := by
  funext i j
  unfold up wide
  by_cases e : i = k
  · subst e; rw [if_pos rfl, if_pos (by omega)]
  · rw [if_neg e]
    by_cases h : i < k
    · rw [if_pos h, if_pos (by omega)]
    · rw [if_neg h, if_neg (by omega)]
/-- a row, noughts behind it -/
def halff (f : Nat → El) (n : Nat) : Nat → El := fun j => if j < n then f j else 0
theorem half_row (f g : Nat → El) (n : Nat) (hg : ∀ j, g j = 0) : row f n ++ (row g (n + n)).drop (row f n).length = row (halff f n) (n + n) := by
  apply List.ext_getElem (by simp [row])
  intro i h1 h2
  rw [List.getElem_append]
  split
  · rename_i h
    have hi : i < n := by rw [row_length] at h; exact h
    simp [row, halff, hi]
  · rename_i h
    have hi : ¬ i < n := by rw [row_length] at h; exact h
    simp [row, halff, hg, hi]
theorem half_set (A : M) (n k : Nat) : (row (halff (A k) n) (n + n)).set (n + k) 1 = row (beside n A k) (n + n) := by
  refine row_set _ _ (n + n) (n + k) 1 (fun j hj => ?_) ?_
  · unfold halff beside one
    by_cases h : j < n
    · rw [if_pos h, if_pos h]
    · rw [if_neg h, if_neg h, if_neg (by omega)]
  · unfold beside one; rw [if_neg (by omega), if_pos (by omega)]
set_option maxRecDepth 100000 in
set_option maxHeartbeats 1000000 in
theorem wide_any (v : Value) (n : Nat) (A : M) (w : World) (h : Mt w v n n A) :
    Calls Try.prog 34 #[v] w fun e w' => ∃ rv, e = .returned (.slice (some ⟨w.heap.size, 0, none⟩) n n) ∧ OwM w.heap.size w' (.slice (some ⟨w.heap.size, 0, none⟩) n n) n (rws (beside n A) (n + n)) rv ∧ Below w.heap.size w w' := by
  have HM : Hid (Mt w v n n A) := h
  have hp := h.hp
  obtain ⟨ao, cap, rfl, _, _⟩ := h.rd.len
  clear h
  go_enter Try.func34, Try.ntmps34
  go_wp2_with fail
  rw [show (2 * (n : Int)) = ((n + n : Nat) : Int) by omega]
  refine (noughts_any n (n + n) w (by omega) (by omega)).mono ?_
  rintro e w2 ⟨rv0, rfl, hN, hB2⟩
  go_wp2
  go_loopw [15] (fun t wr => ∃ k : Nat, k ≤ n ∧ t = .int .i64 k ∧ OwM w.heap.size wr (.slice (some ⟨w.heap.size, 0, none⟩) n n) n (rws (wide A n k) (n + n)) rv0 ∧ Below w.heap.size w wr) (fun t _ => n - (intOf t).toNat)
  case atStart => exact ⟨0, Nat.zero_le _, rfl, hN.congr (fun i _ => row_congr (fun j _ => by unfold wide; rw [if_neg (by omega)])), hB2⟩
  case round =>
    clear hN hB2
    obtain ⟨k, hk, rfl, hN, hB⟩ := hrel
    by_cases hlt : k < n
    · obtain ⟨ad, av, cv, rfl, hcell, hrd⟩ := (HM.out.rd.old hB).some k hlt
      rw [row_length] at hcell hrd
      have hcell2 := hN.cell k hlt
      have hrow := hN.row k hlt
      obtain ⟨gk, ck, ek, _, _, _, _⟩ := hrow.at (ne_nil_row _ (by omega))
      rw [row_length] at ek
      obtain ⟨w3, hrun, h1, h2⟩ := run_copy_ow (P := Try.prog) 22 22 3 Try.underlying22 size8 _ _ w.heap.size _ _ hrow hrd (by rw [row_length, row_length]; omega)
      rw [row_length] at hrun
      rw [half_row _ _ _ (fun j => by unfold wide; rw [if_neg (by omega)])] at h1
      have hN3 := hN.turned k hlt h2 h1
      rw [rws_up] at hN3
      have hB3 := hB.trans (hN.below hB.size k hlt h2)
      have hcell3 := hN3.cell k hlt
      have h1' := h1
      rw [ek] at h1' hcell3 hcell2 hrun
      have hst := h1'.stored (by rw [row_length]) (n + k) 1
      rw [half_set] at hst
      have hc4 := h1'.cell (by rw [row_length]) (n + k) (by omega)
      have hf4 := h1'.free (by rw [row_length]) (n + k)
      have hN4 := hN3.turned k hlt (by rw [ek]; exact hst.2) (by rw [ek]; exact hst.1)
      have hB4 := hB3.trans (hN3.below hB3.size k hlt (w' := w3.setCell ⟨gk, n + k, none⟩ (.int .u8 (((1 : El).val : Nat) : Int))) (by rw [ek]; exact hst.2))
      rw [rws_up, show up (up (wide A n k) k (halff (A k) n)) k (beside n A k) = wide A n (k + 1) from by
        rw [← wide_up]; funext i; unfold up; by_cases e : i = k
        · rw [if_pos e, if_pos e]
        · rw [if_neg e, if_neg e, if_neg e]] at hN4
      generalize co (row (halff (A k) n) (n + n)) (n + k) = old at *
      clear hN hB h1 h1' h2 hN3 hB3 hst ek hrd hrow
      go_wp2
      go_roundw
      case rel => exact ⟨k + 1, by omega, by go_num, hN4, hB4⟩
      case measure => simp [intOf]; omega
    · have hF : OwM w.heap.size wr (.slice (some ⟨w.heap.size, 0, none⟩) n n) n (rws (beside n A) (n + n)) rv0 := hN.congr (fun i hi => row_congr (fun j _ => by unfold wide; rw [if_pos (by omega)]))
      clear hN
      go_wp2
      go_ret
      exact ⟨_, rfl, hF, hB⟩
set_option maxHeartbeats 400000 in
theorem inverse_bad (v : Value) (n k : Nat) (R : Nat → List El) (w : World) (h : RdM w v n R) (hk : Go.Proofs.Ytcjokofebnfkkaa.bad n R = k) (h0 : k ≠ 0) :
    Calls Try.prog 16 #[v] w fun e w' => e = .returned (.tuple #[.slice none 0 0, .iface 53 (.int .i64 k)]) ∧ Below w.heap.size w w' := by
  have C := check_bad h hk h0
  obtain ⟨ao, cap, rfl, _, _⟩ := h.len
  clear h hk
  go_enter Try.func16, Try.ntmps16
  go_wp2_with fail
  refine C.mono ?_
  rintro e w1 ⟨rfl, hB⟩
  clear C
  go_wp2
  go_ret2
  exact ⟨rfl, hB⟩
set_option maxHeartbeats 400000 in
theorem inverse_shape (v : Value) (p q : Nat) (A : M) (w : World) (h : Mt w v p q A) (hs : p = 0 ∨ q ≠ p) :
    Calls Try.prog 16 #[v] w fun e w' => e = .returned (.tuple #[.slice none 0 0, eshape]) ∧ Below w.heap.size w w' := by
  have C := check_ok h
  have HM : Hid (Mt w v p q A) := h
  have hp := h.hp
  have hq := h.hq
  obtain ⟨ao, cap, rfl, _, _⟩ := h.rd.len
  clear h
  by_cases h0 : p = 0
  · subst h0
    go_enter Try.func16, Try.ntmps16
    go_wp2_with fail
    refine C.mono ?_
    rintro e w1 ⟨rfl, hB⟩
    clear C
    go_wp2
    go_ret2
    exact ⟨rfl, hB⟩
  · have hz : ((p : Int) == 0) = false := by rw [beq_eq_false_iff_ne]; omega
    have hn : ((q : Int) != (p : Int)) = true := by rw [bne_iff_ne]; omega
    clear hs
    go_enter Try.func16, Try.ntmps16
    go_wp2_with fail
    refine C.mono ?_
    rintro e w1 ⟨rfl, hB⟩
    clear C
    go_wp2_with fail
    refine (width_ok (HM.out.old hB)).mono ?_
    rintro e w2 ⟨rfl, hw⟩
    obtain rfl := hw.symm
    go_wp2
    go_ret2
    exact ⟨rfl, hB⟩
theorem Rd.drop {w : World} {g q cap n : Nat} {f : Nat → El} (h : Rd w (.slice (Option.some ⟨g, 0, none⟩) q cap) (row f q)) (hn : n < q) : Rd w (.slice (Option.some ⟨g, n, none⟩) (q - n) (cap - n)) (row (fun j => f (n + j)) (q - n)) := by
  rcases h with ⟨e, _⟩ | ⟨ad', cap', e, h1, h2, h3⟩
  · cases e
  · simp only [Value.slice.injEq, Option.some.injEq] at e
    obtain ⟨rfl, _, rfl⟩ := e
    rw [row_length] at h1 h3
    refine .inr ⟨⟨g, n, none⟩, cap - n, by rw [row_length], by rw [row_length]; omega, by omega, fun i hi => ?_⟩
    rw [row_length] at hi
    have := h3 (n + i) (by omega)
    rw [co_row_lt _ (by omega), add_off, Nat.zero_add] at this
    rw [co_row_lt _ hi, add_off]
    exact this
set_option maxRecDepth 100000 in
set_option maxHeartbeats 1000000 in
theorem inverse_ok (v : Value) (n : Nat) (A : M) (w : World) (h : Mt w v n n A) (h0 : n ≠ 0) :
    Calls Try.prog 16 #[v] w fun e w' => (∃ (v' : Value) (T : M) (rv : Nat → Value), e = .returned (.tuple #[v', .nilIface]) ∧ Inv n A T ∧ OwM w.heap.size w' v' n (rws T n) rv ∧ Below w.heap.size w w') ∨ (e = .returned (.tuple #[.slice none 0 0, enone]) ∧ Sing n A ∧ Below w.heap.size w w') := by
  have C := check_ok h
  have HM : Hid (Mt w v n n A) := h
  have hp := h.hp
  obtain ⟨ao, cap, rfl, _, _⟩ := h.rd.len
  clear h
  have hz : ((n : Int) == 0) = false := by rw [beq_eq_false_iff_ne]; omega
  go_enter Try.func16, Try.ntmps16
  go_wp2_with fail
  refine C.mono ?_
  rintro e w1 ⟨rfl, hB1⟩
  clear C
  have hs1 := hB1.size
  go_wp2_with fail
  refine (width_ok (HM.out.old hB1)).mono ?_
  rintro e w2 ⟨rfl, hw⟩
  obtain rfl := hw.symm
  go_wp2_with fail
  refine (wide_any _ n A _ (HM.out.old hB1)).mono ?_
  rintro e w2 ⟨rv0, rfl, hN, hB2⟩
  have hB2' := hB1.trans (hB2.mono hs1)
  have hs2 := hB2.size
  clear hB2 hB1
  go_wp2_with fail
  refine (reduce_any w1.heap.size w1.heap.size n (n + n) n (beside n A) rv0 w2 (by omega) (by omega) (by omega) hs2 hN).mono ?_
  rintro e w3 ⟨r, R, piv, rv, rfl, hG, hR, hB3⟩
  have hB3' := hB2'.trans (hB3.mono hs1)
  have hs3 := hB3.size
  clear hN hB2' hB3
  by_cases hrn : r < n
  · have HS : Hid (Sing n A) := gj_none hG hrn
    clear hG hR
    go_wp2
    go_ret2
    exact .inr ⟨rfl, HS.out, hB3'⟩
  · have hre : r = n := by have := hG.rp; omega
    rw [hre] at hG
    have HI : Hid (Inv n A (fun i j => R i (n + j))) := gj_inv hG
    have hlt0 : ¬ ((r : Int) < (n : Int)) := by omega
    clear hG hre hrn
    go_wp2_with fail
    refine (noughts_any n n w3 (by omega) (by omega)).mono ?_
    rintro e w4 ⟨rv4, rfl, hN, hB4⟩
    have HR : Hid (OwM w1.heap.size w3 (.slice (some ⟨w1.heap.size, 0, none⟩) n n) n (rws R (n + n)) rv) := hR
    have hs0 := hB3'.size
    clear hR hlt0
    go_wp2
    go_loopw [39] (fun t wr => ∃ k : Nat, k ≤ n ∧ t = .int .i64 k ∧ OwM w3.heap.size wr (.slice (some ⟨w3.heap.size, 0, none⟩) n n) n (rws (first (fun i j => R i (n + j)) k) n) rv4 ∧ Below w3.heap.size w3 wr) (fun t _ => n - (intOf t).toNat)
    case atStart => exact ⟨0, Nat.zero_le _, rfl, hN.congr (fun i _ => row_congr (fun j _ => by unfold first; rw [if_neg (by omega)])), hB4⟩
    case round =>
      clear hN hB4
      obtain ⟨k, hk, rfl, hN, hB⟩ := hrel
      by_cases hlt : k < n
      · have hW := HR.out.old hB
        have hcell := hW.cell k hlt
        have hwr := hW.row k hlt
        obtain ⟨gk, ck, ek, _, _, hck, hck2⟩ := hwr.at (ne_nil_row _ (by omega))
        rw [row_length] at ek hck
        have hwr2 := hwr
        rw [ek] at hcell hwr2
        have hcell2 := hN.cell k hlt
        have hrow := hN.row k hlt
        obtain ⟨a4, c4, e4, _, _⟩ := hrow.rd.len
        rw [row_length] at e4
        have hdr : Below wr.heap.size wr wr.drew := ⟨rfl, rfl, rfl, Nat.le_refl _, fun _ _ => rfl⟩
        have hsrc := (hwr2.rd.old hdr).drop (n := n) (by omega)
        rw [show n + n - n = n by omega] at hsrc
        have hrowd := hrow.old hdr
        have hNd := hN.old hdr
        have hBd := hB.trans (hdr.mono hB.size)
        obtain ⟨w5, hrun, h1, h2⟩ := run_copy_ow (P := Try.prog) 22 22 3 Try.underlying22 size8 _ _ w3.heap.size _ _ hrowd hsrc (by rw [row_length, row_length]; exact Nat.le_refl _)
        rw [row_length] at hrun
        rw [drop_all] at h1
        have hN5 := hNd.turned k hlt h2 h1
        have hB5 := hBd.trans (hNd.below hBd.size k hlt h2)
        rw [rws_up, first_up] at hN5
        rw [e4] at hrun hcell2
        clear hW hwr hwr2 hrow hdr hsrc hrowd hNd hBd h1 h2 ek e4 hN hB
        have hnn : ((n + n : Nat) : Int) = (n : Int) + (n : Int) := by omega
        go_wp2
        go_region
        all_goals
          clear hrun hcell hcell2
          go_wp2
          go_roundw
          case rel => exact ⟨k + 1, by omega, by go_num, hN5, hB5⟩
          case measure => simp [intOf]; omega
      · have hF : OwM w.heap.size wr (.slice (some ⟨w3.heap.size, 0, none⟩) n n) n (rws (fun i j => R i (n + j)) n) rv4 := (hN.congr (fun i hi => row_congr (fun j _ => by unfold first; rw [if_pos (by omega)]))).mono hs0
        have hB6 := hB3'.trans (hB.mono hs0)
        clear hN
        go_wp2
        go_ret2
        exact .inl ⟨_, _, _, rfl, HI.out, hF, hB6⟩
end Go.Proofs.Ytcjokofebnfkkaa
