/- What matrix.Mul answers, whatever lists of bytes it is given: by walks over the program. -/
import Derived.Test.YtpodboklhajbeaaDoorMt
import Derived.Test.YtpodboklhajbeaaDoorMatH
namespace Go.Proofs.YtpodboklhajbeaaDoor
open Go.ChangeShapes Go.WideShapes Go.ChangeAt Go.RowKit El Pol Mx
set_option maxHeartbeats 400000 in
theorem mul_bad1 (u v : Value) (n k : Nat) (R : Nat → List El) (w : World) (h : RdM w u n R) (hk : Go.Proofs.YtpodboklhajbeaaDoor.bad n R = k) (h0 : k ≠ 0) (hv : ∃ a m c, v = .slice a m c) :
    Calls Tryd.prog 9 #[u, v] w fun e w' => e = .returned (.tuple #[.slice none 0 0, .iface 61 (.int .i64 k)]) ∧ Below w.heap.size w w' := by
  have C := check_bad h hk h0
  obtain ⟨ao, cap, rfl, _, _⟩ := h.len
  obtain ⟨a2, m2, c2, rfl⟩ := hv
  clear h hk
  go_enter Tryd.func9, Tryd.ntmps9
  go_wp2_with fail
  refine C.mono ?_
  rintro e w1 ⟨rfl, hB⟩
  clear C
  go_wp2
  go_ret2
  exact ⟨rfl, hB⟩
set_option maxHeartbeats 400000 in
theorem mul_bad2 (u v : Value) (p q m k : Nat) (A : M) (R : Nat → List El) (w : World) (h : Mt w u p q A) (hv : RdM w v m R) (hk : Go.Proofs.YtpodboklhajbeaaDoor.bad m R = k) (h0 : k ≠ 0) :
    Calls Tryd.prog 9 #[u, v] w fun e w' => e = .returned (.tuple #[.slice none 0 0, .iface 61 (.int .i64 k)]) ∧ Below w.heap.size w w' := by
  have C := check_ok h
  have HV : Hid (RdM w v m R) := hv
  obtain ⟨ao, cap, rfl, _, _⟩ := h.rd.len
  obtain ⟨a2, c2, rfl, _, _⟩ := hv.len
  clear h hv
  go_enter Tryd.func9, Tryd.ntmps9
  go_wp2_with fail
  refine C.mono ?_
  rintro e w1 ⟨rfl, hB⟩
  clear C
  go_wp2_with fail
  refine (check_bad (HV.out.old hB) hk h0).mono ?_
  rintro e w2 ⟨rfl, hB2⟩
  have hB' := hB.trans (hB2.mono hB.size)
  clear hB hB2 HV hk
  go_wp2
  go_ret2
  exact ⟨rfl, hB'⟩
set_option maxHeartbeats 400000 in
theorem mul_shape (u v : Value) (p q m s : Nat) (A T : M) (w : World) (h : Mt w u p q A) (hv : Mt w v m s T) (h0 : p ≠ 0) (hne : q ≠ m) :
    Calls Tryd.prog 9 #[u, v] w fun e w' => e = .returned (.tuple #[.slice none 0 0, eshape]) ∧ Below w.heap.size w w' := by
  have C := check_ok h
  have HU : Hid (Mt w u p q A) := h
  have HV : Hid (Mt w v m s T) := hv
  have hp := h.hp
  have hq := h.hq
  have hm := hv.hp
  have hs := hv.hq
  obtain ⟨ao, cap, rfl, _, _⟩ := h.rd.len
  obtain ⟨a2, c2, rfl, _, _⟩ := hv.rd.len
  clear h hv
  go_enter Tryd.func9, Tryd.ntmps9
  go_wp2_with fail
  refine C.mono ?_
  rintro e w1 ⟨rfl, hB⟩
  clear C
  go_wp2_with fail
  refine (check_ok (HV.out.old hB)).mono ?_
  rintro e w2 ⟨rfl, hB2⟩
  have hB' := hB.trans (hB2.mono hB.size)
  clear hB hB2
  have N := notof_any _ p _ m w2 (HU.out.old hB').rd (by omega)
  rw [anyB_true.2 ⟨0, by omega, by rw [row_length]; exact decide_eq_true hne⟩] at N
  go_wp2_with fail
  refine N.mono ?_
  rintro e w3 ⟨rfl, hB3⟩
  have hB3' := hB'.trans (hB3.mono hB'.size)
  clear hB' hB3 N
  go_wp2
  go_ret2
  exact ⟨rfl, hB3'⟩
/-- the first k rows are those of the product; of row k, the first l places of the middle are taken -/
def prodTo (A T : M) (q k l : Nat) : M := fun i j => if i < k then mm q A T i j else if i = k then sm l (fun x => ti (A i x) (T x j)) else 0
theorem prodTo_start (A T : M) (q : Nat) (i j : Nat) : prodTo A T q 0 0 i j = 0 := by
  unfold prodTo
  rw [if_neg (by omega)]
  split <;> rfl
theorem prodTo_next (A T : M) (q k i j : Nat) : prodTo A T q k q i j = prodTo A T q (k + 1) 0 i j := by
  unfold prodTo
  by_cases h : i < k
  · rw [if_pos h, if_pos (by omega)]
  · rw [if_neg h]
    by_cases e : i = k
    · rw [if_pos e, if_pos (by omega)]; rfl
    · rw [if_neg e, if_neg (by omega)]
      split <;> rfl
theorem prodTo_at (A T : M) (q k l j : Nat) : prodTo A T q k l k j = sm l (fun x => ti (A k x) (T x j)) := by
  unfold prodTo; rw [if_neg (by omega), if_pos rfl]
theorem prodTo_up (A T : M) (q k l : Nat) : up (prodTo A T q k l) k (fun j => pl (sm l (fun x => ti (A k x) (T x j))) (ti (T l j) (A k l))) = prodTo A T q k (l + 1) := by
  funext i j
  unfold up prodTo
  by_cases e : i = k
  · subst e
    rw [if_pos rfl, if_neg (by omega), if_pos rfl, sm, ti_comm (T l j)]
  · rw [if_neg e]
    by_cases h : i < k
    · rw [if_pos h, if_pos h]
    · rw [if_neg h, if_neg h, if_neg e, if_neg e]
set_option maxRecDepth 100000 in
set_option maxHeartbeats 2000000 in
theorem mul_mt (u v : Value) (p q m s : Nat) (A T : M) (w : World) (h : Mt w u p q A) (hv : Mt w v m s T) (h0 : p = 0 ∨ q = m) :
    Calls Tryd.prog 9 #[u, v] w fun e w' => ∃ (v' : Value) (rv : Nat → Value), e = .returned (.tuple #[v', .nilIface]) ∧ OwM w.heap.size w' v' p (rws (mm q A T) s) rv ∧ Below w.heap.size w w' := by
  have C := check_ok h
  have HU : Hid (Mt w u p q A) := h
  have HV : Hid (Mt w v m s T) := hv
  have hp := h.hp
  have hq := h.hq
  have hm := hv.hp
  have hs := hv.hq
  obtain ⟨ao, cap, rfl, _, _⟩ := h.rd.len
  obtain ⟨a2, c2, rfl, _, _⟩ := hv.rd.len
  clear h hv
  go_enter Tryd.func9, Tryd.ntmps9
  go_wp2_with fail
  refine C.mono ?_
  rintro e w1 ⟨rfl, hB⟩
  clear C
  go_wp2_with fail
  refine (check_ok (HV.out.old hB)).mono ?_
  rintro e w2 ⟨rfl, hB2⟩
  have hB' := hB.trans (hB2.mono hB.size)
  clear hB hB2
  have N := notof_any _ p _ m w2 (HU.out.old hB').rd (by omega)
  rw [anyB_false.2 (fun i hi => by rw [row_length]; exact decide_eq_false (by omega))] at N
  go_wp2_with fail
  refine N.mono ?_
  rintro e w3 ⟨rfl, hB3⟩
  have hB3' := hB'.trans (hB3.mono hB'.size)
  have hs3 := hB3'.size
  clear hB' hB3 N
  go_wp2_with fail
  refine (width_ok (HV.out.old hB3')).mono ?_
  rintro e w4 ⟨rfl, hw⟩
  obtain rfl := hw.symm
  go_wp2_with fail
  refine (noughts_any p s w3 (by omega) (by omega)).mono ?_
  rintro e w4 ⟨rv, rfl, hN, hB4⟩
  have HB3 : Hid (Below w.heap.size w w3) := hB3'
  clear hB3'
  go_wp2
  go_loopw [35] (fun t wr => ∃ k : Nat, k ≤ p ∧ t = .int .i64 k ∧ OwM w3.heap.size wr (.slice (some ⟨w3.heap.size, 0, none⟩) p p) p (rws (prodTo A T q k 0) s) rv ∧ Below w3.heap.size w3 wr) (fun t _ => p - (intOf t).toNat)
  case atStart => exact ⟨0, Nat.zero_le _, rfl, hN.congr (fun i _ => row_congr (fun j _ => (prodTo_start A T q i j).symm)), hB4⟩
  case round =>
    clear hN hB4
    obtain ⟨k, hk, rfl, hN, hB⟩ := hrel
    by_cases hlt : k < p
    · have hqm : q = m := by omega
      obtain ⟨ad, av, cv, rfl, hcell3, hrd⟩ := (HU.out.rd.old HB3.out).some k hlt
      rw [row_length] at hcell3 hrd
      have hcell : wr.cell? (ad.add k) = some (.slice av q cv) := by rw [hB.cell (World.block_lt_of_cell? _ _ hcell3)]; exact hcell3
      have HRD : Hid (Rd w3 (.slice av q cv) (row (A k) q)) := hrd
      have HQM : Hid (q = m) := hqm
      clear hrd hqm hcell3
      go_wp2
      go_loopw [42] (fun t wq => ∃ l : Nat, l ≤ q ∧ t = .int .i64 l ∧ OwM w3.heap.size wq (.slice (some ⟨w3.heap.size, 0, none⟩) p p) p (rws (prodTo A T q k l) s) rv ∧ Below w3.heap.size w3 wq) (fun t _ => q - (intOf t).toNat)
      case atStart => exact ⟨0, Nat.zero_le _, rfl, hN, hB⟩
      case round =>
        clear hN hB hcell
        obtain ⟨l, hl, rfl, hN, hB⟩ := hrel
        by_cases hlq : l < q
        · obtain ⟨adr, rfl, hx⟩ := (HRD.out.old hB).at l (by rw [row_length]; exact hlq)
          rw [co_row_lt _ hlq] at hx
          have hlm : l < m := by rw [← HQM.out]; exact hlq
          obtain ⟨ad2, bv, cb, rfl, hcb3, hrb3⟩ := (HV.out.rd.old HB3.out).some l hlm
          rw [row_length] at hcb3 hrb3
          have hcb : wr.cell? (ad2.add l) = some (.slice bv s cb) := by rw [hB.cell (World.block_lt_of_cell? _ _ hcb3)]; exact hcb3
          have hcp := hN.cell k hlt
          have hrow := hN.row k hlt
          obtain ⟨a4, c4, e4, _, _⟩ := hrow.rd.len
          rw [row_length] at e4
          have hdr : Below wr.heap.size wr wr.drew := ⟨rfl, rfl, rfl, Nat.le_refl _, fun _ _ => rfl⟩
          have hrowd := hrow.old hdr
          rw [show rws (prodTo A T q k l) s k = row (fun j => sm l (fun x => ti (A k x) (T x j))) s from row_congr (fun j _ => prodTo_at A T q k l j)] at hrowd
          have hNd := hN.old hdr
          have hBd := hB.trans (hdr.mono hB.size)
          have TT := mtimes_any w3.heap.size s (rv k) (.slice bv s cb) (fun j => sm l (fun x => ti (A k x) (T x j))) (T l) (A k l) wr.drew (by omega) hrowd (hrb3.old hBd) (fun hs0 => by
            cases hb : (rv k).ownBlock with
            | none => exact .inl rfl
            | some kk =>
              right
              intro e
              have h1 := (hrowd.lt kk hb).1
              have h2 := hrb3.lt (ne_nil_row _ (by omega)) kk e.symm
              omega)
          have HT : Hid (∀ w', Ow w3.heap.size w' (rv k) (row (fun j => pl (sm l (fun x => ti (A k x) (T x j))) (ti (T l j) (A k l))) s) → wr.drew.grownBy w' (rv k).ownBlock → OwM w3.heap.size w' (.slice (some ⟨w3.heap.size, 0, none⟩) p p) p (rws (prodTo A T q k (l + 1)) s) rv ∧ Below w3.heap.size w3 w') := by
            intro w' h1 h2
            have h3 := hNd.turned k hlt h2 h1
            rw [rws_up, prodTo_up] at h3
            exact ⟨h3, hBd.trans (hNd.below hBd.size k hlt h2)⟩
          rw [e4] at TT HT hcp
          clear e4 hrow hrowd hNd hBd hdr hN hB hcb3 hrb3
          generalize A k l = y at *
          go_wp2
          go_region_with (first | (go_at_call 37; refine TT.mono ?_; rintro e w5 ⟨rfl, h1, h2⟩))
          all_goals
            have h3 := HT.out _ h1 h2
            have hN5 := h3.1
            have hB5 := h3.2
            clear TT HT h1 h2 h3 hx hcb hcp
            go_wp2
            go_roundw
            case rel => exact ⟨l + 1, by omega, by go_num, hN5, hB5⟩
            case measure => simp [intOf]; omega
        · have hlq' : l = q := by omega
          have hN' := hN.congr (fun i _ => show row (prodTo A T q k l i) s = row (prodTo A T q (k + 1) 0 i) s from row_congr (fun j _ => by rw [hlq']; exact prodTo_next A T q k i j))
          clear hN hlq'
          go_wp2
          go_roundw
          case rel => exact ⟨k + 1, by omega, by go_num, hN', hB⟩
          case measure => simp [intOf]; omega
    · have hF : OwM w.heap.size wr (.slice (some ⟨w3.heap.size, 0, none⟩) p p) p (rws (mm q A T) s) rv := (hN.congr (fun i hi => row_congr (fun j _ => by unfold prodTo; rw [if_pos (by omega)]))).mono hs3
      have hB6 := HB3.out.trans (hB.mono hs3)
      clear hN
      go_wp2
      go_ret2
      exact ⟨_, _, rfl, hF, hB6⟩
end Go.Proofs.YtpodboklhajbeaaDoor
