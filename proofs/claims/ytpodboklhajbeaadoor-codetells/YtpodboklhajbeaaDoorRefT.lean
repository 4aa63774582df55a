/- What the document's own Inverse answers: by a walk over the program. -/
import Derived.Test.YtpodboklhajbeaaDoorRefS
import Derived.Test.YtpodboklhajbeaaDoorMe
namespace Go.Proofs.YtpodboklhajbeaaDoor
open Go.ChangeShapes Go.WideShapes Go.ChangeAt Go.RowKit El Pol Mx
theorem row_beside (A : M) (n i : Nat) : row (A i) n ++ row (one i) n = row (beside n A i) (n + n) := by
  apply List.ext_getElem (by simp [row])
  intro j h1 h2
  rw [List.getElem_append]
  by_cases h : j < n
  · rw [dif_pos (by rw [row_length]; exact h)]
    simp [row, beside, h]
  · rw [dif_neg (by rw [row_length]; exact h)]
    simp [row, beside, h]
theorem owl_len {B : Nat} {T : TypeId} {w : World} {v : Value} {xs : List Value} (h : OwL B T w v xs) : ∃ ao cap, v = .slice ao xs.length cap := by
  rcases h.2 with ⟨rfl, e⟩ | ⟨g, cap, cur, rfl, _⟩
  · exact ⟨none, 0, by rw [e]⟩
  · exact ⟨_, cap, rfl⟩
/-- what stands from n on -/
def tailV (n : Nat) : Value → Value
  | .slice (some ad) _ c => .slice (some ⟨ad.block, n, none⟩) n (c - n)
  | v => v
set_option maxRecDepth 100000 in
set_option maxHeartbeats 4000000 in
theorem rinverse_any (u : Value) (n : Nat) (A : M) (w : World) (h : Mt w u n n A) (h0 : n ≠ 0) :
    Calls Tryd.prog 11 #[u] w fun e w' => (∃ (v' : Value) (T : M), e = .returned (.tuple #[v', .bool true]) ∧ Inv n A T ∧ RdM w' v' n (rws T n) ∧ Below w.heap.size w w') ∨ (e = .returned (.tuple #[.slice none 0 0, .bool false]) ∧ Sing n A ∧ Below w.heap.size w w') := by
  obtain ⟨j0, hj, hy0, hy1, hy2⟩ := info_parts infoS
  have HU : Hid (Mt w u n n A) := h
  have hp := h.hp
  obtain ⟨a1, c1, rfl, _, _⟩ := h.rd.len
  clear h
  go_enter Tryd.func11, Tryd.ntmps11
  go_wp2_with fail
  refine (runit_any n w hp).mono ?_
  rintro e w1 ⟨vu, ru, rfl, hOu, hBu⟩
  have HOU : Hid (OwM w.heap.size w1 vu n (rws one n) ru) := hOu
  obtain ⟨au, cu, rfl, _, _⟩ := hOu.rd.len
  have HBU : Hid (Below w.heap.size w w1) := hBu
  have hsu := hBu.size
  clear hOu hBu
  go_wp2
  go_loopw [6, 7] (fun o t wr => ∃ (k : Nat) (rv : Nat → Value), k ≤ n ∧ t = .int .i64 k ∧ OwM w1.heap.size wr o k (rws (beside n A) (n + n)) rv ∧ Below w1.heap.size w1 wr) (fun _ t _ => n - (intOf t).toNat)
  case atStart => exact ⟨0, fun _ => .slice none 0 0, Nat.zero_le _, rfl, OwM.nil _ _ _ _, Below.refl _ _⟩
  case round =>
    obtain ⟨k, rv, hk, rfl, hN, hB⟩ := hrel
    obtain ⟨ao, co0, rfl, _, _⟩ := hN.rd.len
    by_cases hlt : k < n
    · obtain ⟨ad, av, cv, rfl, hcell, hrd⟩ := (HU.out.rd.old (HBU.out.trans (hB.mono hsu))).some k hlt
      rw [row_length] at hcell hrd
      have hsw := hB.size
      have hO0 : Ow wr.heap.size wr (.slice none 0 0) [] := World.ownsRow_nil _ _ _ _
      go_wp2_with (first | (at_builtin; refine wpList_append_rd rfl _ _ rfl wr.heap.size _ _ _ _ rfl hO0 rfl hrd (by simp) (by rw [row_length]; omega) (Nat.le_refl _) ?_))
      intro v3 w3 hO3 hg3
      have hO3 : Ow wr.heap.size w3 v3 (row (A k) n) := hO3
      have hBg : Below wr.heap.size wr w3 := below_of_grownR hg3 (Nat.le_refl _) (fun g e => by simp [Value.ownBlock] at e)
      obtain ⟨ad2, av2, cv2, rfl, hcell2, hrd2⟩ := ((HOU.out.old hB).rd.old hBg).some k hlt
      rw [row_length] at hcell2 hrd2
      have hs3 := hBg.size
      obtain ⟨a3, c3, rfl, _, _⟩ := hO3.rd.len
      rw [row_length] at *
      clear hg3 hO0 hcell hrd
      go_wp2_with (first | (at_builtin; refine wpList_append_rd rfl _ _ rfl wr.heap.size _ _ _ _ rfl hO3 rfl hrd2 (by rw [row_length]; omega) (by rw [row_length]; omega) hs3 ?_))
      intro v4 w4 hO4 hg4
      have hO4 : Ow wr.heap.size w4 v4 (row (beside n A k) (n + n)) := by rw [← row_beside]; exact hO4
      have hBg4 : Below wr.heap.size wr w4 := hBg.trans (below_of_grownR hg4 hs3 (fun g e => (hO3.lt g e).1))
      obtain ⟨a4, c4, rfl, _, _⟩ := hO4.rd.len
      rw [row_length] at *
      have hNb : ∀ i, i < k → (rv i).ownBlock = none ∨ (rv i).ownBlock ≠ (Value.slice a4 (n + n) c4).ownBlock := fun i hi => by
        cases hb : (Value.slice a4 (n + n) c4).ownBlock with
        | none => cases hc : (rv i).ownBlock with
          | none => exact .inl rfl
          | some _ => exact .inr (by simp)
        | some g =>
          right
          intro e
          have h1 := (hO4.lt g hb).1
          have h2 := ((hN.row i hi).lt g e).2
          omega
      have hal : Below w4.heap.size w4 (w4.alloc (.cells #[.slice a4 (n + n) c4] 23)) := (Below.refl _ _).alloc (Nat.le_refl _) _
      have hN4 := (hN.old hBg4).old hal
      have hr4 := (hO4.mono hsw).old hal
      have hBw := hB.trans (hBg4.mono hsw)
      have hB4 := hBw.trans (hal.mono hBw.size)
      have hcn := cell_new w4 (.slice a4 (n + n) c4) 23
      clear hal hBw hB hBg hBg4 hO3 hO4 hg4 hcell2 hrd2 hN
      go_wp2_with (first | (at_builtin; refine wpList_append_row rfl _ _ rfl w1.heap.size _ _ k _ rv _ ⟨w4.heap.size, 0, none⟩ rfl hN4 rfl hcn hr4 hNb (by omega) hB4.size ?_))
      intro v5 w5 hN5 hg5
      have hB5 := hB4.trans (below_of_grownR hg5 hB4.size (fun g e => (World.ownsRow.lt hN4.out g e).1))
      rw [rws_next] at hN5
      clear hN4 hr4 hB4 hcn hNb hg5
      go_wp2
      go_roundw
      case rel => exact ⟨k + 1, _, by omega, by go_num, hN5, hB5⟩
      case measure => simp [intOf]; omega
    · have hF : OwM w1.heap.size wr (.slice ao n co0) n (rws (beside n A) (n + n)) rv := by rw [show n = k by omega] at hN ⊢; exact hN
      have S := rstairs_any (.slice ao n co0) n (n + n) n (beside n A) wr hF.rd hp (by omega) (by omega)
      have hk0 : k = n := by omega
      subst hk0
      have hBw := HBU.out.trans (hB.mono hsu)
      clear hN hlt hk hF hB
      go_wp2_with fail
      refine S.mono ?_
      rintro e w6 ⟨r, R, piv, v6, rv6, rfl, hG, hM6, hB6⟩
      have hB7 := hBw.trans (hB6.mono hBw.size)
      obtain ⟨g6, c6, rfl⟩ := hM6.at h0
      have hrn := hG.rc
      clear S hBw
      by_cases hr : r < k
      · have HS : Hid (Sing k A) := gj_none hG hr
        clear hG hB6 hM6
        go_wp2
        go_ret2
        exact .inr ⟨rfl, HS.out, hB7⟩
      · have hrk : r = k := by omega
        have HI : Hid (Inv k A (fun i j => R i (k + j))) := by
          rw [hrk] at hG
          exact gj_inv hG
        have HM6 : Hid (OwM wr.heap.size w6 (.slice (some ⟨g6, 0, none⟩) k c6) k (rws R (k + k)) rv6) := hM6
        have HB7 : Hid (Below w.heap.size w w6) := hB7
        have hs7 := hB7.size
        clear hG hB6 hM6 hB7
        go_wp2
        go_loopw [11, 12] (fun o t wq => ∃ i : Nat, i ≤ k ∧ t = .int .i64 i ∧ OwL w6.heap.size 23 wq o ((List.range i).map (fun l => tailV k (rv6 l))) ∧ Below w6.heap.size w6 wq) (fun _ t _ => k - (intOf t).toNat)
        case atStart => exact ⟨0, Nat.zero_le _, rfl, World.ownsRow_nil _ _ _ _, Below.refl _ _⟩
        case round =>
          obtain ⟨i, hi, rfl, hO, hB⟩ := hrel
          obtain ⟨ao2, co2, hsh⟩ := owl_len hO
          rw [List.length_map, List.length_range] at hsh
          subst hsh
          by_cases hik : i < k
          · have hcell := (HM6.out.old hB).cell i hik
            obtain ⟨gi, ci, ei, _, _, hcc, _⟩ := ((HM6.out.old hB).row i hik).at (ne_nil_row _ (by omega))
            rw [row_length] at ei hcc
            rw [ei] at hcell
            have hck : ci ≠ k := by omega
            have hkk : k + k - k = k := by omega
            have HT : Hid (tailV k (rv6 i) = .slice (some ⟨gi, k, none⟩) k (ci - k)) := by (show tailV k (rv6 i) = _); rw [ei]; rfl
            have hadd : (⟨gi, 0, none⟩ : Addr).add k = ⟨gi, k, none⟩ := by rw [add_off, Nat.zero_add]
            have HO2 : Hid (∀ (v' : Value) (w' : World), w'.ownsRow w6.heap.size 23 1 v' (i + 1) ((List.range i).map (fun l => tailV k (rv6 l)) ++ [.slice (some ⟨gi, k, none⟩) k (ci - k)]) → OwL w6.heap.size 23 w' v' ((List.range (i + 1)).map (fun l => tailV k (rv6 l)))) := by
              intro v' w' h
              unfold OwL
              rw [List.range_succ, List.map_append, List.map_cons, List.map_nil, HT.out, List.length_append, List.length_map, List.length_range]
              exact h
            have hO' : wr.ownsRow w6.heap.size 23 1 (.slice ao2 i co2) i ((List.range i).map (fun l => tailV k (rv6 l))) := by
              have := hO
              unfold OwL at this
              rw [List.length_map, List.length_range] at this
              exact this
            have hsz := hB.size
            clear ei hO
            generalize (List.range i).map (fun l => tailV k (rv6 l)) = xs at *
            go_wp2_with (first | (at_builtin; refine wpList_append_own _ rfl _ _ 22 rfl w6.heap.size 23 j0 (.slice none 0 0) 1 24 Tryd.underlying22 hj hy0 hy1 hy2 rfl (by decide) _ _ _ rfl (World.ownsRow.alloc hO' _) ⟨wr.heap.size, 0, none⟩ 1 1 [.slice (some ⟨gi, k, none⟩) k (ci - k)] rfl rfl (one_cell _) (by intro u hu; simp at hu; subst hu; rfl) (by unfold maxLen; omega) (by omega) (by simp; omega) ?_))
            intro v' w8 hown hgrow _
            have hO3 := HO2.out v' w8 hown
            have hB3 : Below w6.heap.size w6 w8 := (hB.alloc hsz _).grown hgrow (by simp; omega) (fun g hg => (World.ownsRow.lt hO' g hg).1)
            clear hown hgrow hO' hB HO2
            go_wp2
            go_roundw
            case rel => exact ⟨i + 1, by omega, by go_num, hO3, hB3⟩
            case measure => simp [intOf]; omega
          · have hik2 : i = k := by omega
            have hR : RdM wr (.slice ao2 i co2) k (rws (fun i j => R i (k + j)) k) := by
              have := hO
              unfold OwL at this
              rw [List.length_map, List.length_range, hik2] at this
              rw [hik2]
              refine (OwL.rdM this).rdM (fun l hl => ?_)
              have hrl := ((HM6.out.old hB).row l hl)
              obtain ⟨gl, cl, el, _, _, _, _⟩ := hrl.at (ne_nil_row _ (by omega))
              rw [row_length] at el
              have hrd := hrl.rd
              rw [el] at hrd ⊢
              have := Rd.drop (n := k) hrd (by omega)
              rw [show k + k - k = k by omega] at this
              exact this
            have hB9 := HB7.out.trans (hB.mono hs7)
            clear hO hB
            go_wp2
            go_ret2
            exact .inl ⟨_, _, rfl, HI.out, hR, hB9⟩
end Go.Proofs.YtpodboklhajbeaaDoor
