/- What the document's own Mat answers: by a walk over the program. -/
import Derived.Test.YtpodboklhajbeaaDoorRefN
namespace Go.Proofs.YtpodboklhajbeaaDoor
open Go.ChangeShapes Go.WideShapes Go.ChangeAt Go.RowKit El Pol Mx
set_option maxRecDepth 100000 in
set_option maxHeartbeats 4000000 in
theorem rmat_any (u v : Value) (p q m s : Nat) (A T : M) (w : World) (h : Mt w u p q A) (hv : Mt w v m s T) (h0 : p = 0 ∨ q = m) :
    Calls Tryd.prog 8 #[u, v] w fun e w' => ∃ (v' : Value) (rv : Nat → Value), e = .returned v' ∧ OwM w.heap.size w' v' p (rws (mm q A T) s) rv ∧ Below w.heap.size w w' := by
  obtain ⟨i0, hi, hz0, hz1, hz2⟩ := info_parts info8
  have HU : Hid (Mt w u p q A) := h
  have HV : Hid (Mt w v m s T) := hv
  have hp := h.hp
  have hq := h.hq
  have hm := hv.hp
  have hs := hv.hq
  have HS0 : Hid (m = 0 → s = 0) := hv.h0
  obtain ⟨a1, c1, rfl, _, _⟩ := h.rd.len
  obtain ⟨a2, c2, rfl, _, _⟩ := hv.rd.len
  clear h hv
  go_enter Tryd.func8, Tryd.ntmps8
  go_wp2
  go_loopw [5, 6] (fun o t wr => ∃ (k : Nat) (rv : Nat → Value), k ≤ p ∧ t = .int .i64 k ∧ OwM w.heap.size wr o k (rws (mm q A T) s) rv ∧ Below w.heap.size w wr) (fun _ t _ => p - (intOf t).toNat)
  case atStart => exact ⟨0, fun _ => .slice none 0 0, Nat.zero_le _, rfl, OwM.nil _ _ _ _, Below.refl _ _⟩
  case round =>
    obtain ⟨k, rv, hk, rfl, hN, hB⟩ := hrel
    obtain ⟨ao, co0, rfl, _, _⟩ := hN.rd.len
    by_cases hlt : k < p
    · have hqm : q = m := by omega
      have HQM : Hid (q = m) := hqm
      have HN : Hid (OwM w.heap.size wr (.slice ao k co0) k (rws (mm q A T) s) rv) := hN
      have HBW : Hid (Below w.heap.size w wr) := hB
      have hsw := hB.size
      clear hqm hN hB
      rename World => wo
      go_wp2
      go_loopw [7, 8] (fun o t wq => ∃ j : Nat, j ≤ s ∧ t = .int .i64 j ∧ Ow wo.heap.size wq o (row (mm q A T k) j) ∧ Below wo.heap.size wo wq) (fun _ t _ => s - (intOf t).toNat)
      case atStart => exact ⟨0, Nat.zero_le _, rfl, World.ownsRow_nil _ _ _ _, Below.refl _ _⟩
      case round =>
        obtain ⟨j, hj, rfl, hR, hB⟩ := hrel
        obtain ⟨ar, cr, rfl, _, _⟩ := hR.rd.len
        rw [row_length] at *
        by_cases hjs : j < s
        · have hm0 : 0 < m := by
            rcases Nat.eq_zero_or_pos m with e | e
            · have := HS0.out e; omega
            · exact e
          obtain ⟨ad2, b0, cb0, rfl, hb0, _⟩ := (HV.out.rd.old (HBW.out.trans (hB.mono hsw))).some 0 hm0
          rw [row_length, add_zero] at hb0
          have HR : Hid (Ow wo.heap.size wr (.slice ar j cr) (row (mm q A T k) j)) := hR
          have HB2 : Hid (Below wo.heap.size wo wr) := hB
          have hsz := hB.size
          clear hR hB
          go_wp2
          clear hb0
          rename World => wi
          go_loopw [9, 10] (fun o t wz => ∃ (l : Nat) (y : El), l ≤ m ∧ o = .int .u8 ((y.val : Nat) : Int) ∧ t = .int .i64 l ∧ Hid (y = sm l (fun x => ti (A k x) (T x j))) ∧ Below wi.heap.size wi wz) (fun _ t _ => m - (intOf t).toNat)
          case atStart => exact ⟨0, 0, Nat.zero_le _, rfl, rfl, rfl, Below.refl _ _⟩
          case round =>
            obtain ⟨l, y, hl, rfl, rfl, HY, hB⟩ := hrel
            have hBo := HB2.out.trans (hB.mono hsz)
            have hBw := HBW.out.trans (hBo.mono hsw)
            by_cases hlm : l < m
            · obtain ⟨ad1, av, cv, rfl, hcA, hrA⟩ := (HU.out.rd.old hBw).some k hlt
              rw [row_length] at hcA hrA
              obtain ⟨adr, rfl, hxA⟩ := hrA.at l (by rw [row_length, HQM.out]; exact hlm)
              rw [co_row_lt _ (by rw [HQM.out]; exact hlm)] at hxA
              obtain ⟨ad3, bv, cb, e3, hcB, hrB⟩ := (HV.out.rd.old hBw).some l hlm
              cases e3
              rw [row_length] at hcB hrB
              obtain ⟨ads, rfl, hxB⟩ := hrB.at j (by rw [row_length]; exact hjs)
              rw [co_row_lt _ hjs] at hxB
              have hlq : l < q := by rw [HQM.out]; exact hlm
              have HY2 : Hid (pl y (ti (A k l) (T l j)) = sm (l + 1) (fun x => ti (A k x) (T x j))) := by (show _ = _); rw [sm, ← HY.out]
              generalize A k l = xa at *
              generalize T l j = xb at *
              clear hrA hrB hBo hBw
              go_wp2
              go_quiet ((first | (go_at_call 35; exact Calls.quiet_of (timesQ2 xa xb _)) | (go_at_call 18; exact Calls.quiet_of (plusQ2 y (ti xa xb) _))))
              have hB9 := below_drewN hB nq
              clear hB hcA hxA hcB hxB
              go_wp2
              go_roundw
              case rel => exact ⟨l + 1, _, by omega, rfl, by go_num, HY2.out, hB9⟩
              case measure => simp [intOf]; omega
            · have HS : Hid (y = mm q A T k j) := by (show y = sm q _); rw [HY.out, HQM.out, show l = m by omega]
              have hO := HR.out.old hB
              have hs2 := hBo.size
              clear hBw
              go_wp2_with (first | (at_builtin; refine wpList_append_own _ rfl _ _ 23 rfl wo.heap.size 5 i0 (.int .u8 0) 1 1 Tryd.underlying23 hi hz0 hz1 hz2 rfl (by decide) _ _ _ rfl (World.ownsRow.alloc hO _) ⟨wr.heap.size, 0, none⟩ 1 1 [.int .u8 ((y.val : Nat) : Int)] rfl rfl (one_cell _) (one_one _) (by rw [row_length]; unfold maxLen; omega) (by rw [row_length]; omega) (by simp; omega) ?_))
              intro v' w3 hown hgrow _
              have hO3 := own_snoc hown HS.out
              have hB3 : Below wo.heap.size wo w3 := (hBo.alloc hs2 _).grown hgrow (by simp; omega) (fun g hg => (hO.lt g hg).1)
              clear hown hgrow hO hBo hB
              go_wp2
              go_roundw
              case rel => exact ⟨j + 1, by omega, by go_num, hO3, hB3⟩
              case measure => simp [intOf]; omega
        · have HJS : Hid (j = s) := by (show j = s); omega
          by_cases hm0 : m = 0
          · subst hm0
            clear hjs
            have hNw := HN.out.old hB
            have hNB := hNw
            have hNb : ∀ i, i < k → (rv i).ownBlock = none ∨ (rv i).ownBlock ≠ (Value.slice ar j cr).ownBlock := fun i hi => by
              cases hb : (Value.slice ar j cr).ownBlock with
              | none => cases hc : (rv i).ownBlock with
                | none => exact .inl rfl
                | some _ => exact .inr (by simp)
              | some g =>
                right
                intro e
                have h1 := (hR.lt g hb).1
                have h2 := ((HN.out.row i hi).lt g e).2
                omega
            have hal : Below wr.heap.size wr (wr.alloc (.cells #[.slice ar j cr] 23)) := (Below.refl _ _).alloc (Nat.le_refl _) _
            have hN4 := hNw.old hal
            have hr4 := (hR.mono hsw).old hal
            have hBw := HBW.out.trans (hB.mono hsw)
            have hB4 := hBw.trans (hal.mono hBw.size)
            have hcn := cell_new wr (.slice ar j cr) 23
            clear hNw hNB hal hBw hR hB
            go_wp2_with (first | (at_builtin; refine wpList_append_row rfl _ _ rfl w.heap.size _ _ k _ rv _ ⟨wr.heap.size, 0, none⟩ rfl hN4 rfl hcn hr4 hNb (by omega) hB4.size ?_))
            intro v5 w5 hN5 hg5
            have hB5 := hB4.trans (below_of_grownR hg5 hB4.size (fun g e => (World.ownsRow.lt hN4.out g e).1))
            have hN6 : OwM w.heap.size w5 v5 (k + 1) (rws (mm q A T) s) (up rv k (.slice ar j cr)) := hN5.congr (fun i hi => by
              by_cases e : i = k
              · subst e; rw [up_at, HJS.out]
              · rw [up_ne _ _ e])
            clear hN4 hr4 hB4 hcn hNb hg5 hN5
            go_wp2
            go_roundw
            case rel => exact ⟨k + 1, _, by omega, by go_num, hN6, hB5⟩
            case measure => simp [intOf]; omega
          · obtain ⟨ad2, b0, cb0, rfl, hb0, _⟩ := (HV.out.rd.old (HBW.out.trans (hB.mono hsw))).some 0 (by omega)
            rw [row_length, add_zero] at hb0
            have hNw := HN.out.old hB
            have hNB := hNw
            have hNb : ∀ i, i < k → (rv i).ownBlock = none ∨ (rv i).ownBlock ≠ (Value.slice ar j cr).ownBlock := fun i hi => by
              cases hb : (Value.slice ar j cr).ownBlock with
              | none => cases hc : (rv i).ownBlock with
                | none => exact .inl rfl
                | some _ => exact .inr (by simp)
              | some g =>
                right
                intro e
                have h1 := (hR.lt g hb).1
                have h2 := ((HN.out.row i hi).lt g e).2
                omega
            have hal : Below wr.heap.size wr (wr.alloc (.cells #[.slice ar j cr] 23)) := (Below.refl _ _).alloc (Nat.le_refl _) _
            have hN4 := hNw.old hal
            have hr4 := (hR.mono hsw).old hal
            have hBw := HBW.out.trans (hB.mono hsw)
            have hB4 := hBw.trans (hal.mono hBw.size)
            have hcn := cell_new wr (.slice ar j cr) 23
            clear hNw hNB hal hBw hR hB
            go_wp2_with (first | (at_builtin; refine wpList_append_row rfl _ _ rfl w.heap.size _ _ k _ rv _ ⟨wr.heap.size, 0, none⟩ rfl hN4 rfl hcn hr4 hNb (by omega) hB4.size ?_))
            intro v5 w5 hN5 hg5
            have hB5 := hB4.trans (below_of_grownR hg5 hB4.size (fun g e => (World.ownsRow.lt hN4.out g e).1))
            have hN6 : OwM w.heap.size w5 v5 (k + 1) (rws (mm q A T) s) (up rv k (.slice ar j cr)) := hN5.congr (fun i hi => by
              by_cases e : i = k
              · subst e; rw [up_at, HJS.out]
              · rw [up_ne _ _ e])
            clear hN4 hr4 hB4 hcn hNb hg5 hN5
            go_wp2
            go_roundw
            case rel => exact ⟨k + 1, _, by omega, by go_num, hN6, hB5⟩
            case measure => simp [intOf]; omega
    · have hk0 : k = p := by omega
      have hF : OwM w.heap.size wr (.slice ao p co0) p (rws (mm q A T) s) rv := by rw [hk0] at hN; exact hN
      subst hk0
      clear hN
      go_wp2
      go_ret
      exact ⟨_, _, rfl, hF, hB⟩
end Go.Proofs.YtpodboklhajbeaaDoor
