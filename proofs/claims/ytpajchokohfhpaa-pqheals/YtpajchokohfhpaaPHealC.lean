/- Any two may be lost, of data without a fault: the call answers true. -/
import Derived.Test.YtpajchokohfhpaaCd
import Derived.Test.YtpajchokohfhpaaPHealB
namespace Go.Proofs.Ytpajchokohfhpaa
open Go.ChangeShapes Go.WideShapes Go.ChangeAt Go.RowKit El Pol Mx
theorem infoB : (Try.prog.info? 4).map (fun i => (i.zero, i.size, i.bytes)) = some (some (.bool false), 1, 1) := by kernel_rfl
theorem OwL.as {B n : Nat} {T : TypeId} {w : World} {v : Value} {xs ys : List Value} (h : OwL B T w v xs) (e : xs = ys) (hn : ys.length = n) : w.ownsRow B T 1 v n ys := by
  subst e
  subst hn
  exact h
set_option maxRecDepth 100000 in
set_option maxHeartbeats 8000000 in
theorem heals_ok (v : Value) (d L : Nat) (a : Nat → List El) (i k : Nat) (junk now : List El) (w : World) (h : RdF w v d (fun i => st (a i))) (h1 : 1 ≤ d) (h2 : d ≤ 10) (hl : ∀ i, i < d → (a i).length = L) (hL : L ≤ 16) (hi : i < d + 2) (hk : k < d + 2) :
    Calls Try.prog 3 #[v, .int .i64 i, .int .i64 k, st junk, st now] w fun e w' => e = .returned (.bool true) ∧ Below w.heap.size w w' := by
  obtain ⟨j0, hj, hy0, hy1, hy2⟩ := info_parts infoT
  obtain ⟨b0, hb0, hx0, hx1, hx2⟩ := info_parts infoB
  have HH : Hid (RdF w v d (fun i => st (a i))) := h
  have HL : Hid (∀ i, i < d → (a i).length = L) := hl
  have HPA : Hid ((List.range d).map (fun i => st (a i)) ++ [st (row (pp d (mx a)) L), st (row (qq d (mx a)) L)] = (List.range (d + 2)).map (fun i => st (prts d L (mx a) i))) := prts_all hl
  obtain ⟨ao, cap, rfl, _, _⟩ := h.len
  obtain ⟨ad, rfl, _⟩ := h.at 0 (by omega)
  have hd3 : ¬ (d : Int) + 2 < 3 := by omega
  have hd12 : ¬ (12 : Int) < (d : Int) + 2 := by omega
  have hi0 : ¬ (i : Int) < 0 := by omega
  have hk0 : ¬ (k : Int) < 0 := by omega
  have hid : ¬ (d : Int) + 2 ≤ (i : Int) := by omega
  have hkd : ¬ (d : Int) + 2 ≤ (k : Int) := by omega
  have hid' : (i : Int) < (d : Int) + 2 := by omega
  have hkd' : (k : Int) < (d : Int) + 2 := by omega
  obtain ⟨sj, hsj⟩ : ∃ s, s = sb junk := ⟨_, rfl⟩
  obtain ⟨sn, hsn⟩ : ∃ s, s = sb now := ⟨_, rfl⟩
  have HSJ : Hid (sj = sb junk) := hsj
  have HSN : Hid (sn = sb now) := hsn
  have hnsz := sb_size now
  rw [← hsn] at hnsz
  unfold st
  rw [← hsj, ← hsn]
  clear h hl hsj hsn
  go_enter Try.func3, Try.ntmps3
  go_wp2_with fail
  refine (fact56 w).mono ?_
  rintro e w1 ⟨rfl, hB1⟩
  have C := pencode_ok d L h1 h2 (.slice (some ad) d cap) a w1 (HH.out.old hB1) HL.out hL
  obtain ⟨sp, hsp⟩ : ∃ s, s = sb (row (pp d (mx a)) L) := ⟨_, rfl⟩
  obtain ⟨sq, hsq⟩ : ∃ s, s = sb (row (qq d (mx a)) L) := ⟨_, rfl⟩
  have HSP : Hid (sp = sb (row (pp d (mx a)) L)) := hsp
  have HSQ : Hid (sq = sb (row (qq d (mx a)) L)) := hsq
  unfold st at C
  rw [← hsp, ← hsq] at C
  clear hsp hsq
  go_wp2_with fail
  refine C.mono ?_
  rintro e w2 ⟨rfl, hB2⟩
  have hBw := hB1.trans (hB2.mono hB1.size)
  have hd2 := HH.out.old hBw
  have hnil : OwL w2.heap.size 9 w2 (.slice none 0 0) [] := World.ownsRow_nil _ _ _ _
  clear C hB2 hB1
  go_wp2_with (first | (at_builtin; refine wpList_append_texts rfl _ _ rfl w2.heap.size _ _ _ d a rfl hnil rfl hd2 (by simp) (by omega) (Nat.le_refl _) ?_))
  intro v3 w3 hO3 hg3
  have hB3 : Below w2.heap.size w2 w3 := below_of_grownR hg3 (Nat.le_refl _) (fun g e => by simp [Value.ownBlock] at e)
  have hs3 := hB3.size
  obtain ⟨a3, c3, e3⟩ := OwL.len hO3
  rw [List.length_map, List.length_range] at e3
  subst e3
  have hO3' : w3.ownsRow w2.heap.size 9 1 (.slice a3 d c3) d ((List.range d).map (fun i => st (a i))) := by
    have := hO3
    unfold OwL at this
    rw [List.length_map, List.length_range] at this
    exact this
  clear hnil hd2 hg3 hO3
  go_wp2_with (first | (at_builtin; refine wpList_append_own _ rfl _ _ 22 rfl w2.heap.size 9 j0 (.string ⟨#[]⟩) 1 16 Try.underlying22 hj hy0 hy1 hy2 rfl (by decide) _ _ _ rfl (World.ownsRow.alloc hO3' _) ⟨w3.heap.size, 0, none⟩ 2 2 [.string sp, .string sq] rfl rfl (two_cells _) (by intro u hu; simp at hu; rcases hu with rfl | rfl <;> rfl) (by unfold maxLen; omega) (by omega) (by simp; omega) ?_))
  intro v4 w4 hown4 hg4 _
  have hB24 : Below w2.heap.size w2 w4 := (hB3.alloc hs3 _).grown hg4 (by simp; omega) (fun g e => (World.ownsRow.lt hO3' g e).1)
  have hP4 : w4.ownsRow w2.heap.size 9 1 v4 (d + 2) ((List.range (d + 2)).map (fun i => st (prts d L (mx a) i))) := by
    rw [← HPA.out]
    unfold st
    rw [← HSP.out, ← HSQ.out]
    exact hown4
  obtain ⟨g4, c4, e4⟩ : ∃ g c, v4 = .slice (some ⟨g, 0, none⟩) (d + 2) c := by
    rcases hP4.2 with ⟨_, e⟩ | ⟨g, c, cur, e, _⟩
    · omega
    · exact ⟨g, c, e⟩
  subst e4
  have HP4 : Hid (w4.ownsRow w2.heap.size 9 1 (.slice (some ⟨g4, 0, none⟩) (d + 2) c4) (d + 2) ((List.range (d + 2)).map (fun i => st (prts d L (mx a) i)))) := hP4
  have HB04 : Hid (Below w.heap.size w w4) := hBw.trans (hB24.mono hBw.size)
  have hg4lt := (World.ownsRow.lt hP4 g4 rfl).2
  have hP4r := OwL.rdM hP4
  have hnil : OwL w4.heap.size 9 w4 (.slice none 0 0) [] := World.ownsRow_nil _ _ _ _
  clear hO3' hown4 hg4 hB3 hs3 hB24 hBw hP4
  go_wp2_with (first | (at_builtin; refine wpList_append_texts rfl _ _ rfl w4.heap.size _ _ _ (d + 2) (prts d L (mx a)) rfl hnil rfl hP4r (by simp) (by omega) (Nat.le_refl _) ?_))
  intro v5 w5 hO5 hg5
  have hB5 : Below w4.heap.size w4 w5 := below_of_grownR hg5 (Nat.le_refl _) (fun g e => by simp [Value.ownBlock] at e)
  obtain ⟨g5, c5, e5⟩ : ∃ g c, v5 = .slice (some ⟨g, 0, none⟩) (d + 2) c := by
    rcases hO5.2 with ⟨_, e⟩ | ⟨g, c, cur, e, _⟩
    · simp at e
    · exact ⟨g, c, by rw [e]; simp⟩
  subst e5
  have hT5 : w5.ownsRow w4.heap.size 9 1 (.slice (some ⟨g5, 0, none⟩) (d + 2) c5) (d + 2) ((List.range (d + 2)).map (fun i => st (prts d L (mx a) i))) :=
    OwL.as hO5 (by simp [List.range_succ]) (by simp)
  have hg5b := (World.ownsRow.lt hT5 g5 rfl).1
  clear hO5 hg5 hnil hP4r
  go_wp2_with (first | (at_make; refine wpList_make_full _ rfl _ _ 27 rfl w4.heap.size 4 b0 (.bool false) 1 Try.underlying27 hb0 hx0 hx1 _ _ _ _ (d + 2) rfl rfl rfl rfl (by rw [hx2]; omega) (by unfold maxLen; omega) hB5.size ?_))
  intro w6 hown6 hg6
  have hB6 : Below w4.heap.size w4 w6 := hB5.trans ((below_of_grown hg6).mono hB5.size)
  have hT6 := ownsRow_old hT5 (below_of_grown hg6)
  have hL6 : w6.ownsRow w4.heap.size 4 1 (.slice (some ⟨w5.heap.size, 0, none⟩) (d + 2) (d + 2)) (d + 2) (List.replicate (d + 2) (.bool false)) := by
    have := hown6
    rw [toList_madeCells_one] at this
    exact this
  have hgl := (World.ownsRow.lt hL6 w5.heap.size rfl).1
  obtain ⟨gl, hgle⟩ : ∃ gl, gl = w5.heap.size := ⟨_, rfl⟩
  rw [← hgle] at hL6 hgl ⊢
  clear hown6 hg6 hT5 hB5 hgle
  -- lost[i] = true
  have c7 := World.ownsRow.cellAt hL6 i (by omega)
  rw [List.getElem?_replicate_of_lt hi] at c7
  have f7 := World.ownsRow.frozenAt hL6 i
  have S7 := World.ownsRow.stored hL6 i (.bool true)
  have hT7 := keep_type (by decide) hL6 hT6 S7.2
  have hB7 := hB6.trans (below_of_grownAt S7.2 hB6.size hgl)
  have hL7 := S7.1
  clear S7 hL6 hT6 hB6
  go_upto_region 17 with fail
  generalize w6.setCell ⟨gl, i, none⟩ (.bool true) = w7 at *
  clear c7 f7
  -- lost[k] = true
  have c8 := World.ownsRow.cellAt hL7 k (by omega)
  obtain ⟨z8, hz8⟩ : ∃ z, (((List.replicate (d + 2) (Value.bool false)).set i (.bool true)))[k]? = some z := ⟨_, List.getElem?_eq_getElem (by simpa using hk)⟩
  rw [hz8] at c8
  have f8 := World.ownsRow.frozenAt hL7 k
  have S8 := World.ownsRow.stored hL7 k (.bool true)
  rw [lost_cells] at S8
  have hT8 := keep_type (by decide) hL7 hT7 S8.2
  have hB8 := hB7.trans (below_of_grownAt S8.2 hB7.size hgl)
  have hL8 := S8.1
  clear S8 hL7 hT7 hB7 hz8
  go_upto_region 18 with fail
  generalize w7.setCell ⟨gl, k, none⟩ (.bool true) = w8 at *
  clear c8 f8
  -- torn[i] = junk
  have c9 := World.ownsRow.cellAt hT8 i (by omega)
  rw [range_map_at _ _ _ hi] at c9
  have f9 := World.ownsRow.frozenAt hT8 i
  have S9 := World.ownsRow.stored hT8 i (.string sj)
  have hT9 := S9.1
  rw [set_map_up, HSJ.out, st_up] at hT9
  rw [← HSJ.out] at hT9
  have hL9 := keep_type (by decide) hT8 hL8 S9.2
  have hB9 := hB8.trans (below_of_grownAt S9.2 hB8.size hg5b)
  generalize st (prts d L (mx a) i) = z9 at c9
  clear S9 hT8 hL8 hB8
  go_upto_region 19 with fail
  generalize w8.setCell ⟨g5, i, none⟩ (.string sj) = w9 at *
  clear c9 f9
  -- torn[k] = junk
  have c10 := World.ownsRow.cellAt hT9 k (by omega)
  rw [range_map_at _ _ _ hk] at c10
  have f10 := World.ownsRow.frozenAt hT9 k
  have S10 := World.ownsRow.stored hT9 k (.string sj)
  have hT10 := S10.1
  rw [set_map_up, HSJ.out, st_up] at hT10
  rw [← HSJ.out] at hT10
  have hL10 := keep_type (by decide) hT9 hL9 S10.2
  have hB10 := hB9.trans (below_of_grownAt S10.2 hB9.size hg5b)
  generalize st (up (prts d L (mx a)) i junk k) = z10 at c10
  clear S10 hT9 hL9 hB9
  go_upto_region 20 with fail
  generalize w9.setCell ⟨g5, k, none⟩ (.string sj) = w10 at *
  clear c10 f10
  -- l, e := Heal(torn, lost); Texts(l, parts)
  have hLr : RdF w10 (.slice (some ⟨gl, 0, none⟩) (d + 2) (d + 2)) (d + 2) (fun x => .bool (lost2 i k x)) := OwL.rdM hL10
  have C := pheal_ok d L h1 h2 _ _ (trn d L (mx a) i k junk) (lost2 i k) w10 (OwL.rdM hT10) hLr (ix_lost2 i k d) trn_len hL
  have HT10 : Hid (w10.ownsRow w4.heap.size 9 1 (.slice (some ⟨g5, 0, none⟩) (d + 2) c5) (d + 2) ((List.range (d + 2)).map (fun x => st (trn d L (mx a) i k junk x)))) := hT10
  clear hLr hL10 hT10
  go_wp2_with fail
  refine C.mono ?_
  rintro e w11 ⟨v11, E, rfl, hE, hO11, hB11⟩
  have hB11' := hB10.trans (hB11.mono hB10.size)
  have T := texts_any v11 (.slice (some ⟨g4, 0, none⟩) (d + 2) c4) (d + 2) (d + 2) _ _ w11 (OwL.rdM hO11) ((OwL.rdM HP4.out).old hB11')
  rw [trn_back h2 hE] at T
  have hT11 := ownsRow_old HT10.out hB11
  obtain ⟨a11, c11, rfl, _, _⟩ := (OwL.rdM hO11).len
  clear C hE hO11 hB11 hB10 HT10
  go_wp2_with fail
  refine T.mono ?_
  rintro e w12 ⟨rfl, hB12⟩
  have hB12' := hB11'.trans (hB12.mono hB11'.size)
  have HT12 : Hid (w12.ownsRow w4.heap.size 9 1 (.slice (some ⟨g5, 0, none⟩) (d + 2) c5) (d + 2) ((List.range (d + 2)).map (fun x => st (trn d L (mx a) i k junk x)))) := ownsRow_old hT11 hB12
  clear T hB12 hB11' hT11
  -- none, e := Locate(parts)
  have D := plocate_ok d L h1 h2 (.slice (some ⟨g4, 0, none⟩) (d + 2) c4) (prts d L (mx a)) w12 ((OwL.rdM HP4.out).old hB12') (fun x _ => row_length _ _) hL
  go_wp2_with fail
  refine D.mono ?_
  rintro e w13 ⟨z, f, rfl, hZ, hB13⟩
  obtain ⟨hz, hf⟩ := lct_parts h2 hZ
  subst hz
  subst hf
  have hB13' := hB12'.trans (hB13.mono hB12'.size)
  have hT13 := ownsRow_old HT12.out hB13
  have hd13 := (HH.out.old HB04.out).old hB13'
  obtain ⟨_, e0, hc0⟩ := hd13.at 0 (by omega)
  cases e0
  rw [add_zero] at hc0
  have hs0 := sb_size (a 0)
  rw [HL.out 0 (by omega)] at hs0
  unfold st at hc0
  generalize sb (a 0) = s0 at *
  have herr : errV 0 = .nilIface := rfl
  rw [herr]
  clear D hZ hB13 HT12 hB12' herr hd13
  by_cases hlen : now.length = L
  · have HLN : Hid (now.length = L) := hlen
    rw [hlen] at hnsz
    have hbn : ((L : Int) != (L : Int)) = false := by simp
    clear hlen
    -- torn[k] = parts[k]
    have c14 := World.ownsRow.cellAt hT13 k (by omega)
    rw [range_map_at _ _ _ hk] at c14
    have f14 := World.ownsRow.frozenAt hT13 k
    have p14 := World.ownsRow.cellAt HP4.out k (by omega)
    rw [range_map_at _ _ _ hk] at p14
    have p14' : w13.cell? ⟨g4, k, none⟩ = some (st (prts d L (mx a) k)) := by rw [hB13'.cell (World.block_lt_of_cell? _ _ p14)]; exact p14
    have S14 := World.ownsRow.stored hT13 k (st (prts d L (mx a) k))
    have hT14 := S14.1
    rw [set_map_up, st_up] at hT14
    have hB14 := hB13'.trans (below_of_grownAt S14.2 hB13'.size hg5b)
    generalize st (trn d L (mx a) i k junk k) = z14 at c14
    unfold st at p14' hB14
    obtain ⟨spk, hspk⟩ : ∃ s, s = sb (prts d L (mx a) k) := ⟨_, rfl⟩
    have hT14' : (w13.setCell ⟨g5, k, none⟩ (.string spk)).ownsRow w4.heap.size 9 1 (.slice (some ⟨g5, 0, none⟩) (d + 2) c5) (d + 2) ((List.range (d + 2)).map (fun x => st (up (trn d L (mx a) i k junk) k (prts d L (mx a) k) x))) := by
      rw [hspk]; exact hT14
    rw [← hspk] at p14' hB14
    clear S14 hT14 hT13 p14 hB13' hspk
    go_upto_region 29 with fail
    generalize w13.setCell ⟨g5, k, none⟩ (.string spk) = w14 at *
    clear c14 f14 p14' hc0 hs0
    -- torn[i] = now
    have c15 := World.ownsRow.cellAt hT14' i (by omega)
    rw [range_map_at _ _ _ hi] at c15
    have f15 := World.ownsRow.frozenAt hT14' i
    have S15 := World.ownsRow.stored hT14' i (.string sn)
    have hT15 := S15.1
    rw [set_map_up, HSN.out, st_up, trn_up] at hT15
    rw [← HSN.out] at hT15
    have hB15 := hB14.trans (below_of_grownAt S15.2 hB14.size hg5b)
    generalize st (up (trn d L (mx a) i k junk) k (prts d L (mx a) k) i) = z15 at c15
    clear S15 hT14' hB14
    go_upto_region 30 with fail
    generalize w14.setCell ⟨g5, i, none⟩ (.string sn) = w15 at *
    clear c15 f15
    -- at, e := Locate(torn)
    have D := plocate_ok d L h1 h2 (.slice (some ⟨g5, 0, none⟩) (d + 2) c5) (up (prts d L (mx a)) i now) w15 (OwL.rdM hT15) (fun x _ => by
      by_cases e : x = i
      · rw [e, up_at]; exact HLN.out
      · rw [up_ne _ _ e, row_length]) hL
    clear hT15
    go_wp2_with fail
    refine D.mono ?_
    rintro e w16 ⟨z, f, rfl, hZ, hB16⟩
    obtain ⟨hz, hf⟩ := lct_moved h2 hi HLN.out hZ
    subst hf
    have hB16' := hB15.trans (hB16.mono hB15.size)
    have p16 := World.ownsRow.cellAt HP4.out i (by omega)
    rw [range_map_at _ _ _ hi] at p16
    have p16' : w16.cell? ⟨g4, i, none⟩ = some (st (prts d L (mx a) i)) := by rw [hB16'.cell (World.block_lt_of_cell? _ _ p16)]; exact p16
    have hss := sb_same now (prts d L (mx a) i)
    rw [← HSN.out] at hss
    obtain ⟨spi, hspi⟩ : ∃ s, s = sb (prts d L (mx a) i) := ⟨_, rfl⟩
    unfold st at p16'
    rw [← hspi] at p16' hss
    have HZ : Hid (z = (if now = prts d L (mx a) i then -1 else (i : Int))) := hz
    have herr : errV 0 = .nilIface := rfl
    rw [herr]
    clear D hZ hB16 hB15 p16 hspi herr
    by_cases hsame : now = prts d L (mx a) i
    · rw [decide_eq_true hsame] at hss
      rw [if_pos hsame] at hz
      subst hz
      clear hsame HZ
      by_cases hid2 : i < d
      · have hid3 : ¬ (d : Int) ≤ (i : Int) := by omega
        have hid4 : (i : Int) < (d : Int) := by omega
        have hnil : OwL w16.heap.size 9 w16 (.slice none 0 0) [] := World.ownsRow_nil _ _ _ _
        have hd16 := (HH.out.old HB04.out).old hB16'
        have HBW : Hid (Below w.heap.size w w16) := HB04.out.trans (hB16'.mono HB04.out.size)
        clear hB16'
        go_wp2_with (first | (at_builtin; refine wpList_append_texts rfl _ _ rfl w16.heap.size _ _ _ d a rfl hnil rfl hd16 (by simp) (by omega) (Nat.le_refl _) ?_))
        intro v17 w17 hO17 hg17
        have hB17 : Below w16.heap.size w16 w17 := below_of_grownR hg17 (Nat.le_refl _) (fun g e => by simp [Value.ownBlock] at e)
        have hT17 : w17.ownsRow w16.heap.size 9 1 v17 d ((List.range d).map (fun i => st (a i))) := OwL.as hO17 (by simp) (by simp)
        obtain ⟨g17, c17, e17⟩ : ∃ g c, v17 = .slice (some ⟨g, 0, none⟩) d c := by
          rcases hT17.2 with ⟨_, e⟩ | ⟨g, c, cur, e, _⟩
          · omega
          · exact ⟨g, c, e⟩
        subst e17
        have hg17b := (World.ownsRow.lt hT17 g17 rfl).1
        have c18 := World.ownsRow.cellAt hT17 i (by omega)
        rw [range_map_at _ _ _ hid2] at c18
        have f18 := World.ownsRow.frozenAt hT17 i
        have S18 := World.ownsRow.stored hT17 i (.string sn)
        have hT18 := S18.1
        rw [set_map_up, HSN.out, st_up] at hT18
        rw [← HSN.out] at hT18
        have hB18 := hB17.trans (below_of_grownAt S18.2 hB17.size hg17b)
        generalize st (a i) = z18 at c18
        clear S18 hT17 hB17 hO17 hg17 hnil hd16
        go_upto_region 41 with fail
        generalize w17.setCell ⟨g17, i, none⟩ (.string sn) = w18 at *
        clear c18 f18
        have E1 := pencode_ok d L h1 h2 (.slice (some ⟨g17, 0, none⟩) d c17) (up a i now) w18 (OwL.rdM hT18) (fun x hx => by
          by_cases e : x = i
          · rw [e, up_at]; exact HLN.out
          · rw [up_ne _ _ e]; exact HL.out x hx) hL
        rw [delta_p hid2, delta_q hid2] at E1
        obtain ⟨sa, hsa⟩ : ∃ s, s = sb (row (fun l => pl (pl (co (a i) l) (co now l)) (co (row (pp d (mx a)) L) l)) L) := ⟨_, rfl⟩
        obtain ⟨sc, hsc⟩ : ∃ s, s = sb (row (fun l => pl (pl (ti (g2 i) (co (a i) l)) (ti (g2 i) (co now l))) (co (row (qq d (mx a)) L) l)) L) := ⟨_, rfl⟩
        have E2 := fun W => pdelta_ok i (by omega) L (a i) now (row (pp d (mx a)) L) (row (qq d (mx a)) L) W (HL.out i hid2) HLN.out (row_length _ _) (row_length _ _) hL
        unfold st at E1 E2
        rw [← hsa, ← hsc] at E1 E2
        rw [← HSP.out, ← HSQ.out, ← HSN.out] at E2
        clear hsa hsc hT18
        go_wp2_with fail
        refine E1.mono ?_
        rintro e w19 ⟨rfl, hB19⟩
        have hB19' := hB18.trans (hB19.mono hB18.size)
        obtain ⟨_, e1, hc19⟩ := ((HH.out.old HBW.out).old hB19').at i hid2
        cases e1
        have E3 := E2 w19
        unfold st at hc19
        generalize sb (a i) = si at *
        clear E1 E2 hB19 hB18
        go_wp2_with fail
        refine E3.mono ?_
        rintro e w20 ⟨rfl, hB20⟩
        have hB20' := hB19'.trans (hB20.mono hB19'.size)
        have hBf := HBW.out.trans (hB20'.mono HBW.out.size)
        clear E3 hB20 hB20' hB19' hc19
        go_wp2
        go_ret
        exact ⟨rfl, hBf⟩
      · have hid3 : (d : Int) ≤ (i : Int) := by omega
        have hBf := HB04.out.trans (hB16'.mono HB04.out.size)
        clear hB16'
        go_wp2
        go_ret
        exact ⟨rfl, hBf⟩
    · rw [decide_eq_false hsame] at hss
      rw [if_neg hsame] at hz
      subst hz
      have hii : ((i : Int) != (i : Int)) = false := by simp
      clear hsame HZ
      by_cases hid2 : i < d
      · have hid3 : ¬ (d : Int) ≤ (i : Int) := by omega
        have hid4 : (i : Int) < (d : Int) := by omega
        have hnil : OwL w16.heap.size 9 w16 (.slice none 0 0) [] := World.ownsRow_nil _ _ _ _
        have hd16 := (HH.out.old HB04.out).old hB16'
        have HBW : Hid (Below w.heap.size w w16) := HB04.out.trans (hB16'.mono HB04.out.size)
        clear hB16'
        go_wp2_with (first | (at_builtin; refine wpList_append_texts rfl _ _ rfl w16.heap.size _ _ _ d a rfl hnil rfl hd16 (by simp) (by omega) (Nat.le_refl _) ?_))
        intro v17 w17 hO17 hg17
        have hB17 : Below w16.heap.size w16 w17 := below_of_grownR hg17 (Nat.le_refl _) (fun g e => by simp [Value.ownBlock] at e)
        have hT17 : w17.ownsRow w16.heap.size 9 1 v17 d ((List.range d).map (fun i => st (a i))) := OwL.as hO17 (by simp) (by simp)
        obtain ⟨g17, c17, e17⟩ : ∃ g c, v17 = .slice (some ⟨g, 0, none⟩) d c := by
          rcases hT17.2 with ⟨_, e⟩ | ⟨g, c, cur, e, _⟩
          · omega
          · exact ⟨g, c, e⟩
        subst e17
        have hg17b := (World.ownsRow.lt hT17 g17 rfl).1
        have c18 := World.ownsRow.cellAt hT17 i (by omega)
        rw [range_map_at _ _ _ hid2] at c18
        have f18 := World.ownsRow.frozenAt hT17 i
        have S18 := World.ownsRow.stored hT17 i (.string sn)
        have hT18 := S18.1
        rw [set_map_up, HSN.out, st_up] at hT18
        rw [← HSN.out] at hT18
        have hB18 := hB17.trans (below_of_grownAt S18.2 hB17.size hg17b)
        generalize st (a i) = z18 at c18
        clear S18 hT17 hB17 hO17 hg17 hnil hd16
        go_upto_region 41 with fail
        generalize w17.setCell ⟨g17, i, none⟩ (.string sn) = w18 at *
        clear c18 f18
        have E1 := pencode_ok d L h1 h2 (.slice (some ⟨g17, 0, none⟩) d c17) (up a i now) w18 (OwL.rdM hT18) (fun x hx => by
          by_cases e : x = i
          · rw [e, up_at]; exact HLN.out
          · rw [up_ne _ _ e]; exact HL.out x hx) hL
        rw [delta_p hid2, delta_q hid2] at E1
        obtain ⟨sa, hsa⟩ : ∃ s, s = sb (row (fun l => pl (pl (co (a i) l) (co now l)) (co (row (pp d (mx a)) L) l)) L) := ⟨_, rfl⟩
        obtain ⟨sc, hsc⟩ : ∃ s, s = sb (row (fun l => pl (pl (ti (g2 i) (co (a i) l)) (ti (g2 i) (co now l))) (co (row (qq d (mx a)) L) l)) L) := ⟨_, rfl⟩
        have E2 := fun W => pdelta_ok i (by omega) L (a i) now (row (pp d (mx a)) L) (row (qq d (mx a)) L) W (HL.out i hid2) HLN.out (row_length _ _) (row_length _ _) hL
        unfold st at E1 E2
        rw [← hsa, ← hsc] at E1 E2
        rw [← HSP.out, ← HSQ.out, ← HSN.out] at E2
        clear hsa hsc hT18
        go_wp2_with fail
        refine E1.mono ?_
        rintro e w19 ⟨rfl, hB19⟩
        have hB19' := hB18.trans (hB19.mono hB18.size)
        obtain ⟨_, e1, hc19⟩ := ((HH.out.old HBW.out).old hB19').at i hid2
        cases e1
        have E3 := E2 w19
        unfold st at hc19
        generalize sb (a i) = si at *
        clear E1 E2 hB19 hB18
        go_wp2_with fail
        refine E3.mono ?_
        rintro e w20 ⟨rfl, hB20⟩
        have hB20' := hB19'.trans (hB20.mono hB19'.size)
        have hBf := HBW.out.trans (hB20'.mono HBW.out.size)
        clear E3 hB20 hB20' hB19' hc19
        go_wp2
        go_ret
        exact ⟨rfl, hBf⟩
      · have hid3 : (d : Int) ≤ (i : Int) := by omega
        have hBf := HB04.out.trans (hB16'.mono HB04.out.size)
        clear hB16'
        go_wp2
        go_ret
        exact ⟨rfl, hBf⟩
  · have hbn : ((now.length : Int) != (L : Int)) = true := by rw [bne_iff_ne]; omega
    have hBf := HB04.out.trans (hB13'.mono HB04.out.size)
    generalize now.length = ln at *
    clear hlen hT13 hB13'
    go_wp2
    go_ret
    exact ⟨rfl, hBf⟩
end Go.Proofs.Ytpajchokohfhpaa
