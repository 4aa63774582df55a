/- Any so many are enough, of a code and data without a fault: the call answers true. -/
import Derived.Test.YthgbcpejdkhlgaaDoorAnyB
import Derived.BigRegion
namespace Go.Proofs.YthgbcpejdkhlgaaDoor
open Go.ChangeShapes Go.WideShapes Go.ChangeAt Go.RowKit El Pol Mx
set_option maxRecDepth 100000 in
set_option maxHeartbeats 4000000 in
theorem any_ok (k m L : Nat) (h1 : 1 ≤ k) (h2 : k + m ≤ 12) (v lv : Value) (nl : Nat) (a : Nat → List El) (lost : Nat → Bool) (junk : List El) (at0 : Int) (h63 : at0 ≤ 9223372036854775807) (x : El) (w : World) (hg : Handle w) (h : RdF w v k (fun i => st (a i))) (hlo : RdF w lv nl (fun i => .bool (lost i)))
    (hnl : nl ≤ 140737488351232) (hl : ∀ i, i < k → (a i).length = L) (hL : L ≤ 16) :
    Calls Tryd.prog 4 #[.int .i64 k, .int .i64 m, v, lv, st junk, .int .i64 at0, .int .u8 ((x.val : Nat) : Int)] w fun e w' => e = .returned (.bool true) ∧ Below w.heap.size w w' := by
  have HG : Hid (Handle w) := hg
  have HH : Hid (RdF w v k (fun i => st (a i))) := h
  have HLO : Hid (RdF w lv nl (fun i => .bool (lost i))) := hlo
  have HL : Hid (∀ i, i < k → (a i).length = L) := hl
  have HP : Hid (∀ i, i < k → a i = prt k L (mx a) i) := fun i hi => by
    (show a i = row (mm k (gen k) (mx a) i) L)
    rw [row_congr (g := mx a i) (fun j _ => gen_data hi)]
    (show a i = row (co (a i)) L)
    rw [← hl i hi, row_co]
  obtain ⟨ao, cap, rfl, _, _⟩ := h.len
  obtain ⟨ad, rfl, _⟩ := h.at 0 (by omega)
  obtain ⟨al, cl, rfl, _, _⟩ := hlo.len
  obtain ⟨D, hD⟩ : ∃ D : M, D = mx a := ⟨_, rfl⟩
  have HD : Hid (D = mx a) := hD
  clear h hlo hl hg hD
  obtain ⟨sj, hsj⟩ : ∃ sj, sj = sb junk := ⟨_, rfl⟩
  have HSJ : Hid (sj = sb junk) := hsj
  unfold st
  rw [← hsj]
  clear hsj
  go_enter Tryd.func4, Tryd.ntmps4
  go_wp2_with fail
  refine (five_call w).mono ?_
  rintro e w1 ⟨ad1, c1, rfl, hc1, hcell1, hB1⟩
  have C := encode_ok k m L h1 h2 (.slice (some ad) k cap) a w1 (HH.out.old hB1) HL.out hL
  rw [← HD.out] at C
  go_wp2_with fail
  refine C.mono ?_
  rintro e w2 ⟨v2, rfl, hO2, hB2⟩
  have hBw := hB1.trans (hB2.mono hB1.size)
  have hR2 := OwL.rdM hO2
  obtain ⟨a2, c2, rfl, _, _⟩ := hR2.len
  have hd2 := HH.out.old hBw
  have hnil : OwL w2.heap.size 9 w2 (.slice none 0 0) [] := World.ownsRow_nil _ _ _ _
  clear C hO2 hB2 hB1 hcell1
  have hmm : ((m : Int) != (m : Int)) = false := by simp
  have hkk : ((k : Int) != (k : Int)) = false := by simp
  have hk1 : ¬ (k : Int) < 1 := by omega
  go_wp2_with (first | (at_builtin; refine wpList_append_texts rfl _ _ rfl w2.heap.size _ _ _ k a rfl hnil rfl hd2 (by simp) (by omega) (Nat.le_refl _) ?_))
  intro v3 w3 hO3 hg3
  have hB3 : Below w2.heap.size w2 w3 := below_of_grownR hg3 (Nat.le_refl _) (fun g e => by simp [Value.ownBlock] at e)
  have hR3 := hR2.old hB3
  have hs3 := hB3.size
  obtain ⟨a3, c3, e3⟩ := OwL.len hO3
  rw [List.length_map, List.length_range] at e3
  subst e3
  clear hnil hd2 hR2 hg3
  go_wp2_with (first | (at_builtin; refine wpList_append_texts rfl _ _ rfl w2.heap.size _ _ _ m (fun i => row (mm k (par k) D i) L) rfl hO3 rfl hR3 (by simp; omega) (by omega) hs3 ?_))
  intro v4 w4 hO4 hg4
  have hB24 : Below w2.heap.size w2 w4 := hB3.trans (below_of_grownR hg4 hs3 (fun g e => (World.ownsRow.lt hO3 g e).1))
  have hPa : w4.ownsRow w2.heap.size 9 1 v4 (k + m) ((List.range (k + m)).map (fun i => st (prt k L D i))) := by
    have h5 := hO4
    unfold OwL at h5
    rw [rep_texts, List.length_map, List.length_range] at h5
    rw [List.map_congr_left (g := fun i => st (if i < k then a i else row (mm k (par k) D (i - k)) L)) (fun i hi => by
      have hi' := List.mem_range.1 hi
      by_cases q : i < k
      · rw [if_pos q, HP.out i q, HD.out]
      · rw [if_neg q]
        congr 2
        exact row_congr (fun j _ => by rw [← gen_parity, show k + (i - k) = i by omega]))]
    exact h5
  obtain ⟨g4, c4, e4⟩ : ∃ g c, v4 = .slice (some ⟨g, 0, none⟩) (k + m) c := by
    rcases hPa.2 with ⟨_, e⟩ | ⟨g, c, cur, e, _⟩
    · omega
    · exact ⟨g, c, e⟩
  subst e4
  have HPa : Hid (w4.ownsRow w2.heap.size 9 1 (.slice (some ⟨g4, 0, none⟩) (k + m) c4) (k + m) ((List.range (k + m)).map (fun i => st (prt k L D i)))) := hPa
  have R := right_ok k m L h1 h2 _ (prt k L D) w4 (OwL.rdM hPa) (fun i _ => row_length _ _) hL
  rw [right_true] at R
  have HBw : Hid (Below w.heap.size w w2) := hBw
  have hs0 := hBw.size
  clear hO3 hO4 hg4 hR3 hB3 hPa hBw
  go_wp2_with fail
  refine R.mono ?_
  rintro e w5 ⟨rfl, hB5⟩
  have hB25 := hB24.trans (hB5.mono hB24.size)
  clear R
  have HPa5 : Hid (w5.ownsRow w2.heap.size 9 1 (.slice (some ⟨g4, 0, none⟩) (k + m) c4) (k + m) ((List.range (k + m)).map (fun i => st (prt k L D i)))) := ownsRow_old HPa.out hB5
  clear HPa hB24 hB5
  obtain ⟨ad0, e0, hc0⟩ := ((HH.out.old HBw.out).old hB25).at 0 (by omega)
  cases e0
  rw [add_zero] at hc0
  have hs0' := sb_size (a 0)
  rw [HL.out 0 (by omega)] at hs0'
  unfold st at hc0
  generalize sb (a 0) = s0 at *
  go_upto_region 15 with fail
  go_cut [100] from 28 (fun s100 wx => s100 = .bool (decide (0 < m ∧ 0 ≤ at0 ∧ 0 < L)) ∧ wx = w5)
  case first =>
    by_cases hm0 : 0 < m
    · have hm0' : (0 : Int) < (m : Int) := by omega
      by_cases ha0 : 0 ≤ at0
      · by_cases hL0 : 0 < L
        · have hL0' : (0 : Int) < (L : Int) := by omega
          have HT : Hid (decide (0 < m ∧ 0 ≤ at0 ∧ 0 < L) = true) := decide_eq_true ⟨hm0, ha0, hL0⟩
          go_wp2
          go_meet
          case rel => exact ⟨by rw [HT.out], rfl⟩
        · have hL0' : ¬ (0 : Int) < (L : Int) := by omega
          have HT : Hid (decide (0 < m ∧ 0 ≤ at0 ∧ 0 < L) = false) := decide_eq_false (fun q => hL0 q.2.2)
          go_wp2
          go_meet
          case rel => exact ⟨by rw [HT.out], rfl⟩
      · have HT : Hid (decide (0 < m ∧ 0 ≤ at0 ∧ 0 < L) = false) := decide_eq_false (fun q => ha0 q.2.1)
        go_wp2
        go_meet
        case rel => exact ⟨by rw [HT.out], rfl⟩
    · have hm0' : ¬ (0 : Int) < (m : Int) := by omega
      have HT : Hid (decide (0 < m ∧ 0 ≤ at0 ∧ 0 < L) = false) := decide_eq_false (fun q => hm0 q.1)
      go_wp2
      go_meet
      case rel => exact ⟨by rw [HT.out], rfl⟩
  case rest =>
    obtain ⟨rfl, hwx⟩ := hcut
    subst hwx
    go_upto_if 100 with fail
    go_cut [] from 28 (fun wx => wx.ownsRow w2.heap.size 9 1 (.slice (some ⟨g4, 0, none⟩) (k + m) c4) (k + m) ((List.range (k + m)).map (fun i => st (prt k L D i))) ∧ Below w2.heap.size w2 wx)
    case first =>
      by_cases hcd : 0 < m ∧ 0 ≤ at0 ∧ 0 < L
      · rw [decide_eq_true hcd]
        obtain ⟨hm0, ha0, hL0⟩ := hcd
        obtain ⟨t, rfl⟩ : ∃ t : Nat, at0 = t := ⟨at0.toNat, by omega⟩
        have hkm0 : ¬ (k : Int) + (m : Int) = 0 := by omega
        have hL00 : ¬ (L : Int) = 0 := by omega
        clear ha0
        go_upto_region 18 with fail
        rw [show (t : Int) % ((k : Int) + (m : Int)) = ((t % (k + m) : Nat) : Int) from by rw [Int.natCast_emod, Int.natCast_add], show (t : Int) % (L : Int) = ((t % L : Nat) : Int) from by rw [Int.natCast_emod]]
        have hi0 : t % (k + m) < k + m := Nat.mod_lt _ (by omega)
        have hj0 : t % L < L := Nat.mod_lt _ hL0
        generalize t % (k + m) = i0 at *
        generalize t % L = j0 at *
        have hci := World.ownsRow.cellAt HPa5.out i0 (by omega)
        rw [range_map_at _ _ _ hi0] at hci
        have hsz := sb_size (prt k L D i0)
        rw [row_length] at hsz
        have hsk : ∀ h : j0 < (sb (prt k L D i0)).size, ((sb (prt k L D i0))[j0]'h).toNat = (co (prt k L D i0) j0).val := fun h => sb_at _ _ h
        obtain ⟨y, hy⟩ : ∃ y, y = co (prt k L D i0) j0 := ⟨_, rfl⟩
        rw [← hy] at hsk
        have HY : Hid (y = co (prt k L D i0) j0) := hy
        have HSET : Hid (∀ z : El, (sb (prt k L D i0)).extract 0 j0 ++ ⟨#[UInt8.ofNat z.val]⟩ ++ (sb (prt k L D i0)).extract (j0 + 1) L = sb ((prt k L D i0).set j0 z)) := fun z => by
          have := sb_set (prt k L D i0) j0 z (by rw [row_length]; exact hj0)
          rw [row_length] at this
          exact this
        unfold st at hci
        clear hy
        generalize sb (prt k L D i0) = s at *
        have hjs : j0 < s.size := by omega
        have hsk := hsk hjs
        have hle : ¬ (L : Int) ≤ (j0 : Int) := by omega
        by_cases hyx : y = x
        · have hb : (((y.val : Nat) : Int) != ((x.val : Nat) : Int)) = false := by rw [hyx]; simp
          clear hyx
          go_wp2
          go_meet
          case rel => exact ⟨HPa5.out, hB25⟩
        · have hb : (((y.val : Nat) : Int) != ((x.val : Nat) : Int)) = true := by rw [bne_iff_ne]; intro e; exact hyx (Fin.ext (by omega))
          have HYX : Hid (y ≠ x) := hyx
          have hnil : OwL wc.heap.size 9 wc (.slice none 0 0) [] := World.ownsRow_nil _ _ _ _
          have hRp := OwL.rdM HPa5.out
          clear hyx
          go_wp2_with (first | (at_builtin; refine wpList_append_texts rfl _ _ rfl wc.heap.size _ _ _ (k + m) (prt k L D) rfl hnil rfl hRp (by simp) (by omega) (Nat.le_refl _) ?_))
          intro v6 w6 hO6 hg6
          have hB6 : Below wc.heap.size wc w6 := below_of_grownR hg6 (Nat.le_refl _) (fun g e => by simp [Value.ownBlock] at e)
          obtain ⟨g6, c6, e6⟩ : ∃ g c, v6 = .slice (some ⟨g, 0, none⟩) (k + m) c := by
            rcases hO6.2 with ⟨_, e⟩ | ⟨g, c, cur, e, _⟩
            · simp at e; omega
            · exact ⟨g, c, by rw [e]; simp⟩
          subst e6
          have hO6' : w6.ownsRow wc.heap.size 9 1 (.slice (some ⟨g6, 0, none⟩) (k + m) c6) (k + m) ((List.range (k + m)).map (fun i => st (prt k L D i))) := by
            have := hO6
            unfold OwL at this
            rw [List.length_map, List.length_range] at this
            exact this
          have hci6 : w6.cell? ⟨g4, i0, none⟩ = some (.string s) := by rw [hB6.cell (World.block_lt_of_cell? _ _ hci)]; exact hci
          have hlt6 := World.ownsRow.lt hO6' g6 rfl
          have halB : Below w6.heap.size w6 (w6.alloc (.cells #[.int .u8 ((x.val : Nat) : Int)] 5)) := (Below.refl _ _).alloc (Nat.le_refl _) _
          have hO7 := ownsRow_old hO6' halB
          have hconv := run_text (w := (w6.alloc (.cells #[.int .u8 ((x.val : Nat) : Int)] 5)).drew) (v := .slice (some ⟨w6.heap.size, 0, none⟩) 1 1) (xs := [x]) (.inr ⟨_, 1, rfl, Nat.le_refl _, by omega, fun i hi => by
            have : i = 0 := by simp at hi; omega
            subst this
            rw [add_zero]
            exact cell_new w6 (.int .u8 ((x.val : Nat) : Int)) 5⟩) 40 9 Tryd.underlying40 Tryd.underlying9
          have hc7 := World.ownsRow.cellAt hO7 i0 (by omega)
          rw [range_map_at _ _ _ hi0] at hc7
          have hf7 := World.ownsRow.frozenAt hO7 i0
          have hA1 : (s.extract 0 j0).size = j0 := by rw [ByteArray.size_extract]; omega
          have hA2 : (sb [x]).size = 1 := sb_size [x]
          have hA4 : (s.extract (j0 + 1) L).size = L - (j0 + 1) := by rw [ByteArray.size_extract]; omega
          have hA3 : (s.extract 0 j0 ++ sb [x]).size = j0 + 1 := by rw [ByteArray.size_append, hA1, hA2]
          have HNEW : Hid (s.extract 0 j0 ++ sb [x] ++ s.extract (j0 + 1) L = sb ((prt k L D i0).set j0 x)) := HSET.out x
          have HO6 : Hid (w6.ownsRow wc.heap.size 9 1 (.slice (some ⟨g6, 0, none⟩) (k + m) c6) (k + m) ((List.range (k + m)).map (fun i => st (prt k L D i)))) := hO6'
          have HB6 : Hid (Below wc.heap.size wc w6) := hB6
          unfold st at hc7 hconv
          generalize sb (prt k L D i0) = s7 at hc7
          have hu6 : ¬ g6 = w6.heap.size := by omega
          have hci7 : (w6.alloc (.cells #[.int .u8 ((x.val : Nat) : Int)] 5)).cell? ⟨g4, i0, none⟩ = some (.string s) := by rw [halB.cell (World.block_lt_of_cell? _ _ hci6)]; exact hci6
          have hi0' : (i0 : Int) < (k : Int) + (m : Int) := by omega
          clear hO6 hO6' hO7 hg6 hB6 halB hnil hRp HSET hb hsk
          go_wp2
          go_region
          have hst := World.ownsRow.stored HO6.out i0 (.string (s.extract 0 j0 ++ sb [x] ++ s.extract (j0 + 1) L))
          have hBs := HB6.out.trans (below_of_grownAt hst.2 HB6.out.size hlt6.1)
          have hal8 : Below (w6.setCell ⟨g6, i0, none⟩ (.string (s.extract 0 j0 ++ sb [x] ++ s.extract (j0 + 1) L))).heap.size (w6.setCell ⟨g6, i0, none⟩ (.string (s.extract 0 j0 ++ sb [x] ++ s.extract (j0 + 1) L))) ((w6.setCell ⟨g6, i0, none⟩ (.string (s.extract 0 j0 ++ sb [x] ++ s.extract (j0 + 1) L))).alloc (.cells #[.int .u8 ((x.val : Nat) : Int)] 5)).drew := ((Below.refl _ _).alloc (Nat.le_refl _) _).drew
          have hO8 := ownsRow_old hst.1 hal8
          have hB8 := hBs.trans (hal8.mono hBs.size)
          rw [set_map_up, HNEW.out, show up (fun i => st (prt k L D i)) i0 (.string (sb ((prt k L D i0).set j0 x))) = fun i => st (up (prt k L D) i0 ((prt k L D i0).set j0 x) i) from by
            funext i
            by_cases e : i = i0
            · rw [e, up_at, up_at]
            · rw [up_ne _ _ e, up_ne _ _ e]] at hO8
          have R := right_ok k m L h1 h2 _ (up (prt k L D) i0 ((prt k L D i0).set j0 x)) _ (OwL.rdM hO8) (fun i _ => by
            by_cases e : i = i0
            · rw [e, up_at, List.length_set, row_length]
            · rw [up_ne _ _ e, row_length]) hL
          rw [right_false k m L D i0 j0 x h2 hm0 hi0 hj0 (by rw [← HY.out]; exact HYX.out)] at R
          rw [HNEW.out] at hB8 ⊢
          clear hst hBs hal8 hO8 hconv hc7 hf7 hA1 hA2 hA3 hA4 hci7 hci6 hci
          generalize ((w6.setCell ⟨g6, i0, none⟩ (.string (sb ((prt k L D i0).set j0 x)))).alloc (.cells #[.int .u8 ((x.val : Nat) : Int)] 5)).drew = w8 at *
          go_wp2_with fail
          refine R.mono ?_
          rintro e w9 ⟨rfl, hB9⟩
          have hB10 := hB8.trans (hB9.mono hB8.size)
          clear R
          go_wp2
          go_meet
          case rel => exact ⟨ownsRow_old HPa5.out hB10, hB25.trans (hB10.mono hB25.size)⟩
      · rw [decide_eq_false hcd]
        clear hcd
        go_wp2
        go_meet
        case rel => exact ⟨HPa5.out, hB25⟩
    case rest =>
      clear hB25 HPa5 hc0
      obtain ⟨hPx, hBx⟩ := hcut
      by_cases hnk : nl = k + m
      · subst hnk
        have hne : (((k + m : Nat) : Int) != (k : Int) + (m : Int)) = false := by simp
        have hP0 : (fun l => st (jnk (prt k L D) lost junk 0 l)) = fun l => st (prt k L D l) := by funext l; rw [jnk_no (by omega)]
        rw [← hP0] at hPx
        clear hP0
        rename World => wx
        go_wp2
        go_loopw [25, 26] (fun s t wr => ∃ i : Nat, i ≤ k + m ∧ s = .int .i64 ((ix lost i).length : Nat) ∧ t = .int .i64 i ∧ wr.ownsRow w2.heap.size 9 1 (.slice (some ⟨g4, 0, none⟩) (k + m) c4) (k + m) ((List.range (k + m)).map (fun l => st (jnk (prt k L D) lost junk i l))) ∧ Below w2.heap.size w2 wr) (fun _ t _ => (k + m) - (intOf t).toNat)
        case atStart => exact ⟨0, Nat.zero_le _, rfl, rfl, hPx, hBx⟩
        case round =>
          clear hPx hBx
          obtain ⟨i, hi, rfl, rfl, hPx, hBx⟩ := hrel
          have hle := ix_le lost i
          by_cases hlt : i < k + m
          · obtain ⟨adl, rfl, hcl⟩ := ((HLO.out.old HBw.out).old hBx).at i hlt
            obtain ⟨b, hb⟩ : ∃ b, b = lost i := ⟨_, rfl⟩
            rw [← hb] at hcl
            have HB : Hid (b = lost i) := hb
            clear hb
            cases b with
            | true =>
              have hcell := World.ownsRow.cellAt hPx i (by omega)
              rw [range_map_at _ _ _ hlt] at hcell
              have hfree := World.ownsRow.frozenAt hPx i
              have hst := World.ownsRow.stored hPx i (.string sj)
              rw [set_map_up] at hst
              have hq := hst.1
              rw [show up (fun l => st (jnk (prt k L D) lost junk i l)) i (.string sj) = fun l => st (jnk (prt k L D) lost junk (i + 1) l) from by rw [HSJ.out]; exact jnk_up _ _ _ _ HB.out.symm] at hq
              have hBs := hBx.trans (below_of_grownAt hst.2 hBx.size (World.ownsRow.lt hPx g4 rfl).1)
              have HE : Hid ((ix lost (i + 1)).length = (ix lost i).length) := by (show (ix lost (i + 1)).length = (ix lost i).length); rw [ix, ← HB.out, if_pos rfl]
              unfold st at hcell
              generalize sb (jnk (prt k L D) lost junk i i) = z at *
              generalize (ix lost i).length = q at *
              clear hst hPx hBx
              go_wp2
              go_roundw
              case rel => exact ⟨i + 1, by omega, by rw [HE.out], by go_num, hq, hBs⟩
              case measure => simp [intOf]; omega
            | false =>
              have hq := hPx
              rw [jnk_same _ _ _ _ HB.out.symm] at hq
              have HE : Hid ((ix lost (i + 1)).length = (ix lost i).length + 1) := by (show (ix lost (i + 1)).length = (ix lost i).length + 1); rw [ix, ← HB.out, if_neg (by simp), List.length_append]; rfl
              generalize (ix lost i).length = q at *
              clear hPx
              go_wp2
              go_roundw
              case rel => exact ⟨i + 1, by omega, by rw [HE.out]; go_num, by go_num, hq, hBx⟩
              case measure => simp [intOf]; omega
          · have hik : i = k + m := by omega
            rw [hik] at hPx
            have hR9 := OwL.rdM hPx
            have hl9 := (HLO.out.old HBw.out).old hBx
            have hBa := HBw.out.trans (hBx.mono hs0)
            have hg9 := HG.out.old hBa
            have hd9 := (HH.out.old HBw.out).old hBx
            rw [hik] at hle
            rw [hik]
            clear hPx hlt hi
            by_cases hlk : (ix lost (k + m)).length < k
            · have hlk' : (((ix lost (k + m)).length : Nat) : Int) < (k : Int) := by omega
              have C := decode_bad k m (by omega) (by omega) _ _ (k + m) (k + m) 8 _ lost wr hR9 hl9 (by
                unfold dbad
                rw [if_neg (by rw [cbad_of h1 h2]; simp), if_neg (by simp), if_pos hlk']) (by omega)
              generalize (ix lost (k + m)).length = q at *
              clear hR9 hl9 hd9
              go_wp2_with fail
              refine C.mono ?_
              rintro e w9 ⟨rfl, hB9⟩
              have hBb := hBa.trans (hB9.mono hBa.size)
              have hg10 := hg9.old hB9
              clear C hB9
              go_wp2_with fail
              refine (err_same 8 _ hg10).mono ?_
              rintro e w10 ⟨rfl, hB10⟩
              have hBc := hBb.trans (hB10.mono hBb.size)
              go_wp2
              go_ret
              exact ⟨rfl, hBc⟩
            · have hlk' : ¬ (((ix lost (k + m)).length : Nat) : Int) < (k : Int) := by omega
              have C := decode_ok k m L h1 h2 _ _ (jnk (prt k L D) lost junk (k + m)) lost wr hR9 hl9 (by omega) (fun i hi => by rw [jnk_left hi, row_length]) hL
              have HBK : Hid (∀ T, Inv k (fun i j => gen k (at' lost (k + m) i) j) T → ∀ i, i < k → row (mm k T (mx (fun i => jnk (prt k L D) lost junk (k + m) (at' lost (k + m) i))) i) L = a i) := by
                intro T hT i hi
                rw [decode_back (L := L) (lf := fun i => jnk (prt k L D) lost junk (k + m) (at' lost (k + m) i)) hT (D := D) (fun i hi => jnk_left (P := prt k L D) (lost := lost) (junk := junk) (n := k + m) (i := i) (by omega)) i hi, HD.out]
                (show row (co (a i)) L = a i)
                rw [← HL.out i hi, row_co]
              generalize (ix lost (k + m)).length = q at *
              clear hR9 hl9 hg9
              go_wp2_with fail
              refine C.mono ?_
              rintro e w9 ⟨v9, T, rfl, hI, hO9, hB9⟩
              have hBb := hBa.trans (hB9.mono hBa.size)
              have E := texts_any _ _ k k _ a w9 (OwL.rdM hO9) (hd9.old hB9)
              rw [sameL_iff.2 ⟨rfl, fun i hi => HBK.out T hI i hi⟩] at E
              obtain ⟨a9, c9, rfl, _, _⟩ := (OwL.rdM hO9).len
              clear C hI hO9 hB9 hd9 HBK
              go_wp2_with fail
              refine E.mono ?_
              rintro e w10 ⟨rfl, hB10⟩
              have hBc := hBb.trans (hB10.mono hBb.size)
              clear E
              go_wp2
              go_ret
              exact ⟨rfl, hBc⟩
      · have hne : ((nl : Int) != (k : Int) + (m : Int)) = true := by rw [bne_iff_ne]; omega
        have hBa := HBw.out.trans (hBx.mono hs0)
        clear hPx hBx
        go_wp2
        go_ret
        exact ⟨rfl, hBa⟩
end Go.Proofs.YthgbcpejdkhlgaaDoor
