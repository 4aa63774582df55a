/- What the document's own Decode answers: by a walk over the program. -/
import Derived.Test.YtpodboklhajbeaaDoorRefX
import Derived.Test.YtpodboklhajbeaaDoorRefT
import Derived.Test.YtpodboklhajbeaaDoorCodeJ
import Derived.Test.YtpodboklhajbeaaDoorMTu
import Derived.Deep.RegionWith
namespace Go.Proofs.YtpodboklhajbeaaDoor
open Go.ChangeShapes Go.WideShapes Go.ChangeAt Go.RowKit El Pol Mx
theorem ix_lt {lost : Nat → Bool} {n l : Nat} (h : l ∈ ix lost n) : l < n := by
  rw [ix_eq, List.mem_filter] at h
  exact List.mem_range.1 h.1
theorem at_in {lost : Nat → Bool} {n i : Nat} (h : i < (ix lost n).length) : at' lost n i ∈ ix lost n := by
  show (ix lost n).getD i 0 ∈ _
  rw [List.getD_eq_getElem?_getD, List.getElem?_eq_getElem h]
  exact List.getElem_mem h
theorem ix_up {lost : Nat → Bool} {n : Nat} (rv : Nat → Value) (x : Value) (h : lost n = false) : (ix lost (n + 1)).map (up rv n x) = (ix lost n).map rv ++ [x] := by
  rw [ix, h, if_neg (by simp), List.map_append, List.map_cons, List.map_nil, up_at]
  congr 1
  exact List.map_congr_left (fun l hl => up_ne _ _ (by have := ix_lt hl; omega))
theorem ix_more {lost : Nat → Bool} {n : Nat} (h : lost n = false) : ix lost (n + 1) = ix lost n ++ [n] := by rw [ix, h, if_neg (by simp)]
theorem ix_same {lost : Nat → Bool} {n : Nat} (h : lost n = true) : ix lost (n + 1) = ix lost n := by rw [ix, h, if_pos rfl]
/-- what a Decode answers: the fault f, and, where there is none, what the inverse T makes of X -/
def DecPost (w : World) (k f L : Nat) (s : Nat → Nat) (X : M) (e : Ending) (w' : World) : Prop :=
  ∃ (v' : Value) (T : M), e = .returned (.tuple #[v', .int .i64 ((f : Nat) : Int)]) ∧ (f = 0 → Inv k (fun i j => gen k (s i) j) T) ∧ RdF w' v' (cnt f k) (fun i => st (row (mm k T X i) L)) ∧ Below w.heap.size w w'
set_option maxRecDepth 100000 in
set_option maxHeartbeats 4000000 in
theorem rdecode_any (k m : Nat) (h1 : 1 ≤ k) (h2 : k + m ≤ 12) (v lv : Value) (a : Nat → List El) (lost : Nat → Bool) (w : World) (h : RdF w v (k + m) (fun i => st (a i))) (hl : RdF w lv (k + m) (fun i => .bool (lost i))) :
    Calls Tryd.prog 26 #[.int .i64 k, .int .i64 m, v, lv] w (DecPost w k (df k (k + m) a lost) (a (at' lost (k + m) 0)).length (at' lost (k + m)) (mx (fun i => a (at' lost (k + m) i)))) := by
  obtain ⟨j0, hj, hy0, hy1, hy2⟩ := info_parts infoT
  obtain ⟨k0, hk0, hx0, hx1, hx2⟩ := info_parts infoS
  have HH : Hid (RdF w v (k + m) (fun i => st (a i))) := h
  have HL : Hid (RdF w lv (k + m) (fun i => .bool (lost i))) := hl
  obtain ⟨ao, cap, rfl, _, _⟩ := h.len
  obtain ⟨al, cl, rfl, _, _⟩ := hl.len
  clear h hl
  have hTS : (9 : TypeId) ≠ 23 := by decide
  have hTU : (9 : TypeId) ≠ 5 := by decide
  have hTV : (23 : TypeId) ≠ 9 := by decide
  have hTW : (23 : TypeId) ≠ 5 := by decide
  have HTS : Hid ((9 : TypeId) ≠ 23) := hTS
  have HTU : Hid ((9 : TypeId) ≠ 5) := hTU
  have HTV : Hid ((23 : TypeId) ≠ 9) := hTV
  have HTW : Hid ((23 : TypeId) ≠ 5) := hTW
  clear hTS hTU hTV hTW
  obtain ⟨f, hf⟩ : ∃ f, f = df k (k + m) a lost := ⟨_, rfl⟩
  have HFD : Hid (f = df k (k + m) a lost) := hf
  obtain ⟨L, hL⟩ : ∃ L, L = (a (at' lost (k + m) 0)).length := ⟨_, rfl⟩
  have HLL : Hid (L = (a (at' lost (k + m) 0)).length) := hL
  obtain ⟨X, hX⟩ : ∃ X : M, X = mx (fun i => a (at' lost (k + m) i)) := ⟨_, rfl⟩
  have HX : Hid (X = mx (fun i => a (at' lost (k + m) i))) := hX
  rw [← hf, ← hL, ← hX]
  clear hf hL hX
  go_enter Tryd.func26, Tryd.ntmps26
  go_wp2
  go_loopw [10, 11, 12] (fun s10 s11 t wr => ∃ (i : Nat) (rv : Nat → Value), i ≤ k + m ∧ t = .int .i64 i ∧ wr.ownsRow w.heap.size 9 1 s10 (ix lost i).length ((ix lost i).map (fun l => st (a l))) ∧ wr.ownsRow w.heap.size 23 1 s11 (ix lost i).length ((ix lost i).map rv) ∧ (∀ l, l ∈ ix lost i → Ow w.heap.size wr (rv l) (row (gen k l) k)) ∧ Below w.heap.size w wr) (fun _ _ t _ => (k + m) - (intOf t).toNat)
  case atStart => exact ⟨0, fun _ => .slice none 0 0, Nat.zero_le _, rfl, World.ownsRow_nil _ _ _ _, World.ownsRow_nil _ _ _ _, fun l hl => (by cases hl), Below.refl _ _⟩
  case round =>
    obtain ⟨i, rv, hi, rfl, hO, hP, hQ, hB⟩ := hrel
    obtain ⟨a10, c10, rfl⟩ := own_len hO
    obtain ⟨a11, c11, rfl⟩ := own_len hP
    have hle := ix_le lost i
    by_cases hlt : i < k + m
    · have hlt' : (i : Int) < (k : Int) + (m : Int) := by omega
      obtain ⟨adl, rfl, hcl⟩ := (HL.out.old hB).at i hlt
      obtain ⟨ad, rfl, hc⟩ := (HH.out.old hB).at i hlt
      obtain ⟨b, hb⟩ : ∃ b, b = lost i := ⟨_, rfl⟩
      rw [← hb] at hcl
      have HBL : Hid (b = lost i) := hb
      clear hb
      cases b with
      | true =>
        have HE := ix_same HBL.out.symm
        have hR : wr.ownsRow w.heap.size 9 1 (.slice a10 (ix lost i).length c10) (ix lost (i + 1)).length ((ix lost (i + 1)).map (fun l => st (a l))) ∧ wr.ownsRow w.heap.size 23 1 (.slice a11 (ix lost i).length c11) (ix lost (i + 1)).length ((ix lost (i + 1)).map rv) ∧ (∀ l, l ∈ ix lost (i + 1) → Ow w.heap.size wr (rv l) (row (gen k l) k)) := by
          rw [HE]; exact ⟨hO, hP, hQ⟩
        have HR : Hid _ := hR
        clear HE hO hP hQ hc hR
        go_wp2
        go_roundw
        case rel => exact ⟨i + 1, rv, by omega, by go_num, HR.out.1, HR.out.2.1, HR.out.2.2, hB⟩
        case measure => simp [intOf]; omega
      | false =>
        have HO : Hid (wr.ownsRow w.heap.size 9 1 (.slice a10 (ix lost i).length c10) (ix lost i).length ((ix lost i).map (fun l => st (a l)))) := hO
        have HP : Hid (wr.ownsRow w.heap.size 23 1 (.slice a11 (ix lost i).length c11) (ix lost i).length ((ix lost i).map rv)) := hP
        have HQ : Hid (∀ l, l ∈ ix lost i → Ow w.heap.size wr (rv l) (row (gen k l) k)) := hQ
        have HB : Hid (Below w.heap.size w wr) := hB
        have hsw := hB.size
        have HXL : Hid ((ix lost (i + 1)).length = (ix lost i).length + 1) := by (show _ = _); rw [ix_more HBL.out.symm, List.length_append]; rfl
        have HX1 : Hid ((ix lost (i + 1)).map (fun l => st (a l)) = (ix lost i).map (fun l => st (a l)) ++ [st (a i)]) := by (show _ = _); rw [ix_more HBL.out.symm, List.map_append]; rfl
        unfold st at hc
        obtain ⟨s, hs⟩ : ∃ s, s = sb (a i) := ⟨_, rfl⟩
        have HS : Hid (st (a i) = .string s) := by (show st (a i) = _); rw [hs]
        rw [← hs] at hc
        clear hO hP hQ hB hs
        generalize (ix lost i).length = q at *
        go_wp2_with fail
        refine (rline_any k i h1 (by omega) (by omega) wr).mono ?_
        rintro e w2 ⟨v2, rfl, hV2, hB2⟩
        obtain ⟨a2, c2, rfl, _, _⟩ := hV2.rd.len
        rw [row_length] at *
        have hO2 := ownsRow_old HO.out hB2
        have hP2 := ownsRow_old HP.out hB2
        have hc2 : w2.cell? (ad.add i) = some (.string s) := by rw [hB2.cell (World.block_lt_of_cell? _ _ hc)]; exact hc
        have hBw2 := HB.out.trans (hB2.mono hsw)
        have hs2 := hBw2.size
        have HQ2 : Hid (∀ l, l ∈ ix lost i → Ow w.heap.size w2 (rv l) (row (gen k l) k)) := fun l hl => (HQ.out l hl).old hB2
        have HV2 : Hid (Ow w.heap.size w2 (.slice a2 k c2) (row (gen k i) k)) := hV2.mono hsw
        have HP2 : Hid (w2.ownsRow w.heap.size 23 1 (.slice a11 q c11) q ((ix lost i).map rv)) := hP2
        have HO2 : Hid (w2.ownsRow w.heap.size 9 1 (.slice a10 q c10) q ((ix lost i).map (fun l => st (a l)))) := hO2
        clear hc hV2 hP2
        generalize (ix lost i).map (fun l => st (a l)) = xs at *
        go_wp2_with (first | (at_builtin; refine wpList_append_own _ rfl _ _ 46 rfl w.heap.size 9 j0 (.string ⟨#[]⟩) 1 16 Tryd.underlying46 hj hy0 hy1 hy2 rfl (by decide) _ _ _ rfl (World.ownsRow.alloc hO2 _) ⟨w2.heap.size, 0, none⟩ 1 1 [.string s] rfl rfl (one_cell _) (by intro u hu; simp at hu; subst hu; rfl) (by unfold maxLen; omega) (by omega) (by simp; omega) ?_))
        intro v3 w3 hown3 hgrow3 _
        have hal2 : Below w2.heap.size w2 (w2.alloc (.cells #[.string s] 9)) := (Below.refl _ _).alloc (Nat.le_refl _) _
        have hOa := ownsRow_old HO2.out hal2
        have hP3 := keep_type HTS.out hOa (ownsRow_old HP2.out hal2) hgrow3
        have HQ3 : Hid (∀ l, l ∈ ix lost i → Ow w.heap.size w3 (rv l) (row (gen k l) k)) := fun l hl => keep_type HTU.out hOa ((HQ2.out l hl).old hal2) hgrow3
        have hV3 : Ow w.heap.size w3 (.slice a2 k c2) (row (gen k i) k) := keep_type HTU.out hOa (HV2.out.old hal2) hgrow3
        have hB3 : Below w.heap.size w w3 := (hBw2.alloc hs2 _).grown hgrow3 (by simp; omega) (fun g hg => (World.ownsRow.lt hO2 g hg).1)
        have hs3 := hB3.size
        have HP3 : Hid (w3.ownsRow w.heap.size 23 1 (.slice a11 q c11) q ((ix lost i).map rv)) := hP3
        have HO3 : Hid (w3.ownsRow w.heap.size 9 1 v3 (q + 1) (xs ++ [.string s])) := hown3
        have HV3 : Hid (Ow w.heap.size w3 (.slice a2 k c2) (row (gen k i) k)) := hV3
        obtain ⟨a3, c3, rfl⟩ := own_len hown3
        clear hown3 hgrow3 hOa hal2 hO2 hc2 HQ2 HV2 HP2 HO2 hBw2 hV3
        generalize hys : (ix lost i).map rv = ys at *
        have HYS : Hid ((ix lost i).map rv = ys) := hys
        clear hys
        go_wp2_with (first | (at_builtin; refine wpList_append_own _ rfl _ _ 22 rfl w.heap.size 23 k0 (.slice none 0 0) 1 24 Tryd.underlying22 hk0 hx0 hx1 hx2 rfl (by decide) _ _ _ rfl (World.ownsRow.alloc hP3 _) ⟨w3.heap.size, 0, none⟩ 1 1 [.slice a2 k c2] rfl rfl (one_cell _) (by intro u hu; simp at hu; subst hu; rfl) (by unfold maxLen; omega) (by omega) (by simp; omega) ?_))
        intro v4 w4 hown4 hgrow4 _
        have hal3 : Below w3.heap.size w3 (w3.alloc (.cells #[.slice a2 k c2] 23)) := (Below.refl _ _).alloc (Nat.le_refl _) _
        have hPa := ownsRow_old HP3.out hal3
        have hO4 := keep_type HTV.out hPa (ownsRow_old HO3.out hal3) hgrow4
        have HQ4 : Hid (∀ l, l ∈ ix lost (i + 1) → Ow w.heap.size w4 (up rv i (.slice a2 k c2) l) (row (gen k l) k)) := fun l hl => by
          rw [ix_more HBL.out.symm, List.mem_append] at hl
          rcases hl with hl | hl
          · rw [up_ne _ _ (by have := ix_lt hl; omega)]
            exact keep_type HTW.out hPa ((HQ3.out l hl).old hal3) hgrow4
          · obtain rfl : l = i := by simpa using hl
            rw [up_at]
            exact keep_type HTW.out hPa (HV3.out.old hal3) hgrow4
        have hB4 : Below w.heap.size w w4 := (hB3.alloc hs3 _).grown hgrow4 (by simp; omega) (fun g hg => (World.ownsRow.lt hP3 g hg).1)
        have HP4 : Hid (w4.ownsRow w.heap.size 23 1 v4 (ix lost (i + 1)).length ((ix lost (i + 1)).map (up rv i (.slice a2 k c2)))) := by
          (show w4.ownsRow _ _ _ _ _ _)
          rw [ix_up rv _ HBL.out.symm, HXL.out, HYS.out]
          exact hown4
        have HO4 : Hid (w4.ownsRow w.heap.size 9 1 (.slice a3 (q + 1) c3) (ix lost (i + 1)).length ((ix lost (i + 1)).map (fun l => st (a l)))) := by
          (show w4.ownsRow _ _ _ _ _ _)
          rw [HX1.out, HXL.out, HS.out]
          exact hO4
        clear hown4 hgrow4 hPa hal3 hP3 HQ3 HV3 HP3 HO3 hB3 hO4
        go_wp2
        go_roundw
        case rel => exact ⟨i + 1, up rv i (.slice a2 k c2), by omega, by go_num, HO4.out, HP4.out, HQ4.out, hB4⟩
        case measure => simp [intOf]; omega
    · have hik : i = k + m := by omega
      have hlt' : ¬ (i : Int) < (k : Int) + (m : Int) := by omega
      rw [hik] at hO hP hQ hle
      rw [hik]
      obtain ⟨n, hn⟩ : ∃ n, n = (ix lost (k + m)).length := ⟨_, rfl⟩
      have HN : Hid (n = (ix lost (k + m)).length) := hn
      rw [← hn] at hO hP hle ⊢
      have hRh : RdF wr (.slice a10 n c10) n (fun i => st (a (at' lost (k + m) i))) := OwL.rdF hO (fun i hi => at_map _ (by rw [← hn]; exact hi))
      have HRr : Hid (RdM wr (.slice a11 n c11) n (fun i => row (gen k (at' lost (k + m) i)) k)) := (OwL.rdF hP (fun i hi => at_map _ (by rw [← hn]; exact hi))).rdM (fun i hi => (hQ _ (at_in (by rw [← hn]; exact hi))).rd)
      have HRh : Hid (RdF wr (.slice a10 n c10) n (fun i => st (a (at' lost (k + m) i)))) := hRh
      have hkm' : ¬ (((k + m : Nat) : Int) < (k : Int) + (m : Int)) := by omega
      have hfd : f = if n < k then 8 else bbad n (fun i => a (at' lost (k + m) i)) := by
        rw [HFD.out, hn]
        rfl
      clear hn hO hP hQ hlt hlt' hi
      by_cases hlk : n < k
      · have hlk' : (n : Int) < (k : Int) := by omega
        have HF : Hid (f = 8) := by (show f = 8); rw [hfd, if_pos hlk]
        clear hfd hRh
        go_wp2
        go_ret2
        unfold DecPost
        exact ⟨.slice none 0 0, one, by rw [HF.out]; rfl, fun h => absurd (HF.out.symm.trans h) (by omega), by rw [HF.out]; exact .inl ⟨rfl, rfl⟩, hB⟩
      · have hlk' : ¬ (n : Int) < (k : Int) := by omega
        rw [if_neg hlk] at hfd
        have C := rblocks_any (.slice a10 n c10) n _ wr hRh (by omega) (by omega)
        rw [← hfd] at C
        by_cases hf0 : f = 0
        · have hbb := bbad_ok (hfd.symm.trans hf0)
          have hb : ((f : Int) != 0) = false := by rw [hf0]; rfl
          have hL16 : L ≤ 16 := by rw [HLL.out]; exact hbb.2
          have HRw : Hid (RdF wr (.slice a10 n c10) n (fun i => st (row (X i) L))) := by
            rw [HX.out]
            exact blocks_rows hRh (fun i hi => by rw [hbb.1 i hi, HLL.out])
          have HF0 : Hid (f = 0) := hf0
          clear hf0 hfd hbb hRh
          obtain ⟨ad10, rfl, _⟩ := HRh.out.at 0 (by omega)
          obtain ⟨rvx, hFx, _⟩ := HRr.out.rdF
          obtain ⟨ad11, rfl, _⟩ := hFx.at 0 (by omega)
          have had0 := add_zero ad10
          have had1 := add_zero ad11
          obtain ⟨_, _, e10, hc10, _⟩ := HRh.out.len
          obtain ⟨_, _, e11, hc11, _⟩ := HRr.out.len
          cases e10
          cases e11
          have hc0 : c10 ≠ 0 := by omega
          have hc1 : c11 ≠ 0 := by omega
          have hkc0 : k ≤ c10 := by omega
          have hkc1 : k ≤ c11 := by omega
          clear hFx
          go_wp2_with fail
          refine C.mono ?_
          rintro e w5 ⟨rfl, hB5⟩
          have hBw5 := hB.trans (hB5.mono hB.size)
          have G := rinverse_any (.slice (some ad11) k c11) k (fun i j => gen k (at' lost (k + m) i) j) w5 ⟨(HRr.out.old hB5).cut (by omega), by omega, by omega, fun e => e⟩ (by omega)
          have HRw5 : Hid (RdF w5 (.slice (some ad10) n c10) n (fun i => st (row (X i) L))) := HRw.out.old hB5
          clear C hB hB5 HRw HRr HRh
          go_wp2_with fail
          refine G.mono ?_
          rintro e w6 (⟨v6, T, rfl, hI, hR6, hB6⟩ | ⟨_, hS, _⟩)
          · have HI : Hid (Inv k (fun i j => gen k (at' lost (k + m) i) j) T) := hI
            have hBw6 := hBw5.trans (hB6.mono hBw5.size)
            have HR6 : Hid (RdM w6 v6 k (rws T k)) := hR6
            have HRw6 : Hid (RdF w6 (.slice (some ad10) n c10) n (fun i => st (row (X i) L))) := HRw5.out.old hB6
            obtain ⟨a6, c6, rfl, _, _⟩ := hR6.len
            have HBw6 : Hid (Below w.heap.size w w6) := hBw6
            have hs6 := hBw6.size
            clear G hI hB6 hBw5 HRw5 hR6 hBw6
            go_wp2
            go_loopw [17, 18] (fun o t wq => ∃ j : Nat, j ≤ k ∧ t = .int .i64 j ∧ wq.ownsRow w6.heap.size 9 1 o j ((List.range j).map (fun i => st (row (mm k T X i) L))) ∧ Below w6.heap.size w6 wq) (fun _ t _ => k - (intOf t).toNat)
            case atStart => exact ⟨0, Nat.zero_le _, rfl, World.ownsRow_nil _ _ _ _, Below.refl _ _⟩
            case round =>
              obtain ⟨j, hj', rfl, hO, hB⟩ := hrel
              obtain ⟨ar, cr, rfl⟩ := own_len hO
              by_cases hjk : j < k
              · have hjk' : (j : Int) < (k : Int) := by omega
                obtain ⟨ad6, av, cv, rfl, hc6, hrd6⟩ := (HR6.out.old hB).some j hjk
                rw [row_length] at hc6 hrd6
                have hdr : Below wr.heap.size wr wr.drew := ⟨rfl, rfl, rfl, Nat.le_refl _, fun _ _ => rfl⟩
                have C := rmix_any (.slice (some ad10) k c10) (.slice av k cv) k L X (T j) wr.drew (((HRw6.out.old hB).old hdr).cut (by omega)) hrd6.drew h1 (by omega) hL16
                have HO : Hid (wr.ownsRow w6.heap.size 9 1 (.slice ar j cr) j ((List.range j).map (fun i => st (row (mm k T X i) L)))) := hO
                have HNN : Hid (∀ (v' : Value) (w' : World), w'.ownsRow w6.heap.size 9 1 v' (j + 1) ((List.range j).map (fun i => st (row (mm k T X i) L)) ++ [st (row (mm k T X j) L)]) → w'.ownsRow w6.heap.size 9 1 v' (j + 1) ((List.range (j + 1)).map (fun i => st (row (mm k T X i) L)))) := fun v' w' h => by
                  rw [List.range_succ, List.map_append]; exact h
                rw [show row (fun l => sm k (fun i => ti (T j i) (X i l))) L = row (mm k T X j) L from rfl] at C
                clear hO
                generalize (List.range j).map (fun i => st (row (mm k T X i) L)) = xs at *
                unfold st at C HNN
                generalize sb (row (mm k T X j) L) = s at *
                go_wp2
                go_region_with (first | (go_at_call 46; refine C.mono ?_; rintro e w7 ⟨rfl, hB7⟩))
                all_goals
                  have hB17 := hdr.trans hB7
                  have hO7 := ownsRow_old HO.out hB17
                  have hBw7 := hB.trans (hB17.mono hB.size)
                  have hs7 := hBw7.size
                  clear C hB7 hB17 hc6 hrd6 hdr hB
                  go_wp2_with (first | (at_builtin; refine wpList_append_own _ rfl _ _ 46 rfl w6.heap.size 9 j0 (.string ⟨#[]⟩) 1 16 Tryd.underlying46 hj hy0 hy1 hy2 rfl (by decide) _ _ _ rfl (World.ownsRow.alloc hO7 _) ⟨w7.heap.size, 0, none⟩ 1 1 [.string s] rfl rfl (one_cell _) (by intro u hu; simp at hu; subst hu; rfl) (by unfold maxLen; omega) (by omega) (by simp; omega) ?_))
                  intro v' w8 hown hgrow _
                  have hO8 := HNN.out v' w8 hown
                  have hB8 : Below w6.heap.size w6 w8 := (hBw7.alloc hs7 _).grown hgrow (by simp; omega) (fun g hg => (World.ownsRow.lt hO7 g hg).1)
                  clear hown hgrow hO7 hBw7 HNN
                  go_wp2
                  go_roundw
                  case rel => exact ⟨j + 1, by omega, by go_num, hO8, hB8⟩
                  case measure => simp [intOf]; omega
              · have hjk' : ¬ (j : Int) < (k : Int) := by omega
                have hF : RdF wr (.slice ar j cr) (cnt f k) (fun i => st (row (mm k T X i) L)) := by
                  have e : j = k := by omega
                  rw [cnt, if_pos HF0.out]
                  rw [e] at hO ⊢
                  exact OwL.rdM hO
                have hBa := HBw6.out.trans (hB.mono hs6)
                clear hO hB
                go_wp2
                go_ret2
                unfold DecPost
                exact ⟨_, T, by rw [HF0.out]; rfl, fun _ => HI.out, hF, hBa⟩
          · exact absurd hS (left_not h2 (by rw [← HN.out]; omega))
        · have hb : ((f : Int) != 0) = true := by rw [bne_iff_ne]; omega
          have HF0 : Hid (f ≠ 0) := hf0
          clear hfd hRh hf0
          go_wp2_with fail
          refine C.mono ?_
          rintro e w5 ⟨rfl, hB5⟩
          have hBw5 := hB.trans (hB5.mono hB.size)
          clear C hB hB5
          go_wp2
          go_ret2
          unfold DecPost
          exact ⟨.slice none 0 0, one, rfl, fun h => absurd h HF0.out, by rw [cnt, if_neg HF0.out]; exact .inl ⟨rfl, rfl⟩, hBw5⟩
end Go.Proofs.YtpodboklhajbeaaDoor
