/- Texts of plain mathematics, of memory and of walks, in one. -/
import Derived.Test.YtfeikmmojilmbaaMe
import Derived.Test.YtfeikmmojilmbaaGe
import Derived.Test.YtfeikmmojilmbaaMatEp
import Derived.Deep.RegionWith
import Derived.Test.YtfeikmmojilmbaaMa
import Derived.Test.YtfeikmmojilmbaaMxx
/- What block.sizeOf and block.Check answer: by walks over the program. -/
namespace Go.Proofs.Ytfeikmmojilmbaa
open Go.ChangeShapes Go.WideShapes Go.ChangeAt Go.RowKit El Pol
/-- what is wrong with blocks: 0, 1 or 3 -/
def bbad (n : Nat) (a : Nat → List El) : Nat := if anyB (fun i => decide ((a i).length ≠ (a 0).length)) n then 3 else if 16 < (a 0).length then 1 else 0
theorem bbad_ok {n : Nat} {a : Nat → List El} (h : bbad n a = 0) : (∀ i, i < n → (a i).length = (a 0).length) ∧ (a 0).length ≤ 16 := by
  unfold bbad at h
  split at h
  · omega
  · rename_i h1
    split at h
    · omega
    · rename_i h2
      refine ⟨fun i hi => ?_, by omega⟩
      have := anyB_false.1 (Bool.eq_false_iff.2 h1) i hi
      simpa using this
theorem bbad_of {n : Nat} {a : Nat → List El} (h1 : ∀ i, i < n → (a i).length = (a 0).length) (h2 : (a 0).length ≤ 16) : bbad n a = 0 := by
  unfold bbad
  rw [anyB_false.2 (fun i hi => by simpa using h1 i hi), if_neg (by simp), if_neg (by omega)]
theorem is_long (xs : List El) (ad : Addr) (n : Nat) (w : World) (hc : w.cell? ad = some (.int .i64 n)) :
    Calls Try.prog 76 #[st xs, .pointer (some ad)] w fun e w' => e = .returned (.bool (decide (xs.length ≠ n))) ∧ w' = w := by
  have hs := sb_size xs
  unfold st
  generalize sb xs = s at *
  generalize xs.length = l at *
  by_cases hl : l = n
  · have hb : ((l : Int) != (n : Int)) = false := by rw [hl]; simp
    go_enter Try.func76, Try.ntmps76
    go_wp2
    go_ret
    exact ⟨by simp [hl], rfl⟩
  · have hb : ((l : Int) != (n : Int)) = true := by rw [bne_iff_ne]; omega
    go_enter Try.func76, Try.ntmps76
    go_wp2
    go_ret
    exact ⟨by simp [hl], rfl⟩
set_option maxHeartbeats 400000 in
theorem index_long (ad : Addr) (n cap : Nat) (c : Value) (p : Nat → Bool) (w : World) (hn : n ≤ 8796093021952)
    (hc : ∀ i, i < n → ∃ rv, w.cell? (ad.add i) = some rv ∧ Calls Try.prog 76 #[rv, c] w fun e w' => e = .returned (.bool (p i)) ∧ w' = w) :
    Calls Try.prog 65 #[.slice (some ad) n cap, .func (.func 76) #[] #[c]] w fun e w' => ∃ z, e = .returned (.int .i64 z) ∧ Fst p n z ∧ w' = w := by
  have HC : Hid (∀ i, i < n → ∃ rv, w.cell? (ad.add i) = some rv ∧ Calls Try.prog 76 #[rv, c] w fun e w' => e = .returned (.bool (p i)) ∧ w' = w) := hc
  clear hc
  go_enter Try.func65, Try.ntmps65
  go_wp2
  go_loop [8] (fun t => ∃ k : Nat, k ≤ n ∧ t = .int .i64 k ∧ Hid (∀ i, i < k → p i = false)) (fun t => n - (intOf t).toNat)
  case atStart => exact ⟨0, Nat.zero_le _, rfl, fun i hi => absurd hi (Nat.not_lt_zero _)⟩
  case round =>
    obtain ⟨k, hk, rfl, HF⟩ := hrel
    by_cases hlt : k < n
    · obtain ⟨rv, hc, C⟩ := HC.out k hlt
      obtain ⟨b, hb⟩ : ∃ b, b = p k := ⟨_, rfl⟩
      rw [← hb] at C
      have HB : Hid (b = p k) := hb
      clear hb
      cases b
      all_goals
        go_wp2_with fail
        refine C.mono ?_
        rintro e w1 ⟨rfl, hw⟩
        obtain rfl := hw.symm
        clear C
        go_wp2
      · go_round
        case rel => exact ⟨k + 1, by omega, by go_num, fun i hi => by
          by_cases e : i = k
          · rw [e]; exact HB.out.symm
          · exact HF.out i (by omega)⟩
        case measure => simp [intOf]; omega
      · go_ret
        exact ⟨_, rfl, .inr ⟨k, hlt, rfl, HB.out.symm⟩, rfl⟩
    · go_wp2
      go_ret
      exact ⟨_, rfl, .inl ⟨rfl, fun i hi => HF.out i (by omega)⟩, rfl⟩
theorem contains_long (ad : Addr) (n cap : Nat) (a : Nat → List El) (c : Addr) (l : Nat) (w : World) (h : RdF w (.slice (some ad) n cap) n (fun i => st (a i))) (hn : n ≤ 8796093021952) (hl : w.cell? c = some (.int .i64 l)) :
    Calls Try.prog 36 #[.slice (some ad) n cap, .func (.func 76) #[] #[.pointer (some c)]] w fun e w' => e = .returned (.bool (anyB (fun i => decide ((a i).length ≠ l)) n)) ∧ w' = w := by
  have C := index_long ad n cap (.pointer (some c)) (fun i => decide ((a i).length ≠ l)) w hn (fun i hi => by
    obtain ⟨ad', e, hc⟩ := h.at i hi
    cases e
    exact ⟨_, hc, is_long _ c l w hl⟩)
  clear h
  go_enter Try.func36, Try.ntmps36
  go_wp2_with fail
  refine C.mono ?_
  rintro e w1 ⟨z, rfl, hz, hw⟩
  obtain rfl := hw.symm
  have HZ : Hid (decide (0 ≤ z) = anyB (fun i => decide ((a i).length ≠ l)) n) := hz.any
  clear C hz
  go_wp2
  go_ret
  exact ⟨by rw [← HZ.out]; rfl, rfl⟩
theorem size_any (v : Value) (n : Nat) (a : Nat → List El) (w : World) (h : RdF w v n (fun i => st (a i))) (h0 : 1 ≤ n) :
    Calls Try.prog 75 #[v] w fun e w' => e = .returned (.int .i64 ((a 0).length : Int)) ∧ w' = w := by
  obtain ⟨ao, cap, rfl, _, _⟩ := h.len
  obtain ⟨ad, rfl, hc0⟩ := h.at 0 (by omega)
  rw [add_zero] at hc0
  have hs := sb_size (a 0)
  unfold st at hc0
  generalize sb (a 0) = s at *
  generalize (a 0).length = l at *
  have hn0 : ((n : Int) == 0) = false := by rw [beq_eq_false_iff_ne]; omega
  clear h
  go_enter Try.func75, Try.ntmps75
  go_wp2
  go_ret
  exact ⟨rfl, rfl⟩
set_option maxHeartbeats 400000 in
theorem blocks_any (v : Value) (n : Nat) (a : Nat → List El) (w : World) (h : RdF w v n (fun i => st (a i))) (hn : n ≤ 8796093021952) (h0 : 1 ≤ n) :
    Calls Try.prog 62 #[v] w fun e w' => e = .returned (errV (bbad n a)) ∧ Below w.heap.size w w' := by
  obtain ⟨ao, cap, rfl, _, _⟩ := h.len
  obtain ⟨ad, rfl, hc0⟩ := h.at 0 (by omega)
  rw [add_zero] at hc0
  have hal : Below w.heap.size w (w.alloc (.cells #[.int .i64 ((a 0).length : Int)] 3)) := (Below.refl _ _).alloc (Nat.le_refl _) _
  have C := contains_long ad n cap a ⟨w.heap.size, 0, none⟩ (a 0).length _ (h.old hal) hn (cell_new w _ 3)
  have hcn := cell_new w (.int .i64 ((a 0).length : Int)) 3
  have hs := sb_size (a 0)
  obtain ⟨b, hb⟩ : ∃ b, b = anyB (fun i => decide ((a i).length ≠ (a 0).length)) n := ⟨_, rfl⟩
  have HB : Hid (b = anyB (fun i => decide ((a i).length ≠ (a 0).length)) n) := hb
  rw [← hb] at C
  obtain ⟨l, hl⟩ : ∃ l, l = (a 0).length := ⟨_, rfl⟩
  have HL : Hid (l = (a 0).length) := hl
  have S := size_any (.slice (some ad) n cap) n a w h h0
  rw [← hl] at C hs hal hcn S
  unfold st at hc0
  generalize sb (a 0) = s at *
  clear h hb hl
  cases b with
  | true =>
    have E : Hid (bbad n a = 3) := by (show bbad n a = 3); unfold bbad; rw [← HB.out]; rfl
    go_enter Try.func62, Try.ntmps62
    go_wp2_with fail
    refine S.mono ?_
    rintro e0 w0 ⟨rfl, hw0⟩
    obtain rfl := hw0.symm
    go_wp2_with fail
    refine C.mono ?_
    rintro e w1 ⟨rfl, hw⟩
    obtain rfl := hw.symm
    clear C
    go_wp2
    go_ret
    exact ⟨by rw [E.out]; rfl, hal⟩
  | false =>
    by_cases h16 : 16 < l
    · have E : Hid (bbad n a = 1) := by (show bbad n a = 1); unfold bbad; rw [← HB.out, ← HL.out, if_neg (by simp), if_pos h16]
      go_enter Try.func62, Try.ntmps62
      go_wp2_with fail
      refine S.mono ?_
      rintro e0 w0 ⟨rfl, hw0⟩
      obtain rfl := hw0.symm
      go_wp2_with fail
      refine C.mono ?_
      rintro e w1 ⟨rfl, hw⟩
      obtain rfl := hw.symm
      clear C
      go_wp2
      go_ret
      exact ⟨by rw [E.out]; rfl, hal⟩
    · have E : Hid (bbad n a = 0) := by (show bbad n a = 0); unfold bbad; rw [← HB.out, ← HL.out, if_neg (by simp), if_neg h16]
      go_enter Try.func62, Try.ntmps62
      go_wp2_with fail
      refine S.mono ?_
      rintro e0 w0 ⟨rfl, hw0⟩
      obtain rfl := hw0.symm
      go_wp2_with fail
      refine C.mono ?_
      rintro e w1 ⟨rfl, hw⟩
      obtain rfl := hw.symm
      clear C
      go_wp2
      go_ret
      exact ⟨by rw [E.out]; rfl, hal⟩
end Go.Proofs.Ytfeikmmojilmbaa

/- What block.Check answers (BlkB), beside lists of lists in memory. -/

/- What block.addTimes and block.Times do: by walks over the program. -/
namespace Go.Proofs.Ytfeikmmojilmbaa
open Go.ChangeShapes Go.WideShapes Go.ChangeAt Go.RowKit El Pol Mx
theorem sb_row (f : Nat → El) (q k : Nat) (h : k < (sb (row f q)).size) : ((sb (row f q))[k]'h).toNat = (f k).val := by
  rw [sb_at]
  rw [sb_size, row_length] at h
  rw [co_row_lt _ h]
set_option maxHeartbeats 1000000 in
theorem cadd_any (B g cp q : Nat) (f h : Nat → El) (c : El) (w : World) (hq : q ≤ 1000) (hO : Ow B w (.slice (some ⟨g, 0, none⟩) q cp) (row f q)) :
    Calls Try.prog 90 #[.slice (some ⟨g, 0, none⟩) q cp, st (row h q), .int .u8 ((c.val : Nat) : Int)] w fun e w' => e = .returned (.tuple #[]) ∧ Ow B w' (.slice (some ⟨g, 0, none⟩) q cp) (row (fun j => pl (f j) (ti (h j) c)) q) ∧ w.grownBy w' (some g) := by
  have hs := sb_size (row h q)
  rw [row_length] at hs
  have HS : Hid (∀ k (hk : k < (sb (row h q)).size), ((sb (row h q))[k]'hk).toNat = (h k).val) := fun k hk => sb_row h q k hk
  unfold st
  generalize sb (row h q) = s at *
  have hB : w.grownBy w (some g) := grownBy_refl _ _
  have hA : Ow B w (.slice (some ⟨g, 0, none⟩) q cp) (row (part f h c 0) q) := by rw [part_zero]; exact hO
  clear hO
  go_enter Try.func90, Try.ntmps90
  go_wp2
  go_loopw [12] (fun t wr => ∃ k : Nat, k ≤ q ∧ t = .int .i64 k ∧ Ow B wr (.slice (some ⟨g, 0, none⟩) q cp) (row (part f h c k) q) ∧ w.grownBy wr (some g)) (fun t _ => q - (intOf t).toNat)
  case atStart => exact ⟨0, Nat.zero_le _, rfl, hA, hB⟩
  case round =>
    clear hA hB
    obtain ⟨k, hk, rfl, hA, hB⟩ := hrel
    by_cases hlt : k < q
    · have hks : k < s.size := by rw [hs]; exact hlt
      have hsk := HS.out k hks
      have hcell2 := hA.cell (by rw [row_length]) k hlt
      rw [co_row_lt _ hlt, part_at] at hcell2
      have hfree := hA.free (by rw [row_length]) k
      have R := put_el hA hB (part_step f h c q k)
      clear hA hB
      generalize f k = y at *
      generalize h k = x at *
      go_wp2
      go_region_with (first | (go_at_call 98; refine (mul_any _ _ x.isLt c.isLt _).mono ?_; rintro e w1 ⟨rfl, rfl⟩) | (go_at_call 97; refine (add_any _ _ y.isLt (ti x c).isLt _).mono ?_; rintro e w1 ⟨rfl, rfl⟩))
      all_goals
        have R1 : Ow B (wr.setCell ⟨g, k, none⟩ (.int .u8 ((y.val ^^^ (ti x c).val : Nat) : Int))).drew (.slice (some ⟨g, 0, none⟩) q cp) (row (part f h c (k + 1)) q) := R.1.old ⟨rfl, rfl, rfl, Nat.le_refl _, fun _ _ => rfl⟩
        have R2 : w.grownBy (wr.setCell ⟨g, k, none⟩ (.int .u8 ((y.val ^^^ (ti x c).val : Nat) : Int))).drew (some g) := grownBy_drew R.2
        clear hsk hcell2 hfree R
        go_wp2
        go_roundw
        case rel => exact ⟨k + 1, by omega, by go_num, R1, R2⟩
        case measure => simp [intOf]; omega
    · have hF : Ow B wr (.slice (some ⟨g, 0, none⟩) q cp) (row (fun j => pl (f j) (ti (h j) c)) q) := by
        rw [row_congr (g := part f h c k) (fun j hj => by unfold part; rw [if_pos (by omega)])]; exact hA
      clear hA
      go_wp2
      go_end0
      exact ⟨rfl, hF, hB⟩
end Go.Proofs.Ytfeikmmojilmbaa

/- What block.Times answers: by a walk over the program. -/
namespace Go.Proofs.Ytfeikmmojilmbaa
open Go.ChangeShapes Go.WideShapes Go.ChangeAt Go.RowKit El Pol Mx
/-- the first k texts are made -/
def made (T : M) (L k : Nat) : Nat → Value := fun i => if i < k then st (row (T i) L) else .string ⟨#[]⟩
theorem made_up (T : M) (L k : Nat) : up (made T L k) k (st (row (T k) L)) = made T L (k + 1) := by
  funext i
  unfold up made
  by_cases e : i = k
  · rw [if_pos e, if_pos (by omega), e]
  · rw [if_neg e]
    by_cases h : i < k
    · rw [if_pos h, if_pos (by omega)]
    · rw [if_neg h, if_neg (by omega)]
theorem made_all (T : M) (L p : Nat) : (List.range p).map (made T L p) = (List.range p).map (fun i => st (row (T i) L)) :=
  List.map_congr_left (fun i hi => by unfold made; rw [if_pos (List.mem_range.1 hi)])
theorem made_none (T : M) (L p : Nat) : (List.range p).map (made T L 0) = List.replicate p (.string ⟨#[]⟩) := by
  apply List.ext_getElem <;> simp [made]
set_option maxRecDepth 100000 in
set_option maxHeartbeats 2000000 in
theorem times_any (u v : Value) (p q n L : Nat) (A D : M) (w : World) (hu : RdM w u p (rws A q)) (hv : RdF w v n (fun i => st (row (D i) L))) (hqn : q ≤ n) (h0 : 0 < p → 0 < n) (hp : p ≤ 12) (hL : L ≤ 16) :
    Calls Try.prog 77 #[u, v] w fun e w' => ∃ v', e = .returned v' ∧ w'.ownsRow w.heap.size 9 1 v' p ((List.range p).map (fun i => st (row (mm q A D i) L))) ∧ Below w.heap.size w w' := by
  obtain ⟨i0, hi, hz0, hz1, hz2⟩ := info_parts info8
  obtain ⟨j0, hj, hy0, hy1, hy2⟩ := info_parts infoT
  have HU : Hid (RdM w u p (rws A q)) := hu
  have HV : Hid (RdF w v n (fun i => st (row (D i) L))) := hv
  have H0 : Hid (0 < p → 0 < n) := h0
  obtain ⟨a1, c1, rfl, _, _⟩ := hu.len
  obtain ⟨a2, c2, rfl, _, _⟩ := hv.len
  clear hu hv h0
  go_enter Try.func77, Try.ntmps77
  go_wp2_with (first | (at_make; refine wpList_make_full _ rfl _ _ 22 rfl w.heap.size 9 j0 (.string ⟨#[]⟩) 1 Try.underlying22 hj hy0 hy1 _ _ _ _ p rfl rfl rfl rfl (by rw [hy2]; omega) (by unfold maxLen; omega) (Nat.le_refl _) ?_))
  intro w1 hown hgrow
  have hA : w1.ownsRow w.heap.size 9 1 (.slice (some ⟨w.heap.size, 0, none⟩) p p) p ((List.range p).map (made (mm q A D) L 0)) := by
    rw [made_none]
    have := hown
    rw [toList_madeCells_one] at this
    exact this
  have hB : Below w.heap.size w w1 := below_of_grown hgrow
  clear hown hgrow
  go_wp2
  go_loopw [15] (fun t wr => ∃ k : Nat, k ≤ p ∧ t = .int .i64 k ∧ wr.ownsRow w.heap.size 9 1 (.slice (some ⟨w.heap.size, 0, none⟩) p p) p ((List.range p).map (made (mm q A D) L k)) ∧ Below w.heap.size w wr) (fun t _ => p - (intOf t).toNat)
  case atStart => exact ⟨0, Nat.zero_le _, rfl, hA, hB⟩
  case round =>
    clear hA hB
    obtain ⟨k, hk, rfl, hA, hB⟩ := hrel
    by_cases hlt : k < p
    · have hn0 := H0.out (by omega)
      obtain ⟨ad, av, cv, rfl, hcell, hrd⟩ := (HU.out.old hB).some k hlt
      rw [row_length] at hcell hrd
      obtain ⟨ad2, rfl, hc0⟩ := (HV.out.old hB).at 0 hn0
      have S := size_any (.slice (some ad2) n c2) n (fun i => row (D i) L) wr (HV.out.old hB) hn0
      rw [row_length] at S
      have hsw := hB.size
      rename World => wo
      go_wp2_with fail
      refine S.mono ?_
      rintro e0 w0 ⟨rfl, hw0⟩
      obtain rfl := hw0.symm
      clear S
      go_wp2_with (first | (at_make; refine wpList_make_full _ rfl _ _ 83 rfl wo.heap.size 5 i0 (.int .u8 0) 1 Try.underlying83 hi hz0 hz1 _ _ _ _ L rfl rfl rfl rfl (by rw [hz2]; omega) (by unfold maxLen; omega) (Nat.le_refl _) ?_))
      intro w2 hown hgrow
      have hO : Ow wo.heap.size w2 (.slice (some ⟨wo.heap.size, 0, none⟩) L L) (row (fun l => sm 0 (fun x => ti (A k x) (D x l))) L) := by
        rw [show row (fun l => sm 0 (fun x => ti (A k x) (D x l))) L = row (fun _ => 0) L from rfl, ← replicate_row]; exact Ow.made hown
      have hB2 := below_of_grown hgrow
      have HA : Hid (wo.ownsRow w.heap.size 9 1 (.slice (some ⟨w.heap.size, 0, none⟩) p p) p ((List.range p).map (made (mm q A D) L k))) := hA
      have HB : Hid (Below w.heap.size w wo) := hB
      have HR : Hid (Rd wo (.slice av q cv) (row (A k) q)) := hrd
      clear hown hgrow hA hB hcell hc0 hrd
      have hmin : min (q : Int) (n : Int) = (q : Int) := by omega
      go_wp2
      go_loopw [28] (fun t wq => ∃ j : Nat, j ≤ q ∧ t = .int .i64 j ∧ Ow wo.heap.size wq (.slice (some ⟨wo.heap.size, 0, none⟩) L L) (row (fun l => sm j (fun x => ti (A k x) (D x l))) L) ∧ Below wo.heap.size wo wq) (fun t _ => q - (intOf t).toNat)
      case atStart => exact ⟨0, Nat.zero_le _, rfl, hO, hB2⟩
      case round =>
        clear hO hB2
        obtain ⟨j, hj', rfl, hO, hB2⟩ := hrel
        by_cases hjq : j < q
        · have hBw := HB.out.trans (hB2.mono hsw)
          obtain ⟨adr, rfl, hx⟩ := (HR.out.old hB2).at j (by rw [row_length]; exact hjq)
          rw [co_row_lt _ hjq] at hx
          obtain ⟨ad3, e3, hc3⟩ := (HV.out.old hBw).at j (by omega)
          cases e3
          have C := cadd_any wo.heap.size wo.heap.size L L _ (D j) (A k j) wr.drew (by omega) (hO.old ⟨rfl, rfl, rfl, Nat.le_refl _, fun _ _ => rfl⟩)
          have HN : Hid (row (fun l => pl (sm j (fun x => ti (A k x) (D x l))) (ti (D j l) (A k j))) L = row (fun l => sm (j + 1) (fun x => ti (A k x) (D x l))) L) := row_congr (fun l _ => by rw [sm, ti_comm (D j l)])
          have hjn : j < n := by omega
          unfold st at C hc3
          generalize sb (row (D j) L) = s at *
          generalize A k j = y at *
          clear hO
          go_wp2
          go_region_with (first | (go_at_call 90; refine C.mono ?_; rintro e w3 ⟨rfl, h1, h2⟩))
          all_goals
            rw [HN.out] at h1
            have hB3 := hB2.trans (below_of_grownAt (w := wr) ⟨h2.os, h2.tape, h2.output, h2.size, h2.block⟩ hB2.size (Nat.le_refl _))
            clear C h2 hB2 hx hc3 hBw
            go_wp2
            go_roundw
            case rel => exact ⟨j + 1, by omega, by go_num, h1, hB3⟩
            case measure => simp [intOf]; omega
        · have hBw := HB.out.trans (hB2.mono hsw)
          have hE : row (fun l => sm j (fun x => ti (A k x) (D x l))) L = row (mm q A D k) L := row_congr (fun l _ => by rw [show j = q by omega]; rfl)
          rw [hE] at hO
          have hconv := run_text hO.rd 83 9 Try.underlying83 Try.underlying9
          have hA1 := ownsRow_old HA.out hB2
          have hcell := World.ownsRow.cellAt hA1 k (by omega)
          rw [range_map_at _ _ _ hlt] at hcell
          have hfree := World.ownsRow.frozenAt hA1 k
          have hP := World.ownsRow.stored hA1 k (st (row (mm q A D k) L))
          rw [set_map_up, made_up] at hP
          have hP1 := hP.1
          have hBs := hBw.trans (below_of_grownAt hP.2 hBw.size (Nat.le_refl _))
          unfold st at hconv hP1 hBs
          generalize sb (row (mm q A D k) L) = s at *
          generalize made (mm q A D) L k k = z at *
          clear hP hO hA1 hE hBw hB2
          go_wp2
          go_roundw
          case rel => exact ⟨k + 1, by omega, by go_num, hP1, hBs⟩
          case measure => simp [intOf]; omega
    · have hF : wr.ownsRow w.heap.size 9 1 (.slice (some ⟨w.heap.size, 0, none⟩) p p) p ((List.range p).map (fun i => st (row (mm q A D i) L))) := by
        rw [← made_all, show p = k by omega]
        rw [show p = k by omega] at hA
        exact hA
      clear hA
      go_wp2
      go_ret
      exact ⟨_, rfl, hF, hB⟩
end Go.Proofs.Ytfeikmmojilmbaa

/- Blocks that are checked, as rows of a matrix. -/
namespace Go.Proofs.Ytfeikmmojilmbaa
open Go.RowKit El Pol Mx
theorem blocks_ok (v : Value) (n : Nat) (a : Nat → List El) (w : World) (h : RdF w v n (fun i => st (a i))) (hn : n ≤ 8796093021952) (h0 : 1 ≤ n) (hb : bbad n a = 0) :
    Calls Try.prog 62 #[v] w fun e w' => e = .returned .nilIface ∧ Below w.heap.size w w' := by
  have := blocks_any v n a w h hn h0
  rw [hb] at this
  exact this
theorem blocks_bad (v : Value) (n c : Nat) (a : Nat → List El) (w : World) (h : RdF w v n (fun i => st (a i))) (hn : n ≤ 8796093021952) (h0 : 1 ≤ n) (hb : bbad n a = c) (hc : c ≠ 0) :
    Calls Try.prog 62 #[v] w fun e w' => e = .returned (.iface 66 (.int .i64 c)) ∧ Below w.heap.size w w' := by
  have := blocks_any v n a w h hn h0
  rw [hb, show errV c = .iface 66 (.int .i64 c) from if_neg hc] at this
  exact this
/-- blocks of one length are rows of a matrix -/
theorem blocks_rows {w : World} {v : Value} {n L : Nat} {a : Nat → List El} (h : RdF w v n (fun i => st (a i))) (hl : ∀ i, i < n → (a i).length = L) : RdF w v n (fun i => st (row (mx a i) L)) :=
  h.congr (fun i hi => by
    show st (a i) = st (row (co (a i)) L)
    rw [← hl i hi, row_co])
end Go.Proofs.Ytfeikmmojilmbaa
