/- What poly.product, Add and Mul answer, whatever lists of bytes they are given: by walks over the program. -/
import Derived.Test.YtikhjhbohkaajaaDoorPolyB
namespace Go.Proofs.YtikhjhbohkaajaaDoor
open Go.ChangeShapes Go.WideShapes Go.ChangeAt Go.RowKit El Pol
set_option maxRecDepth 100000 in
set_option maxHeartbeats 1000000 in
theorem product_some (ad : Addr) (cap : Nat) (xs ys : List El) (v : Value) (w : World) (h1 : xs.length ≤ cap) (h2 : cap ≤ 9223372036854775807)
    (hc : ∀ i, i < xs.length → w.cell? (ad.add i) = some (.int .u8 (((co xs i).val : Nat) : Int))) (hy : Rd w v ys) (hs : xs.length + ys.length ≤ 140737488351232) :
    Calls Tryd.prog 37 #[.slice (some ad) xs.length cap, v] w fun e w' => ∃ v', e = .returned v' ∧ Ow w.heap.size w' v' (trim (mul xs ys)) ∧ Below w.heap.size w w' := by
  obtain ⟨ao, cb, rfl, hcb, hcb2⟩ := hy.len
  have HC : Hid (∀ i, i < xs.length → w.cell? (ad.add i) = some (.int .u8 (((co xs i).val : Nat) : Int))) := hc
  clear hc
  have HY : Hid (Rd w (.slice ao ys.length cb) ys) := hy
  clear hy
  generalize hm : xs.length = m at *
  have HM : Hid (xs.length = m) := hm
  clear hm
  generalize hl : ys.length = l at *
  have HL : Hid (ys.length = l) := hl
  clear hl
  obtain ⟨i0, hi, hz0, hz1, hz2⟩ := info_parts info8
  go_enter Tryd.func37, Tryd.ntmps37
  go_wp2_with (first | (at_make; refine wpList_make_full _ rfl _ _ 35 rfl w.heap.size 5 i0 (.int .u8 0) 1 Tryd.underlying35 hi hz0 hz1 _ _ _ _ (m + l) rfl rfl (by omega) (by omega) (by rw [hz2]; omega) (by unfold maxLen; omega) (Nat.le_refl _) ?_))
  intro w1 hown hgrow
  have hA : Ow w.heap.size w1 (.slice (some ⟨w.heap.size, 0, none⟩) (m + l) (m + l)) (List.replicate (m + l) 0) := Ow.made hown
  have hB : Below w.heap.size w w1 := below_of_grown hgrow
  clear hown hgrow
  go_wp2
  go_loopw [16] (fun t wr => ∃ (k : Nat) (L : List El), k ≤ m ∧ t = .int .i64 k ∧ Ow w.heap.size wr (.slice (some ⟨w.heap.size, 0, none⟩) (m + l) (m + l)) L ∧ Hid (m + l = L.length ∧ ∀ j, co L j = co (mul (xs.take k) ys) j) ∧ Below w.heap.size w wr) (fun t _ => m - (intOf t).toNat)
  case atStart => exact ⟨0, List.replicate (m + l) 0, Nat.zero_le _, rfl, hA, ⟨by simp, by have := prod_start xs ys; rwa [HM.out, HL.out] at this⟩, hB⟩
  case round =>
    clear hA hB
    obtain ⟨k, L, hk, rfl, hA, HP, hB⟩ := hrel
    by_cases hlt : k < m
    · have hcell0 := HC.out k hlt
      have hcell : wr.cell? (ad.add k) = some (.int .u8 (((co xs k).val : Nat) : Int)) := by
        rw [hB.cell (by have := World.block_lt_of_cell? w _ hcell0; exact this)]; exact hcell0
      clear hcell0
      obtain ⟨x, hx⟩ : ∃ x : El, x = co xs k := ⟨_, rfl⟩
      rw [← hx] at hcell
      have HX : Hid (x = co xs k) := hx
      clear hx
      have hYr : Rd wr (.slice ao l cb) ys := by have := HY.out.old hB; exact this
      have hne := HY.out.ne (Nat.le_refl _)
      go_wp2_with fail
      refine (addTimes_any w.heap.size w.heap.size k (m + l) (m + l) (m + l - k) (m + l - k) L (.slice ao l cb) ys x wr hYr hne hA HP.out.1 (by rw [HL.out]; omega) (by rw [HL.out]; omega) (by omega)).mono ?_
      rintro e w2 ⟨rfl, hA2, hg2⟩
      have hB2 : Below w.heap.size w w2 := hB.trans (below_of_grownAt hg2 hB.size (Nat.le_refl _))
      clear hA hB hg2 hYr hne
      go_wp2
      go_roundw
      case rel => exact ⟨k + 1, addAt L k ys x, by omega, by go_num, hA2, ⟨by rw [addAt_length]; exact HP.out.1, by rw [HX.out]; exact prod_step xs ys L k (by rw [HM.out]; exact hlt) (by rw [HM.out, HL.out]; exact HP.out.1.symm) HP.out.2⟩, hB2⟩
      case measure => simp [intOf]; omega
    · go_wp2_with fail
      refine (trim_any _ _ _ hA.rd (by rw [← HP.out.1]; omega)).mono ?_
      rintro e w2 ⟨v2, rfl, hO, hB2⟩
      have hO' : Ow w.heap.size w2 v2 (trim (mul xs ys)) := by
        rw [← prod_end xs ys L k (by rw [HM.out]; omega) HP.out.2]; exact hO.mono hB.size
      have hB' : Below w.heap.size w w2 := hB.trans (hB2.mono hB.size)
      go_wp2
      go_ret
      exact ⟨_, rfl, hO', hB'⟩
theorem product_any (u v : Value) (xs ys : List El) (w : World) (hx : Rd w u xs) (hy : Rd w v ys) (hs : xs.length + ys.length ≤ 140737488351232) :
    Calls Tryd.prog 37 #[u, v] w fun e w' => ∃ v', e = .returned v' ∧ Ow w.heap.size w' v' (trim (mul xs ys)) ∧ Below w.heap.size w w' := by
  rcases hx with ⟨rfl, rfl⟩ | ⟨ad, cap, rfl, h1, h2, h3⟩
  · obtain ⟨ao, cb, rfl, hcb, hcb2⟩ := hy.len
    have hl0 : ys.length ≤ 140737488351232 := by simpa using hs
    clear hy hs
    generalize hl : ys.length = l at *
    clear hl
    obtain ⟨i0, hi, hz0, hz1, hz2⟩ := info_parts info8
    go_enter Tryd.func37, Tryd.ntmps37
    go_wp2_with (first | (at_make; refine wpList_make_full _ rfl _ _ 35 rfl w.heap.size 5 i0 (.int .u8 0) 1 Tryd.underlying35 hi hz0 hz1 _ _ _ _ l rfl rfl (by omega) (by omega) (by rw [hz2]; omega) (by unfold maxLen; omega) (Nat.le_refl _) ?_))
    intro w1 hown hgrow
    have hA : Ow w.heap.size w1 (.slice (some ⟨w.heap.size, 0, none⟩) l l) (List.replicate l 0) := Ow.made hown
    have hB : Below w.heap.size w w1 := below_of_grown hgrow
    clear hown hgrow
    go_wp2
    refine wp_loop_rounds 1 ?_
    rw [rounds_succ]
    go_wp2_with fail
    refine (trim_any _ _ _ hA.rd (by simpa using hl0)).mono ?_
    rintro e w2 ⟨v2, rfl, hO, hB2⟩
    have hO' : Ow w.heap.size w2 v2 (trim (mul [] ys)) := by
      rw [show trim (mul [] ys) = trim (List.replicate l 0) from trim_ext _ _ (fun i => by rw [co_replicate]; rfl)]; exact hO.mono hB.size
    have hB' : Below w.heap.size w w2 := hB.trans (hB2.mono hB.size)
    go_wp2
    go_ret
    exact ⟨_, rfl, hO', hB'⟩
  · exact product_some ad cap xs ys v w h1 h2 h3 hy hs
end Go.Proofs.YtikhjhbohkaajaaDoor
