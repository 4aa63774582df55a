/- What matrix.anyTwice and its callees answer: by walks over the program. -/
import Derived.Test.YtfnbpljgmchhbaaMt
import Derived.Test.YtfnbpljgmchhbaaMarks
import Derived.Lib.AppendZerosOnto
namespace Go.Proofs.Ytfnbpljgmchhbaa
open Go.ChangeShapes Go.WideShapes Go.ChangeAt Go.RowKit El Pol Mx
set_option maxRecDepth 100000 in
set_option maxHeartbeats 1000000 in
theorem grow_any (n : Nat) (w : World) (hn : n ≤ 1000) :
    Calls Try.prog 84 #[.slice none 0 0, .int .i64 n] w fun e w' => ∃ v', e = .returned v' ∧ Ow w.heap.size w' v' [] ∧ Below w.heap.size w w' := by
  by_cases h0 : n = 0
  · subst h0
    go_enter Try.func84, Try.ntmps84
    go_wp2
    go_ret
    exact ⟨_, rfl, World.ownsRow_nil _ _ _ _, Below.refl _ _⟩
  · obtain ⟨i0, hi, hz0, hz1, hz2⟩ := info_parts info8
    have hrz : ∀ ty, (Builtin.append_ #[30, 3] ty #[.slice none 0 0, .int .i64 (n : Int)]).run Try.prog w =
        .ok (.slice (some ⟨w.heap.size, 0, none⟩) n (grownCap w n 0 5)) (w.drew.alloc (.cells (#[] ++ Builtin.zeroCells (Value.int .u8 0).cells n ++ Builtin.zeroCells (Value.int .u8 0).cells (grownCap w n 0 5 - n)) 5)) := fun ty => by
      have h := Go.Lib.run_append_grow_zeros (P := Try.prog) w 30 3 ty 5 i0 (.int .u8 0) .i64 .i64 Try.underlying30 Try.underlying3 hi hz0 none 0 0 [] (run_firstCells_none (w := w.drew) _ _ _ _) n (by omega) (by rw [hz1]; decide) (by omega) (by omega) (by rw [hz2]; omega) (growslice_fits (by omega) (by rw [hz2]; omega))
      simpa using h
    have hge := grownCap_ge w n 0 5
    have hle := grownCap_le_maxLen w n 0 5 (by unfold maxLen; omega)
    generalize grownCap w n 0 5 = G at *
    have hcs : (#[] ++ Builtin.zeroCells (Value.int .u8 0).cells n ++ Builtin.zeroCells (Value.int .u8 0).cells (G - n)).size = G := by
      simp [size_zeroCells, Value.cells]; omega
    have hO : Ow w.heap.size (w.drew.alloc (.cells (#[] ++ Builtin.zeroCells (Value.int .u8 0).cells n ++ Builtin.zeroCells (Value.int .u8 0).cells (G - n)) 5)) (.slice (some ⟨w.heap.size, 0, none⟩) 0 G) [] :=
      ⟨rfl, .inr ⟨w.heap.size, G, _, rfl, Nat.le_refl _, heap_alloc_new w.drew _, Nat.zero_le _, hle, by omega, by simp⟩⟩
    have hB : Below w.heap.size w (w.drew.alloc (.cells (#[] ++ Builtin.zeroCells (Value.int .u8 0).cells n ++ Builtin.zeroCells (Value.int .u8 0).cells (G - n)) 5)) :=
      Below.alloc (a := w) (w := w.drew) (B := w.heap.size) ⟨rfl, rfl, rfl, Nat.le_refl _, fun _ _ => rfl⟩ (Nat.le_refl _) _
    generalize w.drew.alloc (.cells (#[] ++ Builtin.zeroCells (Value.int .u8 0).cells n ++ Builtin.zeroCells (Value.int .u8 0).cells (G - n)) 5) = W at *
    have hG63 : G ≤ 9223372036854775807 := by unfold maxLen at hle; omega
    have hgt : (0 : Int) < (n : Int) := by omega
    clear hcs hle
    go_enter Try.func84, Try.ntmps84
    go_wp2_with (first | (at_builtin; refine wpList_append_run rfl _ _ _ _ rfl _ _ rfl rfl _ _ (hrz _) ?_))
    go_ret
    exact ⟨_, rfl, hO, hB⟩
set_option maxRecDepth 100000 in
set_option maxHeartbeats 1000000 in
theorem concat_any (b : Nat) (u v : Value) (xs ys : List El) (w : World) (hx : Rd w u xs) (hy : Rd w v ys) (h1 : xs.length ≤ 12) (h2 : ys.length ≤ 12) (hc0 : w.cell? ⟨b, 0, none⟩ = some u) (hc1 : w.cell? ⟨b, 1, none⟩ = some v) :
    Calls Try.prog 67 #[.slice (some ⟨b, 0, none⟩) 2 2] w fun e w' => ∃ v', e = .returned v' ∧ Ow w.heap.size w' v' (xs ++ ys) ∧ Below w.heap.size w w' := by
  have HX : Hid (Rd w u xs) := hx
  have HY : Hid (Rd w v ys) := hy
  obtain ⟨a1, c1, rfl, _, _⟩ := hx.len
  obtain ⟨a2, c2, rfl, _, _⟩ := hy.len
  clear hx hy
  obtain ⟨n, hn⟩ : ∃ n, n = xs.length := ⟨_, rfl⟩
  obtain ⟨m, hm⟩ : ∃ m, m = ys.length := ⟨_, rfl⟩
  rw [← hn] at h1 hc0 HX
  rw [← hm] at h2 hc1 HY
  have HN : Hid (n = xs.length) := hn
  have HM : Hid (m = ys.length) := hm
  clear hn hm
  have hbl := World.block_lt_of_cell? w _ hc0
  go_enter Try.func67, Try.ntmps67
  go_wp2
  refine wp_loop_rounds 3 ?_
  rw [rounds_succ]
  go_wp2
  rw [rounds_succ]
  go_wp2
  rw [rounds_succ]
  go_wp2_with fail
  rw [show ((n : Int) + (m : Int)) = ((n + m : Nat) : Int) by omega]
  refine (grow_any (n + m) w (by omega)).mono ?_
  rintro e w1 ⟨v1, rfl, hO1, hB1⟩
  have d0 : w1.cell? ⟨b, 0, none⟩ = some (.slice a1 n c1) := by rw [hB1.cell hbl]; exact hc0
  have d1 : w1.cell? ⟨b, 1, none⟩ = some (.slice a2 m c2) := by rw [hB1.cell hbl]; exact hc1
  have hx1 := HX.out.old hB1
  have hy1 := HY.out.old hB1
  have hs1 := hB1.size
  clear hc0 hc1
  go_wp2
  refine wp_loop_rounds 3 ?_
  rw [rounds_succ]
  go_wp2_with (first | (at_builtin; refine wpList_append_rd rfl _ _ rfl w.heap.size _ _ _ _ rfl hO1 rfl hx1 (by simp) (by rw [← HN.out]; omega) hs1 ?_))
  intro v2 w2 hO2 hg2
  have hBs := below_of_grownR hg2 hs1 (fun g e => (hO1.lt g e).1)
  have hB2 := hB1.trans hBs
  have e1 : w2.cell? ⟨b, 1, none⟩ = some (.slice a2 m c2) := by rw [hBs.cell hbl]; exact d1
  have hy2 := HY.out.old hB2
  have hs2 := hB2.size
  clear hO1 hg2 hBs hB1 hx1 hy1 d0 d1
  go_wp2
  rw [rounds_succ]
  go_wp2_with (first | (at_builtin; refine wpList_append_rd rfl _ _ rfl w.heap.size _ _ _ _ rfl hO2 rfl hy2 (by rw [← HN.out]; omega) (by rw [← HM.out]; omega) hs2 ?_))
  intro v3 w3 hO3 hg3
  have hB3 := hB2.trans (below_of_grownR hg3 hs2 (fun g e => (hO2.lt g e).1))
  clear hO2 hg3 hB2 hy2 e1
  go_wp2
  rw [rounds_succ]
  go_wp2
  go_ret
  exact ⟨_, rfl, hO3, hB3⟩
set_option maxRecDepth 100000 in
set_option maxHeartbeats 400000 in
theorem seen_any (h : Nat) (x : El) (b : Bool) (w : World) (hc : w.cell? ⟨h, x.val, none⟩ = some (.bool b)) (hf : w.frozen? ⟨h, x.val, none⟩ = false) :
    Calls Try.prog 83 #[.int .u8 ((x.val : Nat) : Int), .pointer (some ⟨h, 0, none⟩)] w fun e w' => e = .returned (.bool b) ∧ w' = w.setCell ⟨h, x.val, none⟩ (.bool true) := by
  have hx := x.isLt
  obtain ⟨x, hx'⟩ := x
  simp only at *
  go_enter Try.func83, Try.ntmps83
  go_wp2
  go_ret
  exact ⟨rfl, rfl⟩
set_option maxRecDepth 100000 in
set_option maxHeartbeats 1000000 in
theorem bytes_index (ao : Option Addr) (n cap h : Nat) (xs : List El) (w : World) (hp : Rd w (.slice ao n cap) xs) (hl : n = xs.length) (hn : n ≤ 1000) (hm : Marks w h (fun _ => false)) (hlt : xs ≠ [] → ∀ k, (Value.slice ao n cap).ownBlock = some k → k < h) :
    Calls Try.prog 96 #[.slice ao n cap, .func (.func 83) #[] #[.pointer (some ⟨h, 0, none⟩)]] w fun e w' => ∃ z : Int, e = .returned (.int .i64 z) ∧ decide (0 ≤ z) = twice (co xs) n ∧ Below h w w' := by
  have HP : Hid (Rd w (.slice ao n cap) xs) := hp
  have HL : Hid (xs ≠ [] → ∀ k, (Value.slice ao n cap).ownBlock = some k → k < h) := hlt
  have HN : Hid (n = xs.length) := hl
  clear hp hlt hl
  go_enter Try.func96, Try.ntmps96
  go_wp2
  go_loopw [8] (fun t wr => ∃ k : Nat, k ≤ n ∧ t = .int .i64 k ∧ Marks wr h (fun x => amid (co xs) x k) ∧ Hid (twice (co xs) k = false) ∧ Below h w wr) (fun t _ => n - (intOf t).toNat)
  case atStart => exact ⟨0, Nat.zero_le _, rfl, hm, rfl, Below.refl _ _⟩
  case round =>
    clear hm
    obtain ⟨k, hk, rfl, hm, HT, hB⟩ := hrel
    by_cases hkn : k < n
    · obtain ⟨ad, rfl, hc0⟩ := HP.out.at k (by rw [← HN.out]; exact hkn)
      have hbl : ad.block < h := HL.out (by intro e; rw [e] at HN; have := HN.out; simp at this; omega) ad.block rfl
      have d0 : wr.cell? (ad.add k) = some (.int .u8 (((co xs k).val : Nat) : Int)) := by rw [hB.cell (by rw [add_block]; exact hbl)]; exact hc0
      clear hc0
      obtain ⟨b, hb⟩ : ∃ b, b = amid (co xs) (co xs k) k := ⟨_, rfl⟩
      have hmx := hm.2 (co xs k)
      dsimp only at hmx
      rw [← hb] at hmx
      have HB : Hid (b = amid (co xs) (co xs k) k) := hb
      have C := seen_any h (co xs k) b wr hmx.1 hmx.2
      have S := marks_put hm (co xs k)
      have hB2 := hB.trans S.2
      have hm2 := S.1
      clear hb hmx S hm hB
      go_wp2_with fail
      refine C.mono ?_
      rintro e w2 ⟨rfl, hw⟩
      rw [← hw] at hB2 hm2
      clear hw C d0
      cases b with
      | true =>
        go_wp2
        go_ret
        exact ⟨_, rfl, by rw [twice_mono (co xs) n (k + 1) hkn (by rw [twice, ← HB.out]; simp)]; simp, hB2⟩
      | false =>
        go_wp2
        go_roundw
        case rel => exact ⟨k + 1, by omega, by go_num, hm2, by (show twice (co xs) (k + 1) = false); rw [twice, HT.out, ← HB.out]; rfl, hB2⟩
        case measure => simp [intOf]; omega
    · go_wp2
      go_ret
      exact ⟨_, rfl, by rw [show n = k by omega, HT.out]; rfl, hB⟩
set_option maxRecDepth 100000 in
set_option maxHeartbeats 400000 in
theorem mtwice_any (v : Value) (xs : List El) (w : World) (hp : Rd w v xs) (hn : xs.length ≤ 1000) :
    Calls Try.prog 66 #[v] w fun e w' => e = .returned (.bool (twice (co xs) xs.length)) ∧ Below w.heap.size w w' := by
  obtain ⟨ao, cap, rfl, _, _⟩ := hp.len
  have I := bytes_index ao xs.length cap w.heap.size xs _ (hp.old ((Below.refl _ _).alloc (Nat.le_refl _) (.cells seen0 119))) rfl hn (marks_new w) (fun h0 k hk => hp.lt h0 k hk)
  clear hp
  generalize xs.length = n at *
  obtain ⟨b, hb⟩ : ∃ b, b = twice (co xs) n := ⟨_, rfl⟩
  rw [← hb] at I ⊢
  clear hb
  have hz := zero_seen
  go_enter Try.func66, Try.ntmps66
  go_wp2_with (first | (go_at_call 96; refine I.mono ?_; rintro e w1 ⟨z, rfl, hzb, hB⟩) | go_in)
  go_ret
  exact ⟨rfl, ((Below.refl _ _).alloc (Nat.le_refl _) _).trans hB⟩
end Go.Proofs.Ytfnbpljgmchhbaa
