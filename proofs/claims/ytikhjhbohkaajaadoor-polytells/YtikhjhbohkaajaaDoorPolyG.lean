/- What poly.anyTwice answers of any points: by walks over the program. -/
import Derived.Test.YtikhjhbohkaajaaDoorPolyF
import Derived.Test.YtikhjhbohkaajaaDoorMarks
namespace Go.Proofs.YtikhjhbohkaajaaDoor
open Go.ChangeShapes Go.WideShapes Go.ChangeAt Go.RowKit El Pol
theorem add_one (a : Addr) : a.add 1 = ⟨a.block, a.off + 1, none⟩ := by unfold Addr.add; simp
/-- the slice v reads as n points -/
def RdP (w : World) (v : Value) (n : Nat) (X Y : Nat → El) : Prop :=
  (v = .slice none 0 0 ∧ n = 0) ∨
  ∃ ad cap, v = .slice (some ad) n cap ∧ n ≤ cap ∧ cap ≤ 9223372036854775807 ∧ ∀ i, i < n → w.cell? (ad.add (i * 2)) = some (.int .u8 (((X i).val : Nat) : Int)) ∧ w.cell? ((ad.add (i * 2)).add 1) = some (.int .u8 (((Y i).val : Nat) : Int))
theorem RdP.old {w w' : World} {v : Value} {n : Nat} {X Y : Nat → El} (h : RdP w v n X Y) (hb : Below w.heap.size w w') : RdP w' v n X Y := by
  rcases h with h | ⟨ad, cap, rfl, h1, h2, h3⟩
  · exact .inl h
  · refine .inr ⟨ad, cap, rfl, h1, h2, fun i hi => ?_⟩
    have hc := h3 i hi
    rw [hb.cell (World.block_lt_of_cell? w _ hc.1), hb.cell (World.block_lt_of_cell? w _ hc.2)]
    exact hc
theorem RdP.len {w : World} {v : Value} {n : Nat} {X Y : Nat → El} (h : RdP w v n X Y) : ∃ ao cap, v = .slice ao n cap ∧ n ≤ cap ∧ cap ≤ 9223372036854775807 := by
  rcases h with ⟨rfl, rfl⟩ | ⟨ad, cap, rfl, h1, h2, _⟩
  · exact ⟨none, 0, rfl, Nat.le_refl _, by omega⟩
  · exact ⟨some ad, cap, rfl, h1, h2⟩
theorem RdP.some {w : World} {ao : Option Addr} {n cap : Nat} {X Y : Nat → El} (h : RdP w (.slice ao n cap) n X Y) (i : Nat) (hi : i < n) :
    ∃ ad, ao = .some ad ∧ w.cell? (ad.add (i * 2)) = .some (.int .u8 (((X i).val : Nat) : Int)) ∧ w.cell? ((ad.add (i * 2)).add 1) = .some (.int .u8 (((Y i).val : Nat) : Int)) := by
  rcases h with ⟨_, rfl⟩ | ⟨ad, cap', he, _, _, h3⟩
  · omega
  · simp only [Value.slice.injEq] at he
    obtain ⟨rfl, _, rfl⟩ := he
    exact ⟨ad, rfl, h3 i hi⟩
set_option maxRecDepth 100000 in
set_option maxHeartbeats 400000 in
theorem mark_any (h : Nat) (x y : El) (b : Bool) (w : World) (hh : h < w.heap.size) (hc : w.cell? ⟨h, x.val, none⟩ = some (.bool b)) (hf : w.frozen? ⟨h, x.val, none⟩ = false) :
    Calls Tryd.prog 44 #[.agg #[.int .u8 ((x.val : Nat) : Int), .int .u8 ((y.val : Nat) : Int)], .pointer (some ⟨h, 0, none⟩)] w fun e w' => e = .returned (.bool b) ∧ w' = (w.setCell ⟨h, x.val, none⟩ (.bool true)).alloc (.cells #[.int .u8 ((x.val : Nat) : Int), .int .u8 ((y.val : Nat) : Int)] 49) := by
  have hx := x.isLt
  obtain ⟨x, hx'⟩ := x
  simp only at *
  go_enter Tryd.func44, Tryd.ntmps44
  go_wp2
  go_ret
  exact ⟨rfl, rfl⟩
set_option maxRecDepth 100000 in
set_option maxHeartbeats 1000000 in
theorem points_index (ao : Option Addr) (n cap h : Nat) (X Y : Nat → El) (w : World) (hp : RdP w (.slice ao n cap) n X Y) (hn : n ≤ 40) (hm : Marks w h (fun _ => false)) (hlt : n ≠ 0 → ∀ k, (Value.slice ao n cap).ownBlock = some k → k < h) :
    Calls Tryd.prog 50 #[.slice ao n cap, .func (.func 44) #[] #[.pointer (some ⟨h, 0, none⟩)]] w fun e w' => ∃ z : Int, e = .returned (.int .i64 z) ∧ decide (0 ≤ z) = twice X n ∧ Below h w w' := by
  have HP : Hid (RdP w (.slice ao n cap) n X Y) := hp
  have HL : Hid (n ≠ 0 → ∀ k, (Value.slice ao n cap).ownBlock = some k → k < h) := hlt
  clear hp hlt
  go_enter Tryd.func50, Tryd.ntmps50
  go_wp2
  go_loopw [8] (fun t wr => ∃ k : Nat, k ≤ n ∧ t = .int .i64 k ∧ Marks wr h (fun x => amid X x k) ∧ Hid (twice X k = false) ∧ Below h w wr) (fun t _ => n - (intOf t).toNat)
  case atStart => exact ⟨0, Nat.zero_le _, rfl, hm, rfl, Below.refl _ _⟩
  case round =>
    clear hm
    obtain ⟨k, hk, rfl, hm, HT, hB⟩ := hrel
    by_cases hkn : k < n
    · obtain ⟨ad, rfl, hc0, hc1⟩ := HP.out.some k hkn
      have hbl : ad.block < h := HL.out (by omega) ad.block rfl
      have d0 : wr.cell? (ad.add (k * 2)) = some (.int .u8 (((X k).val : Nat) : Int)) := by rw [hB.cell (by rw [add_block]; exact hbl)]; exact hc0
      have d1 : wr.cell? ((ad.add (k * 2)).add 1) = some (.int .u8 (((Y k).val : Nat) : Int)) := by rw [hB.cell (by rw [add_block, add_block]; exact hbl)]; exact hc1
      clear hc0 hc1
      rw [add_one] at d1
      obtain ⟨b, hb⟩ : ∃ b, b = amid X (X k) k := ⟨_, rfl⟩
      have hmx := hm.2 (X k)
      dsimp only at hmx
      rw [← hb] at hmx
      have HB : Hid (b = amid X (X k) k) := hb
      have C := mark_any h (X k) (Y k) b wr hm.1 hmx.1 hmx.2
      have S := marks_set hm (X k) (.cells #[.int .u8 (((X k).val : Nat) : Int), .int .u8 (((Y k).val : Nat) : Int)] 49)
      have hB2 := hB.trans S.2
      have hm2 := S.1
      clear hb hmx S hm hB
      go_wp2_with fail
      refine C.mono ?_
      rintro e w2 ⟨rfl, hw⟩
      rw [← hw] at hB2 hm2
      clear hw C d0 d1
      cases b with
      | true =>
        go_wp2
        go_ret
        exact ⟨_, rfl, by rw [twice_mono X n (k + 1) hkn (by rw [twice, ← HB.out]; simp)]; simp, hB2⟩
      | false =>
        go_wp2
        go_roundw
        case rel => exact ⟨k + 1, by omega, by go_num, hm2, by (show twice X (k + 1) = false); rw [twice, HT.out, ← HB.out]; rfl, hB2⟩
        case measure => simp [intOf]; omega
    · go_wp2
      go_ret
      exact ⟨_, rfl, by rw [show n = k by omega, HT.out]; rfl, hB⟩
set_option maxRecDepth 100000 in
set_option maxHeartbeats 400000 in
theorem twice_any (ao : Option Addr) (n cap : Nat) (X Y : Nat → El) (w : World) (hp : RdP w (.slice ao n cap) n X Y) (hn : n ≤ 40) :
    Calls Tryd.prog 39 #[.slice ao n cap] w fun e w' => e = .returned (.bool (twice X n)) ∧ Below w.heap.size w w' := by
  have I := points_index ao n cap w.heap.size X Y _ (hp.old ((Below.refl _ _).alloc (Nat.le_refl _) (.cells seen0 67))) hn (marks_new w) (by
    intro h0 k hk
    rcases hp with ⟨_, e⟩ | ⟨ad, cp, e, _, _, h3⟩
    · exact absurd e h0
    · rw [e] at hk
      simp only [Value.ownBlock, Option.some.injEq] at hk
      have := World.block_lt_of_cell? w _ (h3 0 (by omega)).1
      rw [add_block] at this
      omega)
  clear hp
  obtain ⟨b, hb⟩ : ∃ b, b = twice X n := ⟨_, rfl⟩
  rw [← hb] at I ⊢
  clear hb
  have hz := zero_seen
  go_enter Tryd.func39, Tryd.ntmps39
  go_wp2_with (first | (go_at_call 50; refine I.mono ?_; rintro e w1 ⟨z, rfl, hzb, hB⟩) | go_in)
  go_ret
  exact ⟨rfl, ((Below.refl _ _).alloc (Nat.le_refl _) _).trans hB⟩
end Go.Proofs.YtikhjhbohkaajaaDoor
