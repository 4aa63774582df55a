/- What poly.addTimes does, whatever lists of bytes it is given: by a walk over the program. -/
import Derived.Test.YtikhjhbohkaajaaDoorPolyA
import Derived.Deep.RegionWith
namespace Go.Proofs.YtikhjhbohkaajaaDoor
open Go.ChangeShapes Go.WideShapes Go.ChangeAt Go.RowKit El Pol
theorem add_round {B g o n cp k m : Nat} {w wr : World} {L xs : List El} {c x y : El}
    (hA : Ow B wr (.slice (some ⟨g, 0, none⟩) n cp) (addAt L o (xs.take k) c)) (hB : w.grownBy wr (some g)) (hlen : n = (addAt L o (xs.take k) c).length) (hn : n = L.length) (hm : xs.length = m) (ho : o + m ≤ n)
    (hk : k < m) (hy : y = co (addAt L o (xs.take k) c) (o + k)) (hx : x = co xs k) :
    Ow B (wr.setCell ⟨g, o + k, none⟩ (.int .u8 ((y.val ^^^ (ti x c).val : Nat) : Int))).drew (.slice (some ⟨g, 0, none⟩) n cp) (addAt L o (xs.take (k + 1)) c) ∧
      w.grownBy (wr.setCell ⟨g, o + k, none⟩ (.int .u8 ((y.val ^^^ (ti x c).val : Nat) : Int))).drew (some g) := by
  have := hA.stored hlen (o + k) (pl y (ti x c))
  rw [hy, hx, addAt_step L o xs c (by omega) k (by omega)] at this
  rw [hy, hx]
  exact ⟨this.1.old ⟨rfl, rfl, rfl, Nat.le_refl _, fun _ _ => rfl⟩, grownBy_drew (grownBy_trans hB this.2)⟩
set_option maxHeartbeats 1000000 in
theorem addTimes_some (B g o n cp ls cs : Nat) (L : List El) (ad : Addr) (cap : Nat) (xs : List El) (c : El) (w : World)
    (hc : ∀ i, i < xs.length → w.cell? (ad.add i) = some (.int .u8 (((co xs i).val : Nat) : Int))) (hne : 0 < xs.length → ad.block ≠ g)
    (hL : Ow B w (.slice (some ⟨g, 0, none⟩) n cp) L) (hn : n = L.length) (ho : o + xs.length ≤ n) (hls : xs.length ≤ ls) (hlm : ls ≤ 9223372036854775807) :
    Calls Tryd.prog 36 #[.slice (some ⟨g, o, none⟩) ls cs, .slice (some ad) xs.length cap, .int .u8 ((c.val : Nat) : Int)] w fun e w' => e = .returned (.tuple #[]) ∧ Ow B w' (.slice (some ⟨g, 0, none⟩) n cp) (addAt L o xs c) ∧ w.grownBy w' (some g) := by
  have HC : Hid (∀ i, i < xs.length → w.cell? (ad.add i) = some (.int .u8 (((co xs i).val : Nat) : Int))) := hc
  clear hc
  have hB : w.grownBy w (some g) := grownBy_refl _ _
  have hA : Ow B w (.slice (some ⟨g, 0, none⟩) n cp) (addAt L o (xs.take 0) c) := by rw [addAt_zero L o xs c (by omega)]; exact hL
  have HN : Hid (n = L.length) := hn
  clear hL hn
  generalize hm : xs.length = m at *
  have HM : Hid (xs.length = m) := hm
  clear hm
  go_enter Tryd.func36, Tryd.ntmps36
  go_wp2
  go_loopw [10] (fun t wr => ∃ k : Nat, k ≤ m ∧ t = .int .i64 k ∧ Ow B wr (.slice (some ⟨g, 0, none⟩) n cp) (addAt L o (xs.take k) c) ∧ w.grownBy wr (some g)) (fun t _ => m - (intOf t).toNat)
  case atStart => exact ⟨0, Nat.zero_le _, rfl, hA, hB⟩
  case round =>
    clear hA hB
    obtain ⟨k, hk, rfl, hA, hB⟩ := hrel
    by_cases hlt : k < m
    · have hcell0 := HC.out k hlt
      have hcell : wr.cell? (ad.add k) = some (.int .u8 (((co xs k).val : Nat) : Int)) := hB.cell hcell0 (by rw [add_block]; simp; exact hne (by omega))
      have hlen : n = (addAt L o (xs.take k) c).length := by rw [addAt_length]; exact HN.out
      have hcell2 := hA.cell hlen (o + k) (by omega)
      have hfree := hA.free hlen (o + k)
      clear hcell0
      obtain ⟨y, hy⟩ : ∃ y : El, y = co (addAt L o (xs.take k) c) (o + k) := ⟨_, rfl⟩
      obtain ⟨x, hx⟩ : ∃ x : El, x = co xs k := ⟨_, rfl⟩
      rw [← hy] at hcell2
      rw [← hx] at hcell
      have HY : Hid (y = co (addAt L o (xs.take k) c) (o + k)) := hy
      have HX : Hid (x = co xs k) := hx
      clear hy hx
      have hls' : (k : Int) < (ls : Int) := by omega
      go_wp2
      go_region_with (first | (go_at_call 7; refine (mul_any _ _ x.isLt c.isLt _).mono ?_; rintro e w1 ⟨rfl, rfl⟩) | (go_at_call 5; refine (add_any _ _ y.isLt (ti x c).isLt _).mono ?_; rintro e w1 ⟨rfl, rfl⟩))
      all_goals
        have R := add_round hA hB hlen HN.out HM.out (by omega) hlt HY.out HX.out
        clear hA hB hcell hcell2 hfree
        go_wp2
        go_roundw
        case rel => exact ⟨k + 1, by omega, by go_num, R.1, R.2⟩
        case measure => simp [intOf]; omega
    · go_wp2
      go_end0
      exact ⟨rfl, by rw [addAt_all L o xs c k (by rw [HM.out]; omega)] at hA; exact hA, hB⟩
/-- factor times p, added into a row of the call's own from place o on -/
theorem addTimes_any (B g o n cp ls cs : Nat) (L : List El) (v : Value) (xs : List El) (c : El) (w : World) (h : Rd w v xs) (hne : xs ≠ [] → v.ownBlock ≠ some g)
    (hL : Ow B w (.slice (some ⟨g, 0, none⟩) n cp) L) (hn : n = L.length) (ho : o + xs.length ≤ n) (hls : xs.length ≤ ls) (hlm : ls ≤ 9223372036854775807) :
    Calls Tryd.prog 36 #[.slice (some ⟨g, o, none⟩) ls cs, v, .int .u8 ((c.val : Nat) : Int)] w fun e w' => e = .returned (.tuple #[]) ∧ Ow B w' (.slice (some ⟨g, 0, none⟩) n cp) (addAt L o xs c) ∧ w.grownBy w' (some g) := by
  rcases h with ⟨rfl, rfl⟩ | ⟨ad, cap, rfl, _, _, h3⟩
  · have hA : Ow B w (.slice (some ⟨g, 0, none⟩) n cp) (addAt L o [] c) := by have := addAt_zero L o [] c (by simpa [hn] using ho); rw [List.take_nil] at this; rw [this]; exact hL
    clear hL hne
    go_enter Tryd.func36, Tryd.ntmps36
    go_wp2
    refine wp_loop_rounds 1 ?_
    rw [rounds_succ]
    go_wp2
    go_end0
    exact ⟨rfl, hA, grownBy_refl _ _⟩
  · exact addTimes_some B g o n cp ls cs L ad cap xs c w h3 (fun hp e => hne (List.length_pos_iff.1 hp) (by simp [Value.ownBlock, e])) hL hn ho hls hlm
end Go.Proofs.YtikhjhbohkaajaaDoor
