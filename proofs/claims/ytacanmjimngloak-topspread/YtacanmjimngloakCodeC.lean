/- What block.addTimes and block.Times do: by walks over the program. -/
import Derived.Test.YtacanmjimngloakCodeB
import Derived.Test.YtacanmjimngloakMatEp
import Derived.Test.YtacanmjimngloakWalk0
import Derived.Deep.RegionWith
import Derived.Test.YtacanmjimngloakCodeA
namespace Go.Proofs.Ytacanmjimngloak
open Go.ChangeShapes Go.WideShapes Go.ChangeAt Go.RowKit El Pol Mx
theorem sb_row (f : Nat → El) (q k : Nat) (h : k < (sb (row f q)).size) : ((sb (row f q))[k]'h).toNat = (f k).val := by
  rw [sb_at]
  rw [sb_size, row_length] at h
  rw [co_row_lt _ h]
set_option maxHeartbeats 1000000 in
theorem cadd_any (B g cp q : Nat) (f h : Nat → El) (c : El) (w : World) (hq : q ≤ 1000) (hO : Ow B w (.slice (some ⟨g, 0, none⟩) q cp) (row f q)) :
    Calls Try.prog 53 #[.slice (some ⟨g, 0, none⟩) q cp, st (row h q), .int .u8 ((c.val : Nat) : Int)] w fun e w' => e = .returned (.tuple #[]) ∧ Ow B w' (.slice (some ⟨g, 0, none⟩) q cp) (row (fun j => pl (f j) (ti (h j) c)) q) ∧ w.grownBy w' (some g) := by
  have hs := sb_size (row h q)
  rw [row_length] at hs
  have HS : Hid (∀ k (hk : k < (sb (row h q)).size), ((sb (row h q))[k]'hk).toNat = (h k).val) := fun k hk => sb_row h q k hk
  unfold st
  generalize sb (row h q) = s at *
  have hB : w.grownBy w (some g) := grownBy_refl _ _
  have hA : Ow B w (.slice (some ⟨g, 0, none⟩) q cp) (row (part f h c 0) q) := by rw [part_zero]; exact hO
  clear hO
  go_enter Try.func53, Try.ntmps53
  go_wp2
  go_loopw [12] (fun t wr => ∃ k : Nat, k ≤ q ∧ t = .int .i64 k ∧ Ow B wr (.slice (some ⟨g, 0, none⟩) q cp) (row (part f h c k) q) ∧ w.grownBy wr (some g)) (fun t _ => q - (intOf t).toNat)
  case atStart => exact ⟨0, Nat.zero_le _, rfl, hA, hB⟩
  case round =>
    clear hA hB
    obtain ⟨k, hk, rfl, hA, hB⟩ := hrel
    by_cases hlt : k < q
    · have hks : k < s.size := by rw [hs]; exact hlt
      have hsk := HS.out k hks
      have hcell2 := hA.cell (by rw [row_length]) k hlt
      rw [co_row_lt _ hlt, part_at] at hcell2
      have hfree := hA.free (by rw [row_length]) k
      have R := put_el hA hB (part_step f h c q k)
      clear hA hB
      generalize f k = y at *
      generalize h k = x at *
      go_wp2
      go_region_with (first | (go_at_call 73; refine (mul_any _ _ x.isLt c.isLt _).mono ?_; rintro e w1 ⟨rfl, rfl⟩) | (go_at_call 72; refine (add_any _ _ y.isLt (ti x c).isLt _).mono ?_; rintro e w1 ⟨rfl, rfl⟩))
      all_goals
        have R1 : Ow B (wr.setCell ⟨g, k, none⟩ (.int .u8 ((y.val ^^^ (ti x c).val : Nat) : Int))).drew (.slice (some ⟨g, 0, none⟩) q cp) (row (part f h c (k + 1)) q) := R.1.old ⟨rfl, rfl, rfl, Nat.le_refl _, fun _ _ => rfl⟩
        have R2 : w.grownBy (wr.setCell ⟨g, k, none⟩ (.int .u8 ((y.val ^^^ (ti x c).val : Nat) : Int))).drew (some g) := grownBy_drew R.2
        clear hsk hcell2 hfree R
        go_wp2
        go_roundw
        case rel => exact ⟨k + 1, by omega, by go_num, R1, R2⟩
        case measure => simp [intOf]; omega
    · have hF : Ow B wr (.slice (some ⟨g, 0, none⟩) q cp) (row (fun j => pl (f j) (ti (h j) c)) q) := by
        rw [row_congr (g := part f h c k) (fun j hj => by unfold part; rw [if_pos (by omega)])]; exact hA
      clear hA
      go_wp2
      go_end0
      exact ⟨rfl, hF, hB⟩
end Go.Proofs.Ytacanmjimngloak
