/- Powers of 2 are all elements but 0, once around: the call answers true. -/
import Derived.Test.YtiflbnkfdabppaaWalks
namespace Go.Proofs.Ytiflbnkfdabppaa
open Go.ChangeShapes Go.WideShapes Go.ChangeAt Go.RowKit
def noughts : Array Value := Array.replicate 256 (.bool false)
theorem zero36 (w : World) : Sem.run Try.prog (zeroValue 36) w = .ok (.agg noughts) w := by kernel_rfl
theorem log_ex_all : GF.all (fun k => Nat.beq (GF.log (GF.ex k)) k) 255 = true := by decide +kernel
theorem log_ex {k : Nat} (h : k < 255) : GF.log (GF.ex k) = k := Nat.eq_of_beq_eq_true (GF.all_spec log_ex_all k h)
/-- was x met among the first k? -/
def seen (k x : Nat) : Bool := decide (x ≠ 0 ∧ GF.log x < k)
theorem seen_now {k : Nat} (h : k < 255) : seen k (GF.ex k) = false := by
  unfold seen; rw [log_ex h]; simp
theorem seen_next_same {k : Nat} (h : k < 255) : seen (k + 1) (GF.ex k) = true := by
  unfold seen; rw [log_ex h]; simp [GF.ex_ne_zero]
theorem seen_next_other {k x : Nat} (hx : x < 256) (hn : x ≠ GF.ex k) : seen (k + 1) x = seen k x := by
  unfold seen
  by_cases h0 : x = 0
  · simp [h0]
  · have : GF.log x ≠ k := fun e => hn (by rw [← e]; exact (GF.log_spec hx h0).2.1.symm)
    rw [decide_eq_decide]; omega
/-- the memory of the array in round k -/
structure Mem (w : World) (k : Nat) (wr : World) : Prop where
  grown : Grown w wr
  cell : ∀ x, x < 256 → wr.cell? ⟨w.heap.size, x, none⟩ = some (.bool (seen k x))
  frozen : ∀ x, wr.frozen? ⟨w.heap.size, x, none⟩ = false
theorem mem_start (w : World) : Mem w 0 (w.alloc (.cells noughts 36)) := by
  refine ⟨(Grown.refl w).alloc _ _, fun x hx => ?_, fun x => ?_⟩
  · rw [World.cell?_alloc_new]
    unfold noughts seen
    rw [Array.getElem?_replicate, if_pos hx]; simp
  · rw [frozen?_alloc_cells]; simp [World.frozen?]
theorem mem_next {w wr : World} {k : Nat} (h : Mem w k wr) (hk : k < 255) : Mem w (k + 1) (wr.setCell ⟨w.heap.size, GF.ex k, none⟩ (.bool true)) := by
  refine ⟨h.grown.setCell (Nat.le_refl _) _, fun x hx => ?_, fun x => ?_⟩
  · by_cases e : x = GF.ex k
    · rw [e, World.cell?_setCell_same _ _ _ (h.cell _ (GF.ex_lt k)), seen_next_same hk]
    · rw [World.cell?_setCell_other _ _ _ _ (by intro q; cases q; exact e rfl), h.cell x hx, seen_next_other hx e]
  · rw [World.frozen?_setCell]; exact h.frozen x
theorem pow_two (k : Nat) (hk : k ≤ 255) (w : World) :
    Calls Try.prog 13 #[.int .u8 2, .int .i64 k] w fun e w' => e = .returned (.tuple #[.int .u8 ((GF.ex k : Nat) : Int), .nilIface]) ∧ w' = w := by
  rw [GF.ex_eq]; exact pow_some 2 k (by omega) (by omega) w
set_option maxRecDepth 100000 in
set_option maxHeartbeats 400000 in
theorem around_any (w : World) :
    Calls Try.prog 5 #[] w fun e w' => e = .returned (.bool true) ∧ Grown w w' := by
  have hz := zero36
  have h255 : (((GF.ex 255 : Nat) : Int) == 1) = true := by decide +kernel
  go_enter Try.func5, Try.ntmps5
  go_wp2
  clear hz
  go_loopw [2] (fun t wr => ∃ k : Nat, k ≤ 255 ∧ t = .int .i64 k ∧ Mem w k wr) (fun t _ => (255 - intOf t).toNat)
  case atStart => exact ⟨0, by omega, rfl, mem_start w⟩
  case round =>
    obtain ⟨k, hk, rfl, hm⟩ := hrel
    by_cases hlt : k < 255
    · have hx := GF.ex_lt k
      have hne : (((GF.ex k : Nat) : Int) == 0) = false := by rw [beq_eq_false_iff_ne]; have := GF.ex_ne_zero k; omega
      have hcell := hm.cell _ hx
      rw [seen_now hlt] at hcell
      have hfr := hm.frozen (GF.ex k)
      have hnk : (((GF.log (GF.ex k) : Nat) : Int) != (k : Int)) = false := by rw [bne_eq_false_iff_eq, log_ex hlt]
      have h0 := GF.ex_ne_zero k
      go_wp2_with fail
      refine (pow_two k hk _).mono ?_
      rintro e w' ⟨rfl, rfl⟩
      go_wp2_with fail
      refine (log_some _ hx h0 _).mono ?_
      rintro e w' ⟨rfl, rfl⟩
      go_wp2_with fail
      exact ⟨⟨k + 1, by omega, by go_num, mem_next hm hlt⟩, by simp [intOf]; omega⟩
    · have hk' : k = 255 := by omega
      clear hk
      go_wp2_with fail
      refine (pow_two 255 (by omega) _).mono ?_
      rintro e w' ⟨rfl, rfl⟩
      go_wp2_with fail
      go_ret
      exact ⟨rfl, hm.grown⟩
end Go.Proofs.Ytiflbnkfdabppaa
