/- Rows that are added to, place by place: plainly, and in memory. -/
import Derived.Test.YtilfjahbdlepjaaGreatDoorMe
namespace Go.Proofs.YtilfjahbdlepjaaGreatDoor
open Go.RowKit El Pol Mx
theorem replicate_row (q : Nat) : List.replicate q (0 : El) = row (fun _ => 0) q := by
  apply List.ext_getElem <;> simp [row]
/-- c times g is added to the first k -/
def part (f g : Nat → El) (c : El) (k : Nat) : Nat → El := fun j => if j < k then pl (f j) (ti (g j) c) else f j
theorem part_zero (f g : Nat → El) (c : El) : part f g c 0 = f := by funext j; unfold part; rw [if_neg (by omega)]
theorem part_at (f g : Nat → El) (c : El) (k : Nat) : part f g c k k = f k := by unfold part; rw [if_neg (by omega)]
theorem row_set (f g : Nat → El) (q k : Nat) (x : El) (h : ∀ j, j ≠ k → g j = f j) (hk : g k = x) : (row f q).set k x = row g q := by
  rw [row, set_map_up]
  exact List.map_congr_left (fun i _ => by
    by_cases e : i = k
    · subst e; rw [up_at, hk]
    · rw [up_ne _ _ e, h i e])
theorem part_step (f g : Nat → El) (c : El) (q k : Nat) : (row (part f g c k) q).set k (pl (f k) (ti (g k) c)) = row (part f g c (k + 1)) q := by
  refine row_set _ _ q k _ (fun j hj => ?_) ?_
  · unfold part
    by_cases h : j < k
    · rw [if_pos h, if_pos (by omega)]
    · rw [if_neg h, if_neg (by omega)]
  · unfold part; rw [if_pos (by omega)]
theorem co_row_lt (f : Nat → El) {q k : Nat} (h : k < q) : co (row f q) k = f k := by rw [co_row, if_pos h]
theorem put_el {B g n cp k : Nat} {w wr : World} {f h : Nat → El} {x : El} (hA : Ow B wr (.slice (some ⟨g, 0, none⟩) n cp) (row f n)) (hg : w.grownBy wr (some g)) (hs : (row f n).set k x = row h n) :
    Ow B (wr.setCell ⟨g, k, none⟩ (.int .u8 ((x.val : Nat) : Int))) (.slice (some ⟨g, 0, none⟩) n cp) (row h n) ∧ w.grownBy (wr.setCell ⟨g, k, none⟩ (.int .u8 ((x.val : Nat) : Int))) (some g) := by
  have := hA.stored (by rw [row_length]) k x
  rw [hs] at this
  exact ⟨this.1, grownBy_trans hg this.2⟩
end Go.Proofs.YtilfjahbdlepjaaGreatDoor
