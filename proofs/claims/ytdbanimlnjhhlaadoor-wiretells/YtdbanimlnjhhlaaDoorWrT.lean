/- What wire.text answers: numbers as bytes: a walk over the program. -/
import Derived.Test.YtdbanimlnjhhlaaDoorMemJ
import Derived.Test.YtdbanimlnjhhlaaDoorWrB
import Derived.Test.YtdbanimlnjhhlaaDoorWrD
import Derived.Laws.MakeOwn
namespace Go.Proofs.YtdbanimlnjhhlaaDoor
open Go.RowKit El Pol
/-- the first k of n are written -/
def wtx (f : Nat → Nat) (k : Nat) : Nat → El := fun i => if i < k then wb (f i) else 0
theorem wtx_set (f : Nat → Nat) (n k : Nat) : (row (wtx f k) n).set k (wb (f k)) = row (wtx f (k + 1)) n := by
  unfold row
  rw [set_map_up]
  apply List.map_congr_left
  intro i _
  unfold up wtx
  by_cases e : i = k
  · rw [if_pos e, if_pos (by omega), e]
  · rw [if_neg e]
    by_cases h : i < k
    · rw [if_pos h, if_pos (by omega)]
    · rw [if_neg h, if_neg (by omega)]
theorem wtx_none (f : Nat → Nat) (n : Nat) : List.replicate n 0 = row (wtx f 0) n := by
  apply List.ext_getElem <;> simp [row, wtx]
set_option maxHeartbeats 1000000 in
theorem text_any (ad : Addr) (n cap : Nat) (f : Nat → Nat) (w : World) (hc : ∀ i, i < n → w.cell? (ad.add i) = some (.int .i64 ((f i : Nat) : Int))) (hf : ∀ i, i < n → f i < 256) (hn : n ≤ 1000) :
    Calls Tryd.prog 44 #[.slice (some ad) n cap] w fun e w' => e = .returned (st (row (fun i => wb (f i)) n)) ∧ Below w.heap.size w w' := by
  obtain ⟨i0, hi, hz0, hz1, hz2⟩ := info_parts info8
  have HC : Hid (∀ i, i < n → w.cell? (ad.add i) = some (.int .i64 ((f i : Nat) : Int))) := hc
  have HF : Hid (∀ i, i < n → f i < 256) := hf
  clear hc hf
  go_enter Tryd.func44, Tryd.ntmps44
  go_wp2_with (first | (at_make; refine wpList_make_full _ rfl _ _ 62 rfl w.heap.size 5 i0 (.int .u8 0) 1 Tryd.underlying62 hi hz0 hz1 _ _ _ _ n rfl rfl rfl rfl (by rw [hz2]; omega) (by unfold maxLen; omega) (Nat.le_refl _) ?_))
  intro w1 hown hgrow
  have hA : Ow w.heap.size w1 (.slice (some ⟨w.heap.size, 0, none⟩) n n) (row (wtx f 0) n) := by
    rw [← wtx_none]; exact Ow.made hown
  have hB : Below w.heap.size w w1 := below_of_grown hgrow
  clear hown hgrow
  go_wp2
  go_loopw [11] (fun t wr => ∃ k : Nat, k ≤ n ∧ t = .int .i64 k ∧ Ow w.heap.size wr (.slice (some ⟨w.heap.size, 0, none⟩) n n) (row (wtx f k) n) ∧ Below w.heap.size w wr) (fun t _ => n - (intOf t).toNat)
  case atStart => exact ⟨0, Nat.zero_le _, rfl, hA, hB⟩
  case round =>
    clear hA hB
    obtain ⟨k, hk, rfl, hA, hB⟩ := hrel
    by_cases hlt : k < n
    · have hck := HC.out k hlt
      rw [← hB.cell (World.block_lt_of_cell? w _ hck)] at hck
      have hx := HF.out k hlt
      have hcell := hA.cell (by rw [row_length]) k hlt
      have hfree := hA.free (by rw [row_length]) k
      have R := hA.stored (by rw [row_length]) k (wb (f k))
      rw [wtx_set, wb_val hx] at R
      have R1 := R.1
      have R2 : Below w.heap.size w (wr.setCell ⟨w.heap.size, k, none⟩ (.int .u8 ((f k : Nat) : Int))) := hB.trans (below_of_grownAt R.2 hB.size (Nat.le_refl _))
      clear hA hB R
      generalize f k = x at *
      generalize co (row (wtx f k) n) k = y at *
      go_wp2
      go_roundw
      case rel => exact ⟨k + 1, by omega, by go_num, R1, R2⟩
      case measure => simp [intOf]; omega
    · have e : row (wtx f k) n = row (fun i => wb (f i)) n := row_congr (fun i hi => by unfold wtx; rw [if_pos (by omega)])
      rw [e] at hA
      have hconv := run_text hA.rd 62 9 Tryd.underlying62 Tryd.underlying9
      unfold st at hconv
      clear e hA
      obtain ⟨s, hs⟩ : ∃ s, s = sb (row (fun i => wb (f i)) n) := ⟨_, rfl⟩
      have HS : Hid (s = sb (row (fun i => wb (f i)) n)) := hs
      rw [← hs] at hconv
      clear hs
      go_wp2
      go_ret
      exact ⟨by unfold st; rw [← HS.out]; rfl, hB⟩
end Go.Proofs.YtdbanimlnjhhlaaDoor
