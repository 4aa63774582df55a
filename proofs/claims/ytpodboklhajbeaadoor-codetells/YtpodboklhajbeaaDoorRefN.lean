/- What the document's own Unit answers: by a walk over the program. -/
import Derived.Test.YtpodboklhajbeaaDoorRefM
import Derived.Test.YtpodboklhajbeaaDoorMatN
namespace Go.Proofs.YtpodboklhajbeaaDoor
open Go.ChangeShapes Go.WideShapes Go.ChangeAt Go.RowKit El Pol Mx
theorem zero_set (n k : Nat) : (row (fun _ => (0 : El)) n).set k 1 = row (one k) n := by
  refine row_set _ _ n k 1 (fun j hj => ?_) ?_
  · unfold one; rw [if_neg (Ne.symm hj)]
  · unfold one; rw [if_pos rfl]
theorem rws_next (A : M) (q n : Nat) : up (rws A q) n (row (A n) q) = rws A q := by
  rw [rws_up]
  congr 1
  funext i j
  by_cases e : i = n
  · subst e; rw [up_at]
  · rw [up_ne _ _ e]
set_option maxRecDepth 100000 in
set_option maxHeartbeats 1000000 in
theorem runit_any (n : Nat) (w : World) (hn : n ≤ 12) :
    Calls Tryd.prog 15 #[.int .i64 n] w fun e w' => ∃ (v' : Value) (rv : Nat → Value), e = .returned v' ∧ OwM w.heap.size w' v' n (rws one n) rv ∧ Below w.heap.size w w' := by
  obtain ⟨i0, hi, hz0, hz1, hz2⟩ := info_parts info8
  go_enter Tryd.func15, Tryd.ntmps15
  go_wp2
  go_loopw [3, 4] (fun s t wr => ∃ (k : Nat) (rv : Nat → Value), k ≤ n ∧ t = .int .i64 k ∧ OwM w.heap.size wr s k (rws one n) rv ∧ Below w.heap.size w wr) (fun _ t _ => n - (intOf t).toNat)
  case atStart => exact ⟨0, fun _ => .slice none 0 0, Nat.zero_le _, rfl, OwM.nil _ _ _ _, Below.refl _ _⟩
  case round =>
    obtain ⟨k, rv, hk, rfl, hN, hB⟩ := hrel
    obtain ⟨ao, co0, rfl, _, _⟩ := hN.rd.len
    by_cases hlt : k < n
    · have hs := hB.size
      go_wp2_with (first | (at_make; refine wpList_make_full _ rfl _ _ 23 rfl wr.heap.size 5 i0 (.int .u8 0) 1 Tryd.underlying23 hi hz0 hz1 _ _ _ _ n rfl rfl rfl rfl (by rw [hz2]; omega) (by unfold maxLen; omega) (Nat.le_refl _) ?_))
      intro w2 hown hgrow
      have hO : Ow wr.heap.size w2 (.slice (some ⟨wr.heap.size, 0, none⟩) n n) (row (fun _ => 0) n) := by rw [← replicate_row]; exact Ow.made hown
      have hB2 := below_of_grown hgrow
      have hN2 := hN.old hB2
      have hst := hO.stored (by rw [row_length]) k 1
      rw [zero_set] at hst
      have hc4 := hO.cell (by rw [row_length]) k hlt
      have hf4 := hO.free (by rw [row_length]) k
      have hgr : w2.grownBy (w2.setCell ⟨wr.heap.size, k, none⟩ (.int .u8 (((1 : El).val : Nat) : Int))) (some wr.heap.size) := hst.2
      have hNb : ∀ i, i < k → (rv i).ownBlock = none ∨ (rv i).ownBlock ≠ (Value.slice (some ⟨wr.heap.size, 0, none⟩) n n).ownBlock := fun i hi => .inr (fun e => by
        have := ((hN.row i hi).lt wr.heap.size (by rw [e]; rfl)).2
        omega)
      have hB2w := hB.trans (hB2.mono hs)
      have hB3 := hB2w.trans (below_of_grownAt hgr hB2w.size hs)
      have hN3 : OwM w.heap.size (w2.setCell ⟨wr.heap.size, k, none⟩ (.int .u8 (((1 : El).val : Nat) : Int))) (.slice ao k co0) k (rws one n) rv := by
        have hbk : Below wr.heap.size w2 (w2.setCell ⟨wr.heap.size, k, none⟩ (.int .u8 (((1 : El).val : Nat) : Int))) := below_of_grownAt hgr hB2.size (Nat.le_refl _)
        exact hN.old (hB2.trans hbk)
      have hr3 : Ow w.heap.size (w2.setCell ⟨wr.heap.size, k, none⟩ (.int .u8 (((1 : El).val : Nat) : Int))) (.slice (some ⟨wr.heap.size, 0, none⟩) n n) (row (one k) n) := hst.1.mono hs
      generalize co (row (fun _ => (0 : El)) n) k = old at *
      clear hown hgrow hO hB2 hN2 hst hgr hB2w hN hB
      have hal : Below (w2.setCell ⟨wr.heap.size, k, none⟩ (.int .u8 (((1 : El).val : Nat) : Int))).heap.size (w2.setCell ⟨wr.heap.size, k, none⟩ (.int .u8 (((1 : El).val : Nat) : Int))) ((w2.setCell ⟨wr.heap.size, k, none⟩ (.int .u8 (((1 : El).val : Nat) : Int))).alloc (.cells #[.slice (some ⟨wr.heap.size, 0, none⟩) n n] 23)) := (Below.refl _ _).alloc (Nat.le_refl _) _
      have hN4 := hN3.old hal
      have hr4 := hr3.old hal
      have hB4 := hB3.trans (hal.mono hB3.size)
      have hcn := cell_new (w2.setCell ⟨wr.heap.size, k, none⟩ (.int .u8 (((1 : El).val : Nat) : Int))) (.slice (some ⟨wr.heap.size, 0, none⟩) n n) 23
      rw [show (w2.setCell ⟨wr.heap.size, k, none⟩ (.int .u8 (((1 : El).val : Nat) : Int))).heap.size = w2.heap.size by simp] at hcn
      have hNX : OwM w.heap.size ((w2.setCell ⟨wr.heap.size, k, none⟩ (.int .u8 (((1 : El).val : Nat) : Int))).alloc (.cells #[.slice (some ⟨wr.heap.size, 0, none⟩) n n] 23)) (.slice ao k co0) k (rws one n) rv := hN4
      clear hN3 hr3 hal hB3
      go_wp2_with (first | (at_builtin; refine wpList_append_row rfl _ _ rfl w.heap.size _ _ k _ rv _ ⟨w2.heap.size, 0, none⟩ rfl hNX rfl hcn hr4 hNb (by omega) hB4.size ?_))
      intro v5 w5 hN5 hg5
      rw [rws_next] at hN5
      have hB5 := hB4.trans (below_of_grownR hg5 hB4.size (fun g e => (World.ownsRow.lt hNX.out g e).1))
      clear hN4 hNX hr4 hB4 hcn hNb hg5 hc4 hf4
      go_wp2
      go_roundw
      case rel => exact ⟨k + 1, _, by omega, by go_num, hN5, hB5⟩
      case measure => simp [intOf]; omega
    · have hF : OwM w.heap.size wr (.slice ao n co0) n (rws one n) rv := by
        have e : k = n := by omega
        rw [e] at hN; exact hN
      have hk0 : k = n := by omega
      subst hk0
      clear hN
      go_wp2
      go_ret
      exact ⟨_, _, rfl, hF, hB⟩
end Go.Proofs.YtpodboklhajbeaaDoor
