/- What matrix.noughts, addTimes and clearColumn do, on rows of the call's own: by walks over the program. -/
import Derived.Test.YtcjokofebnfkkaaDoorMatD
import Derived.Test.YtcjokofebnfkkaaDoorMatEp
import Derived.Deep.RegionWith
namespace Go.Proofs.YtcjokofebnfkkaaDoor
open Go.ChangeShapes Go.WideShapes Go.ChangeAt Go.RowKit El Pol
theorem infoS : (Tryd.prog.info? 23).map (fun i => (i.zero, i.size, i.bytes)) = some (some (.slice none 0 0), 1, 24) := by kernel_rfl
theorem OwM.made {B n : Nat} {w : World} {v : Value} (h : w.ownsRow B 23 1 v n (madeCells #[Value.slice none 0 0] n).toList) : OwM B w v n (fun _ => []) (fun _ => .slice none 0 0) := by
  rw [toList_madeCells_one] at h
  refine ⟨?_, fun i _ => World.ownsRow_nil _ _ _ _, fun i j _ _ _ => .inl rfl⟩
  rw [show (List.range n).map (fun _ => Value.slice none 0 0) = List.replicate n (Value.slice none 0 0) from by
    apply List.ext_getElem <;> simp]
  exact h
/-- the first k rows are made -/
def mk (q k : Nat) : Nat → List El := fun i => if i < k then row (fun _ => 0) q else []
theorem mk_up (q k : Nat) : up (mk q k) k (row (fun _ => 0) q) = mk q (k + 1) := by
  funext i
  unfold up mk
  by_cases e : i = k
  · rw [if_pos e, if_pos (by omega)]
  · rw [if_neg e]
    by_cases h : i < k
    · rw [if_pos h, if_pos (by omega)]
    · rw [if_neg h, if_neg (by omega)]
set_option maxRecDepth 100000 in
set_option maxHeartbeats 1000000 in
theorem noughts_any (p q : Nat) (w : World) (hp : p ≤ 1000) (hq : q ≤ 1000) :
    Calls Tryd.prog 27 #[.int .i64 p, .int .i64 q] w fun e w' => ∃ rv, e = .returned (.slice (some ⟨w.heap.size, 0, none⟩) p p) ∧ OwM w.heap.size w' (.slice (some ⟨w.heap.size, 0, none⟩) p p) p (rws (fun _ _ => 0) q) rv ∧ Below w.heap.size w w' := by
  obtain ⟨i0, hi, hz0, hz1, hz2⟩ := info_parts info8
  obtain ⟨j0, hj, hy0, hy1, hy2⟩ := info_parts infoS
  go_enter Tryd.func27, Tryd.ntmps27
  go_wp2_with (first | (at_make; refine wpList_make_full _ rfl _ _ 22 rfl w.heap.size 23 j0 (.slice none 0 0) 1 Tryd.underlying22 hj hy0 hy1 _ _ _ _ p rfl rfl rfl rfl (by rw [hy2]; omega) (by unfold maxLen; omega) (Nat.le_refl _) ?_))
  intro w1 hown hgrow
  have hA : OwM w.heap.size w1 (.slice (some ⟨w.heap.size, 0, none⟩) p p) p (mk q 0) (fun _ => .slice none 0 0) := (OwM.made hown).congr (fun i _ => rfl)
  have hB : Below w.heap.size w w1 := below_of_grown hgrow
  clear hown hgrow
  go_wp2
  go_loopw [11] (fun t wr => ∃ (k : Nat) (rv : Nat → Value), k ≤ p ∧ t = .int .i64 k ∧ OwM w.heap.size wr (.slice (some ⟨w.heap.size, 0, none⟩) p p) p (mk q k) rv ∧ Below w.heap.size w wr) (fun t _ => p - (intOf t).toNat)
  case atStart => exact ⟨0, _, Nat.zero_le _, rfl, hA, hB⟩
  case round =>
    clear hA hB
    obtain ⟨k, rv, hk, rfl, hA, hB⟩ := hrel
    by_cases hlt : k < p
    · have hs := hB.size
      have hgl := hA.lt
      go_wp2_with (first | (at_make; refine wpList_make_full _ rfl _ _ 23 rfl wr.heap.size 5 i0 (.int .u8 0) 1 Tryd.underlying23 hi hz0 hz1 _ _ _ _ q rfl rfl rfl rfl (by rw [hz2]; omega) (by unfold maxLen; omega) (Nat.le_refl _) ?_))
      intro w2 hown hgrow
      have hO : Ow wr.heap.size w2 (.slice (some ⟨wr.heap.size, 0, none⟩) q q) (row (fun _ => 0) q) := by rw [← replicate_row]; exact Ow.made hown
      have hB2 := below_of_grown hgrow
      have hA2 := hA.old hB2
      have hP := hA2.put k (.slice (some ⟨wr.heap.size, 0, none⟩) q q) (hO.mono hs) (fun i hi _ => by
        right
        intro e
        have := ((hA.row i hi).lt wr.heap.size (by rw [e]; rfl)).2
        omega)
      rw [mk_up] at hP
      have hcell := hA2.cell k hlt
      have hfree := hA2.free k
      have hBw : Below w.heap.size w w2 := hB.trans (hB2.mono hs)
      have hBs := hBw.trans (below_of_grownAt hP.2 hBw.size (Nat.le_refl _))
      have hP1 := hP.1
      clear hP hown hgrow hB2 hA2 hO hA hB hBw
      go_wp2
      go_roundw
      case rel => exact ⟨k + 1, _, by omega, by go_num, hP1, hBs⟩
      case measure => simp [intOf]; omega
    · have hF : OwM w.heap.size wr (.slice (some ⟨w.heap.size, 0, none⟩) p p) p (rws (fun _ _ => 0) q) rv := hA.congr (fun i hi => by (show mk q k i = _); unfold mk; rw [if_pos (by omega)])
      clear hA
      go_wp2
      go_ret
      exact ⟨_, rfl, hF, hB⟩
set_option maxHeartbeats 1000000 in
theorem mtimes_some (B g cp q : Nat) (f h : Nat → El) (ad : Addr) (cv : Nat) (c : El) (w : World) (hq : q ≤ 1000) (hO : Ow B w (.slice (some ⟨g, 0, none⟩) q cp) (row f q))
    (hc : ∀ i, i < q → w.cell? (ad.add i) = some (.int .u8 (((h i).val : Nat) : Int))) (hne : ad.block ≠ g) :
    Calls Tryd.prog 28 #[.slice (some ⟨g, 0, none⟩) q cp, .slice (some ad) q cv, .int .u8 ((c.val : Nat) : Int)] w fun e w' => e = .returned (.tuple #[]) ∧ Ow B w' (.slice (some ⟨g, 0, none⟩) q cp) (row (fun j => pl (f j) (ti (h j) c)) q) ∧ w.grownBy w' (some g) := by
  have HC : Hid (∀ i, i < q → w.cell? (ad.add i) = some (.int .u8 (((h i).val : Nat) : Int))) := hc
  clear hc
  have hB : w.grownBy w (some g) := grownBy_refl _ _
  have hA : Ow B w (.slice (some ⟨g, 0, none⟩) q cp) (row (part f h c 0) q) := by rw [part_zero]; exact hO
  clear hO
  go_enter Tryd.func28, Tryd.ntmps28
  go_wp2
  go_loopw [10] (fun t wr => ∃ k : Nat, k ≤ q ∧ t = .int .i64 k ∧ Ow B wr (.slice (some ⟨g, 0, none⟩) q cp) (row (part f h c k) q) ∧ w.grownBy wr (some g)) (fun t _ => q - (intOf t).toNat)
  case atStart => exact ⟨0, Nat.zero_le _, rfl, hA, hB⟩
  case round =>
    clear hA hB
    obtain ⟨k, hk, rfl, hA, hB⟩ := hrel
    by_cases hlt : k < q
    · have hcell0 := HC.out k hlt
      have hcell : wr.cell? (ad.add k) = some (.int .u8 (((h k).val : Nat) : Int)) := hB.cell hcell0 (by rw [add_block]; simp; exact hne)
      have hcell2 := hA.cell (by rw [row_length]) k hlt
      rw [co_row_lt _ hlt, part_at] at hcell2
      have hfree := hA.free (by rw [row_length]) k
      have R := put_el hA hB (part_step f h c q k)
      clear hcell0 hA hB
      generalize f k = y at *
      generalize h k = x at *
      go_wp2
      go_region_with (first | (go_at_call 40; refine (mul_any _ _ x.isLt c.isLt _).mono ?_; rintro e w1 ⟨rfl, rfl⟩) | (go_at_call 36; refine (add_any _ _ y.isLt (ti x c).isLt _).mono ?_; rintro e w1 ⟨rfl, rfl⟩))
      all_goals
        have R1 : Ow B (wr.setCell ⟨g, k, none⟩ (.int .u8 ((y.val ^^^ (ti x c).val : Nat) : Int))).drew (.slice (some ⟨g, 0, none⟩) q cp) (row (part f h c (k + 1)) q) := R.1.old ⟨rfl, rfl, rfl, Nat.le_refl _, fun _ _ => rfl⟩
        have R2 : w.grownBy (wr.setCell ⟨g, k, none⟩ (.int .u8 ((y.val ^^^ (ti x c).val : Nat) : Int))).drew (some g) := grownBy_drew R.2
        clear hcell hcell2 hfree R
        go_wp2
        go_roundw
        case rel => exact ⟨k + 1, by omega, by go_num, R1, R2⟩
        case measure => simp [intOf]; omega
    · have hF : Ow B wr (.slice (some ⟨g, 0, none⟩) q cp) (row (fun j => pl (f j) (ti (h j) c)) q) := by
        rw [row_congr (g := part f h c k) (fun j hj => by unfold part; rw [if_pos (by omega)])]; exact hA
      clear hA
      go_wp2
      go_end0
      exact ⟨rfl, hF, hB⟩
theorem mtimes_none (a1 a2 : Option Addr) (c1 c2 : Nat) (c : El) (w : World) :
    Calls Tryd.prog 28 #[.slice a1 0 c1, .slice a2 0 c2, .int .u8 ((c.val : Nat) : Int)] w fun e w' => e = .returned (.tuple #[]) ∧ w' = w := by
  go_enter Tryd.func28, Tryd.ntmps28
  go_wp2
  refine wp_loop_rounds 1 ?_
  rw [rounds_succ]
  go_wp2
  go_end0
  exact ⟨rfl, rfl⟩
theorem mtimes_any (B q : Nat) (u v : Value) (f h : Nat → El) (c : El) (w : World) (hq : q ≤ 1000) (hO : Ow B w u (row f q)) (hR : Rd w v (row h q)) (hne : q ≠ 0 → u.ownBlock = none ∨ u.ownBlock ≠ v.ownBlock) :
    Calls Tryd.prog 28 #[u, v, .int .u8 ((c.val : Nat) : Int)] w fun e w' => e = .returned (.tuple #[]) ∧ Ow B w' u (row (fun j => pl (f j) (ti (h j) c)) q) ∧ w.grownBy w' u.ownBlock := by
  by_cases h0 : q = 0
  · subst h0
    obtain ⟨a1, c1, rfl, _, _⟩ := hO.rd.len
    obtain ⟨a2, c2, rfl, _, _⟩ := hR.len
    exact (mtimes_none a1 a2 c1 c2 c w).mono fun e w' ⟨he, hw⟩ => ⟨he, by rw [hw]; exact hO, by rw [hw]; exact grownBy_refl _ _⟩
  · obtain ⟨g, cp, rfl, _, _, _, _⟩ := hO.at (by intro e; have := congrArg List.length e; rw [row_length] at this; exact h0 this)
    rcases hR with ⟨_, e⟩ | ⟨ad, cv, rfl, _, _, hc⟩
    · have := congrArg List.length e; rw [row_length] at this; exact absurd this h0
    · rw [row_length] at hO hc hne ⊢
      rw [row_length]
      refine mtimes_some B g cp q f h ad cv c w hq hO (fun i hi => by have := hc i hi; rwa [co_row_lt _ hi] at this) ?_
      rcases hne h0 with e | e
      · simp [Value.ownBlock] at e
      · simp [Value.ownBlock] at e; exact fun q => e q.symm
end Go.Proofs.YtcjokofebnfkkaaDoor
