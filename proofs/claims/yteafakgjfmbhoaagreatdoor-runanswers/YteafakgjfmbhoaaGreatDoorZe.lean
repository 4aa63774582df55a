/- Texts of plain mathematics, of memory and of walks, in one. -/
import Derived.Test.YteafakgjfmbhoaaGreatDoorRr
import Derived.Test.YteafakgjfmbhoaaGreatDoorMe
/- A new array of the document's: what its loops keep. -/
namespace Go.Proofs.YteafakgjfmbhoaaGreatDoor
open Go.RowKit El Pol Mx Lay
/-- its six cells while it is made -/
def naF (n rows size : Nat) (V0 V1 V2 : Value) (i : Nat) : Value :=
  if i = 0 then .int .i64 n else if i = 1 then .int .i64 rows else if i = 2 then .int .i64 size else if i = 3 then V0 else if i = 4 then V1 else V2
structure NaS (w : World) (n rows size : Nat) (V0 V1 V2 : Value) (h hc : Nat → Nat) (k0 k1 k2 : Nat) (wr : World) : Prop where
  low : Below w.heap.size w wr
  me : RowAt wr w.heap.size 6 (naF n rows size V0 V1 V2)
  o0 : wr.ownsRow (w.heap.size + 1) 23 1 V0 k0 ((List.range k0).map (fun d => .slice (some ⟨h d, 0, none⟩) rows (hc d)))
  o1 : wr.ownsRow (w.heap.size + 1) 4 1 V1 k1 ((List.range k1).map (fun _ => .bool false))
  o2 : wr.ownsRow (w.heap.size + 1) 3 1 V2 k2 ((List.range k2).map (fun _ => .int .i64 rows))
  rows' : ∀ d, d < k0 → RowAt wr (h d) rows (fun _ => st (List.replicate size 0)) ∧ w.heap.size + 1 ≤ h d
  n01 : V0.ownBlock = none ∨ V0.ownBlock ≠ V1.ownBlock
  n02 : V0.ownBlock = none ∨ V0.ownBlock ≠ V2.ownBlock
  n12 : V1.ownBlock = none ∨ V1.ownBlock ≠ V2.ownBlock
  h0 : ∀ d, d < k0 → V0.ownBlock ≠ some (h d)
  h1 : ∀ d, d < k0 → V1.ownBlock ≠ some (h d)
  h2 : ∀ d, d < k0 → V2.ownBlock ≠ some (h d)
  hh : ∀ d e, d < k0 → e < k0 → h d = h e → d = e
theorem swapNe {a b : Option Nat} (h : a = none ∨ a ≠ b) : b = none ∨ b ≠ a := by
  rcases h with e | e
  · rw [e]; cases b <;> simp
  · exact .inr (fun z => e z.symm)
namespace NaS
variable {w wr w2 w3 : World} {n rows size : Nat} {V0 V1 V2 v : Value} {h hc : Nat → Nat} {k0 k1 k2 : Nat}
theorem old (s : NaS w n rows size V0 V1 V2 h hc k0 k1 k2 wr) (hb : Below wr.heap.size wr w2) : NaS w n rows size V0 V1 V2 h hc k0 k1 k2 w2 :=
  ⟨s.low.trans (hb.mono s.low.size), s.me.old hb, ownsRow_old s.o0 hb, ownsRow_old s.o1 hb, ownsRow_old s.o2 hb, fun d hd => ⟨(s.rows' d hd).1.old hb, (s.rows' d hd).2⟩, s.n01, s.n02, s.n12, s.h0, s.h1, s.h2, s.hh⟩
theorem grownRow {w w' : World} {r : Option Nat} {k m : Nat} {f : Nat → Value} (hk : RowAt w k m f) (hg : w.grownBy w' r) (hn : r ≠ some k) : RowAt w' k m f := by
  refine ⟨Nat.lt_of_lt_of_le hk.1 hg.size, fun i hi => ?_⟩
  have e := hg.block k hk.1 (fun e => hn e.symm)
  rw [World.cell?_of_block (a := ⟨k, i, none⟩) (w := w) (w' := w') e, World.frozen?_of_block (a := ⟨k, i, none⟩) (w := w) (w' := w') e]
  exact hk.2 i hi
theorem lowB (s : NaS w n rows size V0 V1 V2 h hc k0 k1 k2 wr) (hal : Below wr.heap.size wr w2) {r : Option Nat} (hg : w2.grownBy w3 r) (hr : ∀ k, r = some k → w.heap.size + 1 ≤ k) : Below w.heap.size w w3 :=
  (s.low.trans (hal.mono s.low.size)).trans (below_of_grownR hg (Nat.le_trans s.low.size hal.size) (fun k hk => by have := hr k hk; omega))
theorem push0 (s : NaS w n rows size V0 V1 V2 h hc k0 k1 k2 wr) {hk cc : Nat} (hrow : RowAt wr hk rows (fun _ => st (List.replicate size 0))) (hnew : w.heap.size + 1 ≤ hk) (hx0 : V0.ownBlock ≠ some hk) (hx1 : V1.ownBlock ≠ some hk) (hx2 : V2.ownBlock ≠ some hk) (hxh : ∀ d, d < k0 → h d ≠ hk) (hal : Below wr.heap.size wr w2)
    (hown : w3.ownsRow (w.heap.size + 1) 23 1 v (k0 + 1) ((List.range k0).map (fun d => .slice (some ⟨h d, 0, none⟩) rows (hc d)) ++ [.slice (some ⟨hk, 0, none⟩) rows cc])) (hgrow : w2.grownBy w3 V0.ownBlock) (hsn : SameOrNew w2 V0 v) :
    NaS w n rows size v V1 V2 (up h k0 hk) (up hc k0 cc) (k0 + 1) k1 k2 (w3.setCell ⟨w.heap.size, 3, none⟩ v) ∧ (w3.cell? ⟨w.heap.size, 3, none⟩ = some V0 ∧ w3.frozen? ⟨w.heap.size, 3, none⟩ = false) := by
  have s2 := s.old hal
  have hb0 : ∀ k, V0.ownBlock = some k → w.heap.size + 1 ≤ k := fun k hk => (World.ownsRow.lt s.o0 k hk).1
  have hp0 : V0.ownBlock ≠ some w.heap.size := fun e => by have := hb0 _ e; omega
  have me3 := grownRow s2.me hgrow hp0
  have hb := but_cell w3 w.heap.size 3 v
  have ne1 : V1.ownBlock = none ∨ V1.ownBlock ≠ V0.ownBlock := swapNe s.n01
  have ne2 : V2.ownBlock = none ∨ V2.ownBlock ≠ V0.ownBlock := swapNe s.n02
  have o1' := World.ownsRow.kept s2.o1 hgrow ne1
  have o2' := World.ownsRow.kept s2.o2 hgrow ne2
  have hlow := s.lowB hal hgrow hb0
  have hB1 : ∀ {T : TypeId} {u : Value} {m : Nat} {xs : List Value}, w3.ownsRow (w.heap.size + 1) T 1 u m xs → (w3.setCell ⟨w.heap.size, 3, none⟩ v).ownsRow (w.heap.size + 1) T 1 u m xs := fun ho => ownsRow_but ho hb (fun k hk e => by have := (World.ownsRow.lt ho k hk).1; omega)
  have hne : ∀ k, V0.ownBlock ≠ some k → k < w2.heap.size → v.ownBlock ≠ some k := fun k hk hlt e => by
    rcases hsn with z | z
    · rw [z] at e; exact hk e
    · have := z k e; omega
  have hrs : ∀ d, d < k0 + 1 → RowAt w2 (up h k0 hk d) rows (fun _ => st (List.replicate size 0)) ∧ w.heap.size + 1 ≤ up h k0 hk d ∧ V0.ownBlock ≠ some (up h k0 hk d) := fun d hd => by
    by_cases e : d = k0
    · subst e; rw [up_at]; exact ⟨hrow.old hal, hnew, hx0⟩
    · rw [up_ne _ _ e]; exact ⟨(s2.rows' d (by omega)).1, (s2.rows' d (by omega)).2, s.h0 d (by omega)⟩
  refine ⟨⟨hlow.trans (hb.below hlow.size (fun k hk => by rw [hk]; exact Nat.le_refl _)), (me3.put 3 v).1.congr (fun i hi => ?_), ?_, hB1 o1', hB1 o2', fun d hd => ?_, ?_, ?_, s.n12, fun d hd => ?_, fun d hd => ?_, fun d hd => ?_, fun d e hd he => ?_⟩, ?_, ?_⟩
  · unfold up naF
    by_cases q : i = 3
    · subst q; rfl
    · rw [if_neg q]
      by_cases q0 : i = 0
      · subst q0; rfl
      · rw [if_neg q0, if_neg q0]
        by_cases q1 : i = 1
        · subst q1; rfl
        · rw [if_neg q1, if_neg q1]
          by_cases q2 : i = 2
          · subst q2; rfl
          · rw [if_neg q2, if_neg q2, if_neg q, if_neg q]
  · have e : (List.range (k0 + 1)).map (fun d => Value.slice (some ⟨up h k0 hk d, 0, none⟩) rows (up hc k0 cc d)) = (List.range k0).map (fun d => .slice (some ⟨h d, 0, none⟩) rows (hc d)) ++ [.slice (some ⟨hk, 0, none⟩) rows cc] := by
      rw [List.range_succ, List.map_append, List.map_cons, List.map_nil, up_at, up_at]
      congr 1
      refine List.map_congr_left (fun d hd => ?_)
      have := List.mem_range.1 hd
      rw [up_ne _ _ (by omega), up_ne _ _ (by omega)]
    rw [e]
    exact hB1 hown
  · obtain ⟨q1, q2, q3⟩ := hrs d hd
    exact ⟨(grownRow q1 hgrow q3).but hb (by omega), q2⟩
  · exact hsn.ne (fun k hk => (World.ownsRow.lt s2.o1 k hk).2) s.n01
  · exact hsn.ne (fun k hk => (World.ownsRow.lt s2.o2 k hk).2) s.n02
  · obtain ⟨q1, _, q3⟩ := hrs d hd
    exact hne _ q3 q1.1
  · by_cases q : d = k0
    · subst q; rw [up_at]; exact hx1
    · rw [up_ne _ _ q]; exact s.h1 d (by omega)
  · by_cases q : d = k0
    · subst q; rw [up_at]; exact hx2
    · rw [up_ne _ _ q]; exact s.h2 d (by omega)
  · by_cases q : d = k0
    · by_cases q2 : e = k0
      · omega
      · subst q; rw [up_at, up_ne _ _ q2]; exact fun z => absurd z.symm (hxh e (by omega))
    · by_cases q2 : e = k0
      · subst q2; rw [up_at, up_ne _ _ q]; exact fun z => absurd z (hxh d (by omega))
      · rw [up_ne _ _ q, up_ne _ _ q2]; exact s.hh d e (by omega) (by omega)
  · exact (me3.2 3 (by omega)).1
  · exact (me3.2 3 (by omega)).2
theorem push1 (s : NaS w n rows size V0 V1 V2 h hc k0 k1 k2 wr) (hal : Below wr.heap.size wr w2)
    (hown : w3.ownsRow (w.heap.size + 1) 4 1 v (k1 + 1) ((List.range k1).map (fun _ => .bool false) ++ [.bool false])) (hgrow : w2.grownBy w3 V1.ownBlock) (hsn : SameOrNew w2 V1 v) :
    NaS w n rows size V0 v V2 h hc k0 (k1 + 1) k2 (w3.setCell ⟨w.heap.size, 4, none⟩ v) ∧ (w3.cell? ⟨w.heap.size, 4, none⟩ = some V1 ∧ w3.frozen? ⟨w.heap.size, 4, none⟩ = false) := by
  have s2 := s.old hal
  have hb0 : ∀ k, V1.ownBlock = some k → w.heap.size + 1 ≤ k := fun k hk => (World.ownsRow.lt s.o1 k hk).1
  have hp0 : V1.ownBlock ≠ some w.heap.size := fun e => by have := hb0 _ e; omega
  have me3 := grownRow s2.me hgrow hp0
  have hb := but_cell w3 w.heap.size 4 v
  have o0' := World.ownsRow.kept s2.o0 hgrow s.n01
  have o2' := World.ownsRow.kept s2.o2 hgrow (swapNe s.n12)
  have hlow := s.lowB hal hgrow hb0
  have hB1 : ∀ {T : TypeId} {u : Value} {m : Nat} {xs : List Value}, w3.ownsRow (w.heap.size + 1) T 1 u m xs → (w3.setCell ⟨w.heap.size, 4, none⟩ v).ownsRow (w.heap.size + 1) T 1 u m xs := fun ho => ownsRow_but ho hb (fun k hk e => by have := (World.ownsRow.lt ho k hk).1; omega)
  have hne : ∀ k, V1.ownBlock ≠ some k → k < w2.heap.size → v.ownBlock ≠ some k := fun k hk hlt e => by
    rcases hsn with z | z
    · rw [z] at e; exact hk e
    · have := z k e; omega
  refine ⟨⟨hlow.trans (hb.below hlow.size (fun k hk => by rw [hk]; exact Nat.le_refl _)), (me3.put 4 v).1.congr (fun i hi => ?_), hB1 o0', ?_, hB1 o2', fun d hd => ?_, ?_, s.n02, ?_, s.h0, fun d hd => ?_, s.h2, s.hh⟩, ?_, ?_⟩
  · unfold up naF
    by_cases q : i = 4
    · subst q; rfl
    · rw [if_neg q]
      by_cases q0 : i = 0
      · subst q0; rfl
      · rw [if_neg q0, if_neg q0]
        by_cases q1 : i = 1
        · subst q1; rfl
        · rw [if_neg q1, if_neg q1]
          by_cases q2 : i = 2
          · subst q2; rfl
          · rw [if_neg q2, if_neg q2, if_neg q, if_neg q]
  · rw [List.range_succ, List.map_append, List.map_cons, List.map_nil]
    exact hB1 hown
  · obtain ⟨q1, q2⟩ := s2.rows' d hd
    exact ⟨(grownRow q1 hgrow (s.h1 d hd)).but hb (by omega), q2⟩
  · exact swapNe (hsn.ne (fun k hk => (World.ownsRow.lt s2.o0 k hk).2) (swapNe s.n01))
  · exact hsn.ne (fun k hk => (World.ownsRow.lt s2.o2 k hk).2) s.n12
  · exact hne _ (s.h1 d hd) (s2.rows' d hd).1.1
  · exact (me3.2 4 (by omega)).1
  · exact (me3.2 4 (by omega)).2
theorem push2 (s : NaS w n rows size V0 V1 V2 h hc k0 k1 k2 wr) (hal : Below wr.heap.size wr w2)
    (hown : w3.ownsRow (w.heap.size + 1) 3 1 v (k2 + 1) ((List.range k2).map (fun _ => .int .i64 rows) ++ [.int .i64 rows])) (hgrow : w2.grownBy w3 V2.ownBlock) (hsn : SameOrNew w2 V2 v) :
    NaS w n rows size V0 V1 v h hc k0 k1 (k2 + 1) (w3.setCell ⟨w.heap.size, 5, none⟩ v) ∧ (w3.cell? ⟨w.heap.size, 5, none⟩ = some V2 ∧ w3.frozen? ⟨w.heap.size, 5, none⟩ = false) := by
  have s2 := s.old hal
  have hb0 : ∀ k, V2.ownBlock = some k → w.heap.size + 1 ≤ k := fun k hk => (World.ownsRow.lt s.o2 k hk).1
  have hp0 : V2.ownBlock ≠ some w.heap.size := fun e => by have := hb0 _ e; omega
  have me3 := grownRow s2.me hgrow hp0
  have hb := but_cell w3 w.heap.size 5 v
  have o0' := World.ownsRow.kept s2.o0 hgrow s.n02
  have o1' := World.ownsRow.kept s2.o1 hgrow s.n12
  have hlow := s.lowB hal hgrow hb0
  have hB1 : ∀ {T : TypeId} {u : Value} {m : Nat} {xs : List Value}, w3.ownsRow (w.heap.size + 1) T 1 u m xs → (w3.setCell ⟨w.heap.size, 5, none⟩ v).ownsRow (w.heap.size + 1) T 1 u m xs := fun ho => ownsRow_but ho hb (fun k hk e => by have := (World.ownsRow.lt ho k hk).1; omega)
  have hne : ∀ k, V2.ownBlock ≠ some k → k < w2.heap.size → v.ownBlock ≠ some k := fun k hk hlt e => by
    rcases hsn with z | z
    · rw [z] at e; exact hk e
    · have := z k e; omega
  refine ⟨⟨hlow.trans (hb.below hlow.size (fun k hk => by rw [hk]; exact Nat.le_refl _)), (me3.put 5 v).1.congr (fun i hi => ?_), hB1 o0', hB1 o1', ?_, fun d hd => ?_, s.n01, ?_, ?_, s.h0, s.h1, fun d hd => ?_, s.hh⟩, ?_, ?_⟩
  · unfold up naF
    by_cases q : i = 5
    · subst q; rfl
    · rw [if_neg q]
      by_cases q0 : i = 0
      · subst q0; rfl
      · rw [if_neg q0, if_neg q0]
        by_cases q1 : i = 1
        · subst q1; rfl
        · rw [if_neg q1, if_neg q1]
          by_cases q2 : i = 2
          · subst q2; rfl
          · rw [if_neg q2, if_neg q2]
            by_cases q3 : i = 3
            · subst q3; rfl
            · rw [if_neg q3, if_neg q3, if_pos (by omega), if_pos (by omega)]
  · rw [List.range_succ, List.map_append, List.map_cons, List.map_nil]
    exact hB1 hown
  · obtain ⟨q1, q2⟩ := s2.rows' d hd
    exact ⟨(grownRow q1 hgrow (s.h2 d hd)).but hb (by omega), q2⟩
  · exact swapNe (hsn.ne (fun k hk => (World.ownsRow.lt s2.o0 k hk).2) (swapNe s.n02))
  · exact swapNe (hsn.ne (fun k hk => (World.ownsRow.lt s2.o1 k hk).2) (swapNe s.n12))
  · exact hne _ (s.h2 d hd) (s2.rows' d hd).1.1
  · exact (me3.2 5 (by omega)).1
  · exact (me3.2 5 (by omega)).2
/-- all are made -/
theorem done (s : NaS w n rows size V0 V1 V2 h hc n n n wr) (hn : 0 < n) : ∃ x : RAd, x.p = w.heap.size ∧ RA wr x (Arr.fresh n rows size) ∧ ∀ k, x.F n k → w.heap.size ≤ k := by
  obtain ⟨g0, c0, rfl, _, _, b0, r0⟩ := rowAt_own s.o0 hn
  obtain ⟨g1, c1, rfl, _, _, b1, r1⟩ := rowAt_own s.o1 hn
  obtain ⟨g2, c2, rfl, _, _, b2, r2⟩ := rowAt_own s.o2 hn
  have e01 : g0 ≠ g1 := fun e => by
    rcases s.n01 with z | z
    · simp [Value.ownBlock] at z
    · exact z (by simp [Value.ownBlock, e])
  have e02 : g0 ≠ g2 := fun e => by
    rcases s.n02 with z | z
    · simp [Value.ownBlock] at z
    · exact z (by simp [Value.ownBlock, e])
  have e12 : g1 ≠ g2 := fun e => by
    rcases s.n12 with z | z
    · simp [Value.ownBlock] at z
    · exact z (by simp [Value.ownBlock, e])
  refine ⟨⟨w.heap.size, g0, g1, g2, c0, c1, c2, h, hc⟩, rfl, ⟨s.me.congr (fun i _ => rfl), r0, fun d hd => (s.rows' d hd).1, r1, r2, ⟨by dsimp only; omega, by dsimp only; omega, by dsimp only; omega, e01, e02, e12, fun d hd => ?_, fun d hd e => s.h0 d hd (congrArg some (show h d = g0 from e).symm), fun d hd e => s.h1 d hd (congrArg some (show h d = g1 from e).symm), fun d hd e => s.h2 d hd (congrArg some (show h d = g2 from e).symm), s.hh⟩⟩, ?_⟩
  · have := (s.rows' d hd).2
    dsimp only
    omega
  · rintro k (z | z | z | z | ⟨d, hd, z⟩)
    · dsimp only at z; omega
    · dsimp only at z; omega
    · dsimp only at z; omega
    · dsimp only at z; omega
    · have := (s.rows' d hd).2
      dsimp only at z
      omega
end NaS
end Go.Proofs.YteafakgjfmbhoaaGreatDoor

/- A new array of the document's: a walk over the program. -/
namespace Go.Proofs.YteafakgjfmbhoaaGreatDoor
open Go.RowKit El Pol Mx Lay
theorem infoTs : (Tryz.prog.info? 23).map (fun i => (i.zero, i.size, i.bytes)) = some (some (.slice none 0 0), 1, 24) := by kernel_rfl
theorem na_start (w : World) (n rows size : Nat) (T : TypeId) : NaS w n rows size (.slice none 0 0) (.slice none 0 0) (.slice none 0 0) (fun _ => 0) (fun _ => 0) 0 0 0 (w.alloc (.cells #[.int .i64 n, .int .i64 rows, .int .i64 size, .slice none 0 0, .slice none 0 0, .slice none 0 0] T)) := by
  refine ⟨al_below w _, ⟨by simp, fun i hi => ⟨?_, frozen_of_row _ _ _ _ _ (heap_alloc_new w _)⟩⟩, World.ownsRow_nil _ _ _ _, World.ownsRow_nil _ _ _ _, World.ownsRow_nil _ _ _ _, fun d hd => absurd hd (Nat.not_lt_zero _), .inl rfl, .inl rfl, .inl rfl, fun d hd => absurd hd (Nat.not_lt_zero _), fun d hd => absurd hd (Nat.not_lt_zero _), fun d hd => absurd hd (Nat.not_lt_zero _), fun d e hd => absurd hd (Nat.not_lt_zero _)⟩
  rw [cell_of_row _ _ i _ _ _ (heap_alloc_new w _)]
  have : i = 0 ∨ i = 1 ∨ i = 2 ∨ i = 3 ∨ i = 4 ∨ i = 5 := by omega
  rcases this with rfl | rfl | rfl | rfl | rfl | rfl <;> rfl
set_option maxRecDepth 100000 in
set_option maxHeartbeats 8000000 in
theorem ra_new (n rows size : Nat) (h1 : 3 ≤ n ∧ n ≤ 10) (h2 : 1 ≤ rows ∧ rows ≤ 20) (h3 : 1 ≤ size ∧ size ≤ 16) (w : World) :
    Calls Tryz.prog 8 #[.int .i64 n, .int .i64 rows, .int .i64 size] w fun e w' => ∃ x : RAd, e = .returned (.pointer (some ⟨x.p, 0, none⟩)) ∧ RA w' x (Arr.fresh n rows size) ∧ (∀ k, x.F n k → w.heap.size ≤ k) ∧ Below w.heap.size w w' := by
  obtain ⟨i0, hi, hz0, hz1, hz2⟩ := info_parts info8
  obtain ⟨j0, hj, hy0, hy1, hy2⟩ := info_parts infoT
  obtain ⟨b0, hbb, hb0, hb1, hb2⟩ := info_parts infoB
  obtain ⟨n0, hnn, hn0, hn1, hn2⟩ := info_parts infoI
  obtain ⟨s0, hss, hs0, hs1, hs2⟩ := info_parts infoTs
  have HS0 : Hid (NaS w n rows size (.slice none 0 0) (.slice none 0 0) (.slice none 0 0) (fun _ => 0) (fun _ => 0) 0 0 0 (w.alloc (.cells #[.int .i64 n, .int .i64 rows, .int .i64 size, .slice none 0 0, .slice none 0 0, .slice none 0 0] 59))) := na_start w n rows size _
  obtain ⟨h1a, h1b⟩ := h1
  obtain ⟨h2a, h2b⟩ := h2
  obtain ⟨h3a, h3b⟩ := h3
  have h16' : (size : Int) ≤ 16 := by omega
  go_enter Tryz.func8, Tryz.ntmps8
  go_wp2
  go_loopw [8] (fun t wr => ∃ (k : Nat) (V0 V1 V2 : Value) (h hc : Nat → Nat), k ≤ n ∧ t = .int .i64 k ∧ NaS w n rows size V0 V1 V2 h hc k k k wr) (fun t _ => n - (intOf t).toNat)
  case atStart => exact ⟨0, _, _, _, _, _, Nat.zero_le _, rfl, HS0.out⟩
  case round =>
    clear HS0
    obtain ⟨k, V0, V1, V2, h, hc, hk, rfl, hS⟩ := hrel
    by_cases hlt : k < n
    · obtain ⟨w0, rfl⟩ : ∃ w0, w0 = wr := ⟨_, rfl⟩
      have HS : Hid (NaS w n rows size V0 V1 V2 h hc k k k w0) := hS
      clear hS
      go_wp2
      go_loopw [9, 10] (fun o t wq => ∃ r : Nat, r ≤ rows ∧ t = .int .i64 r ∧ wq.ownsRow w0.heap.size 9 1 o r ((List.range r).map (fun _ => st (List.replicate size 0))) ∧ Below w0.heap.size w0 wq) (fun _ t _ => rows - (intOf t).toNat)
      case atStart => exact ⟨0, Nat.zero_le _, rfl, World.ownsRow_nil _ _ _ _, Below.refl _ _⟩
      case round =>
        obtain ⟨r, hr, rfl, hO, hB⟩ := hrel
        obtain ⟨ao, co, rfl⟩ := own_len hO
        by_cases hltr : r < rows
        · have HO : Hid _ := hO
          have HB : Hid (Below w0.heap.size w0 wr) := hB
          have hltr' : (r : Int) < (rows : Int) := by omega
          clear hO hB
          go_wp2_with (first | (at_make; refine wpList_make_full _ rfl _ _ 47 rfl wr.heap.size 5 i0 (.int .u8 0) 1 Tryz.underlying47 hi hz0 hz1 _ _ _ _ size rfl rfl rfl rfl (by rw [hz2]; omega) (by unfold maxLen; omega) (Nat.le_refl _) ?_))
          intro w3 hown hgrow
          have hOw := Ow.made hown
          have hB3 := below_of_grown hgrow
          have hcv := run_text hOw.rd 47 9 Tryz.underlying47 Tryz.underlying9
          have hO3 := ownsRow_old HO.out hB3
          have hB4 := HB.out.trans (hB3.mono HB.out.size)
          have HO3 : Hid _ := hO3
          have HB4 : Hid (Below w0.heap.size w0 w3) := hB4
          clear hown hgrow hOw hB3 HO HB hO3 hB4
          generalize hte : List.replicate size (0 : El) = t at hcv HO3
          have HTE : Hid (List.replicate size (0 : El) = t) := hte
          clear hte
          go_wp2_with (first | (at_builtin; refine wpList_append_own _ rfl _ _ 23 rfl w0.heap.size 9 j0 (.string ⟨#[]⟩) 1 16 Tryz.underlying23 hj hy0 hy1 hy2 rfl (by decide) _ _ _ rfl (World.ownsRow.alloc HO3.out _) ⟨w3.heap.size, 0, none⟩ 1 1 [st t] rfl rfl (one_cell _) (by intro u hu; simp at hu; subst hu; rfl) (by unfold maxLen; omega) (by omega) (by have := HB4.out.size; simp; omega) ?_))
          intro v' w5 hown hgrow _
          have hB5 : Below w0.heap.size w0 w5 := (HB4.out.alloc HB4.out.size _).grown hgrow (by have := HB4.out.size; simp; omega) (fun g hg => (World.ownsRow.lt HO3.out g hg).1)
          have HO5 : Hid (w5.ownsRow w0.heap.size 9 1 v' (r + 1) ((List.range (r + 1)).map (fun _ => st (List.replicate size 0)))) := by
            (show World.ownsRow _ _ _ _ _ _ _)
            rw [HTE.out, List.range_succ, List.map_append, List.map_cons, List.map_nil]
            exact hown
          have HB5 : Hid (Below w0.heap.size w0 w5) := hB5
          clear hown hgrow hB5 HO3 HB4
          go_wp2
          go_roundw
          case rel => exact ⟨r + 1, by omega, by go_num, HO5.out, HB5.out⟩
          case measure => simp [intOf]; omega
        · have e : rows = r := by omega
          subst e
          obtain ⟨hk', cc, ev, _, _, hgk, hRk⟩ := rowAt_own hO (by omega)
          cases ev
          have hS1 := HS.out.old hB
          have hVlt : ∀ (V : Value) (T : TypeId) (m : Nat) (xs : List Value), w0.ownsRow (w.heap.size + 1) T 1 V m xs → V.ownBlock ≠ some hk' := fun V T m xs ho e => by have := (World.ownsRow.lt ho hk' e).2; omega
          have hx0 := hVlt _ _ _ _ HS.out.o0
          have hx1 := hVlt _ _ _ _ HS.out.o1
          have hx2 := hVlt _ _ _ _ HS.out.o2
          have hxh : ∀ d, d < k → h d ≠ hk' := fun d hd e => by have := (HS.out.rows' d hd).1.1; omega
          have hnew : w.heap.size + 1 ≤ hk' := by have := HS.out.me.1; omega
          have HRk : Hid (RowAt wr hk' rows (fun _ => st (List.replicate size 0))) := hRk
          have HS1 : Hid (NaS w n rows size V0 V1 V2 h hc k k k wr) := hS1
          have m3 := (hS1.me.2 3 (by omega)).1
          have m3' : wr.cell? ⟨w.heap.size, 3, none⟩ = some V0 := m3
          have hO0 := hS1.o0
          have hsz1 : w.heap.size + 1 ≤ wr.heap.size := hS1.me.1
          obtain ⟨q0, d0, e0⟩ := own_len hO0
          have hge : ¬ (rows : Int) < (rows : Int) := by omega
          clear hO hB hRk hS1 m3 HS hVlt hltr
          subst e0
          go_wp2_with (first | (at_builtin; refine wpList_append_two rfl (.tmp 36) (.tmp 38) 56 rfl (w.heap.size + 1) 23 s0 (.slice none 0 0) 24 Tryz.underlying56 hss hs0 hs1 hs2 rfl _ _ _ rfl (World.ownsRow.alloc hO0 _) ⟨wr.heap.size, 0, none⟩ 1 1 [.slice (some ⟨hk', 0, none⟩) rows co] rfl rfl (one_cell _) (by intro u hu; simp at hu; subst hu; rfl) (by unfold maxLen; omega) (by omega) (by simp; omega) ?_))
          intro v3 w3 hown3 hgrow3 hsn3
          obtain ⟨S3, ⟨k3, f3⟩⟩ := HS1.out.push0 HRk.out hnew hx0 hx1 hx2 hxh (al_below wr _) hown3 hgrow3 hsn3
          obtain ⟨a3, c3, e3⟩ := own_len S3.o0
          subst e3
          have HS3 : Hid (NaS w n rows size (.slice a3 (k + 1) c3) V1 V2 (up h k hk') (up hc k co) (k + 1) k k (w3.setCell ⟨w.heap.size, 3, none⟩ (.slice a3 (k + 1) c3))) := S3
          clear hown3 hgrow3 hsn3 S3 HS1 HRk hO0 m3' hx0 hx1 hx2 hxh hnew hsz1
          go_upto_region 11 with fail
          generalize w3.setCell ⟨w.heap.size, 3, none⟩ (.slice a3 (k + 1) c3) = W3 at *
          clear k3 f3
          have m4 : W3.cell? ⟨w.heap.size, 4, none⟩ = some V1 := (HS3.out.me.2 4 (by omega)).1
          have hO1 := HS3.out.o1
          have hsz3 : w.heap.size + 1 ≤ W3.heap.size := HS3.out.me.1
          obtain ⟨q1, d1, e1⟩ := own_len hO1
          subst e1
          go_wp2_with (first | (at_builtin; refine wpList_append_two rfl (.tmp 46) (.tmp 47) 57 rfl (w.heap.size + 1) 4 b0 (.bool false) 1 Tryz.underlying57 hbb hb0 hb1 hb2 rfl _ _ _ rfl (World.ownsRow.alloc hO1 _) ⟨W3.heap.size, 0, none⟩ 1 1 [.bool false] rfl rfl (one_cell _) (by intro u hu; simp at hu; subst hu; rfl) (by unfold maxLen; omega) (by omega) (by simp; omega) ?_))
          intro v4 w4 hown4 hgrow4 hsn4
          obtain ⟨S4, ⟨k4, f4⟩⟩ := HS3.out.push1 (al_below W3 _) hown4 hgrow4 hsn4
          obtain ⟨a4, c4, e4⟩ := own_len S4.o1
          subst e4
          have HS4 : Hid (NaS w n rows size (.slice a3 (k + 1) c3) (.slice a4 (k + 1) c4) V2 (up h k hk') (up hc k co) (k + 1) (k + 1) k (w4.setCell ⟨w.heap.size, 4, none⟩ (.slice a4 (k + 1) c4))) := S4
          clear hown4 hgrow4 hsn4 S4 HS3 hO1 m4 hsz3
          go_upto_region 12 with fail
          generalize w4.setCell ⟨w.heap.size, 4, none⟩ (.slice a4 (k + 1) c4) = W4 at *
          clear k4 f4
          have m5 : W4.cell? ⟨w.heap.size, 5, none⟩ = some V2 := (HS4.out.me.2 5 (by omega)).1
          have hO2 := HS4.out.o2
          have hsz4 : w.heap.size + 1 ≤ W4.heap.size := HS4.out.me.1
          obtain ⟨q2, d2, e2⟩ := own_len hO2
          subst e2
          go_wp2_with (first | (at_builtin; refine wpList_append_two rfl (.tmp 55) (.tmp 57) 30 rfl (w.heap.size + 1) 3 n0 (.int .i64 0) 8 Tryz.underlying30 hnn hn0 hn1 hn2 rfl _ _ _ rfl (World.ownsRow.alloc hO2 _) ⟨W4.heap.size, 0, none⟩ 1 1 [.int .i64 (rows : Int)] rfl rfl (one_cell _) (by intro u hu; simp at hu; subst hu; rfl) (by unfold maxLen; omega) (by omega) (by simp; omega) ?_))
          intro v5 w5 hown5 hgrow5 hsn5
          obtain ⟨S5, ⟨k5, f5⟩⟩ := HS4.out.push2 (al_below W4 _) hown5 hgrow5 hsn5
          have HS5 : Hid (NaS w n rows size (.slice a3 (k + 1) c3) (.slice a4 (k + 1) c4) v5 (up h k hk') (up hc k co) (k + 1) (k + 1) (k + 1) (w5.setCell ⟨w.heap.size, 5, none⟩ v5)) := S5
          obtain ⟨a5, c5, e5⟩ := own_len S5.o2
          subst e5
          clear hown5 hgrow5 hsn5 S5 HS4 hO2 m5 hsz4
          go_wp2
          go_roundw
          case rel => exact ⟨k + 1, _, _, _, _, _, by omega, by go_num, HS5.out⟩
          case measure => simp [intOf]; omega
    · have e : n = k := by omega
      subst e
      obtain ⟨x, e1, e2, e3⟩ := hS.done (by omega)
      have HE : Hid (x.p = w.heap.size) := e1
      have HF : Hid (RA wr x (Arr.fresh n rows size) ∧ (∀ k, x.F n k → w.heap.size ≤ k) ∧ Below w.heap.size w wr) := ⟨e2, e3, hS.low⟩
      have hge : ¬ (n : Int) < (n : Int) := by omega
      clear hS e1 e2 e3 hlt
      go_wp2
      go_ret
      exact ⟨x, by rw [HE.out]; rfl, HF.out⟩
end Go.Proofs.YteafakgjfmbhoaaGreatDoor
