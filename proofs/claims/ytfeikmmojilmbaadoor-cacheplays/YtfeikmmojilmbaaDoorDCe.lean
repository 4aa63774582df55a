/- The document's cache: a new one: a walk over the document's own. -/
import Derived.Test.YtfeikmmojilmbaaDoorDCd
import Derived.Test.YtfeikmmojilmbaaDoorMkT
namespace Go.Proofs.YtfeikmmojilmbaaDoor
open Go.RowKit El Pol
theorem ownT_rep {B : Nat} {w : World} (n : Nat) (hn : n ≤ 100) (hB : B ≤ w.heap.size) : OwT B (w.alloc (.cells (List.replicate n (.string ⟨#[]⟩)).toArray 9)) (.slice (some ⟨w.heap.size, 0, none⟩) n n) n (fun _ => []) := by
  have h := own_lit (B := B) (w := w) (e := 9) (List.replicate n (.string ⟨#[]⟩)) hB (by simp; omega)
  rw [List.length_replicate] at h
  unfold OwT
  rw [show (List.range n).map (fun _ => st []) = List.replicate n (.string ⟨#[]⟩) by rw [List.map_const', List.length_range]; rfl]
  exact h
set_option maxRecDepth 100000 in
set_option maxHeartbeats 1000000 in
theorem dnew_any (v : Value) (n : Nat) (f : Nat → List El) (R : Nat) (w : World) (hr : RdT w v n f) (hn : n ≤ 40) :
    Calls Tryd.prog 8 #[v, .int .i64 (R : Int)] w fun e w' => ∃ y : DP, e = .returned (.pointer (some ⟨y.p, 0, none⟩)) ∧ DC w.heap.size w' y (Che.fresh n f R) ∧ Below w.heap.size w w' := by
  have hmk := makeT n (by omega) w
  have HO1 : Hid (OwT w.heap.size (w.alloc (.cells (List.replicate n (.string ⟨#[]⟩)).toArray 9)) (.slice (some ⟨w.heap.size, 0, none⟩) n n) n (fun _ => [])) := ownT_rep n (by omega) (Nat.le_refl _)
  have HB1 : Hid (Below w.heap.size w (w.alloc (.cells (List.replicate n (.string ⟨#[]⟩)).toArray 9))) := al_below _ _
  have hs1 : (w.alloc (.cells (List.replicate n (.string ⟨#[]⟩)).toArray 9)).heap.size = w.heap.size + 1 := by simp
  obtain ⟨ao, cap, rfl, _, _⟩ := hr.len
  have HR : Hid (RdT w (.slice ao n cap) n f) := hr
  clear hr
  obtain ⟨w1, hw1⟩ : ∃ w1, w1 = w.alloc (.cells (List.replicate n (.string ⟨#[]⟩)).toArray 9) := ⟨_, rfl⟩
  rw [← hw1] at hmk HO1 HB1 hs1
  clear hw1
  go_enter Tryd.func8, Tryd.ntmps8
  go_upto_region 2 with fail
  obtain ⟨w2, hw2⟩ : ∃ w2, w2 = w1.alloc (.cells #[.slice none 0 0, .int .i64 (R : Int), .slice none 0 0, .slice (some ⟨w.heap.size, 0, none⟩) n n, .slice none 0 0, .int .i64 0] 45) := ⟨_, rfl⟩
  have hrow2 : w2.heap[w.heap.size + 1]? = some (.cells #[.slice none 0 0, .int .i64 (R : Int), .slice none 0 0, .slice (some ⟨w.heap.size, 0, none⟩) n n, .slice none 0 0, .int .i64 0] 45 (0, 0)) := by rw [hw2, ← hs1]; exact heap_alloc_new _ _
  have hB2 : Below w1.heap.size w1 w2 := by rw [hw2]; exact al_below _ _
  have hs2 : w2.heap.size = w.heap.size + 2 := by rw [hw2]; simp [hs1]
  have HRow : Hid (w2.heap[w.heap.size + 1]? = some (.cells #[.slice none 0 0, .int .i64 (R : Int), .slice none 0 0, .slice (some ⟨w.heap.size, 0, none⟩) n n, .slice none 0 0, .int .i64 0] 45 (0, 0))) := hrow2
  have c0 : w2.cell? ⟨w.heap.size + 1, 0, none⟩ = some (.slice none 0 0) := by rw [cell_of_row _ _ _ _ _ _ hrow2]; rfl
  have HB12 : Hid (Below w.heap.size w w2) := HB1.out.trans (hB2.mono HB1.out.size)
  have HO2 : Hid (OwT w.heap.size w2 (.slice (some ⟨w.heap.size, 0, none⟩) n n) n (fun _ => [])) := ownsRow_old HO1.out hB2
  have HR2 : Hid (RdT w2 (.slice ao n cap) n f) := HR.out.old HB12.out
  rw [← hw2]
  have HS2 : Hid (w2.heap.size = w.heap.size + 2) := hs2
  clear hw2 hrow2 hB2 HO1 HB1 hmk hs2
  go_wp2_with (first | (at_builtin; refine wpList_append_texts rfl _ _ rfl w2.heap.size (.slice none 0 0) (.slice ao n cap) [] n f rfl (World.ownsRow_nil _ _ _ _) rfl HR2.out (by simp) (by omega) (Nat.le_refl _) ?_))
  intro v3 w3 hO3 hg3
  have hs2 := HS2.out
  have hB3 : Below w2.heap.size w2 w3 := below_of_grown hg3
  have hO3' : OwT w2.heap.size w3 v3 n f := by
    have := hO3
    unfold OwL at this
    rw [List.length_map, List.length_range] at this
    exact this
  have hrow3 : w3.heap[w.heap.size + 1]? = some (.cells #[.slice none 0 0, .int .i64 (R : Int), .slice none 0 0, .slice (some ⟨w.heap.size, 0, none⟩) n n, .slice none 0 0, .int .i64 0] 45 (0, 0)) := (hB3.block _ (by omega)).trans HRow.out
  have d0 : w3.cell? ⟨w.heap.size + 1, 0, none⟩ = some (.slice none 0 0) := by rw [cell_of_row _ _ _ _ _ _ hrow3]; rfl
  have e0 : w3.frozen? ⟨w.heap.size + 1, 0, none⟩ = false := frozen_of_row _ _ _ _ _ hrow3
  have hb4 : But (· = w.heap.size + 1) w3 (w3.setCell ⟨w.heap.size + 1, 0, none⟩ v3) := (But.refl (· = w.heap.size + 1) w3).setCell (p := ⟨w.heap.size + 1, 0, none⟩) rfl _
  have hB23 : Below w.heap.size w w3 := HB12.out.trans (hB3.mono HB12.out.size)
  have HF : Hid (DC w.heap.size (w3.setCell ⟨w.heap.size + 1, 0, none⟩ v3) ⟨w.heap.size + 1, v3, .slice none 0 0, .slice (some ⟨w.heap.size, 0, none⟩) n n, .slice none 0 0⟩ (Che.fresh n f R) ∧ Below w.heap.size w (w3.setCell ⟨w.heap.size + 1, 0, none⟩ v3)) := by
    refine ⟨⟨?_, OwT.base (ownsRow_but hO3' hb4 (fun k hk e => by have := (World.ownsRow.lt hO3' k hk).1; omega)) (by omega), World.ownsRow_nil _ _ _ _, ownsRow_but (ownsRow_old HO2.out hB3) hb4 (fun k hk e => by have hk' : w.heap.size = k := Option.some.inj (show some w.heap.size = some k from hk); omega), World.ownsRow_nil _ _ _ _, fun k hk e => ?_, fun k hk => (by cases hk), by show w.heap.size ≤ w.heap.size + 1; omega⟩, hB23.trans (hb4.below hB23.size (fun k hk => by omega))⟩
    · rw [heap_setCell_same _ _ _ _ _ _ hrow3]
      rfl
    · have h1 := (World.ownsRow.lt hO3' k hk).1
      have hk' : w.heap.size = k := Option.some.inj (show some w.heap.size = some k from e)
      omega
  obtain ⟨a3, k3, rfl⟩ := OwT.len hO3'
  clear hO3 hg3 hB3 hO3' hrow3 hb4 hB23 HRow HB12 HO2 HR2 c0
  go_wp2
  go_ret
  exact ⟨⟨w.heap.size + 1, .slice a3 n k3, .slice none 0 0, .slice (some ⟨w.heap.size, 0, none⟩) n n, .slice none 0 0⟩, rfl, HF.out⟩
end Go.Proofs.YtfeikmmojilmbaaDoor
