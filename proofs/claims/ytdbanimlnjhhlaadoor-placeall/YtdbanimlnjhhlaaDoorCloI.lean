/- slices.Clone of whole numbers: a walk over the program. -/
import Derived.Test.YtdbanimlnjhhlaaDoorOwIs
import Derived.Lib.SliceRun
namespace Go.Proofs.YtdbanimlnjhhlaaDoor
open Go.RowKit
theorem rd_cells {w : World} {ad : Addr} {n cap : Nat} {f : Nat → Int} (h : RdF w (.slice (some ad) n cap) n (fun i => vi (f i))) (o : Obj) : ∀ j u, ((List.range n).map (fun i => vi (f i)))[j]? = some u → (w.alloc o).cell? (ad.add j) = some u := by
  intro j u hj
  have hl : j < n := by
    have := (List.getElem?_eq_some_iff.1 hj).1
    simpa using this
  rw [range_map_at _ n j hl] at hj
  obtain ⟨ad', e, hc⟩ := h.at j hl
  obtain rfl := Option.some.inj e
  rw [(al_below w o).cell (World.block_lt_of_cell? w _ hc), hc]
  exact hj
set_option maxRecDepth 100000 in
theorem clone_ints {w : World} {ad : Addr} {n cap : Nat} {f : Nat → Int} (h : RdF w (.slice (some ad) n cap) n (fun i => vi (f i))) (hn : n ≤ 1000) :
    Calls Tryd.prog 49 #[.slice (some ad) n cap] w fun e w' => ∃ v, e = .returned v ∧ OwI w.heap.size w' v n f ∧ Below w.heap.size w w' := by
  obtain ⟨j0, hj, hy0, hy1, hy2⟩ := info_parts infoI
  have HR : Hid (∀ o j u, ((List.range n).map (fun i => vi (f i)))[j]? = some u → (w.alloc o).cell? (ad.add j) = some u) := fun o => rd_cells h o
  have hnl : ∀ W : World, (binOp .eql 27 (.slice (some ad) n cap) (.slice none 0 0)).run Tryd.prog W = .ok (.bool false) W := fun W => Lib.run_eql_slice_nil W 27 3 (some ad) n cap 0 0 Tryd.underlying27
  clear h
  go_enter Tryd.func49, Tryd.ntmps49
  go_wp2_with (first | (at_builtin; refine wpList_append_own _ rfl _ _ 27 rfl w.heap.size 3 j0 (.int .i64 0) 1 8 Tryd.underlying27 hj hy0 hy1 hy2 rfl (by decide) _ _ _ rfl (own_lit (w := w) [] (Nat.le_refl _) (by simp)) ad n cap ((List.range n).map (fun i => vi (f i))) rfl (by simp) (HR.out _) (by intro u hu; obtain ⟨i, _, rfl⟩ := List.mem_map.1 hu; rfl) (by unfold maxLen; simp; omega) (by simp; omega) (by simp) ?_))
  intro v' w3 hown hgrow _
  have hO : OwI w.heap.size w3 v' n f := by
    have := hown
    simpa using this
  have hB : Below w.heap.size w w3 := (al_below w _).grown hgrow (by simp) (fun g hg => by simp [Value.ownBlock] at hg; omega)
  have HO : Hid (OwI w.heap.size w3 v' n f) := hO
  have HB : Hid (Below w.heap.size w w3) := hB
  clear hown hgrow hO hB HR
  go_wp2
  go_ret
  exact ⟨_, rfl, HO.out, HB.out⟩
end Go.Proofs.YtdbanimlnjhhlaaDoor
