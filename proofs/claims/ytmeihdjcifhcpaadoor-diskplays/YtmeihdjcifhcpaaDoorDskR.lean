/- A disk that has failed is another one: a walk over the program. -/
import Derived.Test.YtmeihdjcifhcpaaDoorDskD
namespace Go.Proofs.YtmeihdjcifhcpaaDoor
open Go.RowKit El Pol
set_option maxRecDepth 100000 in
set_option maxHeartbeats 1000000 in
theorem dreplace {w : World} {p : Nat} {d : Dsk} (h : IsD w p d) :
    Calls Tryd.prog 15 #[.pointer (some ⟨p, 0, none⟩)] w fun e w' => e = .returned (errV d.replaceE) ∧ IsD w' p d.replace ∧ But (· = p) w w' := by
  have c0 := h.c0
  have c1 := h.c1
  have c2 := h.c2
  have c3 := h.c3
  have HD : Hid (IsD w p d) := h
  clear h
  unfold Dsk.replaceE Dsk.replace
  cases hf : d.failed with
  | false =>
    rw [hf] at c2
    rw [if_neg (by simp), if_neg (by simp)]
    clear hf c0 c1 c3
    go_enter Tryd.func15, Tryd.ntmps15
    go_wp2
    go_ret
    exact ⟨rfl, HD.out, But.refl _ _⟩
  | true =>
    rw [hf] at c2
    rw [if_pos rfl, if_pos rfl]
    obtain ⟨cs, hcs⟩ : ∃ cs, cs = d.blank.cells.toArray := ⟨_, rfl⟩
    have hsz : cs.size = 324 := by rw [hcs]; simp [Dsk.cells_len]
    have hone : cs.all (·.oneCell') = true := by rw [hcs]; exact d.blank.cells_one
    have HW : Hid (∀ n, IsD ((w.drewN n).setRow p cs) p d.blank ∧ But (· = p) w ((w.drewN n).setRow p cs)) := fun n => by
      refine ⟨?_, but_setRow (F := (· = p)) ((But.refl _ _).drewN n) rfl _⟩
      unfold IsD
      rw [setRow_heap _ _ _ _ _ _ (HD.out.drewN n), hcs]
    have hz := zeroD
    have h0 := zs_size
    have h1 := zs_ne
    have HC : Hid (((zs.setIfInBounds 0 (.int .i64 d.rows)).setIfInBounds 1 (.int .i64 d.size)).setIfInBounds 3 (.int .i64 d.writes) = cs) := by
      (show _ = _); rw [hcs]; exact zs_blank _ _ _
    have HG : Hid (∀ n, (w.drewN n).heap[p]? = some (.cells d.cells.toArray 63 (0, 0))) := fun n => HD.out
    have HL : Hid (d.cells.toArray.size = 324) := by (show _ = _); simp [Dsk.cells_len]
    clear hf hcs
    generalize d.blank = d' at *
    generalize d.rows = ra at *
    generalize d.size = sa at *
    generalize d.writes = na at *
    generalize zs = z at *
    generalize d.cells.toArray = old at *
    clear HD
    go_enter Tryd.func15, Tryd.ntmps15
    go_upto_region 3 with fail
    refine region_last 15 (by kernel_rfl) (by kernel_rfl) ?_
    simp only [List.take_succ_cons, List.take_zero, List.drop_succ_cons, List.drop_zero]
    repeat (go_big_quiet_step (fail))
    refine wpQuiet_nil ?_
    intro w9 hw9
    obtain ⟨nq, rfl⟩ := hw9
    rw [HC.out]
    refine wpList_store_row rfl 63 _ _ rfl p cs rfl rfl 63 old (HG.out nq) (by rw [hsz]; exact infoD) (by rw [HL.out, hsz]) hone ?_
    go_wp2
    go_ret
    exact ⟨rfl, HW.out nq⟩
end Go.Proofs.YtmeihdjcifhcpaaDoor
