/- A disk is replaced and made: walks over the program. -/
import Derived.Test.YtpneconlinehkadDoorDskC
import Derived.Deep.Cut
import Derived.Deep.CutRange
namespace Go.Proofs.YtpneconlinehkadDoor
open Go.RowKit El Pol
def zs : Array Value := (Dsk.cells ⟨0, 0, false, 0, fun _ => 0⟩).toArray
theorem zeroD (w : World) : (zeroValue 54).run Tryd.prog w = .ok (.agg zs) w := by kernel_rfl
theorem zs_size : zs.size = 324 := by simp [zs, Dsk.cells_len]
theorem zs_ne : ¬ zs = #[] := fun e => by have := zs_size; rw [e] at this; simp at this
theorem zs_new (a b : Nat) : (zs.setIfInBounds 0 (.int .i64 a)).setIfInBounds 1 (.int .i64 b) = (Dsk.cells ⟨a, b, false, 0, fun _ => 0⟩).toArray := by
  simp [zs, Dsk.cells]
theorem zs_blank (a b n : Nat) : ((zs.setIfInBounds 0 (.int .i64 a)).setIfInBounds 1 (.int .i64 b)).setIfInBounds 3 (.int .i64 n) = (Dsk.cells ⟨a, b, false, n, fun _ => 0⟩).toArray := by
  simp [zs, Dsk.cells]
theorem Dsk.cells_one (d : Dsk) : d.cells.toArray.all (·.oneCell') = true := by
  rw [Array.all_eq_true_iff_forall_mem]
  intro v hv
  simp [Dsk.cells] at hv
  rcases hv with rfl | rfl | rfl | rfl | ⟨k, _, rfl⟩ <;> rfl
def Dsk.fresh (rows size : Nat) : Dsk := ⟨rows, size, false, 0, fun _ => 0⟩
def newE (rows size : Int) : Nat := if rows < 1 ∨ 20 < rows ∨ size < 1 ∨ 16 < size then 1 else 0
set_option maxRecDepth 100000 in
theorem dnew_ok (rows size : Nat) (hr : 1 ≤ rows ∧ rows ≤ 20) (hs : 1 ≤ size ∧ size ≤ 16) (w : World) :
    Calls Tryd.prog 9 #[.int .i64 rows, .int .i64 size] w fun e w' => e = .returned (.tuple #[.pointer (some ⟨w.heap.size, 0, none⟩), .nilIface]) ∧ w' = w.alloc (.cells (Dsk.fresh rows size).cells.toArray 54) := by
  obtain ⟨hr1, hr2⟩ := hr
  obtain ⟨hs1, hs2⟩ := hs
  have hz := zeroD
  have h0 := zs_size
  have h1 := zs_ne
  have HC : Hid ((zs.setIfInBounds 0 (.int .i64 rows)).setIfInBounds 1 (.int .i64 size) = (Dsk.fresh rows size).cells.toArray) := zs_new rows size
  generalize zs = z at *
  go_enter Tryd.func9, Tryd.ntmps9
  go_wp2
  go_ret2
  exact ⟨rfl, by rw [← HC.out]⟩
set_option maxRecDepth 100000 in
theorem dnew_bad (rows size : Int) (h : rows < 1 ∨ 20 < rows ∨ size < 1 ∨ 16 < size) (w : World) :
    Calls Tryd.prog 9 #[.int .i64 rows, .int .i64 size] w fun e w' => e = .returned (.tuple #[.pointer none, errV 1]) ∧ w' = w := by
  by_cases h1 : rows < 1
  · go_enter Tryd.func9, Tryd.ntmps9
    go_wp2
    go_ret2
    exact ⟨rfl, rfl⟩
  · by_cases h2 : 20 < rows
    · go_enter Tryd.func9, Tryd.ntmps9
      go_wp2
      go_ret2
      exact ⟨rfl, rfl⟩
    · by_cases h3 : size < 1
      · go_enter Tryd.func9, Tryd.ntmps9
        go_wp2
        go_ret2
        exact ⟨rfl, rfl⟩
      · have h4 : 16 < size := by omega
        clear h
        go_enter Tryd.func9, Tryd.ntmps9
        go_wp2
        go_ret2
        exact ⟨rfl, rfl⟩
set_option maxRecDepth 100000 in
set_option maxHeartbeats 1000000 in
theorem dreplace {w : World} {p : Nat} {d : Dsk} (h : IsD w p d) :
    Calls Tryd.prog 13 #[.pointer (some ⟨p, 0, none⟩)] w fun e w' => e = .returned (errV d.replaceE) ∧ IsD w' p d.replace ∧ But (· = p) w w' := by
  have c0 := h.c0
  have c1 := h.c1
  have c2 := h.c2
  have c3 := h.c3
  have HD : Hid (IsD w p d) := h
  clear h
  unfold Dsk.replaceE Dsk.replace
  cases hf : d.failed with
  | false =>
    rw [hf] at c2
    rw [if_neg (by simp), if_neg (by simp)]
    clear hf c0 c1 c3
    go_enter Tryd.func13, Tryd.ntmps13
    go_wp2
    go_ret
    exact ⟨rfl, HD.out, But.refl _ _⟩
  | true =>
    rw [hf] at c2
    rw [if_pos rfl, if_pos rfl]
    obtain ⟨cs, hcs⟩ : ∃ cs, cs = d.blank.cells.toArray := ⟨_, rfl⟩
    have hsz : cs.size = 324 := by rw [hcs]; simp [Dsk.cells_len]
    have hone : cs.all (·.oneCell') = true := by rw [hcs]; exact d.blank.cells_one
    have HW : Hid (∀ n, IsD ((w.drewN n).setRow p cs) p d.blank ∧ But (· = p) w ((w.drewN n).setRow p cs)) := fun n => by
      refine ⟨?_, but_setRow (F := (· = p)) ((But.refl _ _).drewN n) rfl _⟩
      unfold IsD
      rw [setRow_heap _ _ _ _ _ _ (HD.out.drewN n), hcs]
    have hz := zeroD
    have h0 := zs_size
    have h1 := zs_ne
    have HC : Hid (((zs.setIfInBounds 0 (.int .i64 d.rows)).setIfInBounds 1 (.int .i64 d.size)).setIfInBounds 3 (.int .i64 d.writes) = cs) := by
      (show _ = _); rw [hcs]; exact zs_blank _ _ _
    have HG : Hid (∀ n, (w.drewN n).heap[p]? = some (.cells d.cells.toArray 54 (0, 0))) := fun n => HD.out
    have HL : Hid (d.cells.toArray.size = 324) := by (show _ = _); simp [Dsk.cells_len]
    clear hf hcs
    generalize d.blank = d' at *
    generalize d.rows = ra at *
    generalize d.size = sa at *
    generalize d.writes = na at *
    generalize zs = z at *
    generalize d.cells.toArray = old at *
    clear HD
    go_enter Tryd.func13, Tryd.ntmps13
    go_upto_region 3 with fail
    refine region_last 15 (by kernel_rfl) (by kernel_rfl) ?_
    simp only [List.take_succ_cons, List.take_zero, List.drop_succ_cons, List.drop_zero]
    repeat (go_big_quiet_step (fail))
    refine wpQuiet_nil ?_
    intro w9 hw9
    obtain ⟨nq, rfl⟩ := hw9
    rw [HC.out]
    refine wpList_store_row rfl 54 _ _ rfl p cs rfl rfl 54 old (HG.out nq) (by rw [hsz]; exact infoD) (by rw [HL.out, hsz]) hone ?_
    go_wp2
    go_ret
    exact ⟨rfl, HW.out nq⟩
end Go.Proofs.YtpneconlinehkadDoor
