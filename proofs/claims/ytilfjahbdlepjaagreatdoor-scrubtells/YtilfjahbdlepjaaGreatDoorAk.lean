/- Texts of plain mathematics, of memory and of walks, in one. -/
import Derived.Test.YtilfjahbdlepjaaGreatDoorMe
/- The statements' own block of a size: some text of that size, or of one byte more: a walk over the program. -/
namespace Go.Proofs.YtilfjahbdlepjaaGreatDoor
open Go.RowKit El Pol
def blkN (size : Nat) (n : Int) : Nat := if n < 0 then size + 1 else size
theorem el_of (z : Int) : ∃ x : El, z % 256 = ((x.val : Nat) : Int) := ⟨⟨(z % 256).toNat, by omega⟩, by
  show z % 256 = (((z % 256).toNat : Nat) : Int)
  omega⟩
set_option maxRecDepth 100000 in
set_option maxHeartbeats 1000000 in
theorem block_any (size : Nat) (n : Int) (hs : size ≤ 16) (w : World) :
    Calls Tryz.prog 9 #[.int .i64 size, .int .i64 n] w fun e w' => ∃ t : List El, e = .returned (st t) ∧ t.length = blkN size n ∧ Below w.heap.size w w' := by
  obtain ⟨i0, hi0, hz0, hz1, hz2⟩ := info_parts info8
  go_enter Tryz.func9, Tryz.ntmps9
  go_wp2
  go_loopw [5, 6] (fun v t wr => ∃ (k : Nat) (xs : List El), k ≤ size ∧ t = .int .i64 k ∧ xs.length = k ∧ Ow w.heap.size wr v xs ∧ Below w.heap.size w wr) (fun _ t _ => size - (intOf t).toNat)
  case atStart => exact ⟨0, [], Nat.zero_le _, rfl, rfl, World.ownsRow_nil _ _ _ _, Below.refl _ _⟩
  case round =>
    obtain ⟨k, xs, hk, rfl, hx, hO, hB⟩ := hrel
    obtain ⟨a1, c1, e1, _, _⟩ := hO.rd.len
    rw [hx] at e1
    subst e1
    have HO : Hid (Ow w.heap.size wr (.slice a1 k c1) xs) := hO
    have HXL : Hid (xs.length = k) := hx
    have hsz := hB.size
    have HB : Hid (Below w.heap.size w wr) := hB
    clear hx hB
    by_cases hlt : k < size
    · obtain ⟨x, hxv⟩ := el_of (wrap64 (n + (k : Int)))
      have hO' : wr.ownsRow w.heap.size 5 1 (.slice a1 k c1) k (xs.map eb) := by have := HO.out; unfold Ow at this; rw [HXL.out] at this; exact this
      clear hO
      go_wp2_with (first | (at_builtin; refine wpList_append_own _ rfl _ _ 82 rfl w.heap.size 5 i0 (.int .u8 0) 1 1 Tryz.underlying82 hi0 hz0 hz1 hz2 rfl (by decide) _ _ _ rfl (World.ownsRow.alloc hO' _) ⟨wr.heap.size, 0, none⟩ 1 1 [.int .u8 ((x.val : Nat) : Int)] rfl rfl (one_cell _) (by intro u hu; simp at hu; subst hu; rfl) (by unfold maxLen; omega) (by omega) (by simp; omega) ?_))
      intro v3 w3 hown3 hgrow3 _
      have HO3 : Hid (Ow w.heap.size w3 v3 (xs ++ [x])) := by
        (show World.ownsRow _ _ _ _ _ _ _)
        rw [List.length_append, HXL.out, List.map_append]
        exact hown3
      have HB3 : Hid (Below w.heap.size w w3) := (HB.out.alloc hsz _).grown hgrow3 (by simp; omega) (fun g hg => (World.ownsRow.lt hO' g hg).1)
      have HL3 : Hid ((xs ++ [x]).length = k + 1) := by (show _ = _); rw [List.length_append, HXL.out]; rfl
      clear hown3 hgrow3 hO' hxv
      go_wp2
      go_roundw
      case rel => exact ⟨k + 1, xs ++ [x], by omega, by go_num, HL3.out, HO3.out, HB3.out⟩
      case measure => simp [intOf]; omega
    · have hks : k = size := by omega
      by_cases hn : n < 0
      · have hO' : wr.ownsRow w.heap.size 5 1 (.slice a1 k c1) k (xs.map eb) := by have := HO.out; unfold Ow at this; rw [HXL.out] at this; exact this
        have HF : Hid ((xs ++ [(1 : El)]).length = blkN size n) := by (show _ = _); unfold blkN; rw [if_pos hn, List.length_append, HXL.out, hks]; rfl
        clear hO hks
        go_wp2_with (first | (at_builtin; refine wpList_append_own _ rfl _ _ 82 rfl w.heap.size 5 i0 (.int .u8 0) 1 1 Tryz.underlying82 hi0 hz0 hz1 hz2 rfl (by decide) _ _ _ rfl (World.ownsRow.alloc hO' _) ⟨wr.heap.size, 0, none⟩ 1 1 [.int .u8 1] rfl rfl (one_cell _) (by intro u hu; simp at hu; subst hu; rfl) (by unfold maxLen; omega) (by omega) (by simp; omega) ?_))
        intro v3 w3 hown3 hgrow3 _
        have hO3 : Ow w.heap.size w3 v3 (xs ++ [(1 : El)]) := by
          unfold Ow
          rw [List.length_append, HXL.out, List.map_append]
          exact hown3
        have HB3 : Hid (Below w.heap.size w w3) := (HB.out.alloc hsz _).grown hgrow3 (by simp; omega) (fun g hg => (World.ownsRow.lt hO' g hg).1)
        have hcv := run_text hO3.rd 82 9 Tryz.underlying82 Tryz.underlying9
        obtain ⟨a3, c3, e3, _, _⟩ := hO3.rd.len
        subst e3
        clear hown3 hgrow3 hO' hO3
        generalize xs ++ [(1 : El)] = ys at *
        go_wp2
        go_ret
        exact ⟨ys, rfl, HF.out, HB3.out⟩
      · have HF : Hid (xs.length = blkN size n) := by (show _ = _); unfold blkN; rw [if_neg hn, HXL.out, hks]
        have hcv := run_text hO.rd 82 9 Tryz.underlying82 Tryz.underlying9
        clear hO hks
        go_wp2
        go_ret
        exact ⟨xs, rfl, HF.out, HB.out⟩
end Go.Proofs.YtilfjahbdlepjaaGreatDoor
