/- What strings.Clone answers: a walk over the program. -/
import Derived.Test.YtdbanimlnjhhlaaDoorUnsV
import Derived.Lib.BufferWrite
import Derived.Laws.MakeOwn
namespace Go.Proofs.YtdbanimlnjhhlaaDoor
open Go.RowKit El Pol
theorem infoU : (Tryd.prog.info? 5).map (fun i => (i.zero, i.size, i.bytes)) = some (some (.int .u8 0), 1, 1) := by kernel_rfl
theorem sb_cells (xs : List El) : Lib.byteCells (sb xs).data.toList = xs.map eb := by
  show List.map _ (List.toArray _).toList = _
  rw [List.toList_toArray, List.map_map]
  exact List.map_congr_left (fun x _ => by
    show Value.int .u8 ((UInt8.ofNat x.val).toNat : Int) = _
    rw [u8_val])
/-- a text is copied over as many bytes of the call's own -/
theorem copy_over {B g n : Nat} {xs ys : List El} {w : World} (h : Ow B w (.slice (some ⟨g, 0, none⟩) n n) ys) (hx : xs.length = n) :
    ∃ w', (Builtin.copy_ #[62, 9] 3 #[.slice (some ⟨g, 0, none⟩) n n, .string (sb xs)]).run Tryd.prog w = .ok (.int .i64 (n : Int)) w' ∧ Ow B w' (.slice (some ⟨g, 0, none⟩) n n) xs ∧ w.grownBy w' (some g) := by
  rcases h.2 with ⟨e, _⟩ | ⟨g', cap, cur, e, hB, hg, hle, hm, hsz, _⟩
  · cases e
  · simp only [Value.slice.injEq, Option.some.injEq, Addr.mk.injEq, and_true] at e
    obtain ⟨rfl, _, rfl⟩ := e
    have hs := sb_size xs
    have q := Lib.run_copy_row_string (P := Tryd.prog) w 62 9 3 5 g 0 n n (sb xs) cur 5 Tryd.underlying62 (by kernel_rfl) hg (by omega) (by omega)
    have er : cur.toList.take 0 ++ Lib.byteCells (sb xs).data.toList ++ cur.toList.drop (0 + (sb xs).size) = xs.map eb := by
      rw [sb_cells, List.drop_of_length_le (by rw [Array.length_toList]; omega)]
      simp
    rw [er, hs, hx] at q
    refine ⟨_, q, ⟨by simp, .inr ⟨g, n, (xs.map eb).toArray, by rw [hx], hB, setRow_heap w g cur _ _ _ hg, by omega, hm, by simp [hx], by rw [List.toList_toArray, Nat.mul_one, List.take_of_length_le (by simp)]⟩⟩, ⟨rfl, rfl, rfl, by simp [World.setRow], fun k _ hk => setRow_other w g k _ (fun e => hk (by rw [e]))⟩⟩
set_option maxHeartbeats 2000000 in
set_option maxRecDepth 100000 in
theorem clone_text (xs : List El) (w : World) (hl : xs.length ≤ 140737488355328) :
    Calls Tryd.prog 58 #[.string (sb xs)] w fun e w' => e = .returned (.string (sb xs)) ∧ Below w.heap.size w w' := by
  obtain ⟨i0, hi, hz0, hz1, hz2⟩ := info_parts info8
  have hs := sb_size xs
  obtain ⟨n, hn⟩ : ∃ n, n = xs.length := ⟨_, rfl⟩
  rw [← hn] at hs hl
  by_cases h0 : n = 0
  · have e : xs = [] := List.length_eq_zero_iff.1 (by omega)
    subst e
    clear hs hn h0 hl
    go_enter Tryd.func58, Tryd.ntmps58
    go_wp2
    go_ret
    exact ⟨rfl, Below.refl _ _⟩
  · have hne : xs ≠ [] := fun e => h0 (by rw [hn, e]; rfl)
    have HN : Hid (xs.length = n) := hn.symm
    have HC : Hid (∀ w1, Ow w.heap.size w1 (.slice (some ⟨w.heap.size, 0, none⟩) n n) (List.replicate n 0) → ∃ w', (Builtin.copy_ #[62, 9] 3 #[.slice (some ⟨w.heap.size, 0, none⟩) n n, .string (sb xs)]).run Tryd.prog w1 = .ok (.int .i64 (n : Int)) w' ∧ Ow w.heap.size w' (.slice (some ⟨w.heap.size, 0, none⟩) n n) xs ∧ w1.grownBy w' (some w.heap.size)) := fun w1 h => copy_over h hn.symm
    have HV : Hid (∀ w1, Ow w.heap.size w1 (.slice (some ⟨w.heap.size, 0, none⟩) n n) xs → (Builtin.unsafeString_ #[129, 3] 9 #[.pointer (some ⟨w.heap.size, 0, none⟩), .int .i64 (n : Int)]).run Tryd.prog w1 = .ok (.string (sb xs)) (w1.freeze ⟨w.heap.size, 0, none⟩ n)) := fun w1 h => by
      rw [hn] at h ⊢
      exact (run_view h hne).1
    have hb : ((n : Int) == 0) = false := by rw [beq_eq_false_iff_ne]; omega
    generalize sb xs = s at *
    clear hn hne
    go_enter Tryd.func58, Tryd.ntmps58
    go_wp2_with (first | (at_make; refine wpList_make_full _ rfl _ _ 62 rfl w.heap.size 5 i0 (.int .u8 0) 1 Tryd.underlying62 hi hz0 hz1 _ _ _ _ n rfl rfl rfl rfl (by rw [hz2]; omega) (by unfold maxLen; omega) (Nat.le_refl _) ?_))
    intro w1 hown hg1
    have hB1 := below_of_grown hg1
    obtain ⟨w2, q2, hO2, hg2⟩ := HC.out w1 (Ow.made hown)
    have q3 := HV.out w2 hO2
    have HB2 : Hid (Below w.heap.size w (w2.freeze ⟨w.heap.size, 0, none⟩ n)) := Lib.below_freeze (hB1.trans (below_of_grownAt hg2 hB1.size (Nat.le_refl _))) (p := ⟨w.heap.size, 0, none⟩) (Nat.le_refl _) _
    clear hown hg1 hB1 hO2 hg2 HC HV
    go_wp2
    go_ret
    exact ⟨rfl, HB2.out⟩
theorem clone_any (s : ByteArray) (w : World) (hlim : s.size ≤ 140737488355328) :
    Calls Tryd.prog 38 #[.string s] w fun e w' => e = .returned (.string s) ∧ Below w.heap.size w w' := by
  obtain ⟨xs, rfl⟩ := sb_of s
  have C := clone_text xs w (by rw [sb_size] at hlim; exact hlim)
  generalize sb xs = s at *
  go_enter Tryd.func38, Tryd.ntmps38
  go_wp2_with fail
  refine C.mono ?_
  rintro e w1 ⟨rfl, hB⟩
  clear C
  go_wp2
  go_ret
  exact ⟨rfl, hB⟩
end Go.Proofs.YtdbanimlnjhhlaaDoor
