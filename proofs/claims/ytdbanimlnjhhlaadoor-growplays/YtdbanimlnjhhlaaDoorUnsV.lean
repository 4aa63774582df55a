/- Bytes in a row of the call's own, seen as a text. -/
import Derived.Test.YtdbanimlnjhhlaaDoorTxt
import Derived.Test.YtdbanimlnjhhlaaDoorMemJ
import Derived.Lib.UnsafeStr
namespace Go.Proofs.YtdbanimlnjhhlaaDoor
open Go.RowKit El Pol
/-- bytes in a row of their own, as a text: the row is not written from then on -/
theorem run_view {B g cap : Nat} {xs : List El} {w : World} (h : Ow B w (.slice (some ⟨g, 0, none⟩) xs.length cap) xs) (h0 : xs ≠ []) :
    (Builtin.unsafeString_ #[129, 3] 9 #[.pointer (some ⟨g, 0, none⟩), .int .i64 (xs.length : Int)]).run Tryd.prog w = .ok (.string (sb xs)) (w.freeze ⟨g, 0, none⟩ xs.length) ∧ cap ≠ 0 ∧ B ≤ g := by
  have hpos := List.length_pos_iff.2 h0
  rcases h.2 with ⟨e, _⟩ | ⟨g', cap', cur, e, hB, hg, hle, hm, hsz, _⟩
  · cases e
  · simp only [Value.slice.injEq, Option.some.injEq, Addr.mk.injEq, true_and, and_true] at e
    obtain ⟨rfl, rfl⟩ := e
    have hll : (xs.map (fun x => UInt8.ofNat x.val)).length = xs.length := List.length_map _
    have q := Lib.run_unsafeString_row (P := Tryd.prog) w 129 3 9 5 Tryd.underlying129 (by kernel_rfl) g cur.size (by unfold World.shape?; rw [hg]) (xs.map (fun x => UInt8.ofNat x.val)) (by simpa using h0) (by rw [hll]; omega) (by rw [hll]; unfold maxLen at hm; omega) (fun j x hx => by
      have hj : j < xs.length := by rw [← hll]; exact (List.getElem?_eq_some_iff.1 hx).1
      have ec : (⟨g, 0, none⟩ : Addr).add j = ⟨g, j, none⟩ := by unfold Addr.add; split <;> simp_all
      rw [ec, h.cell rfl j hj]
      rw [List.getElem?_map, List.getElem?_eq_getElem hj] at hx
      simp only [Option.map_some, Option.some.injEq] at hx
      rw [← hx, u8_val]
      simp [co, List.getD_eq_getElem?_getD, hj])
    rw [hll] at q
    exact ⟨q, by omega, hB⟩
end Go.Proofs.YtdbanimlnjhhlaaDoor
