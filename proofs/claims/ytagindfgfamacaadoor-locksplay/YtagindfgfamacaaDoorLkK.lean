/- Whether one of a Who is held, or waits; new locks: walks over the program. -/
import Derived.Test.YtagindfgfamacaaDoorLkP
import Derived.Test.YtagindfgfamacaaDoorLkI
namespace Go.Proofs.YtagindfgfamacaaDoor
open Go.RowKit
set_option maxRecDepth 100000 in
set_option maxHeartbeats 2000000 in
theorem knows_any {B : Nat} {w : World} {x : LP} {t : Lks} (h : IsK 76 B w x t) (hn : t.many ≤ 1000) (z : Int) :
    Calls Tryd.prog 44 #[.pointer (some ⟨x.p, 0, none⟩), .int .i64 z] w fun e w' => e = .returned (.bool (hasW t.h z || hasW t.w z)) ∧ Below w.heap.size w w' := by
  unfold Lks.many at hn
  have hb : Below w.heap.size w (w.alloc (.cells #[.int .i64 z] 3)) := al_below _ _
  have h1 := h.old hb
  have HB : Hid (Below w.heap.size w (w.alloc (.cells #[.int .i64 z] 3))) := hb
  have hz := cell_new w (.int .i64 z) 3
  have C := knowscontains_any x.vh t.h z w.heap.size _ (by omega) (OwLk.rd h1.hd) hz
  have H1 : Hid (IsK 76 B (w.alloc (.cells #[.int .i64 z] 3)) x t) := h1
  have c0 := h1.c0
  obtain ⟨a1, k1, hv⟩ := OwLk.len h1.hd
  rw [hv] at c0 C
  clear h hb h1
  obtain ⟨b1, h1⟩ : ∃ b, hasW t.h z = b := ⟨_, rfl⟩
  obtain ⟨b2, h2⟩ : ∃ b, hasW t.w z = b := ⟨_, rfl⟩
  have HW2 : Hid (hasW t.w z = b2) := h2
  rw [h1] at C ⊢
  rw [h2]
  clear h1 h2
  go_enter Tryd.func44, Tryd.ntmps44
  go_wp2_with fail
  refine C.mono ?_
  rintro e w1 ⟨rfl, hB1⟩
  have h2 := H1.out.old hB1
  have D := knowscontains_any x.vw t.w z w.heap.size w1 (by omega) (OwLk.rd h2.wt) (by rw [hB1.cell (p := ⟨w.heap.size, 0, none⟩) (World.block_lt_of_cell? _ _ hz)]; exact hz)
  have c1 := h2.c1
  obtain ⟨a2, k2, hv2⟩ := OwLk.len h2.wt
  rw [hv2] at c1 D
  have HB1 : Hid (Below w.heap.size w w1) := HB.out.trans (hB1.mono HB.out.size)
  clear C HB hB1 h2 H1
  rw [HW2.out] at D
  cases b1
  · go_wp2_with fail
    refine D.mono ?_
    rintro e w2 ⟨rfl, hB2⟩
    have HB2 : Hid (Below w.heap.size w w2) := HB1.out.trans (hB2.mono HB1.out.size)
    clear D hB2
    go_wp2
    go_ret
    exact ⟨rfl, HB2.out⟩
  · clear D
    go_wp2
    go_ret
    exact ⟨rfl, HB1.out⟩
theorem lnew_any (w : World) :
    Calls Tryd.prog 19 #[] w fun e w' => ∃ x : LP, e = .returned (.pointer (some ⟨x.p, 0, none⟩)) ∧ IsK 76 w.heap.size w' x Lks.none ∧ Below w.heap.size w w' := by
  have HI : Hid (IsK 76 w.heap.size (w.alloc (.cells #[.slice none 0 0, .slice none 0 0] 76)) ⟨w.heap.size, .slice none 0 0, .slice none 0 0⟩ Lks.none) := IsK.new w _ (by decide)
  have HB : Hid (Below w.heap.size w (w.alloc (.cells #[.slice none 0 0, .slice none 0 0] 76))) := al_below _ _
  go_enter Tryd.func19, Tryd.ntmps19
  go_wp2
  go_ret
  exact ⟨_, rfl, HI.out, HB.out⟩
end Go.Proofs.YtagindfgfamacaaDoor
