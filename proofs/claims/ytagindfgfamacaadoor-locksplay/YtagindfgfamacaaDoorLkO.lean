/- Whether one of a list is at odds with a lock; whether there may be such a lock: walks over the program. -/
import Derived.Test.YtagindfgfamacaaDoorLkI
namespace Go.Proofs.YtagindfgfamacaaDoor
open Go.RowKit
set_option maxRecDepth 100000 in
set_option maxHeartbeats 1000000 in
theorem odds_any (v : Value) (l : List Lk) (y : Lk) (w : World) (hl : l.length ≤ 1000) (hr : RdLk w v l) :
    Calls Tryd.prog 62 #[v, alk y] w fun e w' => e = .returned (.bool (oddL l y)) ∧ Below w.heap.size w w' := by
  have hb : Below w.heap.size w (w.alloc (.cells #[.int .i64 y.who, .int .i64 y.fr, .int .i64 y.to, .bool y.al] 57)) := al_below _ _
  have C := oddscontains_any v l y w.heap.size _ hl (hr.old hb) (LkAt.new w y 57)
  have HB : Hid (Below w.heap.size w (w.alloc (.cells #[.int .i64 y.who, .int .i64 y.fr, .int .i64 y.to, .bool y.al] 57))) := hb
  obtain ⟨a1, c1, rfl, _, _⟩ := hr.len
  clear hr hb
  generalize oddL l y = b at *
  generalize l.length = m at *
  obtain ⟨y0, y1, y2, y3⟩ := y
  dsimp only at *
  go_enter Tryd.func62, Tryd.ntmps62
  go_wp2_with fail
  refine C.mono ?_
  rintro e w1 ⟨rfl, hB1⟩
  have HB1 : Hid (Below w.heap.size w w1) := HB.out.trans (hB1.mono HB.out.size)
  clear C HB hB1
  go_wp2
  go_ret
  exact ⟨rfl, HB1.out⟩
def okLk (x : Lk) : Bool := decide (1 ≤ x.who) && (decide (x.who ≤ 1000) && (decide (0 ≤ x.fr) && (decide (x.fr < x.to) && decide (x.to ≤ 40))))
theorem okLk_bad (x : Lk) : okLk x = !Lks.bad x := by
  unfold okLk Lks.bad
  rw [Bool.eq_iff_iff]
  simp
set_option maxRecDepth 100000 in
set_option maxHeartbeats 2000000 in
theorem maybe_any (x : Lk) (w : World) :
    Calls Tryd.prog 47 #[alk x] w fun e w' => e = .returned (.bool (okLk x)) ∧ Below w.heap.size w w' := by
  obtain ⟨c0, c1, c2, _⟩ := LkAt.new w x 57
  have HB : Hid (Below w.heap.size w (w.alloc (.cells #[.int .i64 x.who, .int .i64 x.fr, .int .i64 x.to, .bool x.al] 57))) := al_below _ _
  unfold okLk
  obtain ⟨x0, x1, x2, x3⟩ := x
  dsimp only at *
  by_cases h1 : 1 ≤ x0
  · rw [decide_eq_true h1]
    by_cases h2 : x0 ≤ 1000
    · rw [decide_eq_true h2]
      by_cases h3 : 0 ≤ x1
      · rw [decide_eq_true h3]
        by_cases h4 : x1 < x2
        · rw [decide_eq_true h4]
          by_cases h5 : x2 ≤ 40
          · rw [decide_eq_true h5]
            go_enter Tryd.func47, Tryd.ntmps47
            go_wp2
            go_ret
            exact ⟨rfl, HB.out⟩
          · rw [decide_eq_false h5]
            have d5 : 40 < x2 := by omega
            go_enter Tryd.func47, Tryd.ntmps47
            go_wp2
            go_ret
            exact ⟨rfl, HB.out⟩
        · rw [decide_eq_false h4]
          have d4 : x2 ≤ x1 := by omega
          go_enter Tryd.func47, Tryd.ntmps47
          go_wp2
          go_ret
          exact ⟨rfl, HB.out⟩
      · rw [decide_eq_false h3]
        have d3 : x1 < 0 := by omega
        go_enter Tryd.func47, Tryd.ntmps47
        go_wp2
        go_ret
        exact ⟨rfl, HB.out⟩
    · rw [decide_eq_false h2]
      have d2 : 1000 < x0 := by omega
      go_enter Tryd.func47, Tryd.ntmps47
      go_wp2
      go_ret
      exact ⟨rfl, HB.out⟩
  · rw [decide_eq_false h1]
    have d1 : x0 < 1 := by omega
    go_enter Tryd.func47, Tryd.ntmps47
    go_wp2
    go_ret
    exact ⟨rfl, HB.out⟩
end Go.Proofs.YtagindfgfamacaaDoor
