/- The document's Odds: a walk over the program. -/
import Derived.Test.YtagindfgfamacaaDoorLkM
namespace Go.Proofs.YtagindfgfamacaaDoor
open Go.RowKit
set_option maxRecDepth 100000 in
set_option maxHeartbeats 2000000 in
theorem dodds_any (y x : Lk) (w : World) :
    Calls Tryd.prog 57 #[alk y, alk x] w fun e w' => e = .returned (.bool (odd y x)) ∧ Below w.heap.size w w' := by
  have hy := LkAt.new w y 57
  have hb1 := al_below w (.cells #[.int .i64 y.who, .int .i64 y.fr, .int .i64 y.to, .bool y.al] 57)
  have hs : (w.alloc (.cells #[.int .i64 y.who, .int .i64 y.fr, .int .i64 y.to, .bool y.al] 57)).heap.size = w.heap.size + 1 := by simp
  have hx := LkAt.new (w.alloc (.cells #[.int .i64 y.who, .int .i64 y.fr, .int .i64 y.to, .bool y.al] 57)) x 57
  have hb2 := al_below (w.alloc (.cells #[.int .i64 y.who, .int .i64 y.fr, .int .i64 y.to, .bool y.al] 57)) (.cells #[.int .i64 x.who, .int .i64 x.fr, .int .i64 x.to, .bool x.al] 57)
  have hy2 := hy.old hb2
  rw [hs] at hx
  have HB : Hid (Below w.heap.size w ((w.alloc (.cells #[.int .i64 y.who, .int .i64 y.fr, .int .i64 y.to, .bool y.al] 57)).alloc (.cells #[.int .i64 x.who, .int .i64 x.fr, .int .i64 x.to, .bool x.al] 57))) := hb1.trans (hb2.mono hb1.size)
  obtain ⟨_, g1, g2, g3⟩ := hy2
  obtain ⟨_, c1, c2, c3⟩ := hx
  clear hy hb1 hs hb2
  obtain ⟨xw, xf, xt, xa⟩ := x
  obtain ⟨yw, yf, yt, ya⟩ := y
  dsimp only at *
  have HO : Hid (odd ⟨yw, yf, yt, ya⟩ ⟨xw, xf, xt, xa⟩ = ((ya || xa) && (decide (yf < xt) && decide (xf < yt)))) := rfl
  rw [HO.out]
  clear HO
  cases ya
  · cases xa
    · go_enter Tryd.func57, Tryd.ntmps57
      go_wp2
      go_ret
      exact ⟨rfl, HB.out⟩
    · by_cases h1 : yf < xt
      · have d1 : decide (yf < xt) = true := decide_eq_true h1
        by_cases h2 : xf < yt
        · have d2 : decide (xf < yt) = true := decide_eq_true h2
          rw [d1, d2]
          go_enter Tryd.func57, Tryd.ntmps57
          go_wp2
          go_ret
          exact ⟨rfl, HB.out⟩
        · have d2 : decide (xf < yt) = false := decide_eq_false h2
          rw [d1, d2]
          go_enter Tryd.func57, Tryd.ntmps57
          go_wp2
          go_ret
          exact ⟨rfl, HB.out⟩
      · have d1 : decide (yf < xt) = false := decide_eq_false h1
        rw [d1]
        go_enter Tryd.func57, Tryd.ntmps57
        go_wp2
        go_ret
        exact ⟨rfl, HB.out⟩
  · by_cases h1 : yf < xt
    · have d1 : decide (yf < xt) = true := decide_eq_true h1
      by_cases h2 : xf < yt
      · have d2 : decide (xf < yt) = true := decide_eq_true h2
        rw [d1, d2]
        go_enter Tryd.func57, Tryd.ntmps57
        go_wp2
        go_ret
        exact ⟨rfl, HB.out⟩
      · have d2 : decide (xf < yt) = false := decide_eq_false h2
        rw [d1, d2]
        go_enter Tryd.func57, Tryd.ntmps57
        go_wp2
        go_ret
        exact ⟨rfl, HB.out⟩
    · have d1 : decide (yf < xt) = false := decide_eq_false h1
      rw [d1]
      go_enter Tryd.func57, Tryd.ntmps57
      go_wp2
      go_ret
      exact ⟨rfl, HB.out⟩
end Go.Proofs.YtagindfgfamacaaDoor
