/- What the program's closures over a lock answer: walks over the program. -/
import Derived.Test.YtagindfgfamacaaDoorLkM
namespace Go.Proofs.YtagindfgfamacaaDoor
open Go.RowKit
/-- is it of that Who? -/
def isW (z : Int) (x : Lk) : Bool := x.who == z
theorem isW_dec (z : Int) (x : Lk) : isW z x = decide (x.who = z) := by unfold isW; rw [Bool.eq_iff_iff]; simp
/-- where the first stands -/
def Fst0 (p : Nat → Bool) (n : Nat) (z : Int) : Prop := (z = -1 ∧ ∀ i, i < n → p i = false) ∨ ∃ i : Nat, i < n ∧ z = i ∧ p i = true ∧ ∀ j, j < i → p j = false
theorem Fst0.fst {p : Nat → Bool} {n : Nat} {z : Int} (h : Fst0 p n z) : Fst p n z := by
  rcases h with h | ⟨i, h1, h2, h3, _⟩
  · exact .inl h
  · exact .inr ⟨i, h1, h2, h3⟩
theorem any_list (l : List Lk) (p : Lk → Bool) : anyB (fun i => p (lka l i)) l.length = l.any p := by
  rw [Bool.eq_iff_iff, anyB_true, List.any_eq_true]
  constructor
  · rintro ⟨i, hi, h⟩
    rw [lka_get l i hi] at h
    exact ⟨_, List.getElem_mem hi, h⟩
  · rintro ⟨x, hx, h⟩
    obtain ⟨i, hi, rfl⟩ := List.getElem_of_mem hx
    exact ⟨i, hi, by rw [lka_get l i hi]; exact h⟩
theorem any_has (l : List Lk) (z : Int) : anyB (fun i => isW z (lka l i)) l.length = hasW l z := by
  rw [any_list l (isW z)]
  unfold hasW
  rfl
theorem any_odd (l : List Lk) (y : Lk) : anyB (fun i => odd y (lka l i)) l.length = oddL l y := by
  rw [any_list l (odd y)]
  unfold oddL
  congr 1
  funext x
  exact odd_comm y x
set_option maxRecDepth 100000 in
set_option maxHeartbeats 1000000 in
theorem knows1_any (x : Lk) (z : Int) (h : Nat) (w : World) (hh : w.cell? ⟨h, 0, none⟩ = some (.int .i64 z)) :
    Calls Tryd.prog 58 #[alk x, .pointer (some ⟨h, 0, none⟩)] w fun e w' => e = .returned (.bool (isW z x)) ∧ Below w.heap.size w w' := by
  have hb : Below w.heap.size w (w.alloc (.cells #[.int .i64 x.who, .int .i64 x.fr, .int .i64 x.to, .bool x.al] 57)) := al_below _ _
  have hh1 := (hb.cell (World.block_lt_of_cell? w _ hh)).trans hh
  obtain ⟨c0, _, _, _⟩ := LkAt.new w x 57
  have HB : Hid (Below w.heap.size w (w.alloc (.cells #[.int .i64 x.who, .int .i64 x.fr, .int .i64 x.to, .bool x.al] 57))) := hb
  have HW : Hid (isW z x = (x.who == z)) := by (show _ = _); unfold isW; rfl
  clear hh hb
  rw [HW.out]
  obtain ⟨a, b, c, d⟩ := x
  dsimp only at *
  clear HW
  go_enter Tryd.func58, Tryd.ntmps58
  go_wp2
  go_ret
  exact ⟨rfl, HB.out⟩
set_option maxRecDepth 100000 in
set_option maxHeartbeats 1000000 in
theorem without1_any (x : Lk) (z : Int) (h : Nat) (w : World) (hh : w.cell? ⟨h, 0, none⟩ = some (.int .i64 z)) :
    Calls Tryd.prog 61 #[alk x, .pointer (some ⟨h, 0, none⟩)] w fun e w' => e = .returned (.bool (isW z x)) ∧ Below w.heap.size w w' := by
  have hb : Below w.heap.size w (w.alloc (.cells #[.int .i64 x.who, .int .i64 x.fr, .int .i64 x.to, .bool x.al] 57)) := al_below _ _
  have hh1 := (hb.cell (World.block_lt_of_cell? w _ hh)).trans hh
  obtain ⟨c0, _, _, _⟩ := LkAt.new w x 57
  have HB : Hid (Below w.heap.size w (w.alloc (.cells #[.int .i64 x.who, .int .i64 x.fr, .int .i64 x.to, .bool x.al] 57))) := hb
  have HW : Hid (isW z x = (x.who == z)) := by (show _ = _); unfold isW; rfl
  clear hh hb
  rw [HW.out]
  obtain ⟨a, b, c, d⟩ := x
  dsimp only at *
  clear HW
  go_enter Tryd.func61, Tryd.ntmps61
  go_wp2
  go_ret
  exact ⟨rfl, HB.out⟩
set_option maxRecDepth 100000 in
set_option maxHeartbeats 2000000 in
theorem odds1_any (x y : Lk) (h : Nat) (w : World) (hh : LkAt w ⟨h, 0, none⟩ y) :
    Calls Tryd.prog 72 #[alk x, .pointer (some ⟨h, 0, none⟩)] w fun e w' => e = .returned (.bool (odd y x)) ∧ Below w.heap.size w w' := by
  have hb : Below w.heap.size w (w.alloc (.cells #[.int .i64 x.who, .int .i64 x.fr, .int .i64 x.to, .bool x.al] 57)) := al_below _ _
  obtain ⟨_, g1, g2, g3⟩ := hh.old hb
  obtain ⟨_, c1, c2, c3⟩ := LkAt.new w x 57
  have HB : Hid (Below w.heap.size w (w.alloc (.cells #[.int .i64 x.who, .int .i64 x.fr, .int .i64 x.to, .bool x.al] 57))) := hb
  clear hh hb
  obtain ⟨xw, xf, xt, xa⟩ := x
  obtain ⟨yw, yf, yt, ya⟩ := y
  dsimp only at *
  have HO : Hid (odd ⟨yw, yf, yt, ya⟩ ⟨xw, xf, xt, xa⟩ = ((ya || xa) && (decide (yf < xt) && decide (xf < yt)))) := rfl
  rw [HO.out]
  clear HO
  cases ya
  · cases xa
    · go_enter Tryd.func72, Tryd.ntmps72
      go_wp2
      go_ret
      exact ⟨rfl, HB.out⟩
    · by_cases h1 : yf < xt
      · have d1 : decide (yf < xt) = true := decide_eq_true h1
        by_cases h2 : xf < yt
        · have d2 : decide (xf < yt) = true := decide_eq_true h2
          rw [d1, d2]
          go_enter Tryd.func72, Tryd.ntmps72
          go_wp2
          go_ret
          exact ⟨rfl, HB.out⟩
        · have d2 : decide (xf < yt) = false := decide_eq_false h2
          rw [d1, d2]
          go_enter Tryd.func72, Tryd.ntmps72
          go_wp2
          go_ret
          exact ⟨rfl, HB.out⟩
      · have d1 : decide (yf < xt) = false := decide_eq_false h1
        rw [d1]
        go_enter Tryd.func72, Tryd.ntmps72
        go_wp2
        go_ret
        exact ⟨rfl, HB.out⟩
  · by_cases h1 : yf < xt
    · have d1 : decide (yf < xt) = true := decide_eq_true h1
      by_cases h2 : xf < yt
      · have d2 : decide (xf < yt) = true := decide_eq_true h2
        rw [d1, d2]
        go_enter Tryd.func72, Tryd.ntmps72
        go_wp2
        go_ret
        exact ⟨rfl, HB.out⟩
      · have d2 : decide (xf < yt) = false := decide_eq_false h2
        rw [d1, d2]
        go_enter Tryd.func72, Tryd.ntmps72
        go_wp2
        go_ret
        exact ⟨rfl, HB.out⟩
    · have d1 : decide (yf < xt) = false := decide_eq_false h1
      rw [d1]
      go_enter Tryd.func72, Tryd.ntmps72
      go_wp2
      go_ret
      exact ⟨rfl, HB.out⟩
end Go.Proofs.YtagindfgfamacaaDoor
