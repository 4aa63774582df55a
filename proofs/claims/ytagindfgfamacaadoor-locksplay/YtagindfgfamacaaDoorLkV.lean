/- A list of locks without those of a Who: a walk over the program. -/
import Derived.Test.YtagindfgfamacaaDoorLkD
namespace Go.Proofs.YtagindfgfamacaaDoor
open Go.RowKit
theorem delete_nil (w : World) (z : Int) (h : Nat) (hh : w.cell? ⟨h, 0, none⟩ = some (.int .i64 z)) :
    Calls Tryd.prog 60 #[.slice none 0 0, .func (.func 61) #[] #[.pointer (some ⟨h, 0, none⟩)]] w fun e w' => e = .returned (.slice none 0 0) ∧ Below w.heap.size w w' := by
  have C := withoutindex_any (.slice none 0 0) [] z h w (by simp) (.inl ⟨rfl, rfl⟩) hh
  clear hh
  go_enter Tryd.func60, Tryd.ntmps60
  go_wp2_with fail
  refine C.mono ?_
  rintro e w1 ⟨zz, rfl, hz, hB1⟩
  have HB : Hid (Below w.heap.size w w1) := hB1
  obtain rfl : zz = -1 := by
    rcases hz with ⟨e, _⟩ | ⟨k, hk, _⟩
    · exact e
    · exact absurd hk (Nat.not_lt_zero _)
  clear C hz hB1
  go_wp2
  go_ret
  exact ⟨rfl, HB.out⟩
/-- of the same block, or none -/
def Sub (u v : Value) : Prop := ∀ k, u.ownBlock = some k → v.ownBlock = some k
set_option maxRecDepth 100000 in
theorem without_any {B : Nat} {w : World} {v : Value} {l : List Lk} (hO : OwLk B w v l) (z : Int) (hl : l.length ≤ 1000) :
    Calls Tryd.prog 45 #[v, .int .i64 z] w fun e w' => ∃ u, e = .returned u ∧ OwLk B w' u (Lks.drop l z) ∧ Sub u v ∧ But (fun k => v.ownBlock = some k) w w' := by
  have hb : Below w.heap.size w (w.alloc (.cells #[.int .i64 z] 3)) := al_below _ _
  have HB : Hid (Below w.heap.size w (w.alloc (.cells #[.int .i64 z] 3))) := hb
  have hz := cell_new w (.int .i64 z) 3
  rcases hO.2 with ⟨rfl, e⟩ | ⟨g, cap, cur, hv, hBg, hg, rest⟩
  · obtain rfl := List.length_eq_zero_iff.1 e
    have C := delete_nil (w.alloc (.cells #[.int .i64 z] 3)) z w.heap.size hz
    clear hO hb hz e
    go_enter Tryd.func45, Tryd.ntmps45
    go_wp2_with fail
    refine C.mono ?_
    rintro e w1 ⟨rfl, hB1⟩
    have HB1 : Hid (Below w.heap.size w w1) := HB.out.trans (hB1.mono HB.out.size)
    clear C hB1
    go_wp2
    go_ret
    exact ⟨_, rfl, OwLk.nil _ _, fun _ h => h, Below.but HB1.out _⟩
  · subst hv
    have C := delete_some (OwLk.old hO hb) z w.heap.size hl hz (fun e => by have := lt_of_block hg; omega)
    have HL : Hid (g < w.heap.size) := lt_of_block hg
    clear hO hb hz rest hg
    generalize l.length = n at *
    go_enter Tryd.func45, Tryd.ntmps45
    go_wp2_with fail
    refine C.mono ?_
    rintro e w1 ⟨rfl, hO1, hB1⟩
    have HO : Hid (OwLk B w1 (.slice (some ⟨g, 0, none⟩) (Lks.drop l z).length cap) (Lks.drop l z)) := hO1
    have HB1 : Hid (But (fun k => (Value.slice (some ⟨g, 0, none⟩) n cap).ownBlock = some k) w w1) := (Below.but HB.out _).trans (hB1.mono (fun k hk => by (show some g = some k); rw [hk])) (Grows.refl _ _)
    clear C hB1 hO1
    go_wp2
    go_ret
    exact ⟨_, rfl, HO.out, fun _ h => h, HB1.out⟩
end Go.Proofs.YtagindfgfamacaaDoor
