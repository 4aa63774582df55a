/- A cache in memory: its blocks, and what keeps them; Has, Dirty, isCell, nextTurn, Hits: walks over the program. -/
import Derived.Test.YtfeikmmojilmbaaDoorChC
import Derived.Test.YtfeikmmojilmbaaDoorRoB
import Derived.Test.YtfeikmmojilmbaaDoorRoF
namespace Go.Proofs.YtfeikmmojilmbaaDoor
open Go.RowKit Go.Maps El Pol
/-- where its parts stand -/
structure CP where
  p : Nat
  vb : Value
  b : Nat
def CP.F (x : CP) (k : Nat) : Prop := k = x.p ∨ x.vb.ownBlock = some k ∨ k = x.b
def chCells (x : CP) (c : Che) (T : Nat) : Array Value := #[x.vb, .int .i64 (c.room : Int), .map (some x.b), .int .i64 (T : Int), .int .i64 (c.hits : Int)]
/-- what the map has of a cell -/
def vH (c : Che) (us si : Nat → Nat) (i : Nat) : Hd := (c.val i, us i, si i)
structure MCt (B : Nat) (w : World) (x : CP) (c : Che) (us si : Nat → Nat) (T : Nat) : Prop where
  row : w.heap[x.p]? = some (.cells (chCells x c T) 81 (0, 0))
  bl : OwT B w x.vb c.n c.below
  mp : ∃ D, HasH w x.b c.row (vH c us si) D
  tn : Tns c us si T
  hp : B ≤ x.p
  hb : B ≤ x.b
namespace MCt
variable {B : Nat} {w w' : World} {x : CP} {c : Che} {us si : Nat → Nat} {T : Nat}
theorem bp (h : MCt B w x c us si T) : x.p ≠ x.b := by obtain ⟨D, hD⟩ := h.mp; exact hD.notCells h.row
theorem vp (h : MCt B w x c us si T) {k : Nat} (hk : x.vb.ownBlock = some k) : k ≠ x.p := fun e => by subst e; exact type_ne (ownsRow_type h.bl hk) ⟨_, _, h.row⟩ (by decide)
theorem vm (h : MCt B w x c us si T) {k : Nat} (hk : x.vb.ownBlock = some k) : k ≠ x.b := by
  obtain ⟨D, hD⟩ := h.mp
  obtain ⟨_, _, e⟩ := ownsRow_type h.bl hk
  exact hD.notCells e
theorem plt (h : MCt B w x c us si T) : x.p < w.heap.size := lt_of_block h.row
theorem blt (h : MCt B w x c us si T) : x.b < w.heap.size := by obtain ⟨D, hD⟩ := h.mp; exact hD.blt
theorem lt (h : MCt B w x c us si T) : ∀ k, x.F k → k < w.heap.size := by
  rintro k (rfl | q | rfl)
  · exact h.plt
  · exact (World.ownsRow.lt h.bl k q).2
  · exact h.blt
theorem low (h : MCt B w x c us si T) : ∀ k, x.F k → B ≤ k := by
  rintro k (rfl | q | rfl)
  · exact h.hp
  · exact (World.ownsRow.lt h.bl k q).1
  · exact h.hb
theorem but {G : Nat → Prop} (h : MCt B w x c us si T) (hb : But G w w') (hn : ∀ k, x.F k → ¬ G k) : MCt B w' x c us si T := by
  obtain ⟨D, hD⟩ := h.mp
  exact ⟨(hb.block _ h.plt (hn _ (.inl rfl))).trans h.row, ownsRow_but h.bl hb (fun k hk => hn k (.inr (.inl hk))), ⟨D, hD.blk (hb.block _ h.blt (hn _ (.inr (.inr rfl))))⟩, h.tn, h.hp, h.hb⟩
theorem old (h : MCt B w x c us si T) (hb : Below w.heap.size w w') : MCt B w' x c us si T := h.but (Below.but hb (fun _ => False)) (fun _ _ q => q)
theorem cell (h : MCt B w x c us si T) (i : Nat) : w.cell? ⟨x.p, i, none⟩ = (chCells x c T)[i]? := by rw [cell_of_row _ _ _ _ _ _ h.row]
theorem free (h : MCt B w x c us si T) (i : Nat) : w.frozen? ⟨x.p, i, none⟩ = false := frozen_of_row _ _ _ _ _ h.row
theorem c0 (h : MCt B w x c us si T) : w.cell? ⟨x.p, 0, none⟩ = some x.vb := h.cell 0
theorem c1 (h : MCt B w x c us si T) : w.cell? ⟨x.p, 1, none⟩ = some (.int .i64 (c.room : Int)) := h.cell 1
theorem c2 (h : MCt B w x c us si T) : w.cell? ⟨x.p, 2, none⟩ = some (.map (some x.b)) := h.cell 2
theorem c3 (h : MCt B w x c us si T) : w.cell? ⟨x.p, 3, none⟩ = some (.int .i64 (T : Int)) := h.cell 3
theorem c4 (h : MCt B w x c us si T) : w.cell? ⟨x.p, 4, none⟩ = some (.int .i64 (c.hits : Int)) := h.cell 4
/-- a turn more -/
theorem put3 (h : MCt B w x c us si T) {T' : Nat} (ht : T ≤ T') : MCt B (w.setCell ⟨x.p, 3, none⟩ (.int .i64 (T' : Int))) x c us si T' ∧ But (· = x.p) w (w.setCell ⟨x.p, 3, none⟩ (.int .i64 (T' : Int))) := by
  have hb : But (· = x.p) w (w.setCell ⟨x.p, 3, none⟩ (.int .i64 (T' : Int))) := (But.refl (· = x.p) w).setCell (p := ⟨x.p, 3, none⟩) rfl _
  obtain ⟨D, hD⟩ := h.mp
  refine ⟨⟨?_, ownsRow_but h.bl hb (fun k hk => h.vp hk), ⟨D, hD.blk (hb.block _ h.blt (fun e => h.bp e.symm))⟩, h.tn.mono ht, h.hp, h.hb⟩, hb⟩
  rw [heap_setCell_same _ _ _ _ _ _ h.row]
  rfl
/-- a hit more -/
theorem put4 (h : MCt B w x c us si T) (n : Nat) : MCt B (w.setCell ⟨x.p, 4, none⟩ (.int .i64 (n : Int))) x ⟨c.n, c.below, c.room, c.row, c.val, c.dirty, n⟩ us si T ∧ But (· = x.p) w (w.setCell ⟨x.p, 4, none⟩ (.int .i64 (n : Int))) := by
  have hb : But (· = x.p) w (w.setCell ⟨x.p, 4, none⟩ (.int .i64 (n : Int))) := (But.refl (· = x.p) w).setCell (p := ⟨x.p, 4, none⟩) rfl _
  obtain ⟨D, hD⟩ := h.mp
  refine ⟨⟨?_, ownsRow_but h.bl hb (fun k hk => h.vp hk), ⟨D, hD.blk (hb.block _ h.blt (fun e => h.bp e.symm))⟩, h.tn.hits n, h.hp, h.hb⟩, hb⟩
  rw [heap_setCell_same _ _ _ _ _ _ h.row]
  rfl
end MCt
theorem CP_p (x : CP) : ∀ k, k = x.p → x.F k := fun _ h => .inl h
variable {B : Nat} {w : World} {x : CP} {c : Che} {us si : Nat → Nat} {T : Nat}
theorem chas_any (h : MCt B w x c us si T) (ho : c.row.length ≤ 12) :
    Calls Tryd.prog 17 #[.pointer (some ⟨x.p, 0, none⟩)] w fun e w' => ∃ v, e = .returned v ∧ OwN w.heap.size w' v c.row ∧ Below w.heap.size w w' := by
  obtain ⟨D, hD⟩ := h.mp
  have C := hasturn_any hD h.c2 ho (L := c.row) h.tn.rp (fun k => ⟨fun q => ⟨q, by have := h.tn.ru k q; show us k ≠ 0; omega⟩, fun q => q.1⟩)
  clear h hD
  go_enter Tryd.func17, Tryd.ntmps17
  go_wp2_with fail
  refine C.mono ?_
  rintro e w1 ⟨v, rfl, hO, hB⟩
  have HO : Hid (OwN w.heap.size w1 v c.row) := hO
  clear C hO
  go_wp2
  go_ret
  exact ⟨v, rfl, HO.out, hB⟩
theorem cdirty_any (h : MCt B w x c us si T) (ho : c.ok) :
    Calls Tryd.prog 18 #[.pointer (some ⟨x.p, 0, none⟩)] w fun e w' => ∃ v, e = .returned v ∧ OwN w.heap.size w' v c.dirty ∧ Below w.heap.size w w' := by
  obtain ⟨D, hD⟩ := h.mp
  have C := dirturn_any hD h.c2 (Nat.le_trans ho.len ho.r12) (L := c.dirty) h.tn.dp (fun k => ⟨fun q => ⟨ho.dsub k q, (h.tn.dirty_iff (ho.dsub k q)).2 q⟩, fun q => (h.tn.dirty_iff q.1).1 q.2⟩)
  clear h hD
  go_enter Tryd.func18, Tryd.ntmps18
  go_wp2_with fail
  refine C.mono ?_
  rintro e w1 ⟨v, rfl, hO, hB⟩
  have HO : Hid (OwN w.heap.size w1 v c.dirty) := hO
  clear C hO
  go_wp2
  go_ret
  exact ⟨v, rfl, HO.out, hB⟩
/-- there is no such cell -/
def noCell (n : Nat) (i : Int) : Prop := i < 0 ∨ (n : Int) ≤ i
theorem ciscell_no (h : MCt B w x c us si T) {i : Int} (hi : noCell c.n i) :
    Calls Tryd.prog 42 #[.pointer (some ⟨x.p, 0, none⟩), .int .i64 i] w fun e w' => e = .returned (.bool false) ∧ w' = w := by
  have c0 := h.c0
  obtain ⟨ao, cap, hv⟩ := OwT.len h.bl
  rw [hv] at c0
  clear h
  by_cases h0 : i < 0
  · clear hi
    go_enter Tryd.func42, Tryd.ntmps42
    go_wp2
    go_ret
    exact ⟨rfl, rfl⟩
  · have h1 : (c.n : Int) ≤ i := hi.resolve_left h0
    clear hi
    go_enter Tryd.func42, Tryd.ntmps42
    go_wp2
    go_ret
    exact ⟨by first | rfl | (simp; omega), rfl⟩
theorem ciscell_ok (h : MCt B w x c us si T) {i : Nat} (hi : i < c.n) :
    Calls Tryd.prog 42 #[.pointer (some ⟨x.p, 0, none⟩), .int .i64 (i : Int)] w fun e w' => e = .returned (.bool true) ∧ w' = w := by
  have c0 := h.c0
  obtain ⟨ao, cap, hv⟩ := OwT.len h.bl
  rw [hv] at c0
  have hz : (i : Int) < (c.n : Int) := by omega
  clear h
  go_enter Tryd.func42, Tryd.ntmps42
  go_wp2
  go_ret
  exact ⟨by first | rfl | (simp; omega), rfl⟩
theorem cturn_any (h : MCt B w x c us si T) (hT : T ≤ 1000000) :
    Calls Tryd.prog 46 #[.pointer (some ⟨x.p, 0, none⟩)] w fun e w' => e = .returned (.int .i64 ((T + 1 : Nat) : Int)) ∧ MCt B w' x c us si (T + 1) ∧ But (· = x.p) w w' := by
  have P := h.put3 (Nat.le_succ T)
  have c3 := h.c3
  have f3 := h.free 3
  have d3 := P.1.c3
  have hc : ((T.succ : Nat) : Int) = (T : Int) + 1 := by omega
  have HM : Hid (MCt B (w.setCell ⟨x.p, 3, none⟩ (.int .i64 ((T.succ : Nat) : Int))) x c us si (T + 1) ∧ But (· = x.p) w (w.setCell ⟨x.p, 3, none⟩ (.int .i64 ((T.succ : Nat) : Int)))) := P
  rw [hc] at HM d3
  have hz : (T : Int) ≤ 1000000 := by omega
  clear P h hc
  go_enter Tryd.func46, Tryd.ntmps46
  go_wp2
  go_ret
  exact ⟨by first | rfl | (simp), HM.out⟩
end Go.Proofs.YtfeikmmojilmbaaDoor
