/- A redo in memory: its blocks, and what keeps them; New, All, Bytes, Safe, Fail, stops: walks over the program. -/
import Derived.Test.YtdbanimlnjhhlaaDoorRoM
namespace Go.Proofs.YtdbanimlnjhhlaaDoor
open Go.RowKit El Pol
/-- where its parts stand -/
structure RP where
  p : Nat
  vf : Value
  vc : Value
  vl : Value
def RP.F (x : RP) (k : Nat) : Prop := k = x.p ∨ x.vf.ownBlock = some k ∨ x.vc.ownBlock = some k ∨ x.vl.ownBlock = some k
def roCells (x : RP) (t : Rdo) : Array Value := #[x.vf, x.vc, x.vl, .int .i64 (t.safe : Int), .int .i64 t.ahead, .bool t.stopped]
structure MR (B : Nat) (w : World) (x : RP) (t : Rdo) : Prop where
  row : w.heap[x.p]? = some (.cells (roCells x t) 101 (0, 0))
  fst : OwT B w x.vf t.n t.first
  cls : OwT B w x.vc t.n t.cells
  lg : Ow B w x.vl t.log
  fc : ∀ k, x.vf.ownBlock = some k → x.vc.ownBlock ≠ some k
  hp : B ≤ x.p
theorem ownsRow_type {w : World} {B : Nat} {e : TypeId} {v : Value} {n k : Nat} {xs : List Value} (h : w.ownsRow B e 1 v n xs) (hk : v.ownBlock = some k) : ∃ c r, w.heap[k]? = some (.cells c e r) := by
  rcases h.2 with ⟨rfl, _⟩ | ⟨g, cap, cur, rfl, _, hg, _⟩
  · cases hk
  · simp only [Value.ownBlock, Option.some.injEq] at hk
    subst hk
    exact ⟨_, _, hg⟩
theorem type_ne {w : World} {k : Nat} {e e' : TypeId} (h : ∃ c r, w.heap[k]? = some (.cells c e r)) (h' : ∃ c r, w.heap[k]? = some (.cells c e' r)) (hne : e ≠ e') : False := by
  obtain ⟨c, r, h⟩ := h
  obtain ⟨c', r', h'⟩ := h'
  rw [h] at h'
  injection h' with h'
  injection h' with _ h'
  exact hne h'
namespace MR
variable {B : Nat} {w w' : World} {x : RP} {t : Rdo}
theorem pt (h : MR B w x t) : ∃ c r, w.heap[x.p]? = some (.cells c 101 r) := ⟨_, _, h.row⟩
theorem fp (h : MR B w x t) {k : Nat} (hk : x.vf.ownBlock = some k) : k ≠ x.p := fun e => by subst e; exact type_ne (ownsRow_type h.fst hk) h.pt (by decide)
theorem cp (h : MR B w x t) {k : Nat} (hk : x.vc.ownBlock = some k) : k ≠ x.p := fun e => by subst e; exact type_ne (ownsRow_type h.cls hk) h.pt (by decide)
theorem lp (h : MR B w x t) {k : Nat} (hk : x.vl.ownBlock = some k) : k ≠ x.p := fun e => by subst e; exact type_ne (ownsRow_type h.lg hk) h.pt (by decide)
theorem lf (h : MR B w x t) {k : Nat} (hk : x.vl.ownBlock = some k) : x.vf.ownBlock ≠ some k := fun e => type_ne (ownsRow_type h.lg hk) (ownsRow_type h.fst e) (by decide)
theorem lc (h : MR B w x t) {k : Nat} (hk : x.vl.ownBlock = some k) : x.vc.ownBlock ≠ some k := fun e => type_ne (ownsRow_type h.lg hk) (ownsRow_type h.cls e) (by decide)
theorem plt (h : MR B w x t) : x.p < w.heap.size := lt_of_block h.row
theorem lt (h : MR B w x t) : ∀ k, x.F k → k < w.heap.size := by
  rintro k (rfl | hk | hk | hk)
  · exact h.plt
  · exact (World.ownsRow.lt h.fst k hk).2
  · exact (World.ownsRow.lt h.cls k hk).2
  · exact (World.ownsRow.lt h.lg k hk).2
theorem low (h : MR B w x t) : ∀ k, x.F k → B ≤ k := by
  rintro k (rfl | hk | hk | hk)
  · exact h.hp
  · exact (World.ownsRow.lt h.fst k hk).1
  · exact (World.ownsRow.lt h.cls k hk).1
  · exact (World.ownsRow.lt h.lg k hk).1
theorem but {G : Nat → Prop} (h : MR B w x t) (hb : But G w w') (hn : ∀ k, x.F k → ¬ G k) : MR B w' x t :=
  ⟨by rw [hb.block x.p h.plt (hn _ (.inl rfl))]; exact h.row, ownsRow_but h.fst hb (fun k hk => hn k (.inr (.inl hk))), ownsRow_but h.cls hb (fun k hk => hn k (.inr (.inr (.inl hk)))), ownsRow_but h.lg hb (fun k hk => hn k (.inr (.inr (.inr hk)))), h.fc, h.hp⟩
theorem old (h : MR B w x t) (hb : Below w.heap.size w w') : MR B w' x t :=
  ⟨by rw [hb.block x.p h.plt]; exact h.row, ownsRow_old h.fst hb, ownsRow_old h.cls hb, Ow.old h.lg hb, h.fc, h.hp⟩
theorem drewN (h : MR B w x t) (n : Nat) : MR B (w.drewN n) x t := h.old (below_drewN (Below.refl _ _) n)
theorem base (h : MR B w x t) {B' : Nat} (hB : B' ≤ B) : MR B' w x t := ⟨h.row, OwT.base h.fst hB, OwT.base h.cls hB, Ow.mono h.lg hB, h.fc, Nat.le_trans hB h.hp⟩
theorem cell (h : MR B w x t) (i : Nat) : w.cell? ⟨x.p, i, none⟩ = (roCells x t)[i]? := by rw [cell_of_row _ _ _ _ _ _ h.row]
theorem free (h : MR B w x t) (i : Nat) : w.frozen? ⟨x.p, i, none⟩ = false := frozen_of_row _ _ _ _ _ h.row
theorem c0 (h : MR B w x t) : w.cell? ⟨x.p, 0, none⟩ = some x.vf := h.cell 0
theorem c1 (h : MR B w x t) : w.cell? ⟨x.p, 1, none⟩ = some x.vc := h.cell 1
theorem c2 (h : MR B w x t) : w.cell? ⟨x.p, 2, none⟩ = some x.vl := h.cell 2
theorem c3 (h : MR B w x t) : w.cell? ⟨x.p, 3, none⟩ = some (.int .i64 (t.safe : Int)) := h.cell 3
theorem c4 (h : MR B w x t) : w.cell? ⟨x.p, 4, none⟩ = some (.int .i64 t.ahead) := h.cell 4
theorem c5 (h : MR B w x t) : w.cell? ⟨x.p, 5, none⟩ = some (.bool t.stopped) := h.cell 5
/-- one of its own cells another one -/
theorem put (h : MR B w x t) (i : Nat) (u : Value) {x' : RP} {t' : Rdo} (hx : x'.p = x.p) (hrow : (roCells x t).setIfInBounds i u = roCells x' t') (h1 : OwT B w x'.vf t'.n t'.first) (h2 : OwT B w x'.vc t'.n t'.cells) (h3 : Ow B w x'.vl t'.log) (h4 : ∀ k, x'.vf.ownBlock = some k → x'.vc.ownBlock ≠ some k) : MR B (w.setCell ⟨x.p, i, none⟩ u) x' t' ∧ But (· = x.p) w (w.setCell ⟨x.p, i, none⟩ u) := by
  have hb : But (· = x.p) w (w.setCell ⟨x.p, i, none⟩ u) := (But.refl (· = x.p) w).setCell (p := ⟨x.p, i, none⟩) rfl u
  refine ⟨⟨?_, ownsRow_but h1 hb (fun k hk e => by subst e; exact type_ne (ownsRow_type h1 hk) h.pt (by decide)), ownsRow_but h2 hb (fun k hk e => by subst e; exact type_ne (ownsRow_type h2 hk) h.pt (by decide)), ownsRow_but h3 hb (fun k hk e => by subst e; exact type_ne (ownsRow_type h3 hk) h.pt (by decide)), h4, by rw [hx]; exact h.hp⟩, hb⟩
  rw [hx, heap_setCell_same _ _ _ _ _ _ h.row, hrow]
theorem put3 (h : MR B w x t) (s : Nat) : MR B (w.setCell ⟨x.p, 3, none⟩ (.int .i64 (s : Int))) x ⟨t.n, t.first, t.rs, t.hf, s, t.ahead, t.stopped⟩ ∧ But (· = x.p) w (w.setCell ⟨x.p, 3, none⟩ (.int .i64 (s : Int))) := h.put 3 _ rfl rfl h.fst h.cls h.lg h.fc
theorem put4 (h : MR B w x t) (z : Int) : MR B (w.setCell ⟨x.p, 4, none⟩ (.int .i64 z)) x ⟨t.n, t.first, t.rs, t.hf, t.safe, z, t.stopped⟩ ∧ But (· = x.p) w (w.setCell ⟨x.p, 4, none⟩ (.int .i64 z)) := h.put 4 _ rfl rfl h.fst h.cls h.lg h.fc
theorem put5 (h : MR B w x t) (b : Bool) : MR B (w.setCell ⟨x.p, 5, none⟩ (.bool b)) x ⟨t.n, t.first, t.rs, t.hf, t.safe, t.ahead, b⟩ ∧ But (· = x.p) w (w.setCell ⟨x.p, 5, none⟩ (.bool b)) := h.put 5 _ rfl rfl h.fst h.cls h.lg h.fc
end MR
theorem F_p (x : RP) : ∀ k, k = x.p → x.F k := fun _ h => .inl h
theorem rall_any {B : Nat} {w : World} {x : RP} {t : Rdo} (h : MR B w x t) (ho : t.ok) :
    Calls Tryd.prog 36 #[.pointer (some ⟨x.p, 0, none⟩)] w fun e w' => ∃ u, e = .returned u ∧ OwT w.heap.size w' u t.n t.cells ∧ Below w.heap.size w w' := by
  have c1 := h.c1
  have hn := ho.n40
  have C := copied_any x.vc t.n t.cells w (OwT.rd h.cls) (by omega) (fun i hi => by have := Rdo.cells_short ho i hi; omega)
  obtain ⟨a1, k1, hv⟩ := OwT.len h.cls
  rw [hv] at c1 C
  clear h ho
  go_enter Tryd.func36, Tryd.ntmps36
  go_wp2_with fail
  refine C.mono ?_
  rintro e w1 ⟨u, rfl, hO, hB⟩
  have HO : Hid (OwT w.heap.size w1 u t.n t.cells) := hO
  clear C hO
  go_wp2
  go_ret
  exact ⟨u, rfl, HO.out, hB⟩
/-- what is wrong with cells -/
def cellsE (n : Nat) (f : Nat → List El) : Nat := if 40 < n then 4 else if anyB (fun i => decide (16 < (f i).length)) n = true then 1 else 0
theorem cellsE_ok {n : Nat} {f : Nat → List El} (h : cellsE n f = 0) : n ≤ 40 ∧ ∀ i, i < n → (f i).length ≤ 16 := by
  unfold cellsE at h
  split at h
  · omega
  · split at h
    · omega
    · rename_i h1 h2
      refine ⟨by omega, fun i hi => ?_⟩
      have := anyB_false.1 (by simpa using h2) i hi
      simp at this
      exact this
set_option maxRecDepth 100000 in
set_option maxHeartbeats 1000000 in
theorem rnew_bad (v : Value) (n : Nat) (f : Nat → List El) (w : World) (hr : RdT w v n f) (he : cellsE n f ≠ 0) :
    Calls Tryd.prog 35 #[v] w fun e w' => e = .returned (.tuple #[.pointer none, errV (cellsE n f)]) ∧ w' = w := by
  obtain ⟨ao, cap, rfl, _, _⟩ := hr.len
  by_cases h1 : 40 < n
  · have e1 : cellsE n f = 4 := if_pos h1
    have h1' : (40 : Int) < (n : Int) := by omega
    rw [e1, errV, if_neg (by omega)]
    clear hr he e1 h1
    go_enter Tryd.func35, Tryd.ntmps35
    go_wp2
    go_ret2
    exact ⟨rfl, rfl⟩
  · have e0 : cellsE n f = if anyB (fun i => decide (16 < (f i).length)) n = true then 1 else 0 := if_neg h1
    have h2 : anyB (fun i => decide (16 < (f i).length)) n = true := by
      rw [e0] at he
      split at he
      · assumption
      · exact absurd rfl he
    have C := tcontains_any ao n cap f w (by omega) hr
    rw [e0, if_pos h2, errV, if_neg (by omega)]
    rw [h2] at C
    have h1' : ¬ (40 : Int) < (n : Int) := by omega
    clear hr he e0 h1 h2
    go_enter Tryd.func35, Tryd.ntmps35
    go_wp2_with fail
    refine C.mono ?_
    rintro e w1 ⟨rfl, hw⟩
    obtain rfl := hw.symm
    clear C hw
    go_wp2
    go_ret2
    exact ⟨rfl, rfl⟩
set_option maxRecDepth 100000 in
set_option maxHeartbeats 1000000 in
theorem rnew_ok (v : Value) (n : Nat) (f : Nat → List El) (w : World) (hr : RdT w v n f) (he : cellsE n f = 0) :
    Calls Tryd.prog 35 #[v] w fun e w' => ∃ x : RP, e = .returned (.tuple #[.pointer (some ⟨x.p, 0, none⟩), .nilIface]) ∧ MR w.heap.size w' x (Rdo.fresh n f) ∧ Below w.heap.size w w' := by
  obtain ⟨ao, cap, rfl, _, _⟩ := hr.len
  obtain ⟨hn, hs⟩ := cellsE_ok he
  have C := tcontains_any ao n cap f w (by omega) hr
  have h2 : anyB (fun i => decide (16 < (f i).length)) n = false := anyB_false.2 (fun i hi => by have := hs i hi; simp; omega)
  rw [h2] at C
  have D := copied_any (.slice ao n cap) n f w hr (by omega) (fun i hi => by have := hs i hi; omega)
  have HR : Hid (RdT w (.slice ao n cap) n f) := hr
  have HS : Hid (∀ i, i < n → (f i).length ≤ 16) := hs
  have hn' : (n : Int) ≤ 40 := by omega
  clear hr he h2 hs
  go_enter Tryd.func35, Tryd.ntmps35
  go_wp2_with fail
  refine C.mono ?_
  rintro e w1 ⟨rfl, hw⟩
  obtain rfl := hw.symm
  clear C hw
  go_wp2_with fail
  refine D.mono ?_
  rintro e w2 ⟨u1, rfl, hO1, hB1⟩
  have D2 := copied_any (.slice ao n cap) n f w2 (HR.out.old hB1) (by omega) (fun i hi => by have := HS.out i hi; omega)
  clear D
  obtain ⟨a1, k1, rfl⟩ := OwT.len hO1
  have HO1 : Hid (OwT w.heap.size w2 (.slice a1 n k1) n f) := hO1
  have HB1 : Hid (Below w.heap.size w w2) := hB1
  clear hO1 hB1
  go_wp2_with fail
  refine D2.mono ?_
  rintro e w3 ⟨u2, rfl, hO2, hB2⟩
  obtain ⟨a2, k2, rfl⟩ := OwT.len hO2
  have hO1 : OwT w.heap.size w3 (.slice a1 n k1) n f := ownsRow_old HO1.out hB2
  have hO2' : OwT w.heap.size w3 (.slice a2 n k2) n f := OwT.base hO2 HB1.out.size
  have hB3 : Below w.heap.size w w3 := HB1.out.trans (hB2.mono HB1.out.size)
  have HFC : Hid (∀ k, (Value.slice a1 n k1).ownBlock = some k → (Value.slice a2 n k2).ownBlock ≠ some k) := fun k hk e => by
    have z1 := (World.ownsRow.lt HO1.out k hk).2
    have z2 := (World.ownsRow.lt hO2 k e).1
    omega
  have HM : Hid (MR w.heap.size (w3.alloc (.cells #[.slice a1 n k1, .slice a2 n k2, .slice none 0 0, .int .i64 0, .int .i64 (-1), .bool false] 101)) ⟨w3.heap.size, .slice a1 n k1, .slice a2 n k2, .slice none 0 0⟩ (Rdo.fresh n f)) :=
    ⟨heap_alloc_new w3 _, ownsRow_old hO1 (al_below _ _), ownsRow_old hO2' (al_below _ _), World.ownsRow_nil _ _ _ _, HFC.out, hB3.size⟩
  have HB : Hid (Below w.heap.size w (w3.alloc (.cells #[.slice a1 n k1, .slice a2 n k2, .slice none 0 0, .int .i64 0, .int .i64 (-1), .bool false] 101))) := hB3.alloc hB3.size _
  clear D2 hO1 hO2 hO2' hB2 hB3 HO1 HB1 HFC
  go_wp2
  go_ret2
  exact ⟨⟨w3.heap.size, .slice a1 n k1, .slice a2 n k2, .slice none 0 0⟩, rfl, HM.out, HB.out⟩
end Go.Proofs.YtdbanimlnjhhlaaDoor
