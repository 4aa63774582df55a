/- Lists of locks in memory: of the call's own, and as they are read. -/
import Derived.Test.YtagindfgfamacaaDoorLkA
import Derived.Test.YtagindfgfamacaaDoorFoot
namespace Go.Proofs.YtagindfgfamacaaDoor
open Go.RowKit
instance : Inhabited Lk := ⟨⟨0, 0, 0, false⟩⟩
/-- a lock as values; as one value -/
def vlk (x : Lk) : List Value := [.int .i64 x.who, .int .i64 x.fr, .int .i64 x.to, .bool x.al]
abbrev alk (x : Lk) : Value := .agg #[.int .i64 x.who, .int .i64 x.fr, .int .i64 x.to, .bool x.al]
def vlks (l : List Lk) : List Value := l.flatMap vlk
theorem vlks_len (l : List Lk) : (vlks l).length = l.length * 4 := by
  induction l with
  | nil => rfl
  | cons x l ih => simp only [vlks, vlk, List.flatMap_cons, List.length_append, List.length_cons, List.length_nil] at ih ⊢; omega
theorem vlks_snoc (l : List Lk) (x : Lk) : vlks (l ++ [x]) = vlks l ++ vlk x := by simp [vlks]
theorem vlks_cons (x : Lk) (l : List Lk) : vlks (x :: l) = vlk x ++ vlks l := rfl
theorem vlk_one (x : Lk) : ∀ u, u ∈ vlk x → u.oneCell' = true := by
  intro u hx
  simp only [vlk, List.mem_cons, List.not_mem_nil, or_false] at hx
  rcases hx with rfl | rfl | rfl | rfl <;> rfl
theorem vlks_one (l : List Lk) : ∀ u, u ∈ vlks l → u.oneCell' = true := by
  intro u hu
  obtain ⟨x, _, hx⟩ := List.mem_flatMap.1 hu
  exact vlk_one x u hx
/-- the lock at a place -/
def lka (l : List Lk) (i : Nat) : Lk := l.getD i ⟨0, 0, 0, false⟩
theorem lka_get (l : List Lk) (i : Nat) (h : i < l.length) : lka l i = l[i] := by simp [lka, List.getD_eq_getElem?_getD, h]
theorem vlks_at : ∀ (l : List Lk) (i k : Nat), i < l.length → k < 4 → (vlks l)[i * 4 + k]? = (vlk (lka l i))[k]?
  | [], i, _, h, _ => absurd h (Nat.not_lt_zero _)
  | x :: l, 0, k, _, hk => by
    rw [vlks_cons, Nat.zero_mul, Nat.zero_add, List.getElem?_append_left (by show k < 4; exact hk)]
    rfl
  | x :: l, i + 1, k, h, hk => by
    have ih := vlks_at l i k (by simpa using h) hk
    have e2 : lka (x :: l) (i + 1) = lka l i := by simp [lka]
    rw [e2, ← ih, vlks_cons, List.getElem?_append_right (by show 4 ≤ _; omega)]
    congr 1
    show (i + 1) * 4 + k - 4 = _
    omega
theorem infoLk : (Tryd.prog.info? 57).map (fun i => (i.zero, i.size, i.bytes)) = some (some (.agg #[.int .i64 0, .int .i64 0, .int .i64 0, .bool false]), 4, 32) := by kernel_rfl
/-- a lock at an address -/
def LkAt (w : World) (a : Addr) (x : Lk) : Prop := w.cell? a = some (.int .i64 x.who) ∧ w.cell? ⟨a.block, a.off + 1, none⟩ = some (.int .i64 x.fr) ∧ w.cell? ⟨a.block, a.off + 2, none⟩ = some (.int .i64 x.to) ∧ w.cell? ⟨a.block, a.off + 3, none⟩ = some (.bool x.al)
theorem LkAt.old {w w' : World} {a : Addr} {x : Lk} (h : LkAt w a x) (hb : Below w.heap.size w w') : LkAt w' a x := by
  obtain ⟨c0, c1, c2, c3⟩ := h
  exact ⟨(hb.cell (World.block_lt_of_cell? w _ c0)).trans c0, (hb.cell (World.block_lt_of_cell? w _ c1)).trans c1, (hb.cell (World.block_lt_of_cell? w _ c2)).trans c2, (hb.cell (World.block_lt_of_cell? w _ c3)).trans c3⟩
theorem LkAt.but {F : Nat → Prop} {w w' : World} {a : Addr} {x : Lk} (h : LkAt w a x) (hb : But F w w') (hn : ¬ F a.block) : LkAt w' a x := by
  obtain ⟨c0, c1, c2, c3⟩ := h
  exact ⟨(hb.cell (World.block_lt_of_cell? w _ c0) hn).trans c0, (hb.cell (World.block_lt_of_cell? w _ c1) hn).trans c1, (hb.cell (World.block_lt_of_cell? w _ c2) hn).trans c2, (hb.cell (World.block_lt_of_cell? w _ c3) hn).trans c3⟩
/-- a variable of its own -/
theorem LkAt.new (w : World) (x : Lk) (t : TypeId) : LkAt (w.alloc (.cells #[.int .i64 x.who, .int .i64 x.fr, .int .i64 x.to, .bool x.al] t)) ⟨w.heap.size, 0, none⟩ x := by
  have h := heap_alloc_new w (.cells #[.int .i64 x.who, .int .i64 x.fr, .int .i64 x.to, .bool x.al] t)
  exact ⟨by rw [cell_of_row _ _ 0 _ _ _ h]; rfl, by rw [cell_of_row _ _ (0 + 1) _ _ _ h]; rfl, by rw [cell_of_row _ _ (0 + 2) _ _ _ h]; rfl, by rw [cell_of_row _ _ (0 + 3) _ _ _ h]; rfl⟩
/-- locks of the call's own; such that read so -/
abbrev OwLk (B : Nat) (w : World) (v : Value) (l : List Lk) : Prop := w.ownsRow B 57 4 v l.length (vlks l)
def RdLk (w : World) (v : Value) (l : List Lk) : Prop :=
  (v = .slice none 0 0 ∧ l = []) ∨
  ∃ ad cap, v = .slice (some ad) l.length cap ∧ l.length ≤ cap ∧ cap ≤ 9223372036854775807 ∧ ∀ i, i < l.length → LkAt w (ad.add (i * 4)) (lka l i)
theorem RdLk.old {w w' : World} {v : Value} {l : List Lk} (h : RdLk w v l) (hb : Below w.heap.size w w') : RdLk w' v l := by
  rcases h with h | ⟨ad, cap, rfl, h1, h2, h3⟩
  · exact .inl h
  · exact .inr ⟨ad, cap, rfl, h1, h2, fun i hi => (h3 i hi).old hb⟩
theorem RdLk.but {F : Nat → Prop} {w w' : World} {v : Value} {l : List Lk} (h : RdLk w v l) (hb : But F w w') (hn : ∀ k, v.ownBlock = some k → ¬ F k) : RdLk w' v l := by
  rcases h with h | ⟨ad, cap, rfl, h1, h2, h3⟩
  · exact .inl h
  · exact .inr ⟨ad, cap, rfl, h1, h2, fun i hi => (h3 i hi).but hb (by rw [add_block]; exact hn _ rfl)⟩
theorem RdLk.len {w : World} {v : Value} {l : List Lk} (h : RdLk w v l) : ∃ ao cap, v = .slice ao l.length cap ∧ l.length ≤ cap ∧ cap ≤ 9223372036854775807 := by
  rcases h with ⟨rfl, rfl⟩ | ⟨ad, cap, rfl, h1, h2, _⟩
  · exact ⟨none, 0, rfl, Nat.le_refl _, by omega⟩
  · exact ⟨some ad, cap, rfl, h1, h2⟩
theorem RdLk.at {w : World} {ao : Option Addr} {m cap : Nat} {l : List Lk} (h : RdLk w (.slice ao m cap) l) (i : Nat) (hi : i < l.length) : ∃ ad, ao = some ad ∧ LkAt w (ad.add (i * 4)) (lka l i) := by
  rcases h with ⟨_, rfl⟩ | ⟨ad, cap', he, _, _, h3⟩
  · exact absurd hi (Nat.not_lt_zero _)
  · simp only [Value.slice.injEq] at he
    obtain ⟨rfl, _, rfl⟩ := he
    exact ⟨ad, rfl, h3 i hi⟩
theorem own_add (g j : Nat) : (⟨g, 0, none⟩ : Addr).add j = ⟨g, j, none⟩ := by unfold Addr.add; split <;> simp_all
theorem OwLk.nil (B : Nat) (w : World) : OwLk B w (.slice none 0 0) [] := World.ownsRow_nil _ _ _ _
theorem OwLk.at {B g n cap : Nat} {w : World} {l : List Lk} (h : w.ownsRow B 57 4 (.slice (some ⟨g, 0, none⟩) n cap) l.length (vlks l)) (i : Nat) (hi : i < l.length) : LkAt w ⟨g, i * 4, none⟩ (lka l i) := by
  have hn : n = l.length := by
    rcases h.2 with ⟨h', _⟩ | ⟨g', cap', cur, h', _⟩
    · cases h'
    · cases h'; rfl
  subst hn
  have q : ∀ k, k < 4 → w.cell? ⟨g, i * 4 + k, none⟩ = (vlk (lka l i))[k]? := fun k hk => by rw [World.ownsRow.cellAt h _ (by omega), vlks_at l i k hi hk]
  exact ⟨q 0 (by omega), q 1 (by omega), q 2 (by omega), q 3 (by omega)⟩
theorem OwLk.rd {B : Nat} {w : World} {v : Value} {l : List Lk} (h : OwLk B w v l) : RdLk w v l := by
  have h0 : w.ownsRow B 57 4 v l.length (vlks l) := h
  rcases h0.2 with ⟨rfl, hn⟩ | ⟨g, cap, cur, rfl, hb, hg, hc, hm, _⟩
  · exact .inl ⟨rfl, List.length_eq_zero_iff.1 hn⟩
  · refine .inr ⟨⟨g, 0, none⟩, cap, rfl, hc, by unfold maxLen at hm; omega, fun i hi => ?_⟩
    rw [own_add]
    exact OwLk.at h0 i hi
theorem OwLk.len {B : Nat} {w : World} {v : Value} {l : List Lk} (h : OwLk B w v l) : ∃ ao cap, v = .slice ao l.length cap := by
  rcases h.2 with ⟨rfl, e⟩ | ⟨g, cap, cur, rfl, _⟩
  · exact ⟨none, 0, by rw [e]⟩
  · exact ⟨_, cap, rfl⟩
/-- a row of the call's own hangs on its block alone -/
theorem ownsRow_at {B size n : Nat} {w w' : World} {e : TypeId} {v : Value} {xs : List Value} (h : w.ownsRow B e size v n xs) (hk : ∀ g, v.ownBlock = some g → g < w.heap.size → w'.heap[g]? = w.heap[g]?) : w'.ownsRow B e size v n xs :=
  ⟨h.1, h.2.imp id (fun ⟨g, room, row, hv, low, at', more⟩ => ⟨g, room, row, hv, low, (hk g (by rw [hv]; rfl) (lt_of_block at')).trans at', more⟩)⟩
theorem OwLk.old {B : Nat} {w w' : World} {v : Value} {l : List Lk} (h : OwLk B w v l) (hb : Below w.heap.size w w') : OwLk B w' v l := ownsRow_at h (fun g _ hl => hb.block g hl)
theorem OwLk.but {F : Nat → Prop} {B : Nat} {w w' : World} {v : Value} {l : List Lk} (h : OwLk B w v l) (hb : But F w w') (hn : ∀ k, v.ownBlock = some k → ¬ F k) : OwLk B w' v l := ownsRow_at h (fun g hg hl => hb.block g hl (hn g hg))
theorem OwLk.base {B B' : Nat} {w : World} {v : Value} {l : List Lk} (h : OwLk B w v l) (hB : B' ≤ B) : OwLk B' w v l :=
  ⟨h.1, h.2.imp id (fun ⟨g, room, row, hv, low, more⟩ => ⟨g, room, row, hv, Nat.le_trans hB low, more⟩)⟩
theorem OwLk.lt {B : Nat} {w : World} {v : Value} {l : List Lk} (h : OwLk B w v l) : ∀ k, v.ownBlock = some k → B ≤ k ∧ k < w.heap.size := World.ownsRow.lt h
theorem OwLk.snoc {B : Nat} {w : World} {v : Value} {l : List Lk} {x : Lk} (h : w.ownsRow B 57 4 v (l.length + 1) (vlks l ++ vlk x)) : OwLk B w v (l ++ [x]) := by
  unfold OwLk
  rw [List.length_append, vlks_snoc]
  exact h
/-- the block of such a list has locks -/
theorem OwLk.type {B : Nat} {w : World} {v : Value} {l : List Lk} {k : Nat} (h : OwLk B w v l) (hk : v.ownBlock = some k) : ∃ c r, w.heap[k]? = some (.cells c 57 r) := by
  rcases h.2 with ⟨rfl, _⟩ | ⟨g, cap, cur, rfl, _, hg, _⟩
  · cases hk
  · simp only [Value.ownBlock, Option.some.injEq] at hk
    subst hk
    exact ⟨_, _, hg⟩
theorem lk_type_ne {w : World} {k : Nat} {e e' : TypeId} (h : ∃ c r, w.heap[k]? = some (.cells c e r)) (h' : ∃ c r, w.heap[k]? = some (.cells c e' r)) (hne : e ≠ e') : False := by
  obtain ⟨c, r, h⟩ := h
  obtain ⟨c', r', h'⟩ := h'
  rw [h] at h'
  injection h' with h'
  injection h' with _ h'
  exact hne h'
end Go.Proofs.YtagindfgfamacaaDoor
