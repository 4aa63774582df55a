/- Lists of bytes in memory: a slice that reads as a list of elements, and one that the call itself made; what keeps them. -/
import Derived.Test.YtdbanimlnjhhlaaDoorRows
import Derived.Test.YtdbanimlnjhhlaaDoorGen
import Derived.Test.YtdbanimlnjhhlaaDoorMa
import Derived.WalkKit
namespace Go.Proofs.YtdbanimlnjhhlaaDoor
open Go.RowKit El Pol
/-- an element as a value -/
abbrev eb (x : El) : Value := .int .u8 ((x.val : Nat) : Int)
/-- the slice v reads as xs -/
def Rd (w : World) (v : Value) (xs : List El) : Prop :=
  (v = .slice none 0 0 ∧ xs = []) ∨
  ∃ ad cap, v = .slice (some ad) xs.length cap ∧ xs.length ≤ cap ∧ cap ≤ 9223372036854775807 ∧ ∀ i, i < xs.length → w.cell? (ad.add i) = some (.int .u8 (((co xs i).val : Nat) : Int))
/-- the slice v is the call's own, its block from B on, and holds xs -/
def Ow (B : Nat) (w : World) (v : Value) (xs : List El) : Prop := w.ownsRow B 5 1 v xs.length (xs.map eb)
theorem map_eb (xs : List El) (i : Nat) (h : i < xs.length) : (xs.map eb)[i]? = some (.int .u8 (((co xs i).val : Nat) : Int)) := by
  simp [List.getElem?_map, List.getElem?_eq_getElem h, co, List.getD_eq_getElem?_getD]
theorem Rd.kept {w w' : World} {v : Value} {xs : List El} (h : Rd w v xs) (hk : xs ≠ [] → ∀ k, v.ownBlock = some k → k < w.heap.size → w'.heap[k]? = w.heap[k]?) : Rd w' v xs := by
  rcases h with h | ⟨ad, cap, rfl, h1, h2, h3⟩
  · exact .inl h
  · refine .inr ⟨ad, cap, rfl, h1, h2, fun i hi => ?_⟩
    have hc := h3 i hi
    have hb := World.block_lt_of_cell? w _ hc
    rw [add_block] at hb
    rw [World.cell?_of_block (w := w) (by rw [add_block]; exact hk (List.length_pos_iff.1 (by omega)) ad.block rfl hb)]
    exact hc
theorem Rd.old {w w' : World} {v : Value} {xs : List El} (h : Rd w v xs) (hb : Below w.heap.size w w') : Rd w' v xs :=
  h.kept (fun _ k _ hk => hb.block k hk)
theorem Rd.grown {w w' : World} {v : Value} {xs : List El} {g : Nat} (h : Rd w v xs) (hg : w.grownBy w' (some g)) (hne : xs ≠ [] → v.ownBlock ≠ some g) : Rd w' v xs :=
  h.kept (fun hx k hk hlt => hg.block k hlt (fun e => hne hx (by rw [hk, e])))
theorem Rd.alloc {w : World} {v : Value} {xs : List El} (h : Rd w v xs) (o : Obj) : Rd (w.alloc o) v xs :=
  h.kept (fun _ k _ hk => Below.heap_alloc w o k hk)
theorem Rd.drew {w : World} {v : Value} {xs : List El} (h : Rd w v xs) : Rd w.drew v xs := h.kept (fun _ _ _ _ => rfl)
theorem Rd.len {w : World} {v : Value} {xs : List El} (h : Rd w v xs) : ∃ ao cap, v = .slice ao xs.length cap ∧ xs.length ≤ cap ∧ cap ≤ 9223372036854775807 := by
  rcases h with ⟨rfl, rfl⟩ | ⟨ad, cap, rfl, h1, h2, _⟩
  · exact ⟨none, 0, rfl, Nat.le_refl _, by omega⟩
  · exact ⟨some ad, cap, rfl, h1, h2⟩
theorem Rd.lt {w : World} {v : Value} {xs : List El} (h : Rd w v xs) (hx : xs ≠ []) : ∀ k, v.ownBlock = some k → k < w.heap.size := by
  intro k hk
  rcases h with ⟨_, rfl⟩ | ⟨ad, cap, rfl, h1, h2, h3⟩
  · exact absurd rfl hx
  · have hb := World.block_lt_of_cell? w _ (h3 0 (List.length_pos_iff.2 hx))
    rw [add_block] at hb
    simp only [Value.ownBlock, Option.some.injEq] at hk
    omega
theorem Rd.ne {w : World} {v : Value} {xs : List El} {g : Nat} (h : Rd w v xs) (hg : w.heap.size ≤ g) : xs ≠ [] → v.ownBlock ≠ some g :=
  fun hx e => by have := h.lt hx g e; omega
theorem Ow.rd {B : Nat} {w : World} {v : Value} {xs : List El} (h : Ow B w v xs) : Rd w v xs := by
  have h0 := h
  obtain ⟨h1, h2⟩ := h
  rcases h2 with ⟨rfl, hn⟩ | ⟨g, cap, cur, rfl, hb, hg, hc, hm, _⟩
  · exact .inl ⟨rfl, List.length_eq_zero_iff.1 hn⟩
  · refine .inr ⟨_, cap, rfl, hc, by unfold maxLen at hm; omega, fun i hi => ?_⟩
    have e : (⟨g, 0, none⟩ : Addr).add i = ⟨g, i, none⟩ := by unfold Addr.add; split <;> simp_all
    rw [e, World.ownsRow.cellAt h0 i (by omega)]
    exact map_eb xs i hi
theorem Ow.old {B : Nat} {w w' : World} {v : Value} {xs : List El} (h : Ow B w v xs) (hb : Below w.heap.size w w') : Ow B w' v xs := by
  obtain ⟨h1, h2⟩ := h
  refine ⟨h1, ?_⟩
  rcases h2 with h2 | ⟨g, cap, cur, rfl, hB, hg, rest⟩
  · exact .inl h2
  · exact .inr ⟨g, cap, cur, rfl, hB, by rw [hb.block g (lt_of_block hg)]; exact hg, rest⟩
theorem Ow.grown {B : Nat} {w w' : World} {v : Value} {xs : List El} {g : Nat} (h : Ow B w v xs) (hg : w.grownBy w' (some g)) (hne : v.ownBlock ≠ some g) : Ow B w' v xs :=
  World.ownsRow.kept h hg (.inr hne)
theorem Ow.mono {B B' : Nat} {w : World} {v : Value} {xs : List El} (h : Ow B w v xs) (hB : B' ≤ B) : Ow B' w v xs := by
  obtain ⟨h1, h2⟩ := h
  refine ⟨h1, ?_⟩
  rcases h2 with h2 | ⟨g, cap, cur, rfl, hb, rest⟩
  · exact .inl h2
  · exact .inr ⟨g, cap, cur, rfl, by omega, rest⟩
theorem Ow.lt {B : Nat} {w : World} {v : Value} {xs : List El} (h : Ow B w v xs) : ∀ k, v.ownBlock = some k → B ≤ k ∧ k < w.heap.size := World.ownsRow.lt h
/-- what is owned and not empty has an address -/
theorem Ow.at {B : Nat} {w : World} {v : Value} {xs : List El} (h : Ow B w v xs) (hx : xs ≠ []) : ∃ g cap, v = .slice (some ⟨g, 0, none⟩) xs.length cap ∧ B ≤ g ∧ g < w.heap.size ∧ xs.length ≤ cap ∧ cap ≤ 9223372036854775807 := by
  obtain ⟨h1, h2⟩ := h
  rcases h2 with ⟨rfl, hn⟩ | ⟨g, cap, cur, rfl, hb, hg, hc, hm, _⟩
  · exact absurd (List.length_eq_zero_iff.1 hn) hx
  · exact ⟨g, cap, rfl, hb, lt_of_block hg, hc, by unfold maxLen at hm; omega⟩
theorem Ow.cell {B g n cap : Nat} {w : World} {xs : List El} (h : Ow B w (.slice (some ⟨g, 0, none⟩) n cap) xs) (hn : n = xs.length) (i : Nat) (hi : i < n) : w.cell? ⟨g, i, none⟩ = some (.int .u8 (((co xs i).val : Nat) : Int)) := by
  subst hn
  rw [World.ownsRow.cellAt h i (by omega)]
  exact map_eb xs i hi
theorem Ow.free {B g n cap : Nat} {w : World} {xs : List El} (h : Ow B w (.slice (some ⟨g, 0, none⟩) n cap) xs) (hn : n = xs.length) (i : Nat) : w.frozen? ⟨g, i, none⟩ = false := by
  subst hn; exact World.ownsRow.frozenAt h i
theorem Ow.stored {B g n cap : Nat} {w : World} {xs : List El} (h : Ow B w (.slice (some ⟨g, 0, none⟩) n cap) xs) (hn : n = xs.length) (i : Nat) (x : El) :
    Ow B (w.setCell ⟨g, i, none⟩ (.int .u8 ((x.val : Nat) : Int))) (.slice (some ⟨g, 0, none⟩) n cap) (xs.set i x) ∧ w.grownBy (w.setCell ⟨g, i, none⟩ (.int .u8 ((x.val : Nat) : Int))) (some g) := by
  subst hn
  have := World.ownsRow.stored h i (eb x)
  refine ⟨?_, this.2⟩
  unfold Ow
  rw [List.length_set, List.map_set]
  exact this.1
/-- cut at its end -/
theorem Ow.cut {B g n cap m : Nat} {w : World} {xs : List El} (h : Ow B w (.slice (some ⟨g, 0, none⟩) n cap) xs) (hn : n = xs.length) (hm : m ≤ n) : Ow B w (.slice (some ⟨g, 0, none⟩) m cap) (xs.take m) := by
  subst hn
  obtain ⟨h1, h2⟩ := h
  have hl : (xs.take m).length = m := by rw [List.length_take]; omega
  rcases h2 with ⟨h2, _⟩ | ⟨g', cap', cur, he, hb, hg, hc, hmx, hs, ht⟩
  · cases h2
  · simp only [Value.slice.injEq, Option.some.injEq, Addr.mk.injEq, true_and, and_true] at he
    obtain ⟨rfl, rfl⟩ := he
    refine ⟨by rw [hl, List.length_map, hl, Nat.mul_one], .inr ⟨g, cap, cur, by rw [hl], hb, hg, by rw [hl]; omega, hmx, hs, ?_⟩⟩
    rw [hl, List.map_take, ← ht, List.take_take]
    congr 1
    omega
/-- the first k of f, one behind the other -/
def row (f : Nat → El) (k : Nat) : List El := (List.range k).map f
theorem row_length (f : Nat → El) (k : Nat) : (row f k).length = k := by simp [row]
theorem row_succ (f : Nat → El) (k : Nat) : row f (k + 1) = row f k ++ [f k] := by simp [row, List.range_succ]
theorem co_row (f : Nat → El) (k i : Nat) : co (row f k) i = if i < k then f i else 0 := by
  by_cases h : i < k
  · simp [co, row, h]
  · rw [if_neg h]; exact co_beyond _ _ (by rw [row_length]; omega)
theorem row_co (l : List El) : row (co l) l.length = l := by
  apply List.ext_getElem (by simp [row])
  intro i h1 h2
  simp [row, co, List.getD_eq_getElem?_getD, List.getElem?_eq_getElem h2]
theorem row_congr {f g : Nat → El} {k : Nat} (h : ∀ i, i < k → f i = g i) : row f k = row g k := List.map_congr_left (fun i hi => h i (List.mem_range.1 hi))
end Go.Proofs.YtdbanimlnjhhlaaDoor
