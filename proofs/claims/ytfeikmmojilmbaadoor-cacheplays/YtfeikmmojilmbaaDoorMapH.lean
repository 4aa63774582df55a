/- A map from whole numbers to cells that are held (a text, the turn of its last use, the turn since which it is dirty), in memory: which there are; what looks, stores, deletes and clearing make of it. -/
import Derived.Test.YtfeikmmojilmbaaDoorChT
import Derived.Test.YtfeikmmojilmbaaDoorMe
import Derived.Test.YtfeikmmojilmbaaDoorGe
import Derived.Maps.RangeWalk
namespace Go.Proofs.YtfeikmmojilmbaaDoor
open Go.RowKit Go.Maps El Pol
/-- a text, used, since -/
abbrev Hd := List El × Nat × Nat
def hv (h : Hd) : Value := .agg #[st h.1, .int .i64 (h.2.1 : Int), .int .i64 (h.2.2 : Int)]
def hD (h : Hd) : DataW Unit := .agg [.lit (.string (sb h.1).data.toList), .lit (.int .i64 (h.2.1 : Int)), .lit (.int .i64 (h.2.2 : Int))]
def hz : Hd := ([], 0, 0)
def heldElem (v : Value) : Option (DataW Unit × List MemPlace) :=
  match v with
  | .agg cs =>
    match cs.toList with
    | [.string s, .int .i64 u, .int .i64 t] => some (.agg [.lit (.string s.data.toList), .lit (.int .i64 u), .lit (.int .i64 t)], [])
    | _ => none
  | _ => none
theorem heldElem_mk (h : Hd) : heldElem (hv h) = some (hD h, []) := rfl
theorem heldElem_inv {v : Value} {y : DataW Unit × List MemPlace} (h : heldElem v = some y) : ∃ s u t, v = .agg #[.string s, .int .i64 u, .int .i64 t] ∧ y = (.agg [.lit (.string s.data.toList), .lit (.int .i64 u), .lit (.int .i64 t)], []) := by
  unfold heldElem at h
  split at h
  · rename_i cs
    split at h
    · rename_i s u t e
      refine ⟨s, u, t, ?_, (Option.some.inj h).symm⟩
      rw [← Array.toArray_toList (xs := cs), e]
    · cases h
  · cases h
theorem heldElem_is {v : Value} {h : Hd} {ps : List MemPlace} (e : heldElem v = some (hD h, ps)) : v = hv h := by
  obtain ⟨s, u, t, rfl, ey⟩ := heldElem_inv e
  unfold hD at ey
  simp only [Prod.mk.injEq, DataW.agg.injEq, List.cons.injEq, DataW.lit.injEq, Lit.string.injEq, Lit.int.injEq, true_and, and_true] at ey
  obtain ⟨⟨e1, e2, e3⟩, _⟩ := ey
  have es : s = sb h.1 := by
    apply ByteArray.ext
    rw [← Array.toArray_toList (xs := s.data), ← e1, Array.toArray_toList]
  rw [es, ← e2, ← e3]
  rfl
theorem lawI : Keyed Tryd.prog 3 := int_keyed Tryd.underlying3
/-- a number as a key -/
abbrev kI (c : Int) : Lit := .int .i64 c
theorem kI_ne {a b : Int} (h : a ≠ b) : kI a ≠ kI b := fun e => h (by injection e)
theorem kI_natne {a b : Nat} (h : a ≠ b) : kI (a : Int) ≠ kI (b : Int) := kI_ne (by omega)
theorem keyI {c : Int} (h : 0 ≤ c ∧ c < 1000) : keyOf Tryd.prog 3 (.int .i64 c) = some (kI c) := keyOf_int_mk Tryd.underlying3 (WalkArith.wf_i64 (by omega))
theorem zeroH (w : World) : (zeroValue 86).run Tryd.prog w = .ok (hv hz) w := by kernel_rfl
theorem own_tight {H : Type} {P : Program} {k : TypeId} {R : Value → Option (DataW H × List MemPlace)} {w : World} {b n : Nat} {D : DataW H} (h : w.ownsMap P k R b n D) {m : Nat} (hm : Maps.size D ≤ m) : w.ownsMap P k R b m D := by
  obtain ⟨es, clock, hb, F, _, hD⟩ := h
  refine ⟨es, clock, hb, F, ?_, hD⟩
  rw [hD] at hm
  simp only [Maps.size, length_sorted, List.length_map, Array.length_toList] at hm
  exact hm
/-- block b is a map that has those of r, as V says -/
structure HasH (w : World) (b : Nat) (r : List Nat) (V : Nat → Hd) (D : DataW Unit) : Prop where
  own : w.ownsMap Tryd.prog 3 heldElem b 1000 D
  val : ∀ k ∈ r, D.atKey (kI (k : Int)) (hD hz) = hD (V k)
  has : ∀ k : Nat, Maps.has D (kI (k : Int)) = decide (k ∈ r)
  no : ∀ c : Int, c < 0 → Maps.has D (kI c) = false
  size : Maps.size D = r.length
  nd : r.Nodup
  len : r.length ≤ 40
  lt : ∀ k ∈ r, k < 1000
/-- what is looked up -/
def atH (r : List Nat) (V : Nat → Hd) (k : Nat) : Hd := if k ∈ r then V k else hz
variable {w w' : World} {b : Nat} {r : List Nat} {V : Nat → Hd} {D : DataW Unit}
theorem HasH.blt (h : HasH w b r V D) : b < w.heap.size := h.own.lt
theorem HasH.blk (h : HasH w b r V D) (e : w'.heap[b]? = w.heap[b]?) : HasH w' b r V D := by
  obtain ⟨⟨es, clock, hb, rest⟩, h2, h3, h4, h5, h6, h7, h8⟩ := h
  exact ⟨⟨es, clock, e.trans hb, rest⟩, h2, h3, h4, h5, h6, h7, h8⟩
theorem HasH.old (h : HasH w b r V D) (hb : Below w.heap.size w w') : HasH w' b r V D := h.blk (hb.block b h.blt)
theorem HasH.notCells (h : HasH w b r V D) {p : Nat} {c : Array Value} {t : TypeId} {z : Nat × Nat} (hp : w.heap[p]? = some (.cells c t z)) : p ≠ b := by
  obtain ⟨⟨es, clock, hb, _⟩, _⟩ := h
  intro e
  rw [e, hb] at hp
  cases hp
theorem HasH.new (w : World) (V : Nat → Hd) : HasH (w.alloc (.map #[] 0)) w.heap.size [] V (.map []) :=
  ⟨(World.ownsMap_made w _ _ _).mono (Nat.zero_le _), fun _ h => (by cases h), fun _ => rfl, fun _ _ => rfl, rfl, List.nodup_nil, Nat.zero_le _, fun _ h => (by cases h)⟩
theorem HasH.look (h : HasH w b r V D) (k : Nat) : D.atKey (kI (k : Int)) (hD hz) = hD (atH r V k) := by
  unfold atH
  by_cases e : k ∈ r
  · rw [if_pos e]; exact h.val k e
  · rw [if_neg e]
    exact atKey_of_not_has (by rw [h.has, decide_eq_false e]) _
theorem HasH.congr (h : HasH w b r V D) {V' : Nat → Hd} (e : ∀ k ∈ r, V k = V' k) : HasH w b r V' D :=
  ⟨h.own, fun k hk => by rw [h.val k hk, e k hk], h.has, h.no, h.size, h.nd, h.len, h.lt⟩
/-- stored: as the newest -/
theorem HasH.put (h : HasH w b r V D) {k : Nat} (hk : k < 1000) (x : Hd) (hl : (wo r k ++ [k]).length ≤ 40) (ho : w'.ownsMap Tryd.prog 3 heldElem b 1001 (D.put (kI (k : Int)) (hD x))) :
    HasH w' b (wo r k ++ [k]) (up V k x) (D.put (kI (k : Int)) (hD x)) := by
  have hm := h.own.isMap
  have hmem : ∀ j, j ∈ wo r k ++ [k] ↔ j ∈ r ∨ j = k := fun j => by
    rw [List.mem_append, mem_wo, List.mem_singleton]
    constructor
    · rintro (q | q)
      · exact .inl q.1
      · exact .inr q
    · rintro (q | q)
      · by_cases e : j = k
        · exact .inr e
        · exact .inl ⟨q, e⟩
      · exact .inr q
  have hs : Maps.size (D.put (kI (k : Int)) (hD x)) = (wo r k ++ [k]).length := by
    rw [size_put (h.own.tidy lawI), h.has, h.size, List.length_append, List.length_singleton]
    by_cases e : k ∈ r
    · rw [decide_eq_true e, if_pos rfl, wo_len1 h.nd e]
    · rw [decide_eq_false e, if_neg Bool.false_ne_true, wo_none e]
  refine ⟨own_tight ho (by rw [hs]; omega), fun j hj => ?_, fun j => ?_, fun c hc => ?_, hs, ?_, hl, fun j hj => ?_⟩
  · by_cases e : j = k
    · subst e; rw [up_at, atKey_put_same hm (k := kI (j : Int)) trivial]
    · rw [up_ne _ _ e, atKey_put_other (kI_natne e), h.val j (((hmem j).1 hj).resolve_right e)]
  · by_cases e : j = k
    · subst e; rw [has_put_same hm (k := kI (j : Int)) trivial, decide_eq_true ((hmem j).2 (.inr rfl))]
    · rw [has_put_other (kI_natne e), h.has]
      by_cases q : j ∈ r
      · rw [decide_eq_true q, decide_eq_true ((hmem j).2 (.inl q))]
      · rw [decide_eq_false q, decide_eq_false (fun z => ((hmem j).1 z).elim q e)]
  · rw [has_put_other (kI_ne (by omega))]
    exact h.no c hc
  · rw [List.nodup_append]
    refine ⟨wo_nodup h.nd _, by simp, fun a ha b hb => ?_⟩
    rw [List.mem_singleton.1 hb]
    exact (mem_wo.1 ha).2
  · rcases (hmem j).1 hj with q | q
    · exact h.lt j q
    · rw [q]; exact hk
/-- stored where there was one -/
theorem HasH.set (h : HasH w b r V D) {k : Nat} (hk : k ∈ r) (x : Hd) (ho : w'.ownsMap Tryd.prog 3 heldElem b 1001 (D.put (kI (k : Int)) (hD x))) :
    HasH w' b r (up V k x) (D.put (kI (k : Int)) (hD x)) := by
  have hl : (wo r k ++ [k]).length = r.length := by rw [List.length_append, List.length_singleton, wo_len1 h.nd hk]
  have h1 := h.put (h.lt k hk) x (by rw [hl]; exact h.len) ho
  have hmem : ∀ j, j ∈ r → j ∈ wo r k ++ [k] := fun j hj => by
    by_cases e : j = k
    · exact List.mem_append_right _ (List.mem_singleton.2 e)
    · exact List.mem_append_left _ (mem_wo.2 ⟨hj, e⟩)
  have hmem' : ∀ j, j ∈ wo r k ++ [k] → j ∈ r := fun j hj => by
    rcases List.mem_append.1 hj with q | q
    · exact (mem_wo.1 q).1
    · rw [List.mem_singleton.1 q]; exact hk
  refine ⟨h1.own, fun j hj => h1.val j (hmem j hj), fun j => ?_, h1.no, by rw [h1.size, hl], h.nd, h.len, h.lt⟩
  rw [h1.has]
  by_cases q : j ∈ r
  · rw [decide_eq_true q, decide_eq_true (hmem j q)]
  · rw [decide_eq_false q, decide_eq_false (fun z => q (hmem' j z))]
theorem HasH.del (h : HasH w b r V D) {k : Nat} (hk : k ∈ r) (ho : w'.ownsMap Tryd.prog 3 heldElem b 1000 (D.del (kI (k : Int)))) : HasH w' b (wo r k) V (D.del (kI (k : Int))) := by
  have hl := wo_len1 h.nd hk
  have hs : Maps.size (D.del (kI (k : Int))) = (wo r k).length := by
    have := size_del (k := kI (k : Int)) (h.own.tidy lawI)
    rw [h.has, h.size, decide_eq_true hk, if_pos rfl] at this
    omega
  refine ⟨ho, fun j hj => ?_, fun j => ?_, fun c hc => ?_, hs, wo_nodup h.nd _, by have := h.len; omega, fun j hj => h.lt j (mem_wo.1 hj).1⟩
  · rw [atKey_del_other (kI_natne (mem_wo.1 hj).2), h.val j (mem_wo.1 hj).1]
  · by_cases e : j = k
    · subst e; rw [has_del_same, decide_eq_false (fun q => (mem_wo.1 q).2 rfl)]
    · rw [has_del_other (kI_natne e), h.has]
      by_cases q : j ∈ r
      · rw [decide_eq_true q, decide_eq_true (mem_wo.2 ⟨q, e⟩)]
      · rw [decide_eq_false q, decide_eq_false (fun z => q (mem_wo.1 z).1)]
  · rw [has_del_other (kI_ne (by omega))]
    exact h.no c hc
/-- a key that there is -/
theorem HasH.key (h : HasH w b r V D) {c : Int} (hc : Maps.has D (kI c) = true) : ∃ k : Nat, c = k ∧ k ∈ r := by
  by_cases q : c < 0
  · rw [h.no c q] at hc; cases hc
  · obtain ⟨k, rfl⟩ : ∃ k : Nat, c = k := ⟨c.toNat, by omega⟩
    rw [h.has, decide_eq_true_eq] at hc
    exact ⟨k, rfl, hc⟩
/-- looks, as equations -/
theorem HasH.run_look (h : HasH w b r V D) (k : Nat) (hk : k < 1000) : (Instr.lookup 79 (.map (some b)) (.int .i64 (k : Int)) false).run Tryd.prog w = .ok (hv (atH r V k)) w := by
  obtain ⟨v, ps, e1, e2⟩ := h.own.lookup lawI Tryd.underlying79 (zeroH w) (heldElem_mk hz) (keyI (c := (k : Int)) (by omega))
  rw [h.look k] at e2
  rw [e1, heldElem_is e2]
theorem HasH.run_look2 (h : HasH w b r V D) (k : Nat) (hk : k < 1000) : (Instr.lookup 79 (.map (some b)) (.int .i64 (k : Int)) true).run Tryd.prog w = .ok (.tuple #[hv (atH r V k), .bool (decide (k ∈ r))]) w := by
  obtain ⟨v, ps, e1, e2⟩ := h.own.look_ok lawI Tryd.underlying79 (zeroH w) (heldElem_mk hz) (keyI (c := (k : Int)) (by omega))
  rw [h.look k] at e2
  rw [e1, heldElem_is e2, h.has]
theorem HasH.run_len (h : HasH w b r V D) (ty : TypeId) : (Builtin.len_ #[79] ty #[.map (some b)]).run Tryd.prog w = .ok (.int .i64 (r.length : Int)) w := by
  rw [h.own.len Tryd.underlying79 ty, h.size]
/-- a store, as an equation -/
theorem HasH.run_put (h : HasH w b r V D) (k : Nat) (hk : k < 1000) (x : Hd) : ∃ w', (Instr.mapUpdate 79 (.map (some b)) (.int .i64 (k : Int)) (hv x)).run Tryd.prog w = .ok () w' ∧ w'.ownsMap Tryd.prog 3 heldElem b 1001 (D.put (kI (k : Int)) (hD x)) ∧ w.grownBy w' (some b) :=
  h.own.update lawI Tryd.underlying79 (by unfold maxLen; omega) (keyI (by omega)) (heldElem_mk x)
section
variable {ops : Array Oper} {rest : List Oper} {o : Oper} {a : Act} {Q : Exit → Act → World → Prop}
theorem wp_deleH (h : HasH w b r V D) (k : Nat) (hk : k ∈ r) (hg : o.guard = none) (mo x : Operand) (hop : o.op = Op.call { callee := Callee.builtin Builtin.delete, args := #[mo, x], argTypes := #[79, 3] }) (hm : a.eval mo = .map (some b)) (hx : a.eval x = .int .i64 k)
    (hK : ∀ w' D', HasH w' b (wo r k) V D' → w.grownBy w' (some b) → wpList Tryd.prog ops Q rest (a.put o.dst (.tuple #[])) w') : wpList Tryd.prog ops Q (o :: rest) a w := by
  refine wpList_delete_own w hg mo x _ 3 hop 86 lawI Tryd.underlying79 _ b 1000 D hm h.own _ (kI k) hx (keyI (by have := h.lt k hk; omega)) ?_
  intro w1 ho hgr
  exact hK w1 _ (h.del hk ho) hgr.grown
/-- 'clear(m)' -/
theorem run_clearH (h : HasH w b r V D) : ∃ w', (∀ ty, (Builtin.clear_ #[79] ty #[.map (some b)]).run Tryd.prog w = .ok (.tuple #[]) w') ∧ HasH w' b [] V (.map []) ∧ w.grownBy w' (some b) := by
  obtain ⟨⟨es, clock, hb, F, hs, hD⟩, _⟩ := h
  refine ⟨{ w with heap := w.heap.setIfInBounds b (.map #[] clock) }, ?_, ⟨⟨#[], clock, ?_, ⟨by simp, Go.MapKept.stamped_empty clock, by simp⟩, Nat.zero_le _, rfl⟩, fun _ h => (by cases h), fun _ => rfl, fun _ _ => rfl, rfl, List.nodup_nil, Nat.zero_le _, fun _ h => (by cases h)⟩, ?_⟩
  · intro ty
    simp [Builtin.clear_, run_underlying Tryd.underlying79, MapKept.run_getObj_map hb, MapKept.run_setObj_map _ hb, Result.andThen]
  · exact Go.ChangeMaps.heap_setBlock_same hb _
  · exact ⟨rfl, rfl, rfl, by simp, fun i _ hi => Go.ChangeMaps.heap_setBlock_other hb _ (fun e => hi (by rw [e]))⟩
end
end Go.Proofs.YtfeikmmojilmbaaDoor
