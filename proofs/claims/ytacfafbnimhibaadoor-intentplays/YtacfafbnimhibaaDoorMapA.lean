/- A map from whole numbers to whole numbers in memory: how often each number; laws at the operations. -/
import Derived.Test.YtacfafbnimhibaaDoorFoot
import Derived.Maps.RangeWalk
namespace Go.Proofs.YtacfafbnimhibaaDoor
open Go.RowKit Go.Maps
theorem lawI : Keyed Tryd.prog 3 := int_keyed Tryd.underlying3
theorem zeroI (w : World) : (zeroValue 3).run Tryd.prog w = .ok (.int .i64 0) w := by kernel_rfl
/-- a number as a key -/
abbrev kI (c : Int) : Lit := .int .i64 c
theorem kI_ne {a b : Int} (h : a ≠ b) : kI a ≠ kI b := fun e => h (by injection e)
theorem kI_natne {a b : Nat} (h : a ≠ b) : kI (a : Int) ≠ kI (b : Int) := kI_ne (by omega)
theorem keyI {c : Int} (h : 0 ≤ c ∧ c < 1000) : keyOf Tryd.prog 3 (.int .i64 c) = some (kI c) := keyOf_int_mk Tryd.underlying3 (WalkArith.wf_i64 (by omega))
/-- block b is a map that says how often: of numbers below m alone, none more often than N -/
structure HasM (w : World) (b m : Nat) (f : Nat → Nat) (N : Nat) (D : DataW Unit) : Prop where
  own : w.ownsMap Tryd.prog 3 (plainElem Tryd.prog 3) b N D
  val : ∀ k : Nat, D.atKey (kI k) (.lit (.int .i64 0)) = .lit (.int .i64 (f k))
  has : ∀ k : Nat, Maps.has D (kI k) = decide (0 < f k)
  no : ∀ c : Int, c < 0 ∨ (m : Int) ≤ c → Maps.has D (kI c) = false
  le : ∀ k, f k ≤ N
variable {w w' : World} {b m N : Nat} {f : Nat → Nat} {D : DataW Unit}
theorem HasM.lt (h : HasM w b m f N D) : b < w.heap.size := h.own.lt
theorem HasM.blk (h : HasM w b m f N D) (e : w'.heap[b]? = w.heap[b]?) : HasM w' b m f N D := by
  obtain ⟨⟨es, clock, hb, rest⟩, h2, h3, h4, h5⟩ := h
  exact ⟨⟨es, clock, e.trans hb, rest⟩, h2, h3, h4, h5⟩
theorem HasM.mono (h : HasM w b m f N D) {N' : Nat} (hn : N ≤ N') : HasM w b m f N' D := ⟨h.own.mono hn, h.val, h.has, h.no, fun k => Nat.le_trans (h.le k) hn⟩
theorem HasM.notCells (h : HasM w b m f N D) {p : Nat} {c : Array Value} {t : TypeId} {z : Nat × Nat} (hp : w.heap[p]? = some (.cells c t z)) : p ≠ b := by
  obtain ⟨⟨es, clock, hb, _⟩, _⟩ := h
  intro e
  rw [e, hb] at hp
  cases hp
theorem HasM.new (w : World) (m : Nat) : HasM (w.alloc (.map #[] 0)) w.heap.size m (fun _ => 0) 0 (.map []) :=
  ⟨World.ownsMap_made w _ _ _, fun _ => rfl, fun _ => rfl, fun _ _ => rfl, fun _ => Nat.le_refl _⟩
theorem HasM.put (h : HasM w b m f N D) {k n : Nat} (hk : k < m) (hn : 0 < n) (hN : n ≤ N + 1) (ho : w'.ownsMap Tryd.prog 3 (plainElem Tryd.prog 3) b (N + 1) (D.put (kI k) (.lit (.int .i64 n)))) :
    HasM w' b m (up f k n) (N + 1) (D.put (kI k) (.lit (.int .i64 n))) := by
  have hm := h.own.isMap
  refine ⟨ho, fun j => ?_, fun j => ?_, fun c hc => ?_, fun j => ?_⟩
  · by_cases e : j = k
    · subst e; rw [up_at, atKey_put_same hm (k := kI j) trivial]
    · rw [up_ne _ _ e, atKey_put_other (kI_natne e), h.val]
  · by_cases e : j = k
    · subst e; rw [up_at, has_put_same hm (k := kI j) trivial]; simp [hn]
    · rw [up_ne _ _ e, has_put_other (kI_natne e), h.has]
  · rw [has_put_other (kI_ne (by omega))]
    exact h.no c hc
  · by_cases e : j = k
    · subst e; rw [up_at]; exact hN
    · rw [up_ne _ _ e]; exact Nat.le_succ_of_le (h.le j)
theorem HasM.del (h : HasM w b m f N D) {k : Nat} (ho : w'.ownsMap Tryd.prog 3 (plainElem Tryd.prog 3) b N (D.del (kI k))) : HasM w' b m (up f k 0) N (D.del (kI k)) := by
  refine ⟨ho, fun j => ?_, fun j => ?_, fun c hc => ?_, fun j => ?_⟩
  · by_cases e : j = k
    · subst e; rw [up_at, atKey_del_same]; rfl
    · rw [up_ne _ _ e, atKey_del_other (kI_natne e), h.val]
  · by_cases e : j = k
    · subst e; rw [up_at, has_del_same]; rfl
    · rw [up_ne _ _ e, has_del_other (kI_natne e), h.has]
  · by_cases e : c = k
    · rw [e, has_del_same]
    · rw [has_del_other (kI_ne e)]
      exact h.no c hc
  · by_cases e : j = k
    · subst e; rw [up_at]; exact Nat.zero_le _
    · rw [up_ne _ _ e]; exact h.le j
/-- a key that there is -/
theorem HasM.key (h : HasM w b m f N D) {c : Int} (hc : Maps.has D (kI c) = true) : ∃ k : Nat, c = k ∧ k < m ∧ 0 < f k := by
  by_cases q : c < 0 ∨ (m : Int) ≤ c
  · rw [h.no c q] at hc; cases hc
  · obtain ⟨k, rfl⟩ : ∃ k : Nat, c = k := ⟨c.toNat, by omega⟩
    rw [h.has, decide_eq_true_eq] at hc
    exact ⟨k, rfl, by omega, hc⟩
section
variable {ops : Array Oper} {rest : List Oper} {o : Oper} {a : Act} {Q : Exit → Act → World → Prop}
theorem wp_look (h : HasM w b m f N D) (k : Nat) (hk : k < 1000) (hg : o.guard = none) (mo x : Operand) (hop : o.op = Op.lookup 65 mo x false) (hm : a.eval mo = .map (some b)) (hx : a.eval x = .int .i64 k)
    (hK : wpList Tryd.prog ops Q rest (a.put o.dst (.int .i64 (f k))) w) : wpList Tryd.prog ops Q (o :: rest) a w := by
  refine wpList_lookup_own_int w hg mo x _ hop 3 3 .i64 lawI Tryd.underlying65 Tryd.underlying3 (zeroI _) b N D hm h.own _ (kI k) hx (keyI (by omega)) ?_
  intro c hat _
  rw [h.val k] at hat
  cases hat
  exact hK
theorem wp_stor (h : HasM w b m f N D) (k : Nat) (hk : k < m) (hm1 : m < 1000) (n : Nat) (hn : 0 < n) (hN : n ≤ N + 1) (hN2 : N < 4611686018427387904) (hg : o.guard = none) (mo x v : Operand) (hop : o.op = Op.mapUpdate 65 mo x v) (hm : a.eval mo = .map (some b)) (hx : a.eval x = .int .i64 k) (hv : a.eval v = .int .i64 n)
    (hK : ∀ w' D', HasM w' b m (up f k n) (N + 1) D' → w.grownBy w' (some b) → wpList Tryd.prog ops Q rest (a.put o.dst undef) w') : wpList Tryd.prog ops Q (o :: rest) a w := by
  refine wpList_mapUpdate_own w hg mo x v _ hop 3 3 lawI Tryd.underlying65 _ b N D hm h.own (by unfold maxLen; omega) _ _ (kI k) hx hv (keyI (by omega)) (.lit (.int .i64 n)) [] (plainElem_int Tryd.underlying3 (WalkArith.wf_i64 (by omega))) ?_
  intro w1 ho hgr
  exact hK w1 _ (h.put hk hn hN ho) hgr
theorem wp_dele (h : HasM w b m f N D) (k : Nat) (hk : k < 1000) (hg : o.guard = none) (mo x : Operand) (hop : o.op = Op.call { callee := Callee.builtin Builtin.delete, args := #[mo, x], argTypes := #[65, 3] }) (hm : a.eval mo = .map (some b)) (hx : a.eval x = .int .i64 k)
    (hK : ∀ w' D', HasM w' b m (up f k 0) N D' → w.grownBy w' (some b) → wpList Tryd.prog ops Q rest (a.put o.dst (.tuple #[])) w') : wpList Tryd.prog ops Q (o :: rest) a w := by
  refine wpList_delete_own w hg mo x _ 3 hop 3 lawI Tryd.underlying65 _ b N D hm h.own _ (kI k) hx (keyI (by omega)) ?_
  intro w1 ho hgr
  exact hK w1 _ (h.del ho) hgr.grown
/-- 'clear(m)' -/
theorem run_clear (h : HasM w b m f N D) : ∃ w', (∀ ty, (Builtin.clear_ #[65] ty #[.map (some b)]).run Tryd.prog w = .ok (.tuple #[]) w') ∧ HasM w' b m (fun _ => 0) N (.map []) ∧ w.grownBy w' (some b) := by
  obtain ⟨⟨es, clock, hb, F, hs, hD⟩, _⟩ := h
  refine ⟨{ w with heap := w.heap.setIfInBounds b (.map #[] clock) }, ?_, ⟨⟨#[], clock, ?_, ⟨by simp, Go.MapKept.stamped_empty clock, by simp⟩, Nat.zero_le _, rfl⟩, fun _ => rfl, fun _ => rfl, fun _ _ => rfl, fun _ => Nat.zero_le _⟩, ?_⟩
  · intro ty
    simp [Builtin.clear_, run_underlying Tryd.underlying65, MapKept.run_getObj_map hb, MapKept.run_setObj_map _ hb, Result.andThen]
  · exact Go.ChangeMaps.heap_setBlock_same hb _
  · exact ⟨rfl, rfl, rfl, by simp, fun i _ hi => Go.ChangeMaps.heap_setBlock_other hb _ (fun e => hi (by rw [e]))⟩
end
end Go.Proofs.YtacfafbnimhibaaDoor
