/- Texts of plain mathematics, of memory and of walks, in one. -/
import Derived.Test.YtilfjahbdlepjaaDoorPa
import Derived.Test.YtilfjahbdlepjaaDoorEr
import Derived.Test.YtilfjahbdlepjaaDoorPw
import Derived.Test.YtilfjahbdlepjaaDoorMt
import Derived.BigCall
import Derived.BigGuard
/- A disk that failed, was replaced, and built has what it had: on the model. -/
namespace Go.Proofs.YtilfjahbdlepjaaDoor
open Go.RowKit El Pol Mx Lay
/-- nothing is lost -/
def Arr.full (a : Arr) : Prop := ∀ e, a.failed e = false ∧ a.built e = a.rows
namespace Arr
theorem full_fresh (n rows size : Nat) : (fresh n rows size).full := fun _ => ⟨rfl, rfl⟩
theorem full_write {a : Arr} (h : a.full) (b : Int) (t : List El) : (a.write b t).full := by
  unfold write
  split
  · exact h
  · exact h
theorem full_gone {a : Arr} (h : a.full) (e r : Nat) (hr : r < a.rows) : a.gone e r = false := by
  unfold gone
  rw [(h e).1, (h e).2]
  simp
  omega
theorem nl_zero {a : Arr} {r : Nat} (h : ∀ e, a.gone e r = false) : a.nl r = 0 := by
  unfold nl gn
  rw [List.length_eq_zero_iff, List.filter_eq_nil_iff]
  intro i _
  show ¬ a.gone i r = true
  rw [h i]
  exact Bool.false_ne_true
theorem rebuildE_zero {b : Arr} {d r : Nat} (hn : d < b.n) (hf : b.failed d = false) (hb : b.built d = r) (hr : r < b.rows) (h2 : b.nl r ≤ 2) : b.rebuildE (d : Int) = 0 := by
  rw [rebuildE_nat hn, hb, if_neg (fun z => z.elim (fun z => by rw [hf] at z; cases z) (fun z => by omega)), if_neg (by omega)]
end Arr
/-- failed, replaced, and r rows of it built -/
noncomputable def rb (a : Arr) (d : Nat) : Nat → Arr
  | 0 => (a.fail (d : Int)).replace (d : Int)
  | r + 1 => (rb a d r).rebuild (d : Int)
section
variable {a : Arr} {c : Nat → List El} {d : Nat}
theorem rb_fail (hd : d < a.n) (hF : a.full) : a.failE (d : Int) = 0 ∧ (a.fail (d : Int)).replaceE (d : Int) = 0 := by
  refine ⟨by rw [Arr.failE_nat hd, (hF d).1]; rfl, ?_⟩
  rw [Arr.replaceE_nat (by rw [Arr.fail_n]; exact hd), Arr.fail_failed hd, up_at, if_pos rfl]
theorem rb_keep (hK : Keep a c) (hF : a.full) : ∀ r, Keep (rb a d r) c
  | 0 => (hK.fail (d : Int) (fun r hr => by rw [Arr.nl_zero (fun e => Arr.full_gone hF e r hr)]; omega)).replace (d : Int)
  | r + 1 => (rb_keep hK hF r).rebuild (d : Int)
theorem rb_state (hK : Keep a c) (hF : a.full) (hd : d < a.n) : ∀ r, r ≤ a.rows → ((rb a d r).n = a.n ∧ (rb a d r).rows = a.rows ∧ (rb a d r).size = a.size) ∧ (∀ e, (rb a d r).failed e = false) ∧ ∀ e, (rb a d r).built e = if e = d then r else a.rows
  | 0, _ => by
    obtain ⟨s1, s2, s3, s4, s5⟩ := Arr.fail_same a (d : Int)
    have hf : (a.fail (d : Int)).failed d = true := by rw [Arr.fail_failed hd, up_at]
    have e := Arr.replace_yes (a := a.fail (d : Int)) (k := d) (by rw [s1]; exact hd) hf
    show ((((a.fail (d : Int)).replace (d : Int)).n = a.n ∧ _) ∧ (∀ e, ((a.fail (d : Int)).replace (d : Int)).failed e = false) ∧ ∀ e, ((a.fail (d : Int)).replace (d : Int)).built e = _)
    have e0 : rb a d 0 = (a.fail (d : Int)).replace (d : Int) := rfl
    rw [e0, e]
    refine ⟨⟨s1, s2, s3⟩, fun x => ?_, fun x => ?_⟩
    · show up (a.fail (d : Int)).failed d false x = false
      by_cases q : x = d
      · subst q; rw [up_at]
      · rw [up_ne _ _ q, Arr.fail_failed hd, up_ne _ _ q]; exact (hF x).1
    · show up (a.fail (d : Int)).built d 0 x = _
      by_cases q : x = d
      · subst q; rw [up_at, if_pos rfl]
      · rw [up_ne _ _ q, if_neg q, s5]; exact (hF x).2
  | r + 1, hr => by
    obtain ⟨⟨s1, s2, s3⟩, s4, s5⟩ := rb_state hK hF hd r (by omega)
    have hb : (rb a d r).built d = r := by rw [s5, if_pos rfl]
    have hk := rb_keep (d := d) hK hF r
    have hE : (rb a d r).rebuildE (d : Int) = 0 := Arr.rebuildE_zero (by rw [s1]; exact hd) (s4 d) hb (by rw [s2]; omega) (hk.few r (by rw [s2]; omega))
    have e := (Arr.rebuild_yes hE).1
    have e0 : rb a d (r + 1) = (rb a d r).rebuild (d : Int) := rfl
    rw [e0, e]
    refine ⟨⟨s1, s2, s3⟩, s4, fun x => ?_⟩
    show up (rb a d r).built d ((rb a d r).built d + 1) x = _
    by_cases q : x = d
    · subst q; rw [up_at, hb, if_pos rfl]
    · rw [up_ne _ _ q, s5, if_neg q, if_neg q]
theorem rb_E (hK : Keep a c) (hF : a.full) (hd : d < a.n) {r : Nat} (hr : r < a.rows) : (rb a d r).rebuildE (d : Int) = 0 ∧ (rb a d r).rebuildN (d : Int) = a.rows - (r + 1) := by
  obtain ⟨⟨s1, s2, s3⟩, s4, s5⟩ := rb_state hK hF hd r (by omega)
  have hb : (rb a d r).built d = r := by rw [s5, if_pos rfl]
  have hk := rb_keep (d := d) hK hF r
  have hE : (rb a d r).rebuildE (d : Int) = 0 := Arr.rebuildE_zero (by rw [s1]; exact hd) (s4 d) hb (by rw [s2]; omega) (hk.few r (by rw [s2]; omega))
  refine ⟨hE, ?_⟩
  rw [(Arr.rebuild_yes hE).2, s2, hb]
theorem rb_last (hK : Keep a c) (hF : a.full) (hd : d < a.n) : (rb a d a.rows).rebuildE (d : Int) = 6 := by
  obtain ⟨⟨s1, s2, s3⟩, s4, s5⟩ := rb_state hK hF hd a.rows (Nat.le_refl _)
  rw [Arr.rebuildE_nat (by rw [s1]; exact hd), if_pos (.inr (by rw [s5, if_pos rfl, s2]))]
theorem rb_part (hK : Keep a c) (hF : a.full) (hd : d < a.n) {r : Nat} (hr : r < a.rows) (i : Nat) (hi : i < a.n) : (rb a d (r + 1)).part r i = a.part r i := by
  obtain ⟨⟨s1, s2, s3⟩, s4, s5⟩ := rb_state hK hF hd (r + 1) (by omega)
  have hk := rb_keep (d := d) hK hF (r + 1)
  have h1 := hk.part_is (r := r) (i := i) (by rw [s2]; exact hr) (by rw [s1]; exact hi) (by
    unfold Arr.lo Arr.gone
    rw [s4, s5]
    split <;> simp <;> omega)
  have h2 := hK.part_is (r := r) (i := i) hr hi (Arr.full_gone hF _ _ hr)
  rw [h1, h2, s1, s3]
theorem rb_ok (hK : Keep a c) (hF : a.full) (r : Nat) : (rb a d r).ok := (rb_keep hK hF r).ok
end
end Go.Proofs.YtilfjahbdlepjaaDoor

/- ArrayRebuilds: what its loops keep, and walks over the program. -/
namespace Go.Proofs.YtilfjahbdlepjaaDoor
open Go.RowKit El Pol Mx Lay
theorem infoSS : (Tryd.prog.info? 22).map (fun i => (i.zero, i.size, i.bytes)) = some (some (.slice none 0 0), 1, 24) := by kernel_rfl
theorem owns_len2 {B : Nat} {T : TypeId} {w : World} {v : Value} {n : Nat} {xs : List Value} (h : w.ownsRow B T 1 v n xs) : ∃ ao cap, v = .slice ao n cap := by
  rcases h.2 with ⟨rfl, e⟩ | ⟨g, cap, cur, rfl, _⟩
  · exact ⟨none, 0, by rw [e]⟩
  · exact ⟨_, cap, rfl⟩
/-- the lists of parts that were gathered -/
structure WasS (B n : Nat) (A : Arr) (r : Nat) (V : Value) (q : Nat → Nat) (wr : World) : Prop where
  own : wr.ownsRow B 22 1 V r ((List.range r).map (fun s => .slice (some ⟨q s, 0, none⟩) n n))
  row : ∀ s, s < r → RowAt wr (q s) n (fun i => st (A.part s i)) ∧ B ≤ q s ∧ V.ownBlock ≠ some (q s)
namespace WasS
variable {B n r : Nat} {A : Arr} {V : Value} {q : Nat → Nat} {wr w' : World}
theorem old (h : WasS B n A r V q wr) (hb : Below wr.heap.size wr w') : WasS B n A r V q w' :=
  ⟨ownsRow_old h.own hb, fun s hs => ⟨(h.row s hs).1.old hb, (h.row s hs).2⟩⟩
theorem but {F : Nat → Prop} (h : WasS B n A r V q wr) (hb : But F wr w') (hF : ∀ i, F i → i < B) : WasS B n A r V q w' :=
  ⟨ownsRow_but h.own hb (fun k hk hf => by have := (World.ownsRow.lt h.own k hk).1; have := hF k hf; omega), fun s hs => ⟨(h.row s hs).1.but hb (fun hf => by have := (h.row s hs).2.1; have := hF _ hf; omega), (h.row s hs).2⟩⟩
theorem emp (B n : Nat) (A : Arr) (q : Nat → Nat) (wr : World) : WasS B n A 0 (.slice none 0 0) q wr := ⟨World.ownsRow_nil _ _ _ _, fun _ hs => absurd hs (Nat.not_lt_zero _)⟩
/-- one more is gathered -/
theorem push {w1 w2 w5 : World} {g1 : Nat} {v5 : Value} (h : WasS B n A r V q wr) (hBw : B ≤ wr.heap.size) (hb : Below wr.heap.size wr w1) (hr : RowAt w1 g1 n (fun i => st (A.part r i))) (hg : wr.heap.size ≤ g1)
    (h2 : Below w1.heap.size w1 w2) (hown : w5.ownsRow B 22 1 v5 (r + 1) ((List.range r).map (fun s => .slice (some ⟨q s, 0, none⟩) n n) ++ [.slice (some ⟨g1, 0, none⟩) n n]))
    (hgrow : w2.grownBy w5 V.ownBlock) (hsn : SameOrNew w2 V v5) : WasS B n A (r + 1) v5 (up q r g1) w5 := by
  have hb2 := hb.size
  have hb3 := h2.size
  have hVlt : ∀ k, V.ownBlock = some k → k < wr.heap.size := fun k hk => (World.ownsRow.lt h.own k hk).2
  have hne : ∀ k, V.ownBlock ≠ some k → k < w2.heap.size → v5.ownBlock ≠ some k := fun k hk hlt e => by
    rcases hsn with z | z
    · rw [z] at e; exact hk e
    · have := z k e; omega
  have hrow : ∀ k (f : Nat → Value), RowAt w2 k n f → V.ownBlock ≠ some k → RowAt w5 k n f := fun k f hk hn => by
    refine ⟨Nat.lt_of_lt_of_le hk.1 hgrow.size, fun i hi => ?_⟩
    have e := hgrow.block k hk.1 (fun e => hn e.symm)
    rw [World.cell?_of_block (a := ⟨k, i, none⟩) (w := w2) (w' := w5) e, World.frozen?_of_block (a := ⟨k, i, none⟩) (w := w2) (w' := w5) e]
    exact hk.2 i hi
  refine ⟨?_, fun s hs => ?_⟩
  · have e : (List.range (r + 1)).map (fun s => Value.slice (some ⟨up q r g1 s, 0, none⟩) n n) = (List.range r).map (fun s => .slice (some ⟨q s, 0, none⟩) n n) ++ [.slice (some ⟨g1, 0, none⟩) n n] := by
      rw [List.range_succ, List.map_append, List.map_cons, List.map_nil, up_at]
      congr 1
      refine List.map_congr_left (fun s hs => ?_)
      rw [up_ne _ _ (by have := List.mem_range.1 hs; omega)]
    rw [e]
    exact hown
  · by_cases e : s = r
    · subst e
      rw [up_at]
      have hn : V.ownBlock ≠ some g1 := fun z => by have := hVlt g1 z; omega
      exact ⟨hrow g1 _ (hr.old h2) hn, by omega, hne g1 hn (Nat.lt_of_lt_of_le hr.1 hb3)⟩
    · rw [up_ne _ _ e]
      obtain ⟨x1, x2, x3⟩ := h.row s (by omega)
      exact ⟨hrow _ _ ((x1.old hb).old h2) x3, x2, hne _ x3 (by have := x1.1; omega)⟩
end WasS
/-- between the writes -/
def Wrt (w : World) (x : PAd) (n rows i : Nat) (wr : World) : Prop := ∃ (A : Arr) (c : Nat → List El) (N : Nat), AL w x A N wr ∧ Keep A c ∧ A.full ∧ (A.n = n ∧ A.rows = rows ∧ A.size = 2) ∧ N ≤ 3 * i
theorem Wrt.old {w wr w' : World} {x : PAd} {n rows i : Nat} (h : Wrt w x n rows i wr) (hb : Below wr.heap.size wr w') : Wrt w x n rows i w' := by
  obtain ⟨A, c, N, h1, h2⟩ := h
  exact ⟨A, c, N, h1.old hb, h2⟩
theorem Wrt.skip {w wr : World} {x : PAd} {n rows i : Nat} (h : Wrt w x n rows i wr) : Wrt w x n rows (i + 1) wr := by
  obtain ⟨A, c, N, h1, h2, h3, h4, h5⟩ := h
  exact ⟨A, c, N, h1, h2, h3, h4, by omega⟩
theorem Wrt.write {w wr : World} {x : PAd} {n rows i : Nat} (h : Wrt w x n rows i wr) (hi : i < rows * (n - 2)) (hn : n ≤ 10) (hr : rows ≤ 20) (t : List El) (ht : t.length = 2) :
    Calls Tryd.prog 6 #[.pointer (some ⟨x.p, 0, none⟩), .int .i64 i, st t] wr fun e w' => e = .returned .nilIface ∧ Wrt w x n rows (i + 1) w' ∧ wr.heap.size ≤ w'.heap.size := by
  obtain ⟨A, c, N, h1, h2, h3, ⟨h4, h5, h6⟩, h7⟩ := h
  have hbig : rows * (n - 2) ≤ 20 * 8 := Nat.mul_le_mul hr (by omega)
  have hb : ¬ A.noB (i : Int) := by unfold Arr.noB; rw [h4, h5]; omega
  have hE := h2.writeE hb (show t.length = A.size by rw [h6]; exact ht)
  have hK := h2.write hb (show t.length = A.size by rw [h6]; exact ht)
  have := pa_write h1.pa h2.ok (by omega) (i : Int) (by omega) t
  rw [hE, errV, if_pos rfl] at this
  refine this.mono fun e w' ⟨he, hp, hbt⟩ => ⟨he, ⟨A.write (i : Int) t, _, N + 3, h1.next hp hbt (Arr.write_n _ _ _), hK, Arr.full_write h3 _ _, ?_, by omega⟩, hbt.size⟩
  have e2 : (A.write (i : Int) t).rows = A.rows ∧ (A.write (i : Int) t).size = A.size := by unfold Arr.write; split <;> exact ⟨rfl, rfl⟩
  exact ⟨(Arr.write_n _ _ _).trans h4, e2.1.trans h5, e2.2.trans h6⟩
end Go.Proofs.YtilfjahbdlepjaaDoor
