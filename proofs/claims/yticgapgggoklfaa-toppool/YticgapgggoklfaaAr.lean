/- Texts of plain mathematics, of memory and of walks, in one. -/
import Derived.Test.YticgapgggoklfaaMt
import Derived.Test.YticgapgggoklfaaMa
/- All disks together: a model, which the document's array and the program's both follow. -/
namespace Go.Proofs.Yticgapgggoklfaa
open El Pol Mx Lay
/-- the data that parts tell, of which some are lost -/
noncomputable def hd (k L : Nat) (a : Nat → List El) (lost : Nat → Bool) : M := by
  classical
  exact if h : ∃ D, Healed k L (mx a) lost D then Classical.choose h else fun _ _ => 0
/-- all parts, healed -/
noncomputable def hl (k L : Nat) (a : Nat → List El) (lost : Nat → Bool) (i : Nat) : List El := row (pqp k (hd k L a lost) i) L
theorem hl_is {k L : Nat} {a : Nat → List El} {lost : Nat → Bool} {D : M} (hk : k ≤ 10) (h2 : (gn lost k).length ≤ 2) (h : Healed k L (mx a) lost D) (i : Nat) : row (pqp k D i) L = hl k L a lost i := by
  have hs : Healed k L (mx a) lost (hd k L a lost) := by
    unfold hd
    rw [dif_pos ⟨D, h⟩]
    exact Classical.choose_spec (⟨D, h⟩ : ∃ D, Healed k L (mx a) lost D)
  exact row_congr (fun l hl' => pqp_congr (Healed.same hk h2 h hs) i l hl')
theorem hl_len (k L : Nat) (a : Nat → List El) (lost : Nat → Bool) (i : Nat) : (hl k L a lost i).length = L := row_length _ _
/-- n disks of rows of blocks; what each has; which have failed; up to where each is built -/
structure Arr where
  n : Nat
  rows : Nat
  size : Nat
  cell : Nat → Nat → List El
  failed : Nat → Bool
  built : Nat → Nat
namespace Arr
def ok (a : Arr) : Prop := (3 ≤ a.n ∧ a.n ≤ 10) ∧ (1 ≤ a.rows ∧ a.rows ≤ 20) ∧ (1 ≤ a.size ∧ a.size ≤ 16) ∧ (∀ d r, d < a.n → r < a.rows → (a.cell d r).length = a.size) ∧ ∀ d, d < a.n → a.built d ≤ a.rows
/-- what a disk has in a row is lost -/
def gone (a : Arr) (d r : Nat) : Bool := a.failed d || decide (a.built d ≤ r)
/-- the i-th part of a row is lost -/
def lo (a : Arr) (r i : Nat) : Bool := a.gone (ord a.n r i) r
/-- the parts of a row -/
def part (a : Arr) (r i : Nat) : List El := if a.lo r i = true then [] else a.cell (ord a.n r i) r
/-- how many are lost in a row -/
def nl (a : Arr) (r : Nat) : Nat := (gn (fun d => a.gone d r) a.n).length
/-- a row, healed -/
noncomputable def heal (a : Arr) (r i : Nat) : List El := hl (a.n - 2) a.size (a.part r) (a.lo r) i
end Arr
/-- the disks of a row are all disks -/
theorem ord_perm_all : (List.range 8).all (fun m => (List.range 20).all (fun r => ((List.range (m + 3)).map (ord (m + 3) r)).isPerm (List.range (m + 3)))) = true := by decide +kernel
theorem ord_perm {n r : Nat} (h1 : 3 ≤ n) (h2 : n ≤ 10) (hr : r < 20) : ((List.range n).map (ord n r)).Perm (List.range n) := by
  have h := List.all_eq_true.1 (List.all_eq_true.1 ord_perm_all (n - 3) (List.mem_range.2 (by omega))) r (List.mem_range.2 hr)
  rw [show n - 3 + 3 = n by omega] at h
  exact List.isPerm_iff.1 h
theorem gn_ord {n r : Nat} (h1 : 3 ≤ n) (h2 : n ≤ 10) (hr : r < 20) (p : Nat → Bool) : (gn (fun i => p (ord n r i)) n).length = (gn p n).length := by
  unfold gn
  rw [← List.countP_eq_length_filter, ← List.countP_eq_length_filter]
  have := (ord_perm h1 h2 hr).countP_eq p
  rw [List.countP_map] at this
  exact this
namespace Arr
theorem nl_lo {a : Arr} (h : a.ok) {r : Nat} (hr : r < a.rows) : (gn (a.lo r) a.n).length = a.nl r := by
  obtain ⟨⟨h1, h2⟩, ⟨_, h4⟩, _⟩ := h
  exact gn_ord h1 h2 (by omega) (fun d => a.gone d r)
theorem left_lo {a : Arr} (h : a.ok) {r : Nat} (hr : r < a.rows) (h2 : a.nl r ≤ 2) : a.n - 2 ≤ (ix (a.lo r) (a.n - 2 + 2)).length := by
  have h3 := ix_gn (a.lo r) a.n
  rw [nl_lo h hr] at h3
  have := h.1.1
  rw [show a.n - 2 + 2 = a.n by omega]
  omega
theorem part_len {a : Arr} (h : a.ok) {r : Nat} (hr : r < a.rows) {i : Nat} (hl : a.lo r i = false) : (a.part r i).length = a.size := by
  unfold part
  rw [hl, if_neg Bool.false_ne_true]
  exact h.2.2.2.1 _ _ (ord_lt h.1.1) hr
theorem part_left {a : Arr} (h : a.ok) {r : Nat} (hr : r < a.rows) : ∀ i, i < (ix (a.lo r) (a.n - 2 + 2)).length → (a.part r (at' (a.lo r) (a.n - 2 + 2) i)).length = a.size := fun _ hi => part_len h hr (at_mem hi).2
theorem heal_is {a : Arr} (h : a.ok) {r : Nat} (hr : r < a.rows) (h2 : a.nl r ≤ 2) {D : M} (hD : Healed (a.n - 2) a.size (mx (a.part r)) (a.lo r) D) (i : Nat) : row (pqp (a.n - 2) D i) a.size = a.heal r i :=
  hl_is (by have := h.1.2; omega) (gn_le (left_lo h hr h2)) hD i
theorem heal_len (a : Arr) (r i : Nat) : (a.heal r i).length = a.size := hl_len _ _ _ _ _
end Arr
end Go.Proofs.Yticgapgggoklfaa

/- All disks together: what is done with them, on the model. -/
namespace Go.Proofs.Yticgapgggoklfaa
open El Pol Mx Lay
namespace Arr
/-- a block's row, and which of it it is -/
def rw' (a : Arr) (b : Int) : Nat := b.toNat / (a.n - 2)
def ix' (a : Arr) (b : Int) : Nat := b.toNat % (a.n - 2)
def noB (a : Arr) (b : Int) : Prop := b < 0 ∨ ((a.rows * (a.n - 2) : Nat) : Int) ≤ b
instance (a : Arr) (b : Int) : Decidable (a.noB b) := inferInstanceAs (Decidable (_ ∨ _))
def noD (a : Arr) (d : Int) : Prop := d < 0 ∨ (a.n : Int) ≤ d
instance (a : Arr) (d : Int) : Decidable (a.noD d) := inferInstanceAs (Decidable (_ ∨ _))
def noR (a : Arr) (r : Int) : Prop := r < 0 ∨ (a.rows : Int) ≤ r
instance (a : Arr) (d : Int) : Decidable (a.noR d) := inferInstanceAs (Decidable (_ ∨ _))
def readE (a : Arr) (b : Int) : Nat := if a.noB b then 1 else if a.lo (a.rw' b) (a.ix' b) = false then 0 else if 2 < a.nl (a.rw' b) then 8 else 0
noncomputable def readT (a : Arr) (b : Int) : List El := if a.readE b = 0 then (if a.lo (a.rw' b) (a.ix' b) = false then a.part (a.rw' b) (a.ix' b) else a.heal (a.rw' b) (a.ix' b)) else []
def writeE (a : Arr) (b : Int) (m : Nat) : Nat := if a.noB b then 1 else if m = a.size then (if 2 < a.nl (a.rw' b) then 8 else 0) else 3
/-- a row's parts, with one block another one -/
noncomputable def newP (a : Arr) (r i : Nat) (x : List El) : Nat → List El := fun j => row (pqp (a.n - 2) (mx (up (a.heal r) i x)) j) a.size
noncomputable def write (a : Arr) (b : Int) (x : List El) : Arr :=
  if a.writeE b x.length = 0 then { a with cell := fun d r => if r = a.rw' b ∧ d < a.n ∧ a.gone d r = false then a.newP (a.rw' b) (a.ix' b) x (pos a.n r d) else a.cell d r } else a
def failE (a : Arr) (d : Int) : Nat := if a.noD d then 1 else if a.failed d.toNat = true then 6 else 0
def fail (a : Arr) (d : Int) : Arr := if a.failE d = 0 then { a with failed := up a.failed d.toNat true } else a
def replaceE (a : Arr) (d : Int) : Nat := if a.noD d then 1 else if a.failed d.toNat = true then 0 else 6
def replace (a : Arr) (d : Int) : Arr := if a.replaceE d = 0 then { a with failed := up a.failed d.toNat false, built := up a.built d.toNat 0 } else a
def rebuildE (a : Arr) (d : Int) : Nat := if a.noD d then 1 else if a.failed d.toNat = true ∨ a.built d.toNat = a.rows then 6 else if 2 < a.nl (a.built d.toNat) then 8 else 0
noncomputable def rebuild (a : Arr) (d : Int) : Arr :=
  if a.rebuildE d = 0 then { a with cell := fun e r => if e = d.toNat ∧ r = a.built e then a.heal r (pos a.n r e) else a.cell e r, built := up a.built d.toNat (a.built d.toNat + 1) } else a
def rebuildN (a : Arr) (d : Int) : Nat := if a.rebuildE d = 0 then a.rows - (a.built d.toNat + 1) else 0
def pokeE (a : Arr) (d r : Int) (m : Nat) : Nat := if a.noD d ∨ a.noR r then 1 else if m = a.size then (if a.gone d.toNat r.toNat = true then 6 else 0) else 3
def poke (a : Arr) (d r : Int) (x : List El) : Arr := if a.pokeE d r x.length = 0 then { a with cell := fun e s => if e = d.toNat ∧ s = r.toNat then x else a.cell e s } else a
/-- a new one -/
def fresh (n rows size : Nat) : Arr := ⟨n, rows, size, fun _ _ => List.replicate size 0, fun _ => false, fun _ => rows⟩
theorem fresh_ok {n rows size : Nat} (h1 : 3 ≤ n ∧ n ≤ 10) (h2 : 1 ≤ rows ∧ rows ≤ 20) (h3 : 1 ≤ size ∧ size ≤ 16) : (fresh n rows size).ok :=
  ⟨h1, h2, h3, fun _ _ _ _ => List.length_replicate, fun _ _ => Nat.le_refl _⟩
theorem newP_len (a : Arr) (r i : Nat) (x : List El) (j : Nat) : (a.newP r i x j).length = a.size := row_length _ _
theorem write_ok {a : Arr} (h : a.ok) (b : Int) (x : List El) : (a.write b x).ok := by
  unfold write
  split
  · refine ⟨h.1, h.2.1, h.2.2.1, fun d r hd hr => ?_, h.2.2.2.2⟩
    show (if _ then _ else _ : List El).length = a.size
    split
    · exact newP_len _ _ _ _ _
    · exact h.2.2.2.1 d r hd hr
  · exact h
theorem fail_ok {a : Arr} (h : a.ok) (d : Int) : (a.fail d).ok := by
  unfold fail
  split
  · exact h
  · exact h
theorem replace_ok {a : Arr} (h : a.ok) (d : Int) : (a.replace d).ok := by
  unfold replace
  split
  · refine ⟨h.1, h.2.1, h.2.2.1, h.2.2.2.1, fun e he => ?_⟩
    show up a.built d.toNat 0 e ≤ a.rows
    unfold up
    split
    · exact Nat.zero_le _
    · exact h.2.2.2.2 e he
  · exact h
theorem rebuildE_ok {a : Arr} {d : Int} (h : a.rebuildE d = 0) : (0 ≤ d ∧ d < a.n) ∧ a.failed d.toNat = false ∧ a.built d.toNat ≠ a.rows ∧ a.nl (a.built d.toNat) ≤ 2 := by
  unfold rebuildE at h
  split at h
  · omega
  · rename_i h1
    unfold noD at h1
    split at h
    · omega
    · rename_i h2
      split at h
      · omega
      · refine ⟨by omega, ?_, fun e => h2 (.inr e), by omega⟩
        cases hf : a.failed d.toNat with
        | false => rfl
        | true => exact absurd (.inl hf) h2
theorem rebuild_ok {a : Arr} (h : a.ok) (d : Int) : (a.rebuild d).ok := by
  unfold rebuild
  split
  · rename_i hz
    have hz := rebuildE_ok hz
    refine ⟨h.1, h.2.1, h.2.2.1, fun e r he hr => ?_, fun e he => ?_⟩
    · show (if _ then _ else _ : List El).length = a.size
      split
      · exact heal_len a _ _
      · exact h.2.2.2.1 e r he hr
    · show up a.built d.toNat (a.built d.toNat + 1) e ≤ a.rows
      unfold up
      split
      · rename_i q
        have := h.2.2.2.2 e he
        rw [q] at this
        have := hz.2.2.1
        omega
      · exact h.2.2.2.2 e he
  · exact h
theorem poke_ok {a : Arr} (h : a.ok) (d r : Int) (x : List El) : (a.poke d r x).ok := by
  unfold poke
  split
  · rename_i hz
    refine ⟨h.1, h.2.1, h.2.2.1, fun e s he hs => ?_, h.2.2.2.2⟩
    show (if _ then _ else _ : List El).length = a.size
    split
    · unfold pokeE at hz
      split at hz
      · omega
      · split at hz
        · assumption
        · omega
    · exact h.2.2.2.1 e s he hs
  · exact h
end Arr
end Go.Proofs.Yticgapgggoklfaa

/- What was written is read, on the model: as long as in no row more than two are lost. -/
namespace Go.Proofs.Yticgapgggoklfaa
open El Pol Mx Lay
theorem gn_succ (lost : Nat → Bool) (m : Nat) : (gn lost (m + 1)).length = (gn lost m).length + if lost m = true then 1 else 0 := by
  unfold gn
  rw [List.range_succ, List.filter_append, List.length_append]
  cases h : lost m <;> simp [h]
theorem gn_mono {p q : Nat → Bool} : ∀ {m : Nat}, (∀ i, i < m → p i = true → q i = true) → (gn p m).length ≤ (gn q m).length
  | 0, _ => Nat.le_refl _
  | m + 1, h => by
    have ih := gn_mono (p := p) (q := q) (m := m) (fun i hi => h i (by omega))
    have hm := h m (by omega)
    rw [gn_succ, gn_succ]
    by_cases e : p m = true
    · rw [if_pos e, if_pos (hm e)]; omega
    · rw [if_neg e]; omega
theorem gn_one {p q : Nat → Bool} {d : Nat} : ∀ {m : Nat}, (∀ i, i < m → i ≠ d → p i = true → q i = true) → (gn p m).length ≤ (gn q m).length + if d < m then 1 else 0
  | 0, _ => Nat.le_refl _
  | m + 1, h => by
    have ih := gn_one (p := p) (q := q) (d := d) (m := m) (fun i hi => h i (by omega))
    have hm := h m (by omega)
    rw [gn_succ, gn_succ]
    have hd : (if d < m then 1 else 0) ≤ (if d < m + 1 then 1 else 0) := by split <;> split <;> omega
    by_cases e : p m = true
    · rw [if_pos e]
      by_cases ed : m = d
      · have i1 : (if d < m then 1 else 0) = 0 := if_neg (by omega)
        have i2 : (if d < m + 1 then 1 else 0) = 1 := if_pos (by omega)
        rw [i1] at ih
        rw [i2]
        omega
      · rw [if_pos (hm ed e)]
        omega
    · rw [if_neg e]
      omega
/-- the data of a row, of blocks one behind the other -/
def Dr (n : Nat) (c : Nat → List El) (r : Nat) : M := fun i l => co (c (r * (n - 2) + i)) l
structure Keep (a : Arr) (c : Nat → List El) : Prop where
  ok : a.ok
  len : ∀ b, b < a.rows * (a.n - 2) → (c b).length = a.size
  few : ∀ r, r < a.rows → a.nl r ≤ 2
  has : ∀ d r, d < a.n → r < a.rows → a.gone d r = false → a.cell d r = row (pqp (a.n - 2) (Dr a.n c r) (pos a.n r d)) a.size
namespace Keep
variable {a : Arr} {c : Nat → List El}
theorem part_is (h : Keep a c) {r i : Nat} (hr : r < a.rows) (hi : i < a.n) (hl : a.lo r i = false) : a.part r i = row (pqp (a.n - 2) (Dr a.n c r) i) a.size := by
  unfold Arr.part
  rw [hl, if_neg Bool.false_ne_true, h.has _ _ (ord_lt h.ok.1.1) hr hl, pos_ord h.ok.1.1 h.ok.1.2 hi]
theorem healed (h : Keep a c) {r : Nat} (hr : r < a.rows) : Healed (a.n - 2) a.size (mx (a.part r)) (a.lo r) (Dr a.n c r) := by
  have h3 := h.ok.1.1
  have ht := Arr.nl_lo h.ok hr
  have h2 := h.few r hr
  obtain ⟨k, hk⟩ : ∃ k, a.n = k + 2 := ⟨a.n - 2, by omega⟩
  have hk' : a.n - 2 = k := by omega
  rw [hk, gn_succ, gn_succ] at ht
  have hp := fun i (hi : i < a.n) hl => h.part_is hr hi hl
  rw [hk'] at hp ⊢
  refine Healed.back (fun i hi hl l hl' => ?_) (fun hl l hl' => ?_) (fun hl l hl' => ?_) (fun q1 q2 => ?_) (fun q => ?_)
  · show _ = co (a.part r i) l
    rw [hp i (by omega) hl, co_row_lt _ hl']
    unfold pqp
    rw [if_pos hi]
  · show co (a.part r k) l = _
    rw [hp k (by omega) hl, co_row_lt _ hl']
    unfold pqp
    rw [if_neg (by omega), if_pos rfl]
  · show co (a.part r (k + 1)) l = _
    rw [hp (k + 1) (by omega) hl, co_row_lt _ hl']
    unfold pqp
    rw [if_neg (by omega), if_neg (by omega)]
  · cases hq : a.lo r (k + 1) with
    | false => rfl
    | true => rw [if_pos q2, if_pos hq] at ht; omega
  · constructor
    · cases hq : a.lo r k with
      | false => rfl
      | true => rw [if_pos hq] at ht; omega
    · cases hq : a.lo r (k + 1) with
      | false => rfl
      | true => rw [if_pos hq] at ht; omega
theorem heal_is (h : Keep a c) {r : Nat} (hr : r < a.rows) (i : Nat) : a.heal r i = row (pqp (a.n - 2) (Dr a.n c r) i) a.size :=
  (Arr.heal_is h.ok hr (h.few r hr) (h.healed hr) i).symm
theorem block_of (h : a.ok) {b : Int} (hb : ¬ a.noB b) : a.rw' b < a.rows ∧ a.ix' b < a.n - 2 ∧ a.rw' b * (a.n - 2) + a.ix' b = b.toNat ∧ 0 ≤ b ∧ b.toNat < a.rows * (a.n - 2) := by
  have hk : 0 < a.n - 2 := by have := h.1.1; omega
  unfold Arr.noB at hb
  have hlt : b.toNat < a.rows * (a.n - 2) := by omega
  refine ⟨(Nat.div_lt_iff_lt_mul hk).2 hlt, Nat.mod_lt _ hk, ?_, by omega, hlt⟩
  unfold Arr.rw' Arr.ix'
  rw [Nat.mul_comm]
  exact Nat.div_add_mod _ _
theorem row_data (h : Keep a c) {r i : Nat} (hr : r < a.rows) (hi : i < a.n - 2) : row (pqp (a.n - 2) (Dr a.n c r) i) a.size = c (r * (a.n - 2) + i) := by
  have hlt : r * (a.n - 2) + i < a.rows * (a.n - 2) := by
    have : (r + 1) * (a.n - 2) ≤ a.rows * (a.n - 2) := Nat.mul_le_mul_right _ hr
    rw [Nat.add_mul] at this
    omega
  unfold pqp
  rw [if_pos hi, ← h.len _ hlt]
  exact row_co _
theorem read (h : Keep a c) {b : Int} (hb : ¬ a.noB b) : a.readE b = 0 ∧ a.readT b = c b.toNat := by
  obtain ⟨h1, h2, h3, _, _⟩ := block_of h.ok hb
  have he : a.readE b = 0 := by
    unfold Arr.readE
    rw [if_neg hb]
    split
    · rfl
    · rw [if_neg (by have := h.few _ h1; omega)]
  refine ⟨he, ?_⟩
  unfold Arr.readT
  rw [if_pos he]
  split
  · rename_i hl
    rw [h.part_is h1 (by omega) hl, h.row_data h1 h2, h3]
  · rw [h.heal_is h1, h.row_data h1 h2, h3]
theorem writeE (h : Keep a c) {b : Int} (hb : ¬ a.noB b) {m : Nat} (hm : m = a.size) : a.writeE b m = 0 := by
  unfold Arr.writeE
  rw [if_neg hb, if_pos hm, if_neg (by have := h.few _ (block_of h.ok hb).1; omega)]
theorem write (h : Keep a c) {b : Int} (hb : ¬ a.noB b) {x : List El} (hx : x.length = a.size) : Keep (a.write b x) (up c b.toNat x) := by
  obtain ⟨h1, h2, h3, h4, h5⟩ := block_of h.ok hb
  have hw := h.writeE hb hx
  have hok := Arr.write_ok h.ok b x
  have e : a.write b x = { a with cell := fun d r => if r = a.rw' b ∧ d < a.n ∧ a.gone d r = false then a.newP (a.rw' b) (a.ix' b) x (pos a.n r d) else a.cell d r } := by
    unfold Arr.write; rw [if_pos hw]
  rw [e] at hok ⊢
  refine ⟨hok, fun j hj => ?_, h.few, fun d r hd hr hg => ?_⟩
  · show (up c b.toNat x j).length = a.size
    unfold up
    split
    · exact hx
    · exact h.len j hj
  · show (if r = a.rw' b ∧ d < a.n ∧ a.gone d r = false then a.newP (a.rw' b) (a.ix' b) x (pos a.n r d) else a.cell d r) = row (pqp (a.n - 2) (Dr a.n (up c b.toNat x) r) (pos a.n r d)) a.size
    by_cases er : r = a.rw' b
    · rw [if_pos ⟨er, hd, hg⟩]
      unfold Arr.newP
      refine row_congr (fun l hl => pqp_congr (L := a.size) (fun i l hi hl => ?_) _ l hl)
      show co (up (a.heal (a.rw' b)) (a.ix' b) x i) l = co (up c b.toNat x (r * (a.n - 2) + i)) l
      rw [er]
      by_cases ei : i = a.ix' b
      · rw [ei, up_at, h3, up_at]
      · rw [up_ne _ _ ei, up_ne _ _ (by omega), h.heal_is h1, co_row_lt _ hl]
        unfold pqp
        rw [if_pos hi]
        rfl
    · rw [if_neg (fun q => er q.1), h.has d r hd hr hg]
      refine row_congr (fun l hl => pqp_congr (L := a.size) (fun i l hi hl => ?_) _ l hl)
      show co (c (r * (a.n - 2) + i)) l = co (up c b.toNat x (r * (a.n - 2) + i)) l
      rw [up_ne]
      intro q
      rw [← h3] at q
      have d1 : (r * (a.n - 2) + i) / (a.n - 2) = r := by rw [Nat.mul_comm, Nat.mul_add_div (by omega), Nat.div_eq_of_lt hi]; rfl
      have d2 : (a.rw' b * (a.n - 2) + a.ix' b) / (a.n - 2) = a.rw' b := by rw [Nat.mul_comm, Nat.mul_add_div (by omega), Nat.div_eq_of_lt h2]; rfl
      rw [q, d2] at d1
      exact er d1.symm
theorem fail (h : Keep a c) (d : Int) (hf : ∀ r, r < a.rows → a.nl r ≤ 1) : Keep (a.fail d) c := by
  unfold Arr.fail
  split
  · refine ⟨h.ok, h.len, fun r hr => ?_, fun e r he hr hg => ?_⟩
    · have := gn_one (p := fun e => (up a.failed d.toNat true e || decide (a.built e ≤ r))) (q := fun e => a.gone e r) (d := d.toNat) (m := a.n) (fun i _ hid hi => by
        rw [up_ne _ _ hid] at hi
        exact hi)
      have h1 := hf r hr
      unfold Arr.nl at h1 ⊢
      show (gn (fun e => (up a.failed d.toNat true e || decide (a.built e ≤ r))) a.n).length ≤ 2
      split at this <;> omega
    · refine h.has e r he hr ?_
      have hg' : (up a.failed d.toNat true e || decide (a.built e ≤ r)) = false := hg
      by_cases q : e = d.toNat
      · rw [q, up_at] at hg'; cases hg'
      · rw [up_ne _ _ q] at hg'; exact hg'
  · exact h
theorem replace (h : Keep a c) (d : Int) : Keep (a.replace d) c := by
  have hok := Arr.replace_ok h.ok d
  unfold Arr.replace at hok ⊢
  split
  · rename_i hz
    rw [if_pos hz] at hok
    have hfd : a.failed d.toNat = true := by
      unfold Arr.replaceE at hz
      split at hz
      · omega
      · split at hz
        · assumption
        · omega
    have hgg : ∀ e r, (up a.failed d.toNat false e || decide (up a.built d.toNat 0 e ≤ r)) = a.gone e r := fun e r => by
      unfold Arr.gone
      by_cases q : e = d.toNat
      · rw [q, up_at, up_at, hfd]; simp
      · rw [up_ne _ _ q, up_ne _ _ q]
    refine ⟨hok, h.len, fun r hr => ?_, fun e r he hr hg => h.has e r he hr ((hgg e r).symm.trans hg)⟩
    have : (fun e => (up a.failed d.toNat false e || decide (up a.built d.toNat 0 e ≤ r))) = fun e => a.gone e r := funext fun e => hgg e r
    show (gn (fun e => (up a.failed d.toNat false e || decide (up a.built d.toNat 0 e ≤ r))) a.n).length ≤ 2
    rw [this]
    exact h.few r hr
  · exact h
theorem rebuild (h : Keep a c) (d : Int) : Keep (a.rebuild d) c := by
  have hok := Arr.rebuild_ok h.ok d
  unfold Arr.rebuild at hok ⊢
  split
  · rename_i hz
    rw [if_pos hz] at hok
    obtain ⟨hd, hfd, hbd, hnl⟩ := Arr.rebuildE_ok hz
    have hgg : ∀ e r, (a.failed e || decide (up a.built d.toNat (a.built d.toNat + 1) e ≤ r)) = true → a.gone e r = true := fun e r hg => by
      unfold Arr.gone
      by_cases q : e = d.toNat
      · rw [q, up_at, hfd] at hg
        rw [q, hfd]
        simp at hg ⊢
        omega
      · rw [up_ne _ _ q] at hg; exact hg
    refine ⟨hok, h.len, fun r hr => Nat.le_trans (gn_mono (fun e _ he => hgg e r he)) (h.few r hr), fun e r he hr hg => ?_⟩
    have hg' : (a.failed e || decide (up a.built d.toNat (a.built d.toNat + 1) e ≤ r)) = false := hg
    show (if e = d.toNat ∧ r = a.built e then a.heal r (pos a.n r e) else a.cell e r) = _
    by_cases q : e = d.toNat ∧ r = a.built e
    · rw [if_pos q]
      exact h.heal_is hr _
    · rw [if_neg q]
      refine h.has e r he hr ?_
      unfold Arr.gone
      by_cases q1 : e = d.toNat
      · rw [q1, up_at, hfd] at hg'
        have q2 : r ≠ a.built e := fun z => q ⟨q1, z⟩
        rw [q1] at q2
        rw [q1, hfd]
        simp at hg' ⊢
        omega
      · rw [up_ne _ _ q1] at hg'; exact hg'
  · exact h
theorem fresh {n rows size : Nat} (h1 : 3 ≤ n ∧ n ≤ 10) (h2 : 1 ≤ rows ∧ rows ≤ 20) (h3 : 1 ≤ size ∧ size ≤ 16) : Keep (Arr.fresh n rows size) (fun _ => List.replicate size 0) := by
  refine ⟨Arr.fresh_ok h1 h2 h3, fun _ _ => List.length_replicate, fun r hr => ?_, fun d r hd hr _ => ?_⟩
  · have : (gn (fun _ => (false || decide (rows ≤ r))) n) = [] := by
      unfold gn
      rw [List.filter_eq_nil_iff]
      intro i _
      have : r < rows := hr
      simp
      omega
    show (gn (fun _ => (false || decide (rows ≤ r))) n).length ≤ 2
    rw [this]
    exact Nat.zero_le _
  · show List.replicate size 0 = row (pqp (n - 2) (Dr n (fun _ => List.replicate size 0) r) (pos n r d)) size
    have hz : ∀ i l, Dr n (fun _ => List.replicate size 0) r i l = 0 := fun i l => by
      unfold Dr co
      rw [List.getD_eq_getElem?_getD, List.getElem?_replicate]
      split <;> rfl
    have hp : ∀ j l, pqp (n - 2) (Dr n (fun _ => List.replicate size 0) r) j l = 0 := fun j l => by
      unfold pqp
      split
      · exact hz _ _
      · split
        · exact (sm_congr _ (fun i _ => hz i l)).trans (sm_nought _)
        · exact (sm_congr _ (fun i _ => by rw [hz i l, ti_zero])).trans (sm_nought _)
    rw [row_congr (g := fun _ => 0) (fun l _ => hp _ l)]
    unfold row
    rw [List.map_const', List.length_range]
end Keep
end Go.Proofs.Yticgapgggoklfaa
