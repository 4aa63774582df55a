/- Texts of plain mathematics, of memory and of walks, in one. -/
import Derived.Test.YtilfjahbdlepjaaGreatDoorMt
import Derived.Test.YtilfjahbdlepjaaGreatDoorMa
/- All disks together: a model, which the document's array and the program's both follow. -/
namespace Go.Proofs.YtilfjahbdlepjaaGreatDoor
open El Pol Mx Lay
/-- the data that parts tell, of which some are lost -/
noncomputable def hd (k L : Nat) (a : Nat → List El) (lost : Nat → Bool) : M := by
  classical
  exact if h : ∃ D, Healed k L (mx a) lost D then Classical.choose h else fun _ _ => 0
/-- all parts, healed -/
noncomputable def hl (k L : Nat) (a : Nat → List El) (lost : Nat → Bool) (i : Nat) : List El := row (pqp k (hd k L a lost) i) L
theorem hl_is {k L : Nat} {a : Nat → List El} {lost : Nat → Bool} {D : M} (hk : k ≤ 10) (h2 : (gn lost k).length ≤ 2) (h : Healed k L (mx a) lost D) (i : Nat) : row (pqp k D i) L = hl k L a lost i := by
  have hs : Healed k L (mx a) lost (hd k L a lost) := by
    unfold hd
    rw [dif_pos ⟨D, h⟩]
    exact Classical.choose_spec (⟨D, h⟩ : ∃ D, Healed k L (mx a) lost D)
  exact row_congr (fun l hl' => pqp_congr (Healed.same hk h2 h hs) i l hl')
theorem hl_len (k L : Nat) (a : Nat → List El) (lost : Nat → Bool) (i : Nat) : (hl k L a lost i).length = L := row_length _ _
/-- n disks of rows of blocks; what each has; which have failed; up to where each is built -/
structure Arr where
  n : Nat
  rows : Nat
  size : Nat
  cell : Nat → Nat → List El
  failed : Nat → Bool
  built : Nat → Nat
namespace Arr
def ok (a : Arr) : Prop := (3 ≤ a.n ∧ a.n ≤ 10) ∧ (1 ≤ a.rows ∧ a.rows ≤ 20) ∧ (1 ≤ a.size ∧ a.size ≤ 16) ∧ (∀ d r, d < a.n → r < a.rows → (a.cell d r).length = a.size) ∧ ∀ d, d < a.n → a.built d ≤ a.rows
/-- what a disk has in a row is lost -/
def gone (a : Arr) (d r : Nat) : Bool := a.failed d || decide (a.built d ≤ r)
/-- the i-th part of a row is lost -/
def lo (a : Arr) (r i : Nat) : Bool := a.gone (ord a.n r i) r
/-- the parts of a row -/
def part (a : Arr) (r i : Nat) : List El := if a.lo r i = true then [] else a.cell (ord a.n r i) r
/-- how many are lost in a row -/
def nl (a : Arr) (r : Nat) : Nat := (gn (fun d => a.gone d r) a.n).length
/-- a row, healed -/
noncomputable def heal (a : Arr) (r i : Nat) : List El := hl (a.n - 2) a.size (a.part r) (a.lo r) i
end Arr
/-- the disks of a row are all disks -/
theorem ord_perm_all : (List.range 8).all (fun m => (List.range 20).all (fun r => ((List.range (m + 3)).map (ord (m + 3) r)).isPerm (List.range (m + 3)))) = true := by decide +kernel
theorem ord_perm {n r : Nat} (h1 : 3 ≤ n) (h2 : n ≤ 10) (hr : r < 20) : ((List.range n).map (ord n r)).Perm (List.range n) := by
  have h := List.all_eq_true.1 (List.all_eq_true.1 ord_perm_all (n - 3) (List.mem_range.2 (by omega))) r (List.mem_range.2 hr)
  rw [show n - 3 + 3 = n by omega] at h
  exact List.isPerm_iff.1 h
theorem gn_ord {n r : Nat} (h1 : 3 ≤ n) (h2 : n ≤ 10) (hr : r < 20) (p : Nat → Bool) : (gn (fun i => p (ord n r i)) n).length = (gn p n).length := by
  unfold gn
  rw [← List.countP_eq_length_filter, ← List.countP_eq_length_filter]
  have := (ord_perm h1 h2 hr).countP_eq p
  rw [List.countP_map] at this
  exact this
namespace Arr
theorem nl_lo {a : Arr} (h : a.ok) {r : Nat} (hr : r < a.rows) : (gn (a.lo r) a.n).length = a.nl r := by
  obtain ⟨⟨h1, h2⟩, ⟨_, h4⟩, _⟩ := h
  exact gn_ord h1 h2 (by omega) (fun d => a.gone d r)
theorem left_lo {a : Arr} (h : a.ok) {r : Nat} (hr : r < a.rows) (h2 : a.nl r ≤ 2) : a.n - 2 ≤ (ix (a.lo r) (a.n - 2 + 2)).length := by
  have h3 := ix_gn (a.lo r) a.n
  rw [nl_lo h hr] at h3
  have := h.1.1
  rw [show a.n - 2 + 2 = a.n by omega]
  omega
theorem part_len {a : Arr} (h : a.ok) {r : Nat} (hr : r < a.rows) {i : Nat} (hl : a.lo r i = false) : (a.part r i).length = a.size := by
  unfold part
  rw [hl, if_neg Bool.false_ne_true]
  exact h.2.2.2.1 _ _ (ord_lt h.1.1) hr
theorem part_left {a : Arr} (h : a.ok) {r : Nat} (hr : r < a.rows) : ∀ i, i < (ix (a.lo r) (a.n - 2 + 2)).length → (a.part r (at' (a.lo r) (a.n - 2 + 2) i)).length = a.size := fun _ hi => part_len h hr (at_mem hi).2
theorem heal_is {a : Arr} (h : a.ok) {r : Nat} (hr : r < a.rows) (h2 : a.nl r ≤ 2) {D : M} (hD : Healed (a.n - 2) a.size (mx (a.part r)) (a.lo r) D) (i : Nat) : row (pqp (a.n - 2) D i) a.size = a.heal r i :=
  hl_is (by have := h.1.2; omega) (gn_le (left_lo h hr h2)) hD i
theorem heal_len (a : Arr) (r i : Nat) : (a.heal r i).length = a.size := hl_len _ _ _ _ _
end Arr
end Go.Proofs.YtilfjahbdlepjaaGreatDoor

/- All disks together: what is done with them, on the model. -/
namespace Go.Proofs.YtilfjahbdlepjaaGreatDoor
open El Pol Mx Lay
namespace Arr
/-- a block's row, and which of it it is -/
def rw' (a : Arr) (b : Int) : Nat := b.toNat / (a.n - 2)
def ix' (a : Arr) (b : Int) : Nat := b.toNat % (a.n - 2)
def noB (a : Arr) (b : Int) : Prop := b < 0 ∨ ((a.rows * (a.n - 2) : Nat) : Int) ≤ b
instance (a : Arr) (b : Int) : Decidable (a.noB b) := inferInstanceAs (Decidable (_ ∨ _))
def noD (a : Arr) (d : Int) : Prop := d < 0 ∨ (a.n : Int) ≤ d
instance (a : Arr) (d : Int) : Decidable (a.noD d) := inferInstanceAs (Decidable (_ ∨ _))
def noR (a : Arr) (r : Int) : Prop := r < 0 ∨ (a.rows : Int) ≤ r
instance (a : Arr) (d : Int) : Decidable (a.noR d) := inferInstanceAs (Decidable (_ ∨ _))
def readE (a : Arr) (b : Int) : Nat := if a.noB b then 1 else if a.lo (a.rw' b) (a.ix' b) = false then 0 else if 2 < a.nl (a.rw' b) then 8 else 0
noncomputable def readT (a : Arr) (b : Int) : List El := if a.readE b = 0 then (if a.lo (a.rw' b) (a.ix' b) = false then a.part (a.rw' b) (a.ix' b) else a.heal (a.rw' b) (a.ix' b)) else []
def writeE (a : Arr) (b : Int) (m : Nat) : Nat := if a.noB b then 1 else if m = a.size then (if 2 < a.nl (a.rw' b) then 8 else 0) else 3
/-- a row's parts, with one block another one -/
noncomputable def newP (a : Arr) (r i : Nat) (x : List El) : Nat → List El := fun j => row (pqp (a.n - 2) (mx (up (a.heal r) i x)) j) a.size
noncomputable def write (a : Arr) (b : Int) (x : List El) : Arr :=
  if a.writeE b x.length = 0 then { a with cell := fun d r => if r = a.rw' b ∧ d < a.n ∧ a.gone d r = false then a.newP (a.rw' b) (a.ix' b) x (pos a.n r d) else a.cell d r } else a
def failE (a : Arr) (d : Int) : Nat := if a.noD d then 1 else if a.failed d.toNat = true then 6 else 0
def fail (a : Arr) (d : Int) : Arr := if a.failE d = 0 then { a with failed := up a.failed d.toNat true } else a
def replaceE (a : Arr) (d : Int) : Nat := if a.noD d then 1 else if a.failed d.toNat = true then 0 else 6
def replace (a : Arr) (d : Int) : Arr := if a.replaceE d = 0 then { a with failed := up a.failed d.toNat false, built := up a.built d.toNat 0 } else a
def rebuildE (a : Arr) (d : Int) : Nat := if a.noD d then 1 else if a.failed d.toNat = true ∨ a.built d.toNat = a.rows then 6 else if 2 < a.nl (a.built d.toNat) then 8 else 0
noncomputable def rebuild (a : Arr) (d : Int) : Arr :=
  if a.rebuildE d = 0 then { a with cell := fun e r => if e = d.toNat ∧ r = a.built e then a.heal r (pos a.n r e) else a.cell e r, built := up a.built d.toNat (a.built d.toNat + 1) } else a
def rebuildN (a : Arr) (d : Int) : Nat := if a.rebuildE d = 0 then a.rows - (a.built d.toNat + 1) else 0
def pokeE (a : Arr) (d r : Int) (m : Nat) : Nat := if a.noD d ∨ a.noR r then 1 else if m = a.size then (if a.gone d.toNat r.toNat = true then 6 else 0) else 3
def poke (a : Arr) (d r : Int) (x : List El) : Arr := if a.pokeE d r x.length = 0 then { a with cell := fun e s => if e = d.toNat ∧ s = r.toNat then x else a.cell e s } else a
/-- a new one -/
def fresh (n rows size : Nat) : Arr := ⟨n, rows, size, fun _ _ => List.replicate size 0, fun _ => false, fun _ => rows⟩
theorem fresh_ok {n rows size : Nat} (h1 : 3 ≤ n ∧ n ≤ 10) (h2 : 1 ≤ rows ∧ rows ≤ 20) (h3 : 1 ≤ size ∧ size ≤ 16) : (fresh n rows size).ok :=
  ⟨h1, h2, h3, fun _ _ _ _ => List.length_replicate, fun _ _ => Nat.le_refl _⟩
theorem newP_len (a : Arr) (r i : Nat) (x : List El) (j : Nat) : (a.newP r i x j).length = a.size := row_length _ _
theorem write_ok {a : Arr} (h : a.ok) (b : Int) (x : List El) : (a.write b x).ok := by
  unfold write
  split
  · refine ⟨h.1, h.2.1, h.2.2.1, fun d r hd hr => ?_, h.2.2.2.2⟩
    show (if _ then _ else _ : List El).length = a.size
    split
    · exact newP_len _ _ _ _ _
    · exact h.2.2.2.1 d r hd hr
  · exact h
theorem fail_ok {a : Arr} (h : a.ok) (d : Int) : (a.fail d).ok := by
  unfold fail
  split
  · exact h
  · exact h
theorem replace_ok {a : Arr} (h : a.ok) (d : Int) : (a.replace d).ok := by
  unfold replace
  split
  · refine ⟨h.1, h.2.1, h.2.2.1, h.2.2.2.1, fun e he => ?_⟩
    show up a.built d.toNat 0 e ≤ a.rows
    unfold up
    split
    · exact Nat.zero_le _
    · exact h.2.2.2.2 e he
  · exact h
theorem rebuildE_ok {a : Arr} {d : Int} (h : a.rebuildE d = 0) : (0 ≤ d ∧ d < a.n) ∧ a.failed d.toNat = false ∧ a.built d.toNat ≠ a.rows ∧ a.nl (a.built d.toNat) ≤ 2 := by
  unfold rebuildE at h
  split at h
  · omega
  · rename_i h1
    unfold noD at h1
    split at h
    · omega
    · rename_i h2
      split at h
      · omega
      · refine ⟨by omega, ?_, fun e => h2 (.inr e), by omega⟩
        cases hf : a.failed d.toNat with
        | false => rfl
        | true => exact absurd (.inl hf) h2
theorem rebuild_ok {a : Arr} (h : a.ok) (d : Int) : (a.rebuild d).ok := by
  unfold rebuild
  split
  · rename_i hz
    have hz := rebuildE_ok hz
    refine ⟨h.1, h.2.1, h.2.2.1, fun e r he hr => ?_, fun e he => ?_⟩
    · show (if _ then _ else _ : List El).length = a.size
      split
      · exact heal_len a _ _
      · exact h.2.2.2.1 e r he hr
    · show up a.built d.toNat (a.built d.toNat + 1) e ≤ a.rows
      unfold up
      split
      · rename_i q
        have := h.2.2.2.2 e he
        rw [q] at this
        have := hz.2.2.1
        omega
      · exact h.2.2.2.2 e he
  · exact h
theorem poke_ok {a : Arr} (h : a.ok) (d r : Int) (x : List El) : (a.poke d r x).ok := by
  unfold poke
  split
  · rename_i hz
    refine ⟨h.1, h.2.1, h.2.2.1, fun e s he hs => ?_, h.2.2.2.2⟩
    show (if _ then _ else _ : List El).length = a.size
    split
    · unfold pokeE at hz
      split at hz
      · omega
      · split at hz
        · assumption
        · omega
    · exact h.2.2.2.1 e s he hs
  · exact h
end Arr
end Go.Proofs.YtilfjahbdlepjaaGreatDoor

/- What was written is read, on the model: as long as in no row more than two are lost. -/
namespace Go.Proofs.YtilfjahbdlepjaaGreatDoor
open El Pol Mx Lay
theorem gn_succ (lost : Nat → Bool) (m : Nat) : (gn lost (m + 1)).length = (gn lost m).length + if lost m = true then 1 else 0 := by
  unfold gn
  rw [List.range_succ, List.filter_append, List.length_append]
  cases h : lost m <;> simp [h]
theorem gn_mono {p q : Nat → Bool} : ∀ {m : Nat}, (∀ i, i < m → p i = true → q i = true) → (gn p m).length ≤ (gn q m).length
  | 0, _ => Nat.le_refl _
  | m + 1, h => by
    have ih := gn_mono (p := p) (q := q) (m := m) (fun i hi => h i (by omega))
    have hm := h m (by omega)
    rw [gn_succ, gn_succ]
    by_cases e : p m = true
    · rw [if_pos e, if_pos (hm e)]; omega
    · rw [if_neg e]; omega
theorem gn_one {p q : Nat → Bool} {d : Nat} : ∀ {m : Nat}, (∀ i, i < m → i ≠ d → p i = true → q i = true) → (gn p m).length ≤ (gn q m).length + if d < m then 1 else 0
  | 0, _ => Nat.le_refl _
  | m + 1, h => by
    have ih := gn_one (p := p) (q := q) (d := d) (m := m) (fun i hi => h i (by omega))
    have hm := h m (by omega)
    rw [gn_succ, gn_succ]
    have hd : (if d < m then 1 else 0) ≤ (if d < m + 1 then 1 else 0) := by split <;> split <;> omega
    by_cases e : p m = true
    · rw [if_pos e]
      by_cases ed : m = d
      · have i1 : (if d < m then 1 else 0) = 0 := if_neg (by omega)
        have i2 : (if d < m + 1 then 1 else 0) = 1 := if_pos (by omega)
        rw [i1] at ih
        rw [i2]
        omega
      · rw [if_pos (hm ed e)]
        omega
    · rw [if_neg e]
      omega
/-- the data of a row, of blocks one behind the other -/
def Dr (n : Nat) (c : Nat → List El) (r : Nat) : M := fun i l => co (c (r * (n - 2) + i)) l
structure Keep (a : Arr) (c : Nat → List El) : Prop where
  ok : a.ok
  len : ∀ b, b < a.rows * (a.n - 2) → (c b).length = a.size
  few : ∀ r, r < a.rows → a.nl r ≤ 2
  has : ∀ d r, d < a.n → r < a.rows → a.gone d r = false → a.cell d r = row (pqp (a.n - 2) (Dr a.n c r) (pos a.n r d)) a.size
namespace Keep
variable {a : Arr} {c : Nat → List El}
theorem part_is (h : Keep a c) {r i : Nat} (hr : r < a.rows) (hi : i < a.n) (hl : a.lo r i = false) : a.part r i = row (pqp (a.n - 2) (Dr a.n c r) i) a.size := by
  unfold Arr.part
  rw [hl, if_neg Bool.false_ne_true, h.has _ _ (ord_lt h.ok.1.1) hr hl, pos_ord h.ok.1.1 h.ok.1.2 hi]
theorem healed (h : Keep a c) {r : Nat} (hr : r < a.rows) : Healed (a.n - 2) a.size (mx (a.part r)) (a.lo r) (Dr a.n c r) := by
  have h3 := h.ok.1.1
  have ht := Arr.nl_lo h.ok hr
  have h2 := h.few r hr
  obtain ⟨k, hk⟩ : ∃ k, a.n = k + 2 := ⟨a.n - 2, by omega⟩
  have hk' : a.n - 2 = k := by omega
  rw [hk, gn_succ, gn_succ] at ht
  have hp := fun i (hi : i < a.n) hl => h.part_is hr hi hl
  rw [hk'] at hp ⊢
  refine Healed.back (fun i hi hl l hl' => ?_) (fun hl l hl' => ?_) (fun hl l hl' => ?_) (fun q1 q2 => ?_) (fun q => ?_)
  · show _ = co (a.part r i) l
    rw [hp i (by omega) hl, co_row_lt _ hl']
    unfold pqp
    rw [if_pos hi]
  · show co (a.part r k) l = _
    rw [hp k (by omega) hl, co_row_lt _ hl']
    unfold pqp
    rw [if_neg (by omega), if_pos rfl]
  · show co (a.part r (k + 1)) l = _
    rw [hp (k + 1) (by omega) hl, co_row_lt _ hl']
    unfold pqp
    rw [if_neg (by omega), if_neg (by omega)]
  · cases hq : a.lo r (k + 1) with
    | false => rfl
    | true => rw [if_pos q2, if_pos hq] at ht; omega
  · constructor
    · cases hq : a.lo r k with
      | false => rfl
      | true => rw [if_pos hq] at ht; omega
    · cases hq : a.lo r (k + 1) with
      | false => rfl
      | true => rw [if_pos hq] at ht; omega
theorem heal_is (h : Keep a c) {r : Nat} (hr : r < a.rows) (i : Nat) : a.heal r i = row (pqp (a.n - 2) (Dr a.n c r) i) a.size :=
  (Arr.heal_is h.ok hr (h.few r hr) (h.healed hr) i).symm
theorem block_of (h : a.ok) {b : Int} (hb : ¬ a.noB b) : a.rw' b < a.rows ∧ a.ix' b < a.n - 2 ∧ a.rw' b * (a.n - 2) + a.ix' b = b.toNat ∧ 0 ≤ b ∧ b.toNat < a.rows * (a.n - 2) := by
  have hk : 0 < a.n - 2 := by have := h.1.1; omega
  unfold Arr.noB at hb
  have hlt : b.toNat < a.rows * (a.n - 2) := by omega
  refine ⟨(Nat.div_lt_iff_lt_mul hk).2 hlt, Nat.mod_lt _ hk, ?_, by omega, hlt⟩
  unfold Arr.rw' Arr.ix'
  rw [Nat.mul_comm]
  exact Nat.div_add_mod _ _
theorem row_data (h : Keep a c) {r i : Nat} (hr : r < a.rows) (hi : i < a.n - 2) : row (pqp (a.n - 2) (Dr a.n c r) i) a.size = c (r * (a.n - 2) + i) := by
  have hlt : r * (a.n - 2) + i < a.rows * (a.n - 2) := by
    have : (r + 1) * (a.n - 2) ≤ a.rows * (a.n - 2) := Nat.mul_le_mul_right _ hr
    rw [Nat.add_mul] at this
    omega
  unfold pqp
  rw [if_pos hi, ← h.len _ hlt]
  exact row_co _
theorem read (h : Keep a c) {b : Int} (hb : ¬ a.noB b) : a.readE b = 0 ∧ a.readT b = c b.toNat := by
  obtain ⟨h1, h2, h3, _, _⟩ := block_of h.ok hb
  have he : a.readE b = 0 := by
    unfold Arr.readE
    rw [if_neg hb]
    split
    · rfl
    · rw [if_neg (by have := h.few _ h1; omega)]
  refine ⟨he, ?_⟩
  unfold Arr.readT
  rw [if_pos he]
  split
  · rename_i hl
    rw [h.part_is h1 (by omega) hl, h.row_data h1 h2, h3]
  · rw [h.heal_is h1, h.row_data h1 h2, h3]
theorem writeE (h : Keep a c) {b : Int} (hb : ¬ a.noB b) {m : Nat} (hm : m = a.size) : a.writeE b m = 0 := by
  unfold Arr.writeE
  rw [if_neg hb, if_pos hm, if_neg (by have := h.few _ (block_of h.ok hb).1; omega)]
theorem write (h : Keep a c) {b : Int} (hb : ¬ a.noB b) {x : List El} (hx : x.length = a.size) : Keep (a.write b x) (up c b.toNat x) := by
  obtain ⟨h1, h2, h3, h4, h5⟩ := block_of h.ok hb
  have hw := h.writeE hb hx
  have hok := Arr.write_ok h.ok b x
  have e : a.write b x = { a with cell := fun d r => if r = a.rw' b ∧ d < a.n ∧ a.gone d r = false then a.newP (a.rw' b) (a.ix' b) x (pos a.n r d) else a.cell d r } := by
    unfold Arr.write; rw [if_pos hw]
  rw [e] at hok ⊢
  refine ⟨hok, fun j hj => ?_, h.few, fun d r hd hr hg => ?_⟩
  · show (up c b.toNat x j).length = a.size
    unfold up
    split
    · exact hx
    · exact h.len j hj
  · show (if r = a.rw' b ∧ d < a.n ∧ a.gone d r = false then a.newP (a.rw' b) (a.ix' b) x (pos a.n r d) else a.cell d r) = row (pqp (a.n - 2) (Dr a.n (up c b.toNat x) r) (pos a.n r d)) a.size
    by_cases er : r = a.rw' b
    · rw [if_pos ⟨er, hd, hg⟩]
      unfold Arr.newP
      refine row_congr (fun l hl => pqp_congr (L := a.size) (fun i l hi hl => ?_) _ l hl)
      show co (up (a.heal (a.rw' b)) (a.ix' b) x i) l = co (up c b.toNat x (r * (a.n - 2) + i)) l
      rw [er]
      by_cases ei : i = a.ix' b
      · rw [ei, up_at, h3, up_at]
      · rw [up_ne _ _ ei, up_ne _ _ (by omega), h.heal_is h1, co_row_lt _ hl]
        unfold pqp
        rw [if_pos hi]
        rfl
    · rw [if_neg (fun q => er q.1), h.has d r hd hr hg]
      refine row_congr (fun l hl => pqp_congr (L := a.size) (fun i l hi hl => ?_) _ l hl)
      show co (c (r * (a.n - 2) + i)) l = co (up c b.toNat x (r * (a.n - 2) + i)) l
      rw [up_ne]
      intro q
      rw [← h3] at q
      have d1 : (r * (a.n - 2) + i) / (a.n - 2) = r := by rw [Nat.mul_comm, Nat.mul_add_div (by omega), Nat.div_eq_of_lt hi]; rfl
      have d2 : (a.rw' b * (a.n - 2) + a.ix' b) / (a.n - 2) = a.rw' b := by rw [Nat.mul_comm, Nat.mul_add_div (by omega), Nat.div_eq_of_lt h2]; rfl
      rw [q, d2] at d1
      exact er d1.symm
theorem fail (h : Keep a c) (d : Int) (hf : ∀ r, r < a.rows → a.nl r ≤ 1) : Keep (a.fail d) c := by
  unfold Arr.fail
  split
  · refine ⟨h.ok, h.len, fun r hr => ?_, fun e r he hr hg => ?_⟩
    · have := gn_one (p := fun e => (up a.failed d.toNat true e || decide (a.built e ≤ r))) (q := fun e => a.gone e r) (d := d.toNat) (m := a.n) (fun i _ hid hi => by
        rw [up_ne _ _ hid] at hi
        exact hi)
      have h1 := hf r hr
      unfold Arr.nl at h1 ⊢
      show (gn (fun e => (up a.failed d.toNat true e || decide (a.built e ≤ r))) a.n).length ≤ 2
      split at this <;> omega
    · refine h.has e r he hr ?_
      have hg' : (up a.failed d.toNat true e || decide (a.built e ≤ r)) = false := hg
      by_cases q : e = d.toNat
      · rw [q, up_at] at hg'; cases hg'
      · rw [up_ne _ _ q] at hg'; exact hg'
  · exact h
theorem replace (h : Keep a c) (d : Int) : Keep (a.replace d) c := by
  have hok := Arr.replace_ok h.ok d
  unfold Arr.replace at hok ⊢
  split
  · rename_i hz
    rw [if_pos hz] at hok
    have hfd : a.failed d.toNat = true := by
      unfold Arr.replaceE at hz
      split at hz
      · omega
      · split at hz
        · assumption
        · omega
    have hgg : ∀ e r, (up a.failed d.toNat false e || decide (up a.built d.toNat 0 e ≤ r)) = a.gone e r := fun e r => by
      unfold Arr.gone
      by_cases q : e = d.toNat
      · rw [q, up_at, up_at, hfd]; simp
      · rw [up_ne _ _ q, up_ne _ _ q]
    refine ⟨hok, h.len, fun r hr => ?_, fun e r he hr hg => h.has e r he hr ((hgg e r).symm.trans hg)⟩
    have : (fun e => (up a.failed d.toNat false e || decide (up a.built d.toNat 0 e ≤ r))) = fun e => a.gone e r := funext fun e => hgg e r
    show (gn (fun e => (up a.failed d.toNat false e || decide (up a.built d.toNat 0 e ≤ r))) a.n).length ≤ 2
    rw [this]
    exact h.few r hr
  · exact h
theorem rebuild (h : Keep a c) (d : Int) : Keep (a.rebuild d) c := by
  have hok := Arr.rebuild_ok h.ok d
  unfold Arr.rebuild at hok ⊢
  split
  · rename_i hz
    rw [if_pos hz] at hok
    obtain ⟨hd, hfd, hbd, hnl⟩ := Arr.rebuildE_ok hz
    have hgg : ∀ e r, (a.failed e || decide (up a.built d.toNat (a.built d.toNat + 1) e ≤ r)) = true → a.gone e r = true := fun e r hg => by
      unfold Arr.gone
      by_cases q : e = d.toNat
      · rw [q, up_at, hfd] at hg
        rw [q, hfd]
        simp at hg ⊢
        omega
      · rw [up_ne _ _ q] at hg; exact hg
    refine ⟨hok, h.len, fun r hr => Nat.le_trans (gn_mono (fun e _ he => hgg e r he)) (h.few r hr), fun e r he hr hg => ?_⟩
    have hg' : (a.failed e || decide (up a.built d.toNat (a.built d.toNat + 1) e ≤ r)) = false := hg
    show (if e = d.toNat ∧ r = a.built e then a.heal r (pos a.n r e) else a.cell e r) = _
    by_cases q : e = d.toNat ∧ r = a.built e
    · rw [if_pos q]
      exact h.heal_is hr _
    · rw [if_neg q]
      refine h.has e r he hr ?_
      unfold Arr.gone
      by_cases q1 : e = d.toNat
      · rw [q1, up_at, hfd] at hg'
        have q2 : r ≠ a.built e := fun z => q ⟨q1, z⟩
        rw [q1] at q2
        rw [q1, hfd]
        simp at hg' ⊢
        omega
      · rw [up_ne _ _ q1] at hg'; exact hg'
  · exact h
theorem fresh {n rows size : Nat} (h1 : 3 ≤ n ∧ n ≤ 10) (h2 : 1 ≤ rows ∧ rows ≤ 20) (h3 : 1 ≤ size ∧ size ≤ 16) : Keep (Arr.fresh n rows size) (fun _ => List.replicate size 0) := by
  refine ⟨Arr.fresh_ok h1 h2 h3, fun _ _ => List.length_replicate, fun r hr => ?_, fun d r hd hr _ => ?_⟩
  · have : (gn (fun _ => (false || decide (rows ≤ r))) n) = [] := by
      unfold gn
      rw [List.filter_eq_nil_iff]
      intro i _
      have : r < rows := hr
      simp
      omega
    show (gn (fun _ => (false || decide (rows ≤ r))) n).length ≤ 2
    rw [this]
    exact Nat.zero_le _
  · show List.replicate size 0 = row (pqp (n - 2) (Dr n (fun _ => List.replicate size 0) r) (pos n r d)) size
    have hz : ∀ i l, Dr n (fun _ => List.replicate size 0) r i l = 0 := fun i l => by
      unfold Dr co
      rw [List.getD_eq_getElem?_getD, List.getElem?_replicate]
      split <;> rfl
    have hp : ∀ j l, pqp (n - 2) (Dr n (fun _ => List.replicate size 0) r) j l = 0 := fun j l => by
      unfold pqp
      split
      · exact hz _ _
      · split
        · exact (sm_congr _ (fun i _ => hz i l)).trans (sm_nought _)
        · exact (sm_congr _ (fun i _ => by rw [hz i l, ti_zero])).trans (sm_nought _)
    rw [row_congr (g := fun _ => 0) (fun l _ => hp _ l)]
    unfold row
    rw [List.map_const', List.length_range]
end Keep
end Go.Proofs.YtilfjahbdlepjaaGreatDoor

/- What went wrong by itself, on the model: where it is, and what stands there when it is mended. -/
namespace Go.Proofs.YtilfjahbdlepjaaGreatDoor
open El Pol Mx Lay
namespace Arr
/-- where a row is wrong, and the fault -/
noncomputable def lz (a : Arr) (r : Nat) : Int := Classical.choose (loc_is (a.n - 2) a.size (mx (a.part r)))
noncomputable def lf (a : Arr) (r : Nat) : Nat := Classical.choose (Classical.choose_spec (loc_is (a.n - 2) a.size (mx (a.part r))))
theorem l_is (a : Arr) (r : Nat) : Lct (a.n - 2) a.size (mx (a.part r)) (a.lz r) (a.lf r) := Classical.choose_spec (Classical.choose_spec (loc_is (a.n - 2) a.size (mx (a.part r))))
theorem l_same {a : Arr} (ho : a.ok) {r : Nat} {z : Int} {f : Nat} (h : Lct (a.n - 2) a.size (mx (a.part r)) z f) : z = a.lz r ∧ f = a.lf r := h.same (by have := ho.1; omega) (a.l_is r)
/-- the part of a row that is wrong -/
noncomputable def li (a : Arr) (r : Nat) : Nat := (a.lz r).toNat
/-- a row, healed without one part -/
noncomputable def heal1 (a : Arr) (r i j : Nat) : List El := hl (a.n - 2) a.size (a.part r) (lost1 i) j
theorem heal1_is {a : Arr} (ho : a.ok) {r i : Nat} {D : M} (hD : Healed (a.n - 2) a.size (mx (a.part r)) (lost1 i) D) (j : Nat) : row (pqp (a.n - 2) D j) a.size = a.heal1 r i j :=
  hl_is (by have := ho.1.2; omega) (gn_le (ix_lost1 i _)) hD j
theorem heal1_len (a : Arr) (r i j : Nat) : (a.heal1 r i j).length = a.size := hl_len _ _ _ _ _
noncomputable def scrubE (a : Arr) (r : Nat) : Nat := if 0 < a.nl r then 6 else a.lf r
noncomputable def scrubD (a : Arr) (r : Nat) : Int := if a.scrubE r = 0 then (if a.lz r < 0 then -1 else ((ord a.n r (a.li r) : Nat) : Int)) else 0
noncomputable def scrub (a : Arr) (r : Nat) : Arr := if a.scrubE r = 0 ∧ 0 ≤ a.lz r then a.poke ((ord a.n r (a.li r) : Nat) : Int) (r : Int) (a.heal1 r (a.li r) (a.li r)) else a
/-- nothing of a row is lost -/
theorem gone_none {a : Arr} {r : Nat} (h : a.nl r = 0) : ∀ d, d < a.n → a.gone d r = false := fun d hd => by
  cases hg : a.gone d r with
  | false => rfl
  | true =>
    have : d ∈ gn (fun d => a.gone d r) a.n := mem_gn.2 ⟨hd, hg⟩
    have h2 : gn (fun d => a.gone d r) a.n = [] := List.length_eq_zero_iff.1 h
    rw [h2] at this
    cases this
theorem lo_none {a : Arr} (ho : a.ok) {r : Nat} (h : a.nl r = 0) (i : Nat) : a.lo r i = false := gone_none h _ (ord_lt ho.1.1)
theorem nl_none {a : Arr} {r : Nat} (h : ∀ d, d < a.n → a.gone d r = false) : a.nl r = 0 := by
  unfold nl
  rw [List.length_eq_zero_iff]
  unfold gn
  rw [List.filter_eq_nil_iff]
  intro d hd
  show ¬ a.gone d r = true
  rw [h d (List.mem_range.1 hd)]
  exact Bool.false_ne_true
/-- four ways -/
theorem scrub_ways {a : Arr} (ho : a.ok) (r : Nat) :
    (0 < a.nl r ∧ a.scrubE r = 6 ∧ a.scrubD r = 0 ∧ a.scrub r = a) ∨
    (a.nl r = 0 ∧ (a.lf r = 8 ∧ a.lz r = 0) ∧ a.scrubE r = 8 ∧ a.scrubD r = 0 ∧ a.scrub r = a) ∨
    (a.nl r = 0 ∧ (a.lf r = 0 ∧ a.lz r = -1) ∧ a.scrubE r = 0 ∧ a.scrubD r = -1 ∧ a.scrub r = a) ∨
    (a.nl r = 0 ∧ (a.lf r = 0 ∧ a.lz r = (a.li r : Nat) ∧ a.li r < a.n) ∧ a.scrubE r = 0 ∧ a.scrubD r = ((ord a.n r (a.li r) : Nat) : Int) ∧ a.scrub r = a.poke ((ord a.n r (a.li r) : Nat) : Int) (r : Int) (a.heal1 r (a.li r) (a.li r))) := by
  have h3 := ho.1.1
  by_cases h : 0 < a.nl r
  · have e : a.scrubE r = 6 := by unfold scrubE; rw [if_pos h]
    refine .inl ⟨h, e, ?_, ?_⟩
    · unfold scrubD; rw [e, if_neg (by omega)]
    · unfold scrub; rw [e, if_neg (by omega)]
  · have h0 : a.nl r = 0 := by omega
    have e : a.scrubE r = a.lf r := by unfold scrubE; rw [if_neg h]
    rcases a.l_is r with ⟨_, h2, h4⟩ | ⟨_, ⟨i, hi, _, h2⟩, h4⟩ | ⟨_, _, h2, h4⟩
    · refine .inr (.inr (.inl ⟨h0, ⟨h4, h2⟩, by rw [e, h4], ?_, ?_⟩))
      · unfold scrubD; rw [e, h4, if_pos rfl, h2, if_pos (by omega)]
      · unfold scrub; rw [e, h4, h2, if_neg (by omega)]
    · have hli : a.li r = i := by unfold li; rw [h2]; rfl
      refine .inr (.inr (.inr ⟨h0, ⟨h4, by rw [hli, h2], by omega⟩, by rw [e, h4], ?_, ?_⟩))
      · unfold scrubD; rw [e, h4, if_pos rfl, h2, if_neg (by omega)]
      · unfold scrub; rw [e, h4, h2, if_pos ⟨rfl, by omega⟩]
    · refine .inr (.inl ⟨h0, ⟨h4, h2⟩, by rw [e, h4], ?_, ?_⟩)
      · unfold scrubD; rw [e, h4, if_neg (by omega)]
      · unfold scrub; rw [e, h4, if_neg (by omega)]
/-- what is poked into a row of which nothing is lost -/
theorem poke_none {a : Arr} {r d : Nat} (hr : r < a.rows) (h : a.nl r = 0) (hd : d < a.n) {t : List El} (ht : t.length = a.size) :
    a.pokeE (d : Int) (r : Int) t.length = 0 ∧ a.poke (d : Int) (r : Int) t = { a with cell := fun e s => if e = d ∧ s = r then t else a.cell e s } := by
  have e : a.pokeE (d : Int) (r : Int) t.length = 0 := by
    unfold pokeE
    rw [if_neg (by unfold noD noR; omega), if_pos ht, Int.toNat_natCast, Int.toNat_natCast, gone_none h d hd, if_neg Bool.false_ne_true]
  refine ⟨e, ?_⟩
  unfold poke
  rw [if_pos e, Int.toNat_natCast, Int.toNat_natCast]
theorem scrub_ok {a : Arr} (ho : a.ok) (r : Nat) : (a.scrub r).ok := by
  unfold scrub
  split
  · exact poke_ok ho _ _ _
  · exact ho
theorem poke_same (a : Arr) (d r : Int) (t : List El) : (a.poke d r t).n = a.n ∧ (a.poke d r t).rows = a.rows ∧ (a.poke d r t).size = a.size ∧ (a.poke d r t).failed = a.failed ∧ (a.poke d r t).built = a.built := by
  unfold poke
  split <;> exact ⟨rfl, rfl, rfl, rfl, rfl⟩
theorem scrub_same (a : Arr) (r : Nat) : (a.scrub r).n = a.n ∧ (a.scrub r).rows = a.rows ∧ (a.scrub r).size = a.size ∧ (a.scrub r).failed = a.failed ∧ (a.scrub r).built = a.built := by
  unfold scrub
  split
  · exact poke_same _ _ _ _
  · exact ⟨rfl, rfl, rfl, rfl, rfl⟩
/-- behind so many rows -/
noncomputable def all (a : Arr) : Nat → Arr
  | 0 => a
  | k + 1 => (a.all k).scrub k
/-- what was wrong in so many rows -/
noncomputable def spots (a : Arr) : Nat → List (Nat × Nat)
  | 0 => []
  | k + 1 => a.spots k ++ if (a.all k).scrubE k = 0 ∧ 0 ≤ (a.all k).scrubD k then [(((a.all k).scrubD k).toNat, k)] else []
theorem all_same (a : Arr) : ∀ k, (a.all k).n = a.n ∧ (a.all k).rows = a.rows ∧ (a.all k).size = a.size ∧ (a.all k).failed = a.failed ∧ (a.all k).built = a.built
  | 0 => ⟨rfl, rfl, rfl, rfl, rfl⟩
  | k + 1 => by
    obtain ⟨h1, h2, h3, h4, h5⟩ := all_same a k
    obtain ⟨g1, g2, g3, g4, g5⟩ := scrub_same (a.all k) k
    exact ⟨g1.trans h1, g2.trans h2, g3.trans h3, g4.trans h4, g5.trans h5⟩
theorem all_ok {a : Arr} (ho : a.ok) : ∀ k, (a.all k).ok
  | 0 => ho
  | k + 1 => scrub_ok (all_ok ho k) k
theorem spots_len (a : Arr) : ∀ k, (a.spots k).length ≤ k
  | 0 => Nat.le_refl _
  | k + 1 => by
    have := spots_len a k
    unfold spots
    rw [List.length_append]
    split
    · simp; omega
    · simp; omega
end Arr
end Go.Proofs.YtilfjahbdlepjaaGreatDoor

/- One part of a row another one, on the model: it is found, and mended; two of them: something is found. -/
namespace Go.Proofs.YtilfjahbdlepjaaGreatDoor
open El Pol Mx Lay
theorem rgt_congr {k L : Nat} {A B : M} (h : Eqm (k + 2) L A B) (hr : Rgt k L A (A k) (A (k + 1))) : Rgt k L B (B k) (B (k + 1)) := fun l hl => by
  have e : Eqm k L A B := fun i l hi hl => h i l (by omega) hl
  rw [← h k l (by omega) hl, ← h (k + 1) l (by omega) hl, ← pp_congr e hl, ← qq_congr e hl]
  exact hr l hl
theorem fit_congr {k L : Nat} {A B : M} (h : Eqm (k + 2) L A B) {i : Nat} (hf : Fit k L A (A k) (A (k + 1)) i) : Fit k L B (B k) (B (k + 1)) i := by
  have e : Eqm k L A B := fun i l hi hl => h i l (by omega) hl
  have e1 : ∀ l, l < L → sP k B (B k) l = sP k A (A k) l := fun l hl => by unfold sP; rw [← h k l (by omega) hl, pp_congr e hl]
  have e2 : ∀ l, l < L → sQ k B (B (k + 1)) l = sQ k A (A (k + 1)) l := fun l hl => by unfold sQ; rw [← h (k + 1) l (by omega) hl, qq_congr e hl]
  rcases hf with ⟨q, hq⟩ | ⟨q, hq⟩ | ⟨q, hq⟩
  · exact .inl ⟨q, fun l hl => by rw [e1 l hl, e2 l hl]; exact hq l hl⟩
  · exact .inr (.inl ⟨q, fun l hl => by rw [e2 l hl]; exact hq l hl⟩)
  · exact .inr (.inr ⟨q, fun l hl => by rw [e1 l hl]; exact hq l hl⟩)
theorem lct_congr {k L : Nat} {A B : M} (h : Eqm (k + 2) L A B) {z : Int} {f : Nat} (hl : Lct k L A z f) : Lct k L B z f := by
  rcases hl with ⟨h1, h2⟩ | ⟨h1, ⟨i, hi, h2, h3⟩, h4⟩ | ⟨h1, h2, h3⟩
  · exact .inl ⟨rgt_congr h h1, h2⟩
  · exact .inr (.inl ⟨fun q => h1 (rgt_congr h.symm q), ⟨i, hi, fit_congr h h2, h3⟩, h4⟩)
  · exact .inr (.inr ⟨fun q => h1 (rgt_congr h.symm q), fun i hi q => h2 i hi (fit_congr h.symm q), h3⟩)
/-- what a disk has in a row of the blocks c -/
def rt (a : Arr) (c : Nat → List El) (r d : Nat) : List El := row (pqp (a.n - 2) (Dr a.n c r) (pos a.n r d)) a.size
/-- a row is that of the blocks c, but one disk may have something else -/
structure But1 (a : Arr) (c : Nat → List El) (r d : Nat) (t : List El) : Prop where
  dn : d < a.n
  all : ∀ e, e < a.n → a.gone e r = false
  oth : ∀ e, e < a.n → e ≠ d → a.cell e r = rt a c r e
  me : a.cell d r = t
  len : t.length = a.size
namespace But1
variable {a : Arr} {c : Nat → List El} {r d : Nat} {t : List El}
theorem parts (h : But1 a c r d t) (ho : a.ok) : Eqm (a.n - 2 + 2) a.size (upd (pqp (a.n - 2) (Dr a.n c r)) (pos a.n r d) (co t)) (mx (a.part r)) := fun i l hi hl => by
  have h3 := ho.1.1
  have hlo : a.lo r i = false := h.all _ (ord_lt h3)
  show (if i = pos a.n r d then co t else pqp (a.n - 2) (Dr a.n c r) i) l = co (a.part r i) l
  unfold Arr.part
  rw [hlo, if_neg Bool.false_ne_true]
  by_cases q : i = pos a.n r d
  · rw [if_pos q, q, ord_pos h3 ho.1.2 h.dn, h.me]
  · rw [if_neg q, h.oth _ (ord_lt h3) (fun e => q (by rw [← e, pos_ord h3 ho.1.2 (by omega)]))]
    unfold rt
    rw [pos_ord h3 ho.1.2 (by omega), co_row_lt _ hl]
theorem nl (h : But1 a c r d t) : a.nl r = 0 := Arr.nl_none h.all
theorem right (h : But1 a c r d t) (ho : a.ok) (ht : t = rt a c r d) : a.lf r = 0 ∧ a.lz r = -1 := by
  have h3 := ho.1.1
  have e : Eqm (a.n - 2 + 2) a.size (pqp (a.n - 2) (Dr a.n c r)) (mx (a.part r)) := fun i l hi hl => by
    rw [← h.parts ho i l hi hl]
    show _ = (if i = pos a.n r d then co t else pqp (a.n - 2) (Dr a.n c r) i) l
    by_cases q : i = pos a.n r d
    · rw [if_pos q, ht, q]
      unfold rt
      rw [co_row_lt _ hl]
    · rw [if_neg q]
  have := Arr.l_same ho (lct_congr e (loc_right (pqp_right _ _ _)))
  exact ⟨this.2.symm, this.1.symm⟩
theorem wrong (h : But1 a c r d t) (ho : a.ok) (ht : t ≠ rt a c r d) : a.lf r = 0 ∧ a.lz r = (pos a.n r d : Nat) := by
  have h3 := ho.1.1
  have hp : pos a.n r d < a.n := pos_lt h3
  have hne : ∃ l, l < a.size ∧ co t l ≠ pqp (a.n - 2) (Dr a.n c r) (pos a.n r d) l := by
    apply Classical.byContradiction
    intro q
    refine ht ?_
    rw [← row_co t, h.len]
    exact row_congr (fun l hl => Classical.byContradiction fun z => q ⟨l, hl, z⟩)
  have := Arr.l_same ho (lct_congr (h.parts ho) (loc_moved (by have := ho.1.2; omega) (pqp_right _ _ _) (by omega) hne))
  exact ⟨this.2.symm, this.1.symm⟩
theorem healed (h : But1 a c r d t) (ho : a.ok) : Healed (a.n - 2) a.size (mx (a.part r)) (lost1 (pos a.n r d)) (Dr a.n c r) := by
  have h3 := ho.1.1
  have hp := fun i hi l hl => h.parts ho i l hi hl
  generalize pos a.n r d = p at *
  obtain ⟨k, hk⟩ : ∃ k, a.n - 2 = k := ⟨_, rfl⟩
  rw [hk] at hp ⊢
  have hat : ∀ i, i < k + 2 → lost1 p i = false → ∀ l, l < a.size → mx (a.part r) i l = pqp k (Dr a.n c r) i l := fun i hi hl l hlL => by
    rw [← hp i hi l hlL]
    have : i ≠ p := by simpa [lost1] using hl
    show (if i = p then co t else pqp k (Dr a.n c r) i) l = _
    rw [if_neg this]
  have hg : ∀ m, (gn (lost1 p) k).length = m → m ≠ 0 → p < k := fun m hm h0 => by
    apply Classical.byContradiction
    intro q
    rw [show gn (lost1 p) k = [] from Mx.gn_none (by omega)] at hm
    exact h0 hm.symm
  refine Healed.back (fun i hi hl l hlL => ?_) (fun q l hl => ?_) (fun q l hl => ?_) (fun q1 q2 => ?_) (fun q => ?_)
  · rw [hat i (by omega) hl l hlL, pqp_data hi]
  · rw [hat k (by omega) q l hl, pqp_p]
  · rw [hat (k + 1) (by omega) q l hl, pqp_q]
  · have := hg _ q1 (by omega)
    unfold lost1
    simp
    omega
  · have := hg _ q (by omega)
    unfold lost1
    simp
    omega
theorem heal (h : But1 a c r d t) (ho : a.ok) : a.heal1 r (pos a.n r d) (pos a.n r d) = rt a c r d := (Arr.heal1_is ho (h.healed ho) _).symm
/-- what a scrub of the row tells, and makes of it -/
theorem scrub (h : But1 a c r d t) (ho : a.ok) (hr : r < a.rows) :
    a.scrubE r = 0 ∧ (a.scrubD r = if t = rt a c r d then -1 else (d : Int)) ∧ ∀ e s, e < a.n → (a.scrub r).cell e s = if s = r then rt a c r e else a.cell e s := by
  have h3 := ho.1.1
  by_cases ht : t = rt a c r d
  · obtain ⟨h1, h2⟩ := h.right ho ht
    rcases Arr.scrub_ways ho r with ⟨q, _⟩ | ⟨_, ⟨q, _⟩, _⟩ | ⟨_, _, e1, e2, e3⟩ | ⟨_, ⟨_, q, _⟩, _⟩
    · rw [h.nl] at q; omega
    · omega
    · refine ⟨e1, by rw [e2, if_pos ht], fun e s he => ?_⟩
      rw [e3]
      by_cases hs : s = r
      · rw [if_pos hs, hs]
        by_cases he2 : e = d
        · rw [he2, h.me, ht]
        · exact h.oth e he he2
      · rw [if_neg hs]
    · omega
  · obtain ⟨h1, h2⟩ := h.wrong ho ht
    rcases Arr.scrub_ways ho r with ⟨q, _⟩ | ⟨_, ⟨q, _⟩, _⟩ | ⟨_, ⟨_, q⟩, _⟩ | ⟨_, ⟨_, q, _⟩, e1, e2, e3⟩
    · rw [h.nl] at q; omega
    · omega
    · omega
    · have hli : a.li r = pos a.n r d := by omega
      rw [hli, ord_pos h3 ho.1.2 h.dn] at e2 e3
      rw [h.heal ho, (Arr.poke_none hr h.nl h.dn (t := rt a c r d) (row_length _ _)).2] at e3
      refine ⟨e1, by rw [e2, if_neg ht], fun e s he => ?_⟩
      rw [e3]
      show (if e = d ∧ s = r then rt a c r d else a.cell e s) = _
      by_cases hs : s = r
      · rw [if_pos hs]
        by_cases he2 : e = d
        · rw [if_pos ⟨he2, hs⟩, he2]
        · rw [if_neg (fun z => he2 z.1), hs]
          exact h.oth e he he2
      · rw [if_neg (fun z => hs z.2), if_neg hs]
end But1
theorem rt_same {a b : Arr} (h1 : b.n = a.n) (h2 : b.size = a.size) (c : Nat → List El) (r d : Nat) : rt b c r d = rt a c r d := by unfold rt; rw [h1, h2]
/-- the spots of rows that are not those of the blocks c -/
def wrongs (a : Arr) (c : Nat → List El) (D : Nat → Nat) (T : Nat → List El) : Nat → List (Nat × Nat)
  | 0 => []
  | k + 1 => wrongs a c D T k ++ if T k = rt a c k (D k) then [] else [(D k, k)]
/-- in each row one thing that may be another one -/
def Hurt (a : Arr) (c : Nat → List El) (D : Nat → Nat) (T : Nat → List El) : Prop := a.ok ∧ ∀ r, r < a.rows → But1 a c r (D r) (T r)
theorem Hurt.all {a : Arr} {c : Nat → List El} {D : Nat → Nat} {T : Nat → List El} (h : Hurt a c D T) : ∀ k, k ≤ a.rows → Hurt (a.all k) c D (fun r => if r < k then rt a c r (D r) else T r) ∧ a.spots k = wrongs a c D T k
  | 0, _ => ⟨⟨h.1, fun r hr => by dsimp only; rw [if_neg (by omega)]; exact h.2 r hr⟩, rfl⟩
  | k + 1, hk => by
    obtain ⟨⟨ho, ih⟩, ihs⟩ := h.all k (by omega)
    obtain ⟨s1, s2, s3, s4, s5⟩ := Arr.all_same a k
    have hb := ih k (by omega)
    dsimp only at hb ih
    rw [if_neg (by omega)] at hb
    obtain ⟨e1, e2, e3⟩ := hb.scrub ho (by omega)
    obtain ⟨g1, g2, g3, g4, g5⟩ := Arr.scrub_same (a.all k) k
    refine ⟨⟨Arr.scrub_ok ho k, fun r hr => ?_⟩, ?_⟩
    · have hr' : r < (a.all k).rows := by rw [← g2]; exact hr
      have hbr := ih r hr'
      dsimp only
      have hd : D r < (a.all k).n := hbr.dn
      refine ⟨by rw [show (a.all (k + 1)).n = _ from g1]; exact hd, fun e he => ?_, fun e he hne => ?_, ?_, ?_⟩
      · have := hbr.all e (by rw [← g1]; exact he)
        unfold Arr.gone at this ⊢
        rw [show (a.all (k + 1)).failed = _ from g4, show (a.all (k + 1)).built = _ from g5]
        exact this
      · rw [rt_same (a := a.all k) (b := a.all (k + 1)) g1 g3]
        have he' : e < (a.all k).n := by rw [← g1]; exact he
        rw [show (a.all (k + 1)).cell e r = _ from e3 e r he']
        split
        · rename_i q; rw [q]
        · exact hbr.oth e he' hne
      · rw [show (a.all (k + 1)).cell (D r) r = _ from e3 (D r) r hd]
        by_cases q : r = k
        · rw [if_pos q, if_pos (by omega), q, rt_same s1 s3]
        · rw [if_neg q, hbr.me]
          by_cases q2 : r < k
          · rw [if_pos q2, if_pos (by omega)]
          · rw [if_neg q2, if_neg (by omega)]
      · rw [show (a.all (k + 1)).size = _ from g3]
        by_cases q : r < k + 1
        · rw [if_pos q, ← rt_same s1 s3]
          exact row_length _ _
        · rw [if_neg q]
          have := hbr.len
          rw [if_neg (by omega)] at this
          exact this
    · show a.spots k ++ _ = wrongs a c D T k ++ _
      rw [ihs, e1, e2, rt_same s1 s3]
      congr 1
      by_cases q : T k = rt a c k (D k)
      · rw [if_pos q, if_pos q, if_neg (by omega)]
      · rw [if_neg q, if_neg q, if_pos ⟨rfl, by omega⟩, Int.toNat_natCast]
theorem wrongs_none {a : Arr} {c : Nat → List El} {D : Nat → Nat} {T : Nat → List El} : ∀ {k}, (∀ r, r < k → T r = rt a c r (D r)) → wrongs a c D T k = []
  | 0, _ => rfl
  | k + 1, h => by
    unfold wrongs
    rw [wrongs_none (fun r hr => h r (by omega)), if_pos (h k (by omega))]
    rfl
theorem wrongs_congr {a b : Arr} {c : Nat → List El} {D : Nat → Nat} {T : Nat → List El} (h1 : b.n = a.n) (h2 : b.size = a.size) : ∀ k, wrongs b c D T k = wrongs a c D T k
  | 0 => rfl
  | k + 1 => by
    unfold wrongs
    rw [wrongs_congr h1 h2 k, rt_same h1 h2]
/-- when all is as it is to be -/
theorem Hurt.keep {a : Arr} {c : Nat → List El} {D : Nat → Nat} {T : Nat → List El} (h : Hurt a c D T) (hl : ∀ b, b < a.rows * (a.n - 2) → (c b).length = a.size) (hT : ∀ r, r < a.rows → T r = rt a c r (D r)) : Keep a c := by
  refine ⟨h.1, hl, fun r hr => by rw [(h.2 r hr).nl]; omega, fun d r hd hr _ => ?_⟩
  by_cases q : d = D r
  · rw [q, (h.2 r hr).me, hT r hr]
    rfl
  · exact (h.2 r hr).oth d hd q
/-- behind a scrub of all rows: what is kept, what was told, and that a second one finds nothing -/
theorem Hurt.mends {a : Arr} {c : Nat → List El} {D : Nat → Nat} {T : Nat → List El} (h : Hurt a c D T) (hl : ∀ b, b < a.rows * (a.n - 2) → (c b).length = a.size) :
    a.spots a.rows = wrongs a c D T a.rows ∧ Keep (a.all a.rows) c ∧ (a.all a.rows).spots a.rows = [] ∧ Keep ((a.all a.rows).all a.rows) c := by
  obtain ⟨h1, h2⟩ := h.all a.rows (Nat.le_refl _)
  obtain ⟨s1, s2, s3, _, _⟩ := Arr.all_same a a.rows
  obtain ⟨t1, t2, t3, _, _⟩ := Arr.all_same (a.all a.rows) a.rows
  have hT : ∀ r, r < (a.all a.rows).rows → (fun r => if r < a.rows then rt a c r (D r) else T r) r = rt (a.all a.rows) c r (D r) := fun r hr => by
    rw [s2] at hr
    show (if r < a.rows then rt a c r (D r) else T r) = _
    rw [if_pos hr, rt_same s1 s3]
  obtain ⟨g1, g2⟩ := h1.all a.rows (by rw [s2]; exact Nat.le_refl _)
  refine ⟨h2, h1.keep (by rw [s1, s2, s3]; exact hl) hT, ?_, ?_⟩
  · rw [g2]
    exact wrongs_none (fun r hr => hT r (by rw [s2]; exact hr))
  · refine g1.keep (by rw [t1, t2, t3, s1, s2, s3]; exact hl) (fun r hr => ?_)
    rw [t2, s2] at hr
    show (if r < a.rows then rt (a.all a.rows) c r (D r) else _) = _
    rw [if_pos hr, rt_same t1 t3]
/-- an array that keeps the blocks c, of which nothing is lost -/
theorem Keep.hurt {a : Arr} {c : Nat → List El} (h : Keep a c) (h0 : ∀ r, r < a.rows → a.nl r = 0) : Hurt a c (fun _ => 0) (fun r => rt a c r 0) :=
  ⟨h.ok, fun r hr => ⟨by (show 0 < a.n); have := h.ok.1.1; omega, Arr.gone_none (h0 r hr), fun e he _ => h.has e r he hr (Arr.gone_none (h0 r hr) e he), h.has 0 r (by have := h.ok.1.1; omega) hr (Arr.gone_none (h0 r hr) 0 (by have := h.ok.1.1; omega)), row_length _ _⟩⟩
/-- a disk of a row that was as it is to be is poked -/
theorem Hurt.poke {a : Arr} {c : Nat → List El} {D : Nat → Nat} {T : Nat → List El} (h : Hurt a c D T) {k d : Nat} (hk : k < a.rows) (hd : d < a.n) (hT : T k = rt a c k (D k)) {t : List El} (ht : t.length = a.size) :
    a.pokeE (d : Int) (k : Int) t.length = 0 ∧ Hurt (a.poke (d : Int) (k : Int) t) c (up D k d) (up T k t) := by
  have hb := h.2 k hk
  obtain ⟨e1, e2⟩ := Arr.poke_none hk hb.nl hd ht
  refine ⟨e1, Arr.poke_ok h.1 _ _ _, ?_⟩
  rw [e2]
  intro r hr
  have hr' : r < a.rows := hr
  have hbr := h.2 r hr'
  have hrt : ∀ e, rt { a with cell := fun e s => if e = d ∧ s = k then t else a.cell e s } c r e = rt a c r e := fun e => rt_same rfl rfl c r e
  by_cases q : r = k
  · subst q
    rw [up_at, up_at]
    refine ⟨hd, hbr.all, fun e he hne => ?_, ?_, ht⟩
    · rw [hrt]
      show (if e = d ∧ r = r then t else a.cell e r) = _
      rw [if_neg (fun z => hne z.1)]
      by_cases q : e = D r
      · rw [q, hbr.me, hT]
      · exact hbr.oth e he q
    · show (if d = d ∧ r = r then t else a.cell d r) = _
      rw [if_pos ⟨rfl, rfl⟩]
  · rw [up_ne _ _ q, up_ne _ _ q]
    refine ⟨hbr.dn, hbr.all, fun e he hne => ?_, ?_, hbr.len⟩
    · rw [hrt]
      show (if e = d ∧ r = k then t else a.cell e r) = _
      rw [if_neg (fun z => q z.2)]
      exact hbr.oth e he hne
    · show (if D r = d ∧ r = k then t else a.cell (D r) r) = _
      rw [if_neg (fun z => q z.2)]
      exact hbr.me
theorem gn_two (i j m : Nat) : (gn (fun x => decide (x = i) || decide (x = j)) m).length ≤ 2 := by
  have h := gn_one (p := fun x => decide (x = i) || decide (x = j)) (q := fun x => decide (x = j)) (d := i) (m := m) (fun x _ hx hp => by
    rw [decide_eq_false hx, Bool.false_or] at hp
    exact hp)
  have h2 : (gn (fun x => decide (x = j)) m).length ≤ 1 := by
    by_cases q : j < m
    · rw [Mx.gn_one q]; exact Nat.le_refl _
    · rw [Mx.gn_none (by omega)]; exact Nat.zero_le _
  split at h <;> omega
/-- two parts of noughts are something else: something is found -/
theorem two_found {k L : Nat} (hk : k ≤ 10) {A : M} {i j : Nat} (hi : i < k + 2) (hA : ∀ m, m < k + 2 → m ≠ i → m ≠ j → ∀ l, l < L → A m l = 0) (hn : ∃ l, l < L ∧ A i l ≠ 0) : ¬ Rgt k L A (A k) (A (k + 1)) := by
  intro hR
  have h0 : Healed k L (fun _ _ => 0) (fun x => decide (x = i) || decide (x = j)) (fun _ _ => 0) := by
    have hp : ∀ l, pp k (fun _ _ => 0) l = 0 := fun l => sm_nought k
    have hq : ∀ l, qq k (fun _ _ => 0) l = 0 := fun l => (sm_congr k (fun x _ => ti_zero _)).trans (sm_nought k)
    exact ⟨fun _ _ _ _ _ => rfl, fun _ _ l _ => hp l, fun _ _ l _ => hq l, fun _ l _ => ⟨hp l, hq l⟩⟩
  have hz := healed_back (D := A) hk (by
    have h1 := ix_gn (fun x => decide (x = i) || decide (x = j)) (k + 2)
    have h2 := gn_two i j (k + 2)
    omega) (fun m hm hl l hlL => by
    have h1 : m ≠ i ∧ m ≠ j := by simpa using hl
    have h2 := hA m hm h1.1 h1.2 l hlL
    show 0 = _
    by_cases q : m < k
    · rw [pqp_data q, h2]
    · by_cases q2 : m = k
      · subst q2
        rw [pqp_p, ← (hR l hlL).1, h2]
      · obtain rfl : m = k + 1 := by omega
        rw [pqp_q, ← (hR l hlL).2, h2]) h0
  have hz2 : Eqm k L A (fun _ _ => 0) := hz.symm
  obtain ⟨l, hl, hne⟩ := hn
  refine hne ?_
  by_cases q : i < k
  · exact (hz i l q hl).symm
  · by_cases q2 : i = k
    · subst q2
      rw [(hR l hl).1, pp_congr hz2 hl]
      exact sm_nought _
    · obtain rfl : i = k + 1 := by omega
      rw [(hR l hl).2, qq_congr hz2 hl]
      exact (sm_congr k (fun x _ => ti_zero _)).trans (sm_nought k)
end Go.Proofs.YtilfjahbdlepjaaGreatDoor
