/- Texts of plain mathematics, of memory and of walks, in one. -/
import Derived.Test.YtilfjahbdlepjaaGreatDoorGe
import Derived.Test.YtilfjahbdlepjaaGreatDoorPuts
import Derived.Test.YtilfjahbdlepjaaGreatDoorMe
import Derived.Laws.IdiomCopy
import Derived.Deep.QuietTactic
import Derived.BigQuiet
import Derived.Laws.Tables
import Derived.Deep.Quiet
import Derived.Deep.Cut
import Derived.Deep.CutRange
/- A disk in memory: one block; what it holds, and what keeps it. -/
namespace Go.Proofs.YtilfjahbdlepjaaGreatDoor
open Go.RowKit El Pol
/-- what a disk is: how many rows, how great a block, whether it has failed, how many writes, and its bytes, 16 a row -/
structure Dsk where
  rows : Nat
  size : Nat
  failed : Bool
  writes : Nat
  byte : Nat → El
/-- a value of each cell -/
def Dsk.cells (d : Dsk) : List Value := .int .i64 d.rows :: .int .i64 d.size :: .bool d.failed :: .int .i64 d.writes :: (List.range 320).map (fun k => eb (d.byte k))
def Dsk.ok (d : Dsk) : Prop := (1 ≤ d.rows ∧ d.rows ≤ 20) ∧ (1 ≤ d.size ∧ d.size ≤ 16)
/-- block p is the disk d -/
def IsD (w : World) (p : Nat) (d : Dsk) : Prop := w.heap[p]? = some (.cells d.cells.toArray 110 (0, 0))
/-- a row of it -/
def Dsk.row (d : Dsk) (r : Nat) : List El := (List.range d.size).map (fun j => d.byte (16 * r + j))
theorem Dsk.cells_len (d : Dsk) : d.cells.length = 324 := by simp [Dsk.cells]
theorem Dsk.row_len (d : Dsk) (r : Nat) : (d.row r).length = d.size := by simp [Dsk.row]
theorem IsD.lt {w : World} {p : Nat} {d : Dsk} (h : IsD w p d) : p < w.heap.size := lt_of_block h
theorem IsD.cell {w : World} {p : Nat} {d : Dsk} (h : IsD w p d) (i : Nat) : w.cell? ⟨p, i, none⟩ = d.cells[i]? := by
  rw [cell_of_row _ _ _ _ _ _ h]; simp
theorem IsD.frozen {w : World} {p : Nat} {d : Dsk} (h : IsD w p d) (i : Nat) : w.frozen? ⟨p, i, none⟩ = false := frozen_of_row _ _ _ _ _ h
theorem IsD.c0 {w : World} {p : Nat} {d : Dsk} (h : IsD w p d) : w.cell? ⟨p, 0, none⟩ = some (.int .i64 d.rows) := by rw [h.cell]; rfl
theorem IsD.c1 {w : World} {p : Nat} {d : Dsk} (h : IsD w p d) : w.cell? ⟨p, 1, none⟩ = some (.int .i64 d.size) := by rw [h.cell]; rfl
theorem IsD.c2 {w : World} {p : Nat} {d : Dsk} (h : IsD w p d) : w.cell? ⟨p, 2, none⟩ = some (.bool d.failed) := by rw [h.cell]; rfl
theorem IsD.c3 {w : World} {p : Nat} {d : Dsk} (h : IsD w p d) : w.cell? ⟨p, 3, none⟩ = some (.int .i64 d.writes) := by rw [h.cell]; rfl
theorem Dsk.cell_byte (d : Dsk) (k : Nat) (hk : k < 320) : d.cells[4 + k]? = some (eb (d.byte k)) := by
  rw [Dsk.cells, show 4 + k = k + 1 + 1 + 1 + 1 by omega]
  simp only [List.getElem?_cons_succ]
  simp [hk]
theorem IsD.byte {w : World} {p : Nat} {d : Dsk} (h : IsD w p d) (k : Nat) (hk : k < 320) : w.cell? ⟨p, 4 + k, none⟩ = some (eb (d.byte k)) := by
  rw [h.cell, d.cell_byte k hk]
theorem IsD.but {F : Nat → Prop} {w w' : World} {p : Nat} {d : Dsk} (h : IsD w p d) (hb : But F w w') (hn : ¬ F p) : IsD w' p d := by
  unfold IsD; rw [hb.block p h.lt hn]; exact h
theorem IsD.old {w w' : World} {p : Nat} {d : Dsk} (h : IsD w p d) (hb : Below w.heap.size w w') : IsD w' p d := by
  unfold IsD; rw [hb.block p h.lt]; exact h
/-- the slice over a row reads as the row -/
theorem IsD.rd {w : World} {p : Nat} {d : Dsk} (h : IsD w p d) (hk : d.ok) (r : Nat) (hr : r < d.rows) : Rd w (.slice (some ⟨p, 4 + 16 * r, none⟩) d.size 16) (d.row r) := by
  obtain ⟨⟨_, h1⟩, _, h2⟩ := hk
  refine .inr ⟨_, 16, by rw [d.row_len], by rw [d.row_len]; exact h2, by omega, fun i hi => ?_⟩
  rw [d.row_len] at hi
  have e : (⟨p, 4 + 16 * r, none⟩ : Addr).add i = ⟨p, 4 + (16 * r + i), none⟩ := by
    unfold Addr.add
    split
    · subst_vars; rfl
    · simp; omega
  rw [e, h.byte _ (by omega)]
  simp [Dsk.row, co, List.getD_eq_getElem?_getD, hi]
/-- one cell another one -/
theorem isD_put {w : World} {p : Nat} {d d' : Dsk} (h : IsD w p d) (i : Nat) (x : Value) (hx : d'.cells = d.cells.set i x) : IsD (w.setCell ⟨p, i, none⟩ x) p d' := by
  unfold IsD at h ⊢
  rw [heap_setCell_same _ _ _ _ _ _ h, hx]
  simp
/-- a row of it another one -/
def Dsk.put (d : Dsk) (r : Nat) (xs : List El) : Dsk := { d with byte := fun k => if 16 * r ≤ k ∧ k < 16 * r + xs.length then co xs (k - 16 * r) else d.byte k }
theorem isD_row {w : World} {p : Nat} {d : Dsk} (h : IsD w p d) (r : Nat) (xs : List El) : IsD (w.setCells p (4 + 16 * r) (xs.map eb)) p (d.put r xs) := by
  obtain ⟨cs', h1, h2, h3⟩ := puts_at (xs.map eb) (4 + 16 * r) w d.cells h
  unfold IsD
  rw [h1]
  congr 2
  congr 1
  apply List.ext_getElem?
  intro i
  rw [h3 i, d.cells_len, List.length_map]
  by_cases hi : i < 324
  · by_cases h4 : i < 4
    · rw [if_neg (by omega)]
      have : i = 0 ∨ i = 1 ∨ i = 2 ∨ i = 3 := by omega
      rcases this with rfl | rfl | rfl | rfl <;> rfl
    · obtain ⟨k, rfl⟩ : ∃ k, i = 4 + k := ⟨i - 4, by omega⟩
      rw [(d.put r xs).cell_byte k (by omega), d.cell_byte k (by omega)]
      by_cases q : 16 * r ≤ k ∧ k < 16 * r + xs.length
      · rw [if_pos (by omega), show 4 + k - (4 + 16 * r) = k - 16 * r by omega, map_eb _ _ (by omega)]
        simp [Dsk.put, q]
      · rw [if_neg (by omega)]
        simp only [Dsk.put, if_neg q]
  · rw [if_neg (by omega), List.getElem?_eq_none (by rw [d.cells_len]; omega), List.getElem?_eq_none (by rw [Dsk.cells_len]; omega)]
/-- 'copy(row, text)' -/
theorem run_copy_text (w : World) (dT sT ty elem : TypeId) (b o dLen dCap : Nat) (xs : List El)
    (hu : Tryz.prog.underlying dT = some (.slice elem)) (hz : ∀ w, (Go.sizeOf elem).run Tryz.prog w = .ok 1 w) (hle : xs.length ≤ dLen)
    (hc : ∀ j, j < xs.length → (w.cell? ⟨b, o + j, none⟩).isSome = true) (hf : ∀ j, j < xs.length → w.frozen? ⟨b, o + j, none⟩ = false) :
    (Builtin.copy_ #[dT, sT] ty #[.slice (some ⟨b, o, none⟩) dLen dCap, st xs]).run Tryz.prog w = .ok (goInt xs.length) (w.setCells b o (xs.map eb)) := by
  have hmin : Nat.min (sb xs).size dLen = xs.length := by rw [sb_size]; exact Nat.min_eq_left hle
  have hm : ((sb xs).data.toList.map fun x => Value.int .u8 (x.toNat : Int)) = xs.map eb := by
    show ((xs.map (fun x => UInt8.ofNat x.val)).map fun x => Value.int .u8 (x.toNat : Int)) = _
    rw [List.map_map]
    apply List.map_congr_left
    intro x _
    show Value.int .u8 ((UInt8.ofNat x.val).toNat : Int) = _
    rw [u8_val]
  have hst := run_storeCells_cells (P := Tryz.prog) b o (xs.map eb) 0 w (by simpa using hc) (by simpa using hf) (by
    intro v hv
    obtain ⟨x, _, rfl⟩ := List.mem_map.1 hv
    rfl)
  simp [Builtin.copy_, run_underlying hu, Builtin.lenOf, Builtin.firstCells, hz, hmin]
  rw [hm, List.take_of_length_le (by simp), hst]
  rfl
end Go.Proofs.YtilfjahbdlepjaaGreatDoor

/- What is asked of a disk alone: walks over the program. -/
namespace Go.Proofs.YtilfjahbdlepjaaGreatDoor
open Go.RowKit El Pol
def Dsk.readE (d : Dsk) (row : Int) : Nat := if d.failed = true then 6 else if row < 0 ∨ (d.rows : Int) ≤ row then 1 else 0
theorem errV_pos (k : Nat) : errV (k + 1) = .iface 77 (.int .i64 ((k + 1 : Nat) : Int)) := if_neg (by omega)
set_option maxRecDepth 100000 in
theorem dcheck {w : World} {p : Nat} {d : Dsk} (h : IsD w p d) (row : Int) :
    Calls Tryz.prog 74 #[.pointer (some ⟨p, 0, none⟩), .int .i64 row] w fun e w' => e = .returned (errV (d.readE row)) ∧ w' = w := by
  have c0 := h.c0
  have c2 := h.c2
  obtain ⟨dr, ds, df, dw, db⟩ := d
  clear h
  dsimp only at c0 c2
  unfold Dsk.readE
  cases df with
  | true =>
    go_enter Tryz.func74, Tryz.ntmps74
    go_wp2
    go_ret
    exact ⟨rfl, rfl⟩
  | false =>
    by_cases h1 : row < 0
    · go_enter Tryz.func74, Tryz.ntmps74
      go_wp2
      go_ret
      exact ⟨by simp; rfl, rfl⟩
    · by_cases h2 : (dr : Int) ≤ row
      · go_enter Tryz.func74, Tryz.ntmps74
        go_wp2
        go_ret
        exact ⟨by simp; rfl, rfl⟩
      · go_enter Tryz.func74, Tryz.ntmps74
        go_wp2
        go_ret
        exact ⟨by simp; rfl, rfl⟩
set_option maxRecDepth 100000 in
theorem dworks {w : World} {p : Nat} {d : Dsk} (h : IsD w p d) :
    Calls Tryz.prog 47 #[.pointer (some ⟨p, 0, none⟩)] w fun e w' => e = .returned (.bool (!d.failed)) ∧ w' = w := by
  have c2 := h.c2
  go_enter Tryz.func47, Tryz.ntmps47
  go_wp2
  go_ret
  exact ⟨rfl, rfl⟩
theorem but_one (w : World) (p i : Nat) (u : Value) : But (· = p) w (w.setCell ⟨p, i, none⟩ u) := (But.refl (· = p) w).setCell (p := ⟨p, i, none⟩) rfl u
/-- what fails -/
def Dsk.fail (d : Dsk) : Dsk := { d with failed := true }
def Dsk.failE (d : Dsk) : Nat := if d.failed = true then 6 else 0
/-- what replaces it -/
def Dsk.blank (d : Dsk) : Dsk := { d with failed := false, byte := fun _ => 0 }
def Dsk.replace (d : Dsk) : Dsk := if d.failed = true then d.blank else d
def Dsk.replaceE (d : Dsk) : Nat := if d.failed = true then 0 else 6


theorem infoD : (Tryz.prog.info? 110).map (·.size) = some 324 := by kernel_rfl
end Go.Proofs.YtilfjahbdlepjaaGreatDoor

/- A statement that draws its order, whose operations only read or draw, but for the last, which waits for all others: one walk of the text's order serves every order. -/
namespace Go.Proofs.YtilfjahbdlepjaaGreatDoor
open Go
section
variable {P : Program} {ops : Array Oper} {C : World → Prop} {T : Act → Prop}
/-- an operation that stands apart from those ahead of it may come up first -/
theorem first_up' (hs : ∀ o ∈ ops.toList, ∀ cs b, o.op ≠ .select cs b) {oi : Oper} (hi : oi ∈ ops.toList) (l2 : List Oper) : ∀ (l1 : List Oper) (a : Act), (∀ o ∈ l1, o ∈ ops.toList) → (∀ o ∈ l1, o.apart ops oi = true) →
    wpQuiet P ops C T (l1 ++ oi :: l2) a → ∃ v, YieldsIn P ops C oi v a ∧ wpQuiet P ops C T (l1 ++ l2) (a.put oi.dst v)
  | [], a, _, _, h => by
    have h' : if Region.wanted oi (yielded ops a.tmps) then oi.quiet P a C (wpQuiet P ops C T l2) else wpQuiet P ops C T l2 (a.put oi.dst undef) := h
    by_cases hw : Region.wanted oi (yielded ops a.tmps) = true
    · rw [if_pos hw] at h'
      obtain ⟨v, h1, h2⟩ := h'
      exact ⟨v, .inl ⟨hw, h1⟩, h2⟩
    · rw [if_neg hw] at h'
      exact ⟨undef, .inr ⟨by simpa using hw, rfl⟩, h'⟩
  | oj :: l1, a, hm, hap, h => by
    obtain ⟨p1, p2, p3⟩ := Oper.apart_spec (hap oj (List.mem_cons_self ..))
    have hsj := hs oj (hm oj (List.mem_cons_self ..))
    have hsi := hs oi hi
    have go : ∀ u, wpQuiet P ops C T (l1 ++ oi :: l2) (a.put oj.dst u) → ∃ v, YieldsIn P ops C oi v a ∧ wpQuiet P ops C T (l1 ++ l2) ((a.put oi.dst v).put oj.dst u) := fun u hu => by
      obtain ⟨v, hy, hr⟩ := first_up' hs hi l2 l1 (a.put oj.dst u) (fun o ho => hm o (List.mem_cons_of_mem _ ho)) (fun o ho => hap o (List.mem_cons_of_mem _ ho)) hu
      refine ⟨v, hy.of_same (execOp_put oi hsi a oj.dst u p1).symm (wanted_put oi a oj.dst u p1).symm, ?_⟩
      rw [Act.put_comm a v u (fun d hd he => p2 d he hd)]
      exact hr
    have h' : if Region.wanted oj (yielded ops a.tmps) then oj.quiet P a C (wpQuiet P ops C T (l1 ++ oi :: l2)) else wpQuiet P ops C T (l1 ++ oi :: l2) (a.put oj.dst undef) := h
    by_cases hw : Region.wanted oj (yielded ops a.tmps) = true
    · rw [if_pos hw] at h'
      obtain ⟨u, h1, h2⟩ := h'
      obtain ⟨v, hy, hr⟩ := go u h2
      refine ⟨v, hy, ?_⟩
      show if Region.wanted oj (yielded ops (a.put oi.dst v).tmps) then _ else _
      rw [wanted_put oj a oi.dst v p3, if_pos hw]
      refine ⟨u, fun w hC => ?_, hr⟩
      have := h1 w hC
      unfold Oper.quietAt at *
      rwa [execOp_put oj hsj a oi.dst v p3]
    · rw [if_neg hw] at h'
      obtain ⟨v, hy, hr⟩ := go undef h'
      refine ⟨v, hy, ?_⟩
      show if Region.wanted oj (yielded ops (a.put oi.dst v).tmps) then _ else _
      rw [wanted_put oj a oi.dst v p3, if_neg hw]
      exact hr
/-- operation j waits for operation i -/
def waits (ops : Array Oper) (j i : Nat) : Bool := match ops[j]? with
  | some o => o.after.any (fun e => Region.binds .any e && e.on == i)
  | none => false
/-- n operations, each of which waits for such alone as stand ahead of it, two of them apart where the later doesn't wait, and each is waited for; then one more -/
def lastB (ops : Array Oper) (n : Nat) : Bool :=
  Region.noSelect ops && decide (ops.size = n + 1) &&
  (List.range (n + 1)).all (fun i => match ops[i]? with | some o => o.after.toList.all (fun e => !Region.binds .any e || decide (e.on < i)) | none => false) &&
  (List.range n).all (fun i => (List.range i).all (fun j => waits ops i j || match ops[j]?, ops[i]? with | some oj, some oi => oj.apart ops oi | _, _ => false)) &&
  (List.range n).all (fun i => (List.range (n + 1)).any (fun j => decide (i < j) && waits ops j i))
theorem waits_iff {ops : Array Oper} {j i : Nat} (h : waits ops j i = true) : ∃ o, ops[j]? = some o ∧ ∃ e ∈ o.after, Region.binds .any e = true ∧ e.on = i := by
  unfold waits at h
  split at h
  · rename_i o ho
    obtain ⟨e, he, hb⟩ := Array.any_eq_true'.1 h
    simp only [Bool.and_eq_true, beq_iff_eq] at hb
    exact ⟨o, ho, e, he, hb.1, hb.2⟩
  · cases h
/-- those of the first n that have not come up -/
def un (n : Nat) (listed : Array Bool) : List Nat := (List.range n).filter (fun i => !listed.getD i true)
theorem mem_un {n i : Nat} {listed : Array Bool} : i ∈ un n listed ↔ i < n ∧ listed.getD i true = false := by
  unfold un
  rw [List.mem_filter, List.mem_range]
  simp
theorem getD_tf {listed : Array Bool} {i : Nat} (h : i < listed.size) : listed.getD i true = listed.getD i false := by simp [h]
theorem un_set {n i : Nat} {listed : Array Bool} (hi : i < listed.size) {l1 l2 : List Nat} (h : un n listed = l1 ++ i :: l2) : un n (listed.setIfInBounds i true) = l1 ++ l2 := by
  have hp : (un n listed).Pairwise (· < ·) := List.Pairwise.filter _ List.pairwise_lt_range
  have e : un n (listed.setIfInBounds i true) = (un n listed).filter (fun j => decide (j ≠ i)) := by
    unfold un
    rw [List.filter_filter]
    refine List.filter_congr (fun j _ => ?_)
    by_cases hj : j = i
    · subst hj; simp [hi]
    · rw [getD_set_ne true (Ne.symm hj)]; simp [hj]
  rw [h] at hp
  obtain ⟨_, h2, h3⟩ := List.pairwise_append.1 hp
  have h4 := (List.pairwise_cons.1 h2).1
  rw [e, h, List.filter_append, List.filter_cons_of_neg (by simp), List.filter_eq_self.2 (fun x hx => ?_), List.filter_eq_self.2 (fun x hx => ?_)]
  · have := h4 x hx; simp; omega
  · have := h3 x hx i (List.mem_cons_self ..); simp; omega
theorem any_last {Q : Exit → Act → World → Prop} {n : Nat} (hB : lastB ops n = true) : ∀ (c : Nat) (listed : Array Bool) (a : Act) (w : World), C w → (un n listed).length = c → listed.size = n + 1 → listed.getD n true = false →
    (∀ j o, ops[j]? = some o → listed.getD j false = true → ∀ e ∈ o.after, Region.binds .any e = true → listed.getD e.on false = true) →
    wpQuiet P ops C (fun a => ∀ w, C w → wpOp P ops Q n (fun a w => Q .normal a w) a w) ((un n listed).filterMap (fun i => ops[i]?)) a → wpAny P .any ops Q (c + 1) listed a w := by
  unfold lastB at hB
  simp only [Bool.and_eq_true, decide_eq_true_eq, List.all_eq_true, List.mem_range] at hB
  obtain ⟨⟨⟨⟨hsel, hsz⟩, hlow⟩, hap⟩, hwt⟩ := hB
  have hget : ∀ i, i < n + 1 → ∃ o, ops[i]? = some o := fun i hi => ⟨ops[i]'(by omega), by simp [show i < ops.size by omega]⟩
  have hdep : ∀ i o, i < n + 1 → ops[i]? = some o → ∀ e ∈ o.after, Region.binds .any e = true → e.on < i := fun i o hi ho e he hb => by
    have := hlow i hi
    rw [ho] at this
    simp only [List.all_eq_true] at this
    have := this e (by simpa using he)
    simpa [hb] using this
  have hops : ∀ i o, ops[i]? = some o → o ∈ ops.toList := fun i o h => by
    have := Array.mem_of_getElem? h
    simpa using this
  have hselo : ∀ o ∈ ops.toList, ∀ cs b, o.op ≠ .select cs b := fun o ho cs b => by
    obtain ⟨i, hi, rfl⟩ := Array.getElem_of_mem (by simpa using ho : o ∈ ops)
    exact Region.noSelect_spec hsel i _ cs b (by simp [hi])
  intro c
  induction c with
  | zero =>
    intro listed a w hC hl hls hn _ hq
    have hnil : un n listed = [] := List.eq_nil_of_length_eq_zero hl
    rw [hnil] at hq
    have hall : ∀ i, i < n → listed.getD i true = true := fun i hi => by
      cases h : listed.getD i true with
      | true => rfl
      | false =>
        have : i ∈ un n listed := mem_un.2 ⟨hi, h⟩
        rw [hnil] at this
        cases this
    obtain ⟨on, hon⟩ := hget n (by omega)
    have hnr : n ∈ Region.ready .any ops listed := mem_ready.2 ⟨hn, on, hon, fun e he hb => by
      have := hdep n on (by omega) hon e he hb
      rw [← getD_tf (by omega)]
      exact hall _ this⟩
    refine ⟨fun h => (by rw [h] at hnr; cases hnr), fun i hi => ?_⟩
    obtain ⟨h0, o, ho, _⟩ := mem_ready.1 hi
    have hi1 : i < n + 1 := by
      have := (Array.getElem?_eq_some_iff.1 ho).1
      omega
    have hin : i = n := by
      rcases Nat.lt_or_ge i n with h | h
      · rw [hall i h] at h0; cases h0
      · omega
    subst hin
    refine wpOp_mono (fun a' w' h' => ?_) ((show ∀ w, C w → wpOp P ops Q i (fun a w => Q .normal a w) a w from hq) w hC)
    refine ⟨?_, h'⟩
    rw [List.eq_nil_iff_forall_not_mem]
    intro j hj
    obtain ⟨h0, o, ho, _⟩ := mem_ready.1 hj
    have hj1 : j < i + 1 := by
      have := (Array.getElem?_eq_some_iff.1 ho).1
      omega
    by_cases e : j = i
    · subst e; simp [show j < listed.size by omega] at h0
    · rw [getD_set_ne true (Ne.symm e), hall j (by omega)] at h0; cases h0
  | succ c ih =>
    intro listed a w hC hl hls hn hcl hq
    -- as long as one has not come up, the last can't
    have hlast : ∀ d i, n - i = d → i < n → listed.getD i true = false → n ∉ Region.ready .any ops listed := by
      intro d
      induction d using Nat.strongRecOn with
      | _ d ihd =>
        intro i hd hi hu hr
        obtain ⟨j, hj, hj2⟩ := List.any_eq_true.1 (hwt i hi)
        simp only [Bool.and_eq_true, decide_eq_true_eq] at hj2
        obtain ⟨oj, hoj, e, he, hb, hon⟩ := waits_iff hj2.2
        have hjn : j < n + 1 := List.mem_range.1 hj
        have hui : listed.getD i false = false := by rw [← getD_tf (by omega)]; exact hu
        by_cases ej : j = n
        · subst ej
          obtain ⟨_, o, ho, hall⟩ := mem_ready.1 hr
          rw [hoj] at ho
          cases ho
          have := hall e he hb
          rw [hon, hui] at this
          cases this
        · refine ihd (n - j) (by omega) j rfl (by omega) ?_ hr
          cases h : listed.getD j true with
          | false => rfl
          | true =>
            rw [getD_tf (by omega)] at h
            have := hcl j oj hoj h e he hb
            rw [hon, hui] at this
            cases this
    have hne : un n listed ≠ [] := fun e => by rw [e] at hl; cases hl
    refine ⟨fun h => ?_, fun i hi => ?_⟩
    · -- the least that has not come up is ready
      exfalso
      cases hu : un n listed with
      | nil => exact hne hu
      | cons i l =>
        have hiu : i ∈ un n listed := by rw [hu]; exact List.mem_cons_self ..
        obtain ⟨hin, hi0⟩ := mem_un.1 hiu
        obtain ⟨oi, hoi⟩ := hget i (by omega)
        have hp : (un n listed).Pairwise (· < ·) := List.Pairwise.filter _ List.pairwise_lt_range
        rw [hu] at hp
        have : i ∈ Region.ready .any ops listed := mem_ready.2 ⟨hi0, oi, hoi, fun e he hb => by
          have hlt := hdep i oi (by omega) hoi e he hb
          rw [← getD_tf (by omega)]
          cases h : listed.getD e.on true with
          | true => rfl
          | false =>
            have hm : e.on ∈ un n listed := mem_un.2 ⟨by omega, h⟩
            rw [hu] at hm
            rcases List.mem_cons.1 hm with h1 | h1
            · omega
            · have := (List.pairwise_cons.1 hp).1 _ h1
              omega⟩
        rw [h] at this
        cases this
    · obtain ⟨hi0, oi, hoi, hall⟩ := mem_ready.1 hi
      have hi1 : i < n + 1 := by
        have := (Array.getElem?_eq_some_iff.1 hoi).1
        omega
      have hin : i < n := by
        rcases Nat.lt_or_ge i n with h | h
        · exact h
        · exfalso
          have : i = n := by omega
          subst this
          obtain ⟨k, hk⟩ := List.exists_mem_of_ne_nil _ hne
          obtain ⟨h1, h2⟩ := mem_un.1 hk
          exact hlast _ k rfl h1 h2 hi
      obtain ⟨l1, l2, hsp⟩ := List.append_of_mem (mem_un.2 ⟨hin, hi0⟩)
      have hp : (un n listed).Pairwise (· < ·) := List.Pairwise.filter _ List.pairwise_lt_range
      rw [hsp] at hp
      have hl1 : ∀ x ∈ l1, x < i := fun x hx => (List.pairwise_append.1 hp).2.2 x hx i (List.mem_cons_self ..)
      have hl1u : ∀ x ∈ l1, listed.getD x true = false := fun x hx => (mem_un.1 (show x ∈ un n listed by rw [hsp]; exact List.mem_append_left _ hx)).2
      rw [hsp, List.filterMap_append, List.filterMap_cons, hoi] at hq
      obtain ⟨v, hy, hr⟩ := first_up' hselo (hops i oi hoi) _ _ a (fun o ho => by
        obtain ⟨x, _, hx⟩ := List.mem_filterMap.1 ho
        exact hops x o hx) (fun o ho => by
        obtain ⟨x, hx, hxo⟩ := List.mem_filterMap.1 ho
        have h1 := hap i hin x (hl1 x hx)
        simp only [Bool.or_eq_true] at h1
        rcases h1 with h1 | h1
        · exfalso
          obtain ⟨o', ho', e, he, hb, hon⟩ := waits_iff h1
          rw [hoi] at ho'
          cases ho'
          have := hall e he hb
          rw [hon, ← getD_tf (by have := hl1 x hx; omega), hl1u x hx] at this
          cases this
        · rw [hxo, hoi] at h1
          exact h1) hq
      have hun := un_set (n := n) (listed := listed) (i := i) (by omega) hsp
      refine wpOp_of_qOp hC (fun a' w' hC' h' => ih (listed.setIfInBounds i true) a' w' hC' ?_ (by simpa using hls) ?_ ?_ h') (hy.qOp hoi ?_)
      · rw [hun]
        rw [hsp] at hl
        simp at hl ⊢
        omega
      · rw [getD_set_ne true (by omega)]; exact hn
      · intro j o ho hj e he hb
        by_cases ej : j = i
        · subst ej
          rw [hoi] at ho
          cases ho
          exact getD_set_true (hall e he hb)
        · rw [getD_set_ne false (Ne.symm ej)] at hj
          exact getD_set_true (hcl j o ho hj e he hb)
      · rw [hun, List.filterMap_append]; exact hr
end
theorem fm_take (l : List Oper) : ∀ n, (List.range n).filterMap (fun i => l.toArray[i]?) = l.take n
  | 0 => by simp
  | n + 1 => by
    rw [List.range_succ, List.filterMap_append, fm_take l n, List.take_add_one]
    congr 1
    cases h : l[n]? <;> simp [h]
/-- the whole statement -/
theorem region_last {P : Program} {id : Nat} {Q : Exit → Act → World → Prop} {a : Act} {w : World} {l : List Oper} (n : Nat) (hm : P.follows .mixedOrders = true) (hB : lastB l.toArray n = true)
    (h : wpQuiet P l.toArray (fun w' => ∃ n, w' = w.drewN n) (fun a' => ∀ w', (∃ n, w' = w.drewN n) → wpList P l.toArray Q (l.drop n) a' w') (l.take n) a) : (Code.region id l.toArray true).wp P Q a w := by
  have hsz : l.length = n + 1 := by
    have := hB
    unfold lastB at this
    simp only [Bool.and_eq_true, decide_eq_true_eq] at this
    simpa using this.1.1.1.2
  obtain ⟨o, ho⟩ : ∃ o, l[n]? = some o := ⟨l[n]'(by omega), by simp [hsz]⟩
  have hdrop : l.drop n = [o] := by
    rw [List.drop_eq_getElem_cons (by omega)]
    rw [List.getElem?_eq_getElem (by omega)] at ho
    rw [Option.some.inj ho, List.drop_eq_nil_of_le (by omega)]
  have hU : un n (Array.replicate (n + 1) false) = List.range n := by
    unfold un
    rw [List.filter_eq_self]
    intro i hi
    have := List.mem_range.1 hi
    simp [show i < n + 1 by omega]
  have hF : (List.range n).filterMap (fun i => l.toArray[i]?) = l.take n := fm_take l n
  refine wp_region_any hm ?_
  have hs : l.toArray.size = n + 1 := by simpa using hsz
  rw [hs]
  refine any_last (C := fun w' => ∃ n, w' = w.drewN n) hB n _ a _ ⟨1, rfl⟩ ?_ (by simp) (by simp) (fun j o _ hj => ?_) ?_
  · rw [hU]; simp
  · exfalso
    rcases Nat.lt_or_ge j (n + 1) with q | q
    · simp [q] at hj
    · simp [q] at hj
  · rw [hU, hF]
    have e : (fun a' => ∀ w', (∃ n, w' = w.drewN n) → wpList P l.toArray Q (l.drop n) a' w') = fun a' => ∀ w', (∃ n, w' = w.drewN n) → wpOp P l.toArray Q n (fun a w => Q .normal a w) a' w' := by
      funext a'
      rw [hdrop]
      refine propext ⟨fun hh w' hw' => ?_, fun hh w' hw' => ?_⟩
      · have := hh w' hw'
        unfold wpOp
        simp only [List.getElem?_toArray, ho]
        exact this
      · have := hh w' hw'
        unfold wpOp at this
        simp only [List.getElem?_toArray, ho] at this
        exact this
    rw [e] at h
    exact h
end Go.Proofs.YtilfjahbdlepjaaGreatDoor

/- A disk is read, written, replaced and made: walks over the program. -/
namespace Go.Proofs.YtilfjahbdlepjaaGreatDoor
open Go.RowKit El Pol
theorem IsD.drewN {w : World} {p : Nat} {d : Dsk} (h : IsD w p d) (n : Nat) : IsD (w.drewN n) p d := h
/-- what is read -/
def Dsk.readT (d : Dsk) (row : Int) : List El := if d.readE row = 0 then d.row row.toNat else []
set_option maxRecDepth 100000 in
theorem dread {w : World} {p : Nat} {d : Dsk} (h : IsD w p d) (hk : d.ok) (row : Int) :
    Calls Tryz.prog 53 #[.pointer (some ⟨p, 0, none⟩), .int .i64 row] w fun e w' => e = .returned (.tuple #[st (d.readT row), errV (d.readE row)]) ∧ ∃ n, w' = w.drewN n := by
  have C := dcheck h row
  have c1 := h.c1
  have HD : Hid (IsD w p d) := h
  clear h
  unfold Dsk.readT
  by_cases he : d.readE row = 0
  · have hb : 0 ≤ row ∧ row < d.rows := by
      unfold Dsk.readE at he
      split at he
      · omega
      · split at he <;> omega
    obtain ⟨r, rfl⟩ : ∃ r : Nat, row = r := ⟨row.toNat, by omega⟩
    obtain ⟨⟨hr1, hr2⟩, hs1, hs2⟩ := hk
    have hR : ∀ n, (convert 82 9 (.slice (some ⟨p, 4 + r * 16, none⟩) d.size 16)).run Tryz.prog (w.drewN n) = .ok (st (d.row r)) (w.drewN n) := fun n => by
      have := (HD.out.drewN n).rd ⟨⟨hr1, hr2⟩, hs1, hs2⟩ r (by omega)
      rw [Nat.mul_comm] at this
      exact run_text this _ _ Tryz.underlying82 Tryz.underlying9
    rw [if_pos he, Int.toNat_natCast]
    rw [he] at C ⊢
    rw [errV, if_pos rfl] at C ⊢
    have hr20 : (r : Int) < 20 := by omega
    have hs16 : (d.size : Int) ≤ 16 := by omega
    have hr0 : (0 : Int) ≤ (r : Int) := Int.natCast_nonneg _
    have hs0 : (0 : Int) ≤ (d.size : Int) := Int.natCast_nonneg _
    generalize d.row r = xs at *
    generalize d.size = s at *
    clear he hb HD
    go_enter Tryz.func53, Tryz.ntmps53
    go_wp2_with fail
    refine C.mono ?_
    rintro e w1 ⟨rfl, hw⟩
    obtain rfl := hw.symm
    clear C hw
    go_wp2_with fail
    go_quiet (fail)
    go_wp2
    go_ret2
    exact ⟨rfl, nq, rfl⟩
  · rw [if_neg he]
    rw [errV, if_neg he] at C ⊢
    clear HD hk
    generalize d.readE row = k at *
    go_enter Tryz.func53, Tryz.ntmps53
    go_wp2_with fail
    refine C.mono ?_
    rintro e w1 ⟨rfl, hw⟩
    obtain rfl := hw.symm
    clear C hw
    go_wp2
    go_ret2
    exact ⟨rfl, 0, rfl⟩
/-- what is written -/
def Dsk.writeE (d : Dsk) (row : Int) (n : Nat) : Nat := if d.readE row = 0 then (if n = d.size then 0 else 3) else d.readE row
def Dsk.write (d : Dsk) (row : Int) (xs : List El) : Dsk := if d.writeE row xs.length = 0 then { d.put row.toNat xs with writes := d.writes + 1 } else d
theorem readE_row {d : Dsk} {row : Int} (he : d.readE row = 0) : 0 ≤ row ∧ row < d.rows := by
  unfold Dsk.readE at he
  split at he
  · omega
  · split at he <;> omega
set_option maxRecDepth 100000 in
theorem dwrite {w : World} {p : Nat} {d : Dsk} (h : IsD w p d) (hk : d.ok) (hn : d.writes < 4611686018427387904) (row : Int) (xs : List El) :
    Calls Tryz.prog 49 #[.pointer (some ⟨p, 0, none⟩), .int .i64 row, st xs] w fun e w' => e = .returned (errV (d.writeE row xs.length)) ∧ IsD w' p (d.write row xs) ∧ But (· = p) w w' := by
  have C := dcheck h row
  have c1 := h.c1
  have HD : Hid (IsD w p d) := h
  have hlen : (sb xs).size = xs.length := sb_size xs
  clear h
  unfold Dsk.write
  by_cases he : d.readE row = 0
  · have hb := readE_row he
    obtain ⟨r, rfl⟩ : ∃ r : Nat, row = r := ⟨row.toNat, by omega⟩
    obtain ⟨⟨hr1, hr2⟩, hs1, hs2⟩ := hk
    by_cases hx : xs.length = d.size
    · have hwe : d.writeE r xs.length = 0 := by unfold Dsk.writeE; rw [if_pos he, if_pos hx]
      obtain ⟨w2, hw2⟩ : ∃ w2, w2 = w.setCells p (4 + r * 16) (xs.map eb) := ⟨_, rfl⟩
      have hcp : ∀ ty, (Builtin.copy_ #[82, 9] ty #[.slice (some ⟨p, 4 + r * 16, none⟩) 16 16, st xs]).run Tryz.prog w = .ok (goInt xs.length) w2 := fun ty => by
        rw [hw2]
        exact run_copy_text w _ _ ty _ p (4 + r * 16) 16 16 xs Tryz.underlying82 Tryz.sizeOf5 (by omega) (fun j hj => by rw [Nat.add_assoc, HD.out.byte _ (by omega)]; rfl) (fun j _ => HD.out.frozen _)
      have hD2 : IsD w2 p (d.put r xs) := by rw [hw2, Nat.mul_comm]; exact isD_row HD.out r xs
      have hB2 : But (· = p) w w2 := by rw [hw2]; exact but_setCells (F := (· = p)) rfl _ _ _ (But.refl _ _)
      have c3 : w2.cell? ⟨p, 3, none⟩ = some (.int .i64 d.writes) := hD2.c3
      have f3 := hD2.frozen 3
      have hP : IsD (w2.setCell ⟨p, 3, none⟩ (.int .i64 ((d.writes : Int) + 1))) p { d.put r xs with writes := d.writes + 1 } := isD_put hD2 3 _ (by
        simp [Dsk.cells, Dsk.put])
      have HW : Hid (IsD (w2.setCell ⟨p, 3, none⟩ (.int .i64 ((d.writes : Int) + 1))) p { d.put r xs with writes := d.writes + 1 } ∧ But (· = p) w (w2.setCell ⟨p, 3, none⟩ (.int .i64 ((d.writes : Int) + 1)))) := ⟨hP, hB2.setCell (p := ⟨p, 3, none⟩) rfl _⟩
      rw [hwe, if_pos rfl, Int.toNat_natCast]
      rw [he] at C
      rw [errV, if_pos rfl] at C ⊢
      have hr20 : (r : Int) < 20 := by omega
      have hr0 : (0 : Int) ≤ (r : Int) := Int.natCast_nonneg _
      clear hP hD2 hB2 hw2 HD he hb hwe
      have hwn : ((d.writes : Nat) : Int) < 4611686018427387904 := by omega
      generalize d.writes = n at *
      rw [hx] at hcp hlen
      generalize d.size = s at *
      clear hx
      go_enter Tryz.func49, Tryz.ntmps49
      go_wp2_with fail
      refine C.mono ?_
      rintro e w1 ⟨rfl, hw⟩
      obtain rfl := hw.symm
      clear C hw
      go_wp2
      go_ret
      exact ⟨rfl, HW.out⟩
    · have hwe : d.writeE r xs.length = 3 := by unfold Dsk.writeE; rw [if_pos he, if_neg hx]
      rw [hwe, if_neg (by omega)]
      rw [he] at C
      rw [errV, if_pos rfl] at C
      have hne : ¬ (xs.length : Int) = (d.size : Int) := by omega
      go_enter Tryz.func49, Tryz.ntmps49
      go_wp2_with fail
      refine C.mono ?_
      rintro e w1 ⟨rfl, hw⟩
      obtain rfl := hw.symm
      clear C hw
      go_wp2
      go_ret
      exact ⟨rfl, HD.out, But.refl _ _⟩
  · have hwe : d.writeE row xs.length = d.readE row := by unfold Dsk.writeE; rw [if_neg he]
    rw [hwe, if_neg he]
    rw [errV, if_neg he] at C ⊢
    generalize d.readE row = k at *
    go_enter Tryz.func49, Tryz.ntmps49
    go_wp2_with fail
    refine C.mono ?_
    rintro e w1 ⟨rfl, hw⟩
    obtain rfl := hw.symm
    clear C hw
    go_wp2
    go_ret
    exact ⟨rfl, HD.out, But.refl _ _⟩
end Go.Proofs.YtilfjahbdlepjaaGreatDoor

/- A disk is replaced and made: walks over the program. -/
namespace Go.Proofs.YtilfjahbdlepjaaGreatDoor
open Go.RowKit El Pol
def zs : Array Value := (Dsk.cells ⟨0, 0, false, 0, fun _ => 0⟩).toArray
theorem zeroD (w : World) : (zeroValue 110).run Tryz.prog w = .ok (.agg zs) w := by kernel_rfl
theorem zs_size : zs.size = 324 := by simp [zs, Dsk.cells_len]
theorem zs_ne : ¬ zs = #[] := fun e => by have := zs_size; rw [e] at this; simp at this
theorem zs_new (a b : Nat) : (zs.setIfInBounds 0 (.int .i64 a)).setIfInBounds 1 (.int .i64 b) = (Dsk.cells ⟨a, b, false, 0, fun _ => 0⟩).toArray := by
  simp [zs, Dsk.cells]
theorem zs_blank (a b n : Nat) : ((zs.setIfInBounds 0 (.int .i64 a)).setIfInBounds 1 (.int .i64 b)).setIfInBounds 3 (.int .i64 n) = (Dsk.cells ⟨a, b, false, n, fun _ => 0⟩).toArray := by
  simp [zs, Dsk.cells]
theorem Dsk.cells_one (d : Dsk) : d.cells.toArray.all (·.oneCell') = true := by
  rw [Array.all_eq_true_iff_forall_mem]
  intro v hv
  simp [Dsk.cells] at hv
  rcases hv with rfl | rfl | rfl | rfl | ⟨k, _, rfl⟩ <;> rfl
def Dsk.fresh (rows size : Nat) : Dsk := ⟨rows, size, false, 0, fun _ => 0⟩
def newE (rows size : Int) : Nat := if rows < 1 ∨ 20 < rows ∨ size < 1 ∨ 16 < size then 1 else 0
set_option maxRecDepth 100000 in
theorem dnew_ok (rows size : Nat) (hr : 1 ≤ rows ∧ rows ≤ 20) (hs : 1 ≤ size ∧ size ≤ 16) (w : World) :
    Calls Tryz.prog 34 #[.int .i64 rows, .int .i64 size] w fun e w' => e = .returned (.tuple #[.pointer (some ⟨w.heap.size, 0, none⟩), .nilIface]) ∧ w' = w.alloc (.cells (Dsk.fresh rows size).cells.toArray 110) := by
  obtain ⟨hr1, hr2⟩ := hr
  obtain ⟨hs1, hs2⟩ := hs
  have hz := zeroD
  have h0 := zs_size
  have h1 := zs_ne
  have HC : Hid ((zs.setIfInBounds 0 (.int .i64 rows)).setIfInBounds 1 (.int .i64 size) = (Dsk.fresh rows size).cells.toArray) := zs_new rows size
  generalize zs = z at *
  go_enter Tryz.func34, Tryz.ntmps34
  go_wp2
  go_ret2
  exact ⟨rfl, by rw [← HC.out]⟩
set_option maxRecDepth 100000 in
theorem dnew_bad (rows size : Int) (h : rows < 1 ∨ 20 < rows ∨ size < 1 ∨ 16 < size) (w : World) :
    Calls Tryz.prog 34 #[.int .i64 rows, .int .i64 size] w fun e w' => e = .returned (.tuple #[.pointer none, errV 1]) ∧ w' = w := by
  by_cases h1 : rows < 1
  · go_enter Tryz.func34, Tryz.ntmps34
    go_wp2
    go_ret2
    exact ⟨rfl, rfl⟩
  · by_cases h2 : 20 < rows
    · go_enter Tryz.func34, Tryz.ntmps34
      go_wp2
      go_ret2
      exact ⟨rfl, rfl⟩
    · by_cases h3 : size < 1
      · go_enter Tryz.func34, Tryz.ntmps34
        go_wp2
        go_ret2
        exact ⟨rfl, rfl⟩
      · have h4 : 16 < size := by omega
        clear h
        go_enter Tryz.func34, Tryz.ntmps34
        go_wp2
        go_ret2
        exact ⟨rfl, rfl⟩
end Go.Proofs.YtilfjahbdlepjaaGreatDoor

/- What writing and replacing make of a disk's rows: plain. -/
namespace Go.Proofs.YtilfjahbdlepjaaGreatDoor
open Go.RowKit El Pol
theorem list_of_co (xs : List El) (n : Nat) (h : xs.length = n) : (List.range n).map (fun j => co xs j) = xs := by
  apply List.ext_getElem (by simp [h])
  intro i h1 h2
  simp [co, List.getD_eq_getElem?_getD, h2]
theorem put_row (d : Dsk) (hk : d.ok) (r0 : Nat) (xs : List El) (hx : xs.length = d.size) (r : Nat) : (d.put r0 xs).row r = if r = r0 then xs else d.row r := by
  obtain ⟨_, _, h16⟩ := hk
  by_cases e : r = r0
  · subst e
    rw [if_pos rfl]
    refine Eq.trans ?_ (list_of_co xs d.size hx)
    show (List.range d.size).map _ = _
    apply List.map_congr_left
    intro j hj
    have := List.mem_range.1 hj
    show (if 16 * r ≤ 16 * r + j ∧ 16 * r + j < 16 * r + xs.length then co xs (16 * r + j - 16 * r) else _) = _
    rw [if_pos (by omega), Nat.add_sub_cancel_left]
  · rw [if_neg e]
    show (List.range d.size).map _ = (List.range d.size).map _
    apply List.map_congr_left
    intro j hj
    have := List.mem_range.1 hj
    show (if 16 * r0 ≤ 16 * r + j ∧ 16 * r + j < 16 * r0 + xs.length then _ else d.byte (16 * r + j)) = _
    rw [if_neg (by omega)]
theorem writeE_zero {d : Dsk} {z : Int} {n : Nat} (h : d.writeE z n = 0) : d.readE z = 0 ∧ n = d.size := by
  unfold Dsk.writeE at h
  split at h
  · rename_i h0
    split at h
    · exact ⟨h0, by assumption⟩
    · omega
  · rename_i h0
    exact absurd h h0
theorem write_row (d : Dsk) (hk : d.ok) (z : Int) (xs : List El) (h : d.writeE z xs.length = 0) (r : Nat) : (d.write z xs).row r = if r = z.toNat then xs else d.row r := by
  unfold Dsk.write
  rw [if_pos h]
  exact put_row d hk z.toNat xs (writeE_zero h).2 r
theorem write_no (d : Dsk) (z : Int) (xs : List El) (h : d.writeE z xs.length ≠ 0) : d.write z xs = d := if_neg h
theorem blank_row' (d : Dsk) (r : Nat) : d.blank.row r = List.replicate d.size 0 := by
  show (List.range d.size).map (fun _ => (0 : El)) = _
  rw [List.map_const', List.length_range]
theorem write_rows (d : Dsk) (z : Int) (xs : List El) : (d.write z xs).rows = d.rows := by unfold Dsk.write; split <;> rfl
theorem write_size (d : Dsk) (z : Int) (xs : List El) : (d.write z xs).size = d.size := by unfold Dsk.write; split <;> rfl
theorem write_failed (d : Dsk) (z : Int) (xs : List El) : (d.write z xs).failed = d.failed := by unfold Dsk.write; split <;> rfl
theorem replace_rows (d : Dsk) : d.replace.rows = d.rows := by unfold Dsk.replace; split <;> rfl
theorem replace_size (d : Dsk) : d.replace.size = d.size := by unfold Dsk.replace; split <;> rfl
theorem replace_writes (d : Dsk) : d.replace.writes = d.writes := by unfold Dsk.replace; split <;> rfl
theorem replace_failed (d : Dsk) : d.replace.failed = false := by
  unfold Dsk.replace
  split
  · rfl
  · rename_i h; simpa using h
theorem write_writes_le (d : Dsk) (z : Int) (xs : List El) : (d.write z xs).writes ≤ d.writes + 1 := by
  unfold Dsk.write
  split
  · exact Nat.le_refl _
  · omega
end Go.Proofs.YtilfjahbdlepjaaGreatDoor

/- A statement that draws its order, whose first operations only read or draw, and the others wait each for the one ahead: one walk of the text's order serves every order. -/
namespace Go.Proofs.YtilfjahbdlepjaaGreatDoor
open Go
section
variable {P : Program} {ops : Array Oper} {C : World → Prop}
/-- n operations that only read or draw; from there on each waits for the one ahead -/
def lastC (ops : Array Oper) (n : Nat) : Bool :=
  Region.noSelect ops && decide (n < ops.size) &&
  (List.range ops.size).all (fun i => match ops[i]? with | some o => o.after.toList.all (fun e => !Region.binds .any e || decide (e.on < i)) | none => false) &&
  (List.range n).all (fun i => (List.range i).all (fun j => waits ops i j || match ops[j]?, ops[i]? with | some oj, some oi => oj.apart ops oi | _, _ => false)) &&
  (List.range n).all (fun i => (List.range (n + 1)).any (fun j => decide (i < j) && waits ops j i)) &&
  (List.range ops.size).all (fun i => decide (i ≤ n) || waits ops i (i - 1))
theorem lastC_parts {n : Nat} (hB : lastC ops n = true) : Region.noSelect ops = true ∧ n < ops.size ∧ (∀ i o, ops[i]? = some o → ∀ e ∈ o.after, Region.binds .any e = true → e.on < i) ∧
    (∀ i, i < n → ∀ j, j < i → waits ops i j = true ∨ ∃ oj oi, ops[j]? = some oj ∧ ops[i]? = some oi ∧ oj.apart ops oi = true) ∧
    (∀ i, i < n → ∃ j, j < n + 1 ∧ i < j ∧ waits ops j i = true) ∧ ∀ i, i < ops.size → n < i → waits ops i (i - 1) = true := by
  unfold lastC at hB
  simp only [Bool.and_eq_true, decide_eq_true_eq, List.all_eq_true, List.mem_range] at hB
  obtain ⟨⟨⟨⟨⟨h1, h2⟩, h3⟩, h4⟩, h5⟩, h6⟩ := hB
  refine ⟨h1, h2, fun i o ho e he hb => ?_, fun i hi j hj => ?_, fun i hi => ?_, fun i hi hn => ?_⟩
  · have := h3 i (Array.getElem?_eq_some_iff.1 ho).1
    rw [ho] at this
    simp only [List.all_eq_true] at this
    have := this e (by simpa using he)
    simpa [hb] using this
  · have := h4 i hi j hj
    simp only [Bool.or_eq_true] at this
    rcases this with q | q
    · exact .inl q
    · cases h7 : ops[j]? with
      | none => rw [h7] at q; cases q
      | some oj =>
        cases h8 : ops[i]? with
        | none => rw [h7, h8] at q; cases q
        | some oi => rw [h7, h8] at q; exact .inr ⟨oj, oi, rfl, rfl, q⟩
  · obtain ⟨j, hj, hj2⟩ := List.any_eq_true.1 (h5 i hi)
    simp only [Bool.and_eq_true, decide_eq_true_eq] at hj2
    exact ⟨j, List.mem_range.1 hj, hj2.1, hj2.2⟩
  · have := h6 i hi
    simp only [Bool.or_eq_true, decide_eq_true_eq] at this
    rcases this with q | q
    · omega
    · exact q
/-- the chain -/
theorem any_chain {Q : Exit → Act → World → Prop} {l : List Oper} {n : Nat} (hB : lastC l.toArray n = true) : ∀ (c k : Nat) (listed : Array Bool) (a : Act) (w : World), k + c = l.length → n ≤ k → listed.size = l.length →
    (∀ i, i < k → listed.getD i true = true) → (∀ i, k ≤ i → i < l.length → listed.getD i true = false) → wpList P l.toArray Q (l.drop k) a w → wpAny P .any l.toArray Q c listed a w := by
  obtain ⟨_, _, hdep, _, _, hch⟩ := lastC_parts hB
  intro c
  induction c with
  | zero =>
    intro k listed a w hk _ hsz hall _ h
    rw [List.drop_eq_nil_of_le (by omega)] at h
    refine ⟨?_, h⟩
    rw [List.eq_nil_iff_forall_not_mem]
    intro j hj
    obtain ⟨h0, o, ho, _⟩ := mem_ready.1 hj
    have := (Array.getElem?_eq_some_iff.1 ho).1
    simp at this
    rw [hall j (by omega)] at h0
    cases h0
  | succ c ih =>
    intro k listed a w hk hn hsz hall hun h
    have hkl : k < l.length := by omega
    obtain ⟨o, ho⟩ : ∃ o, l[k]? = some o := ⟨l[k], List.getElem?_eq_getElem hkl⟩
    have ho' : l.toArray[k]? = some o := by rw [List.getElem?_toArray]; exact ho
    have hr : k ∈ Region.ready .any l.toArray listed := mem_ready.2 ⟨hun k (Nat.le_refl _) hkl, o, ho', fun e he hb => by
      have := hdep k o ho' e he hb
      rw [← getD_tf (by omega)]
      exact hall _ this⟩
    refine ⟨fun q => (by rw [q] at hr; cases hr), fun i hi => ?_⟩
    obtain ⟨h0, oi, hoi, hdi⟩ := mem_ready.1 hi
    have hil : i < l.length := by
      have := (Array.getElem?_eq_some_iff.1 hoi).1
      simpa using this
    have hik : i = k := by
      rcases Nat.lt_trichotomy i k with q | q | q
      · rw [hall i q] at h0; cases h0
      · exact q
      · exfalso
        obtain ⟨o2, ho2, e, he, hb, hon⟩ := waits_iff (hch i (by simpa using hil) (by omega))
        rw [hoi] at ho2
        cases ho2
        have := hdi e he hb
        rw [hon, ← getD_tf (by omega), hun (i - 1) (by omega) (by omega)] at this
        cases this
    subst hik
    have hd : l.drop i = o :: l.drop (i + 1) := by
      rw [List.drop_eq_getElem_cons hkl]
      rw [List.getElem?_eq_getElem hkl] at ho
      rw [Option.some.inj ho]
    rw [hd] at h
    have h' : wpOp P l.toArray Q i (wpList P l.toArray Q (l.drop (i + 1))) a w := by
      unfold wpOp
      rw [ho']
      exact h
    refine wpOp_mono (fun a' w' q => ?_) h'
    refine ih (i + 1) _ a' w' (by omega) (by omega) (by simpa using hsz) (fun j hj => ?_) (fun j hj hjl => ?_) q
    · by_cases e : j = i
      · subst e; simp [show j < listed.size by omega]
      · rw [getD_set_ne true (Ne.symm e)]
        exact hall j (by omega)
    · rw [getD_set_ne true (by omega)]
      exact hun j (by omega) hjl
theorem any_tail {Q : Exit → Act → World → Prop} {l : List Oper} {n : Nat} (hB : lastC l.toArray n = true) : ∀ (c : Nat) (listed : Array Bool) (a : Act) (w : World), C w → (un n listed).length = c → listed.size = l.length → (∀ i, n ≤ i → i < l.length → listed.getD i true = false) →
    (∀ j o, l.toArray[j]? = some o → listed.getD j false = true → ∀ e ∈ o.after, Region.binds .any e = true → listed.getD e.on false = true) →
    wpQuiet P l.toArray C (fun a => ∀ w, C w → wpList P l.toArray Q (l.drop n) a w) ((un n listed).filterMap (fun i => l.toArray[i]?)) a → wpAny P .any l.toArray Q (c + (l.length - n)) listed a w := by
  obtain ⟨hsel, hsz0, hdep, hap, hwt, hch⟩ := lastC_parts hB
  have hsz : n < l.length := by simpa using hsz0
  have hget : ∀ i, i < l.length → ∃ o, l.toArray[i]? = some o := fun i hi => ⟨l[i], by simp [hi]⟩
  have hops : ∀ i o, l.toArray[i]? = some o → o ∈ l.toArray.toList := fun i o h => by
    have := Array.mem_of_getElem? h
    simpa using this
  have hselo : ∀ o ∈ l.toArray.toList, ∀ cs b, o.op ≠ .select cs b := fun o ho cs b => by
    obtain ⟨i, hi, rfl⟩ := Array.getElem_of_mem (by simpa using ho : o ∈ l.toArray)
    exact Region.noSelect_spec hsel i _ cs b (by simp [show i < l.length by simpa using hi])
  intro c
  induction c with
  | zero =>
    intro listed a w hC hl hls hn _ hq
    have hnil : un n listed = [] := List.eq_nil_of_length_eq_zero hl
    rw [hnil] at hq
    have hall : ∀ i, i < n → listed.getD i true = true := fun i hi => by
      cases h : listed.getD i true with
      | true => rfl
      | false =>
        have : i ∈ un n listed := mem_un.2 ⟨hi, h⟩
        rw [hnil] at this
        cases this
    rw [Nat.zero_add]
    exact any_chain hB (l.length - n) n listed a w (by omega) (Nat.le_refl _) hls hall hn ((show ∀ w, C w → wpList P l.toArray Q (l.drop n) a w from hq) w hC)
  | succ c ih =>
    intro listed a w hC hl hls hn hcl hq
    have hlast : ∀ d i, n - i = d → i < n → listed.getD i true = false → n ∉ Region.ready .any l.toArray listed := by
      intro d
      induction d using Nat.strongRecOn with
      | _ d ihd =>
        intro i hd hi hu hr
        obtain ⟨j, hjn, hij, hj2⟩ := hwt i hi
        obtain ⟨oj, hoj, e, he, hb, hon⟩ := waits_iff hj2
        have hui : listed.getD i false = false := by rw [← getD_tf (by omega)]; exact hu
        by_cases ej : j = n
        · subst ej
          obtain ⟨_, o, ho, hall⟩ := mem_ready.1 hr
          rw [hoj] at ho
          cases ho
          have := hall e he hb
          rw [hon, hui] at this
          cases this
        · refine ihd (n - j) (by omega) j rfl (by omega) ?_ hr
          cases h : listed.getD j true with
          | false => rfl
          | true =>
            rw [getD_tf (by omega)] at h
            have := hcl j oj hoj h e he hb
            rw [hon, hui] at this
            cases this
    have hne : un n listed ≠ [] := fun e => by rw [e] at hl; cases hl
    rw [show c + 1 + (l.length - n) = (c + (l.length - n)) + 1 by omega]
    refine ⟨fun h => ?_, fun i hi => ?_⟩
    · exfalso
      cases hu : un n listed with
      | nil => exact hne hu
      | cons i l' =>
        have hiu : i ∈ un n listed := by rw [hu]; exact List.mem_cons_self ..
        obtain ⟨hin, hi0⟩ := mem_un.1 hiu
        obtain ⟨oi, hoi⟩ := hget i (by omega)
        have hp : (un n listed).Pairwise (· < ·) := List.Pairwise.filter _ List.pairwise_lt_range
        rw [hu] at hp
        have : i ∈ Region.ready .any l.toArray listed := mem_ready.2 ⟨hi0, oi, hoi, fun e he hb => by
          have hlt := hdep i oi hoi e he hb
          rw [← getD_tf (by omega)]
          cases h : listed.getD e.on true with
          | true => rfl
          | false =>
            have hm : e.on ∈ un n listed := mem_un.2 ⟨by omega, h⟩
            rw [hu] at hm
            rcases List.mem_cons.1 hm with h1 | h1
            · omega
            · have := (List.pairwise_cons.1 hp).1 _ h1
              omega⟩
        rw [h] at this
        cases this
    · obtain ⟨hi0, oi, hoi, hall⟩ := mem_ready.1 hi
      have hi1 : i < l.length := by
        have := (Array.getElem?_eq_some_iff.1 hoi).1
        simpa using this
      have hin : i < n := by
        rcases Nat.lt_trichotomy i n with h | h | h
        · exact h
        · exfalso
          subst h
          obtain ⟨k, hk⟩ := List.exists_mem_of_ne_nil _ hne
          obtain ⟨h1, h2⟩ := mem_un.1 hk
          exact hlast _ k rfl h1 h2 hi
        · exfalso
          obtain ⟨o2, ho2, e, he, hb, hon⟩ := waits_iff (hch i (by simpa using hi1) h)
          rw [hoi] at ho2
          cases ho2
          have := hall e he hb
          rw [hon, ← getD_tf (by omega), hn (i - 1) (by omega) (by omega)] at this
          cases this
      obtain ⟨l1, l2, hsp⟩ := List.append_of_mem (mem_un.2 ⟨hin, hi0⟩)
      have hp : (un n listed).Pairwise (· < ·) := List.Pairwise.filter _ List.pairwise_lt_range
      rw [hsp] at hp
      have hl1 : ∀ x ∈ l1, x < i := fun x hx => (List.pairwise_append.1 hp).2.2 x hx i (List.mem_cons_self ..)
      have hl1u : ∀ x ∈ l1, listed.getD x true = false := fun x hx => (mem_un.1 (show x ∈ un n listed by rw [hsp]; exact List.mem_append_left _ hx)).2
      rw [hsp, List.filterMap_append, List.filterMap_cons, hoi] at hq
      obtain ⟨v, hy, hr⟩ := first_up' hselo (hops i oi hoi) _ _ a (fun o ho => by
        obtain ⟨x, _, hx⟩ := List.mem_filterMap.1 ho
        exact hops x o hx) (fun o ho => by
        obtain ⟨x, hx, hxo⟩ := List.mem_filterMap.1 ho
        rcases hap i hin x (hl1 x hx) with h1 | ⟨oj, oi2, hj1, hj2, h1⟩
        · exfalso
          obtain ⟨o', ho', e, he, hb, hon⟩ := waits_iff h1
          rw [hoi] at ho'
          cases ho'
          have := hall e he hb
          rw [hon, ← getD_tf (by have := hl1 x hx; omega), hl1u x hx] at this
          cases this
        · rw [hxo] at hj1
          rw [hoi] at hj2
          cases hj1
          cases hj2
          exact h1) hq
      have hun := un_set (n := n) (listed := listed) (i := i) (by omega) hsp
      refine wpOp_of_qOp hC (fun a' w' hC' h' => ih (listed.setIfInBounds i true) a' w' hC' ?_ (by simpa using hls) (fun j hj hjl => ?_) ?_ h') (hy.qOp hoi ?_)
      · rw [hun]
        rw [hsp] at hl
        simp at hl ⊢
        omega
      · rw [getD_set_ne true (by omega)]; exact hn j hj hjl
      · intro j o ho hj e he hb
        by_cases ej : j = i
        · subst ej
          rw [hoi] at ho
          cases ho
          exact getD_set_true (hall e he hb)
        · rw [getD_set_ne false (Ne.symm ej)] at hj
          exact getD_set_true (hcl j o ho hj e he hb)
      · rw [hun, List.filterMap_append]; exact hr
end
/-- the whole statement -/
theorem region_tail {P : Program} {id : Nat} {Q : Exit → Act → World → Prop} {a : Act} {w : World} {l : List Oper} (n : Nat) (hm : P.follows .mixedOrders = true) (hB : lastC l.toArray n = true)
    (h : wpQuiet P l.toArray (fun w' => ∃ n, w' = w.drewN n) (fun a' => ∀ w', (∃ n, w' = w.drewN n) → wpList P l.toArray Q (l.drop n) a' w') (l.take n) a) : (Code.region id l.toArray true).wp P Q a w := by
  have hsz : n < l.length := by simpa using (lastC_parts hB).2.1
  have hU : un n (Array.replicate l.length false) = List.range n := by
    unfold un
    rw [List.filter_eq_self]
    intro i hi
    have := List.mem_range.1 hi
    simp [show i < l.length by omega]
  refine wp_region_any hm ?_
  have hs : l.toArray.size = n + (l.length - n) := by simp; omega
  have hs2 : l.toArray.size = l.length := by simp
  rw [hs2, show l.length = n + (l.length - n) by omega]
  rw [show Array.replicate (n + (l.length - n)) false = Array.replicate l.length false by rw [show n + (l.length - n) = l.length by omega]]
  refine any_tail (C := fun w' => ∃ n, w' = w.drewN n) hB n _ a _ ⟨1, rfl⟩ ?_ (by simp) (fun i _ hi => by simp [hi]) (fun j o _ hj => ?_) ?_
  · rw [hU]; simp
  · exfalso
    rcases Nat.lt_or_ge j l.length with q | q
    · simp [q] at hj
    · simp [q] at hj
  · rw [hU, fm_take]
    exact h
end Go.Proofs.YtilfjahbdlepjaaGreatDoor
