/- A disk that is played with: the state between the steps, and what keeps it. -/
import Derived.Test.YtpneconlinehkadDoorDskD
import Derived.Test.YtpneconlinehkadDoorErrw
import Derived.Test.YtpneconlinehkadDoorRowAt
import Derived.Test.YtpneconlinehkadDoorViewII
import Derived.Test.YtpneconlinehkadDoorMemJ
namespace Go.Proofs.YtpneconlinehkadDoor
open Go.RowKit El Pol
/-- a piece of a text: 0, 1: first and rest of two; 2: in a block; 3, 4: the ways of an if; 5: in a loop -/
def cut : List Nat → Code → Code
  | 0 :: p, .seq a _ => cut p a
  | 1 :: p, .seq _ b => cut p b
  | 2 :: p, .block _ c => cut p c
  | 3 :: p, .cond _ a _ => cut p a
  | 4 :: p, .cond _ _ b => cut p b
  | 5 :: p, .loop c => cut p c
  | [], c => c
  | _, _ => .skip
theorem then_k {K : Act → World → Prop} {Q : Exit → Act → World → Prop} {x : Act} {w : World} (h : K x w) : Exit.then K Q .normal x w := h
theorem RowAt.but {F : Nat → Prop} {w w' : World} {h m : Nat} {f : Nat → Value} (hr : RowAt w h m f) (hb : But F w w') (hn : ¬ F h) : RowAt w' h m f :=
  ⟨Nat.lt_of_lt_of_le hr.1 hb.size, fun i hi => ⟨by rw [hb.cell (p := ⟨h, i, none⟩) hr.1 hn]; exact (hr.2 i hi).1, by rw [hb.frozen (p := ⟨h, i, none⟩) hr.1 hn]; exact (hr.2 i hi).2⟩⟩
/-- the disk at p, its document's cells at g -/
structure St (w : World) (p g rows : Nat) (wc : World) (d : Dsk) (f : Nat → List El) : Prop where
  low : Below w.heap.size w wc
  dsk : IsD wc p d
  row : RowAt wc g rows (fun r => st (f r))
  hp : w.heap.size ≤ p
  hg : w.heap.size ≤ g
  ne : g ≠ p
/-- a step's four numbers at q -/
structure Vv (w : World) (p g q : Nat) (wc : World) (v : Nat → Int) : Prop where
  row : RowAt wc q 4 (fun j => .int .i64 (v j))
  hq : w.heap.size ≤ q
  np : q ≠ p
  ng : q ≠ g
variable {w wc w1 : World} {p g q rows : Nat} {d d' : Dsk} {f : Nat → List El} {v : Nat → Int}
theorem St.old (h : St w p g rows wc d f) (hb : Below wc.heap.size wc w1) : St w p g rows w1 d f :=
  ⟨h.low.trans (hb.mono h.low.size), h.dsk.old hb, h.row.old hb, h.hp, h.hg, h.ne⟩
theorem Vv.old (h : Vv w p g q wc v) (hb : Below wc.heap.size wc w1) : Vv w p g q w1 v := ⟨h.row.old hb, h.hq, h.np, h.ng⟩
theorem St.onDsk (h : St w p g rows wc d f) (hb : But (· = p) wc w1) (hd : IsD w1 p d') : St w p g rows w1 d' f :=
  ⟨h.low.trans (hb.below h.low.size (fun k hk => by rw [hk]; exact h.hp)), hd, h.row.but hb h.ne, h.hp, h.hg, h.ne⟩
theorem Vv.onDsk (h : Vv w p g q wc v) (hb : But (· = p) wc w1) : Vv w p g q w1 v := ⟨h.row.but hb h.np, h.hq, h.np, h.ng⟩
theorem St.onCell (h : St w p g rows wc d f) (i : Nat) (xs : List El) : St w p g rows (wc.setCell ⟨g, i, none⟩ (st xs)) d (up f i xs) :=
  ⟨h.low.trans ((h.row.put i (st xs)).2.mono h.hg), h.dsk.but (but_one wc g i _) (fun e => h.ne e.symm), (h.row.put i (st xs)).1.congr (fun k _ => by
    by_cases e : k = i
    · subst e; rw [up_at, up_at]
    · rw [up_ne _ _ e, up_ne _ _ e]), h.hp, h.hg, h.ne⟩
theorem Vv.onCell (h : Vv w p g q wc v) (i : Nat) (x : Value) : Vv w p g q (wc.setCell ⟨g, i, none⟩ x) v := ⟨h.row.apart h.ng i x, h.hq, h.np, h.ng⟩
theorem Vv.at (h : Vv w p g q wc v) (j : Nat) (hj : j < 4) : wc.cell? ⟨q, j, none⟩ = some (.int .i64 (v j)) := (h.row.2 j hj).1
theorem St.drewN (h : St w p g rows wc d f) (n : Nat) : St w p g rows (wc.drewN n) d f := h.old (below_drewN (Below.refl _ _) n)
theorem Vv.drewN (h : Vv w p g q wc v) (n : Nat) : Vv w p g q (wc.drewN n) v := h.old (below_drewN (Below.refl _ _) n)
theorem list_of_co (xs : List El) (n : Nat) (h : xs.length = n) : (List.range n).map (fun j => co xs j) = xs := by
  apply List.ext_getElem (by simp [h])
  intro i h1 h2
  simp [co, List.getD_eq_getElem?_getD, h2]
theorem put_row (d : Dsk) (hk : d.ok) (r0 : Nat) (xs : List El) (hx : xs.length = d.size) (r : Nat) : (d.put r0 xs).row r = if r = r0 then xs else d.row r := by
  obtain ⟨_, _, h16⟩ := hk
  by_cases e : r = r0
  · subst e
    rw [if_pos rfl]
    refine Eq.trans ?_ (list_of_co xs d.size hx)
    show (List.range d.size).map _ = _
    apply List.map_congr_left
    intro j hj
    have := List.mem_range.1 hj
    show (if 16 * r ≤ 16 * r + j ∧ 16 * r + j < 16 * r + xs.length then co xs (16 * r + j - 16 * r) else _) = _
    rw [if_pos (by omega), Nat.add_sub_cancel_left]
  · rw [if_neg e]
    show (List.range d.size).map _ = (List.range d.size).map _
    apply List.map_congr_left
    intro j hj
    have := List.mem_range.1 hj
    show (if 16 * r0 ≤ 16 * r + j ∧ 16 * r + j < 16 * r0 + xs.length then _ else d.byte (16 * r + j)) = _
    rw [if_neg (by omega)]
theorem writeE_zero {d : Dsk} {z : Int} {n : Nat} (h : d.writeE z n = 0) : d.readE z = 0 ∧ n = d.size := by
  unfold Dsk.writeE at h
  split at h
  · rename_i h0
    split at h
    · exact ⟨h0, by assumption⟩
    · omega
  · rename_i h0
    exact absurd h h0
theorem write_row (d : Dsk) (hk : d.ok) (z : Int) (xs : List El) (h : d.writeE z xs.length = 0) (r : Nat) : (d.write z xs).row r = if r = z.toNat then xs else d.row r := by
  unfold Dsk.write
  rw [if_pos h]
  exact put_row d hk z.toNat xs (writeE_zero h).2 r
theorem write_no (d : Dsk) (z : Int) (xs : List El) (h : d.writeE z xs.length ≠ 0) : d.write z xs = d := if_neg h
theorem blank_row' (d : Dsk) (r : Nat) : d.blank.row r = List.replicate d.size 0 := by
  show (List.range d.size).map (fun _ => (0 : El)) = _
  rw [List.map_const', List.length_range]
theorem write_rows (d : Dsk) (z : Int) (xs : List El) : (d.write z xs).rows = d.rows := by unfold Dsk.write; split <;> rfl
theorem write_size (d : Dsk) (z : Int) (xs : List El) : (d.write z xs).size = d.size := by unfold Dsk.write; split <;> rfl
theorem write_failed (d : Dsk) (z : Int) (xs : List El) : (d.write z xs).failed = d.failed := by unfold Dsk.write; split <;> rfl
theorem replace_rows (d : Dsk) : d.replace.rows = d.rows := by unfold Dsk.replace; split <;> rfl
theorem replace_size (d : Dsk) : d.replace.size = d.size := by unfold Dsk.replace; split <;> rfl
theorem replace_writes (d : Dsk) : d.replace.writes = d.writes := by unfold Dsk.replace; split <;> rfl
theorem replace_failed (d : Dsk) : d.replace.failed = false := by
  unfold Dsk.replace
  split
  · rfl
  · rename_i h; simpa using h
theorem write_writes_le (d : Dsk) (z : Int) (xs : List El) : (d.write z xs).writes ≤ d.writes + 1 := by
  unfold Dsk.write
  split
  · exact Nat.le_refl _
  · omega
/-- the text that a step writes -/
def bt0 (v : Nat → Int) : List El := if 0 ≤ v 2 ∧ v 2 ≤ 20 then List.replicate (v 2).toNat 0 else []
def b3 (v : Nat → Int) : El := ⟨(v 3 % 256).toNat, by omega⟩
def bt (size : Nat) (v : Nat → Int) : List El := if v 2 = (size : Int) then b3 v :: (bt0 v).drop 1 else bt0 v
theorem b3_val (v : Nat → Int) : (((b3 v).val : Nat) : Int) = v 3 % 256 := by
  show (((v 3 % 256).toNat : Nat) : Int) = _
  omega
theorem sb_cons (x : El) (ys : List El) (n : Nat) (h : ys.length = n) : sb [x] ++ (sb ys).extract 1 n = sb (x :: ys.drop 1) := by
  subst h
  apply ByteArray.ext
  rw [ByteArray.data_append, ByteArray.data_extract]
  show #[UInt8.ofNat x.val] ++ (ys.map (fun x => UInt8.ofNat x.val)).toArray.extract 1 ys.length = ((x :: ys.drop 1).map (fun x => UInt8.ofNat x.val)).toArray
  rw [List.extract_toArray]
  simp [List.extract]
  rw [List.take_of_length_le (by simp)]
/-- a step's numbers, those that are not told being 0 -/
def vF (L : Nat → Nat) (F : Nat → Nat → Int) (k : Nat) : Nat → Int := fun j => if j < L k then F k j else 0
theorem Vv.new (h : St w p g rows wc d f) (t : TypeId) : Vv w p g wc.heap.size (wc.alloc (.cells #[.int .i64 0, .int .i64 0, .int .i64 0, .int .i64 0] t)) (fun _ => 0) :=
  ⟨RowAt.new wc 4 (.int .i64 0) t, h.low.size, Nat.ne_of_gt h.dsk.lt, Nat.ne_of_gt h.row.1⟩
theorem Vv.put (h : Vv w p g q wc v) (i : Nat) (x : Int) (u : Nat → Int) (hu : ∀ k, k < 4 → u k = if k = i then x else v k) : Vv w p g q (wc.setCell ⟨q, i, none⟩ (.int .i64 x)) u :=
  ⟨(h.row.put i _).1.congr (fun k hk => by
    rw [hu k hk]
    by_cases e : k = i
    · subst e; rw [up_at, if_pos rfl]
    · rw [up_ne _ _ e, if_neg e]), h.hq, h.np, h.ng⟩
theorem St.onV (h : St w p g rows wc d f) (hv : Vv w p g q wc v) (i : Nat) (x : Value) : St w p g rows (wc.setCell ⟨q, i, none⟩ x) d f :=
  ⟨h.low.trans ((hv.row.put i x).2.mono hv.hq), h.dsk.but (but_one wc q i _) (fun e => hv.np e.symm), h.row.but (but_one wc q i _) (fun e => hv.ng e.symm), h.hp, h.hg, h.ne⟩
/-- what a step makes of a disk -/
def stp (size : Nat) (d : Dsk) (v : Nat → Int) : Dsk := if v 0 = 0 ∨ v 0 = 1 then d.write (v 1) (bt size v) else if v 0 = 2 then d.fail else if v 0 = 3 then d.replace else d
theorem stp_write (size : Nat) (d : Dsk) (v : Nat → Int) (h : v 0 = 0 ∨ v 0 = 1) : stp size d v = d.write (v 1) (bt size v) := if_pos h
theorem stp_fail (size : Nat) (d : Dsk) (v : Nat → Int) (h : v 0 = 2) : stp size d v = d.fail := by unfold stp; rw [if_neg (by omega), if_pos h]
theorem stp_rep (size : Nat) (d : Dsk) (v : Nat → Int) (h : v 0 = 3) : stp size d v = d.replace := by unfold stp; rw [if_neg (by omega), if_neg (by omega), if_pos h]
theorem stp_no (size : Nat) (d : Dsk) (v : Nat → Int) (h0 : v 0 ≠ 0) (h1 : v 0 ≠ 1) (h2 : v 0 ≠ 2) (h3 : v 0 ≠ 3) : stp size d v = d := by unfold stp; rw [if_neg (by omega), if_neg h2, if_neg h3]
theorem stp_ok (size : Nat) (d : Dsk) (v : Nat → Int) : (stp size d v).rows = d.rows ∧ (stp size d v).size = d.size ∧ (stp size d v).writes ≤ d.writes + 1 := by
  unfold stp
  split
  · exact ⟨write_rows d _ _, write_size d _ _, write_writes_le d _ _⟩
  · split
    · exact ⟨rfl, rfl, Nat.le_succ _⟩
    · split
      · exact ⟨replace_rows d, replace_size d, by rw [replace_writes]; omega⟩
      · exact ⟨rfl, rfl, Nat.le_succ _⟩
theorem owns_len {B : Nat} {T : TypeId} {w : World} {v : Value} {n : Nat} {xs : List Value} (h : w.ownsRow B T 1 v n xs) : ∃ ao cap, v = .slice ao n cap := by
  rcases h.2 with ⟨rfl, e⟩ | ⟨g, cap, cur, rfl, _⟩
  · exact ⟨none, 0, by rw [e]⟩
  · exact ⟨_, cap, rfl⟩
/-- a list of texts of the call's own, as it stands in its block -/
theorem rowAt_of_owns {B : Nat} {T : TypeId} {w : World} {v : Value} {n : Nat} {z : Value} (h : w.ownsRow B T 1 v n (List.replicate n z)) (hn : 0 < n) : ∃ g cap, v = .slice (some ⟨g, 0, none⟩) n cap ∧ B ≤ g ∧ RowAt w g n (fun _ => z) := by
  have h0 := h
  rcases h.2 with ⟨_, e⟩ | ⟨g, cap, cur, rfl, hB, hg, _⟩
  · omega
  · refine ⟨g, cap, rfl, hB, lt_of_block hg, fun i hi => ⟨?_, frozen_of_row _ _ _ _ _ hg⟩⟩
    rw [World.ownsRow.cellAt h0 i (by omega)]
    simp [hi]
end Go.Proofs.YtpneconlinehkadDoor
