/- A disk that is played with: the state between the steps, and what keeps it. -/
import Derived.Test.YtmeihdjcifhcpaaDoorDskF
import Derived.Test.YtmeihdjcifhcpaaDoorDskE
import Derived.Test.YtmeihdjcifhcpaaDoorCuts
import Derived.Test.YtmeihdjcifhcpaaDoorErrw
import Derived.Test.YtmeihdjcifhcpaaDoorDskW
import Derived.Test.YtmeihdjcifhcpaaDoorRowAt
import Derived.Test.YtmeihdjcifhcpaaDoorViewII
import Derived.Test.YtmeihdjcifhcpaaDoorMemJ
namespace Go.Proofs.YtmeihdjcifhcpaaDoor
open Go.RowKit El Pol
/-- the disk at p, its document's cells at g -/
structure St (w : World) (p g rows : Nat) (wc : World) (d : Dsk) (f : Nat → List El) : Prop where
  low : Below w.heap.size w wc
  dsk : IsD wc p d
  row : RowAt wc g rows (fun r => st (f r))
  hp : w.heap.size ≤ p
  hg : w.heap.size ≤ g
  ne : g ≠ p
/-- a step's four numbers at q -/
structure Vv (w : World) (p g q : Nat) (wc : World) (v : Nat → Int) : Prop where
  row : RowAt wc q 4 (fun j => .int .i64 (v j))
  hq : w.heap.size ≤ q
  np : q ≠ p
  ng : q ≠ g
variable {w wc w1 : World} {p g q rows : Nat} {d d' : Dsk} {f : Nat → List El} {v : Nat → Int}
theorem St.old (h : St w p g rows wc d f) (hb : Below wc.heap.size wc w1) : St w p g rows w1 d f :=
  ⟨h.low.trans (hb.mono h.low.size), h.dsk.old hb, h.row.old hb, h.hp, h.hg, h.ne⟩
theorem Vv.old (h : Vv w p g q wc v) (hb : Below wc.heap.size wc w1) : Vv w p g q w1 v := ⟨h.row.old hb, h.hq, h.np, h.ng⟩
theorem St.onDsk (h : St w p g rows wc d f) (hb : But (· = p) wc w1) (hd : IsD w1 p d') : St w p g rows w1 d' f :=
  ⟨h.low.trans (hb.below h.low.size (fun k hk => by rw [hk]; exact h.hp)), hd, h.row.but hb h.ne, h.hp, h.hg, h.ne⟩
theorem Vv.onDsk (h : Vv w p g q wc v) (hb : But (· = p) wc w1) : Vv w p g q w1 v := ⟨h.row.but hb h.np, h.hq, h.np, h.ng⟩
theorem St.onCell (h : St w p g rows wc d f) (i : Nat) (xs : List El) : St w p g rows (wc.setCell ⟨g, i, none⟩ (st xs)) d (up f i xs) :=
  ⟨h.low.trans ((h.row.put i (st xs)).2.mono h.hg), h.dsk.but (but_one wc g i _) (fun e => h.ne e.symm), (h.row.put i (st xs)).1.congr (fun k _ => by
    by_cases e : k = i
    · subst e; rw [up_at, up_at]
    · rw [up_ne _ _ e, up_ne _ _ e]), h.hp, h.hg, h.ne⟩
theorem Vv.onCell (h : Vv w p g q wc v) (i : Nat) (x : Value) : Vv w p g q (wc.setCell ⟨g, i, none⟩ x) v := ⟨h.row.apart h.ng i x, h.hq, h.np, h.ng⟩
theorem Vv.at (h : Vv w p g q wc v) (j : Nat) (hj : j < 4) : wc.cell? ⟨q, j, none⟩ = some (.int .i64 (v j)) := (h.row.2 j hj).1
theorem St.drewN (h : St w p g rows wc d f) (n : Nat) : St w p g rows (wc.drewN n) d f := h.old (below_drewN (Below.refl _ _) n)
theorem Vv.drewN (h : Vv w p g q wc v) (n : Nat) : Vv w p g q (wc.drewN n) v := h.old (below_drewN (Below.refl _ _) n)
/-- the text that a step writes -/
def bt0 (v : Nat → Int) : List El := if 0 ≤ v 2 ∧ v 2 ≤ 20 then List.replicate (v 2).toNat 0 else []
def b3 (v : Nat → Int) : El := ⟨(v 3 % 256).toNat, by omega⟩
def bt (size : Nat) (v : Nat → Int) : List El := if v 2 = (size : Int) then b3 v :: (bt0 v).drop 1 else bt0 v
theorem b3_val (v : Nat → Int) : (((b3 v).val : Nat) : Int) = v 3 % 256 := by
  show (((v 3 % 256).toNat : Nat) : Int) = _
  omega
theorem sb_cons (x : El) (ys : List El) (n : Nat) (h : ys.length = n) : sb [x] ++ (sb ys).extract 1 n = sb (x :: ys.drop 1) := by
  subst h
  apply ByteArray.ext
  rw [ByteArray.data_append, ByteArray.data_extract]
  show #[UInt8.ofNat x.val] ++ (ys.map (fun x => UInt8.ofNat x.val)).toArray.extract 1 ys.length = ((x :: ys.drop 1).map (fun x => UInt8.ofNat x.val)).toArray
  rw [List.extract_toArray]
  simp [List.extract]
  rw [List.take_of_length_le (by simp)]
/-- a step's numbers, those that are not told being 0 -/
def vF (L : Nat → Nat) (F : Nat → Nat → Int) (k : Nat) : Nat → Int := fun j => if j < L k then F k j else 0
theorem Vv.new (h : St w p g rows wc d f) (t : TypeId) : Vv w p g wc.heap.size (wc.alloc (.cells #[.int .i64 0, .int .i64 0, .int .i64 0, .int .i64 0] t)) (fun _ => 0) :=
  ⟨RowAt.new wc 4 (.int .i64 0) t, h.low.size, Nat.ne_of_gt h.dsk.lt, Nat.ne_of_gt h.row.1⟩
theorem Vv.put (h : Vv w p g q wc v) (i : Nat) (x : Int) (u : Nat → Int) (hu : ∀ k, k < 4 → u k = if k = i then x else v k) : Vv w p g q (wc.setCell ⟨q, i, none⟩ (.int .i64 x)) u :=
  ⟨(h.row.put i _).1.congr (fun k hk => by
    rw [hu k hk]
    by_cases e : k = i
    · subst e; rw [up_at, if_pos rfl]
    · rw [up_ne _ _ e, if_neg e]), h.hq, h.np, h.ng⟩
theorem St.onV (h : St w p g rows wc d f) (hv : Vv w p g q wc v) (i : Nat) (x : Value) : St w p g rows (wc.setCell ⟨q, i, none⟩ x) d f :=
  ⟨h.low.trans ((hv.row.put i x).2.mono hv.hq), h.dsk.but (but_one wc q i _) (fun e => hv.np e.symm), h.row.but (but_one wc q i _) (fun e => hv.ng e.symm), h.hp, h.hg, h.ne⟩
/-- what a step makes of a disk -/
def stp (size : Nat) (d : Dsk) (v : Nat → Int) : Dsk := if v 0 = 0 ∨ v 0 = 1 then d.write (v 1) (bt size v) else if v 0 = 2 then d.fail else if v 0 = 3 then d.replace else d
theorem stp_write (size : Nat) (d : Dsk) (v : Nat → Int) (h : v 0 = 0 ∨ v 0 = 1) : stp size d v = d.write (v 1) (bt size v) := if_pos h
theorem stp_fail (size : Nat) (d : Dsk) (v : Nat → Int) (h : v 0 = 2) : stp size d v = d.fail := by unfold stp; rw [if_neg (by omega), if_pos h]
theorem stp_rep (size : Nat) (d : Dsk) (v : Nat → Int) (h : v 0 = 3) : stp size d v = d.replace := by unfold stp; rw [if_neg (by omega), if_neg (by omega), if_pos h]
theorem stp_no (size : Nat) (d : Dsk) (v : Nat → Int) (h0 : v 0 ≠ 0) (h1 : v 0 ≠ 1) (h2 : v 0 ≠ 2) (h3 : v 0 ≠ 3) : stp size d v = d := by unfold stp; rw [if_neg (by omega), if_neg h2, if_neg h3]
theorem stp_ok (size : Nat) (d : Dsk) (v : Nat → Int) : (stp size d v).rows = d.rows ∧ (stp size d v).size = d.size ∧ (stp size d v).writes ≤ d.writes + 1 := by
  unfold stp
  split
  · exact ⟨write_rows d _ _, write_size d _ _, write_writes_le d _ _⟩
  · split
    · exact ⟨rfl, rfl, Nat.le_succ _⟩
    · split
      · exact ⟨replace_rows d, replace_size d, by rw [replace_writes]; omega⟩
      · exact ⟨rfl, rfl, Nat.le_succ _⟩
theorem owns_len {B : Nat} {T : TypeId} {w : World} {v : Value} {n : Nat} {xs : List Value} (h : w.ownsRow B T 1 v n xs) : ∃ ao cap, v = .slice ao n cap := by
  rcases h.2 with ⟨rfl, e⟩ | ⟨g, cap, cur, rfl, _⟩
  · exact ⟨none, 0, by rw [e]⟩
  · exact ⟨_, cap, rfl⟩
/-- a list of texts of the call's own, as it stands in its block -/
theorem rowAt_of_owns {B : Nat} {T : TypeId} {w : World} {v : Value} {n : Nat} {z : Value} (h : w.ownsRow B T 1 v n (List.replicate n z)) (hn : 0 < n) : ∃ g cap, v = .slice (some ⟨g, 0, none⟩) n cap ∧ B ≤ g ∧ RowAt w g n (fun _ => z) := by
  have h0 := h
  rcases h.2 with ⟨_, e⟩ | ⟨g, cap, cur, rfl, hB, hg, _⟩
  · omega
  · refine ⟨g, cap, rfl, hB, lt_of_block hg, fun i hi => ⟨?_, frozen_of_row _ _ _ _ _ hg⟩⟩
    rw [World.ownsRow.cellAt h0 i (by omega)]
    simp [hi]
end Go.Proofs.YtmeihdjcifhcpaaDoor
