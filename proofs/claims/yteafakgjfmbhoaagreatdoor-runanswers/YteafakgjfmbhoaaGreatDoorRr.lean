/- Texts of plain mathematics, of memory and of walks, in one. -/
import Derived.Test.YteafakgjfmbhoaaGreatDoorAr
import Derived.Test.YteafakgjfmbhoaaGreatDoorGe
import Derived.Test.YteafakgjfmbhoaaGreatDoorMe
import Derived.Test.YteafakgjfmbhoaaGreatDoorPa
import Derived.Test.YteafakgjfmbhoaaGreatDoorMt
import Derived.Test.YteafakgjfmbhoaaGreatDoorLy
import Derived.Test.YteafakgjfmbhoaaGreatDoorYRefHc
import Derived.Test.YteafakgjfmbhoaaGreatDoorDk
/- The document's array in memory: where its parts stand, what they hold, and what keeps them. -/
namespace Go.Proofs.YteafakgjfmbhoaaGreatDoor
open Go.RowKit El Pol Mx Lay
/-- where its parts stand: itself, the disks, of each its rows; what has failed; what is built -/
structure RAd where
  p : Nat
  g0 : Nat
  g1 : Nat
  g2 : Nat
  c0 : Nat
  c1 : Nat
  c2 : Nat
  h : Nat → Nat
  hc : Nat → Nat
def RAd.F (x : RAd) (n : Nat) (k : Nat) : Prop := k = x.p ∨ k = x.g0 ∨ k = x.g1 ∨ k = x.g2 ∨ ∃ d, d < n ∧ k = x.h d
structure RAd.Apart (x : RAd) (n : Nat) : Prop where
  p0 : x.p ≠ x.g0
  p1 : x.p ≠ x.g1
  p2 : x.p ≠ x.g2
  g01 : x.g0 ≠ x.g1
  g02 : x.g0 ≠ x.g2
  g12 : x.g1 ≠ x.g2
  hp : ∀ d, d < n → x.h d ≠ x.p
  h0 : ∀ d, d < n → x.h d ≠ x.g0
  h1 : ∀ d, d < n → x.h d ≠ x.g1
  h2 : ∀ d, d < n → x.h d ≠ x.g2
  hh : ∀ d e, d < n → e < n → x.h d = x.h e → d = e
/-- the six cells of it -/
def raF (x : RAd) (a : Arr) (i : Nat) : Value :=
  if i = 0 then .int .i64 a.n else if i = 1 then .int .i64 a.rows else if i = 2 then .int .i64 a.size
  else if i = 3 then .slice (some ⟨x.g0, 0, none⟩) a.n x.c0 else if i = 4 then .slice (some ⟨x.g1, 0, none⟩) a.n x.c1 else .slice (some ⟨x.g2, 0, none⟩) a.n x.c2
structure RA (w : World) (x : RAd) (a : Arr) : Prop where
  me : RowAt w x.p 6 (raF x a)
  disks : RowAt w x.g0 a.n (fun d => .slice (some ⟨x.h d, 0, none⟩) a.rows (x.hc d))
  cells : ∀ d, d < a.n → RowAt w (x.h d) a.rows (fun r => st (a.cell d r))
  failed : RowAt w x.g1 a.n (fun d => .bool (a.failed d))
  built : RowAt w x.g2 a.n (fun d => .int .i64 (a.built d))
  apart : x.Apart a.n
namespace RA
variable {w w' : World} {x : RAd} {a : Arr}
theorem old (h : RA w x a) (hb : Below w.heap.size w w') : RA w' x a :=
  ⟨h.me.old hb, h.disks.old hb, fun d hd => (h.cells d hd).old hb, h.failed.old hb, h.built.old hb, h.apart⟩
theorem but {G : Nat → Prop} (h : RA w x a) (hb : But G w w') (hn : ∀ k, x.F a.n k → ¬ G k) : RA w' x a :=
  ⟨h.me.but hb (hn _ (.inl rfl)), h.disks.but hb (hn _ (.inr (.inl rfl))), fun d hd => (h.cells d hd).but hb (hn _ (.inr (.inr (.inr (.inr ⟨d, hd, rfl⟩))))), h.failed.but hb (hn _ (.inr (.inr (.inl rfl)))), h.built.but hb (hn _ (.inr (.inr (.inr (.inl rfl))))), h.apart⟩
theorem lt (h : RA w x a) : ∀ k, x.F a.n k → k < w.heap.size := by
  rintro k (rfl | rfl | rfl | rfl | ⟨d, hd, rfl⟩)
  · exact h.me.1
  · exact h.disks.1
  · exact h.failed.1
  · exact h.built.1
  · exact (h.cells d hd).1
theorem drewN (h : RA w x a) (n : Nat) : RA (w.drewN n) x a := h.old (below_drewN (Below.refl _ _) n)
/-- one has failed, or not -/
theorem putFailed (h : RA w x a) (d : Nat) (b : Bool) : RA (w.setCell ⟨x.g1, d, none⟩ (.bool b)) x { a with failed := up a.failed d b } := by
  have hb := but_cell w x.g1 d (.bool b)
  refine ⟨h.me.but hb (fun e => h.apart.p1 e), h.disks.but hb (fun e => h.apart.g01 e), fun e he => (h.cells e he).but hb (fun q => h.apart.h1 e he q), (h.failed.put d (.bool b)).1.congr (fun k _ => ?_), h.built.but hb (fun e => h.apart.g12 e.symm), h.apart⟩
  show up (fun d => Value.bool (a.failed d)) d (.bool b) k = .bool (up a.failed d b k)
  by_cases e : k = d
  · subst e; rw [up_at, up_at]
  · rw [up_ne _ _ e, up_ne _ _ e]
/-- one is built up to there -/
theorem putBuilt (h : RA w x a) (d m : Nat) : RA (w.setCell ⟨x.g2, d, none⟩ (.int .i64 m)) x { a with built := up a.built d m } := by
  have hb := but_cell w x.g2 d (.int .i64 m)
  refine ⟨h.me.but hb (fun e => h.apart.p2 e), h.disks.but hb (fun e => h.apart.g02 e), fun e he => (h.cells e he).but hb (fun q => h.apart.h2 e he q), h.failed.but hb (fun e => h.apart.g12 e), (h.built.put d (.int .i64 m)).1.congr (fun k _ => ?_), h.apart⟩
  show up (fun d => Value.int .i64 (a.built d)) d (.int .i64 m) k = .int .i64 ((up a.built d m k : Nat) : Int)
  by_cases e : k = d
  · subst e; rw [up_at, up_at]
  · rw [up_ne _ _ e, up_ne _ _ e]
/-- one cell another one -/
theorem putCell (h : RA w x a) (d r : Nat) (hd : d < a.n) (t : List El) : RA (w.setCell ⟨x.h d, r, none⟩ (st t)) x { a with cell := fun e s => if e = d ∧ s = r then t else a.cell e s } := by
  have hb := but_cell w (x.h d) r (st t)
  refine ⟨h.me.but hb (fun e => h.apart.hp d hd e.symm), h.disks.but hb (fun e => h.apart.h0 d hd e.symm), fun e he => ?_, h.failed.but hb (fun e => h.apart.h1 d hd e.symm), h.built.but hb (fun e => h.apart.h2 d hd e.symm), h.apart⟩
  by_cases q : e = d
  · subst q
    refine ((h.cells e he).put r (st t)).1.congr (fun k _ => ?_)
    show up (fun r => st (a.cell e r)) r (st t) k = st (if e = e ∧ k = r then t else a.cell e k)
    by_cases e2 : k = r
    · subst e2; rw [up_at, if_pos ⟨rfl, rfl⟩]
    · rw [up_ne _ _ e2, if_neg (fun z => e2 z.2)]
  · refine ((h.cells e he).but hb (fun z => q (h.apart.hh e d he hd z))).congr (fun k _ => ?_)
    show st (a.cell e k) = st (if e = d ∧ k = r then t else a.cell e k)
    rw [if_neg (fun z => q z.1)]
theorem congr {a' : Arr} (h : RA w x a) (h1 : a'.n = a.n) (h2 : a'.rows = a.rows) (h3 : a'.size = a.size) (h4 : ∀ d r, d < a.n → r < a.rows → a'.cell d r = a.cell d r) (h5 : ∀ d, d < a.n → a'.failed d = a.failed d) (h6 : ∀ d, d < a.n → a'.built d = a.built d) : RA w x a' := by
  obtain ⟨n', r', s', c', f', b'⟩ := a'
  dsimp only at h1 h2 h3 h4 h5 h6
  subst h1; subst h2; subst h3
  exact ⟨h.me.congr (fun i _ => rfl), h.disks, fun d hd => (h.cells d hd).congr (fun r hr => by (show st (a.cell d r) = st (c' d r)); rw [h4 d r hd hr]), h.failed.congr (fun d hd => by (show Value.bool (a.failed d) = .bool (f' d)); rw [h5 d hd]), h.built.congr (fun d hd => by (show Value.int .i64 (a.built d) = .int .i64 (b' d)); rw [h6 d hd]), h.apart⟩
end RA
end Go.Proofs.YteafakgjfmbhoaaGreatDoor

/- What is asked of the document's array: what is lost, fails, is replaced: walks over the program. -/
namespace Go.Proofs.YteafakgjfmbhoaaGreatDoor
open Go.RowKit El Pol Mx Lay
namespace RA
variable {w w' : World} {x : RAd} {a : Arr}
theorem c0 (h : RA w x a) : w.cell? ⟨x.p, 0, none⟩ = some (.int .i64 a.n) := (h.me.2 0 (by omega)).1
theorem c1 (h : RA w x a) : w.cell? ⟨x.p, 1, none⟩ = some (.int .i64 a.rows) := (h.me.2 1 (by omega)).1
theorem c2 (h : RA w x a) : w.cell? ⟨x.p, 2, none⟩ = some (.int .i64 a.size) := (h.me.2 2 (by omega)).1
theorem c3 (h : RA w x a) : w.cell? ⟨x.p, 3, none⟩ = some (.slice (some ⟨x.g0, 0, none⟩) a.n x.c0) := (h.me.2 3 (by omega)).1
theorem c4 (h : RA w x a) : w.cell? ⟨x.p, 4, none⟩ = some (.slice (some ⟨x.g1, 0, none⟩) a.n x.c1) := (h.me.2 4 (by omega)).1
theorem c5 (h : RA w x a) : w.cell? ⟨x.p, 5, none⟩ = some (.slice (some ⟨x.g2, 0, none⟩) a.n x.c2) := (h.me.2 5 (by omega)).1
theorem dk (h : RA w x a) (d : Nat) (hd : d < a.n) : w.cell? ⟨x.g0, d, none⟩ = some (.slice (some ⟨x.h d, 0, none⟩) a.rows (x.hc d)) := (h.disks.2 d hd).1
theorem fl (h : RA w x a) (d : Nat) (hd : d < a.n) : w.cell? ⟨x.g1, d, none⟩ = some (.bool (a.failed d)) ∧ w.frozen? ⟨x.g1, d, none⟩ = false := h.failed.2 d hd
theorem bt (h : RA w x a) (d : Nat) (hd : d < a.n) : w.cell? ⟨x.g2, d, none⟩ = some (.int .i64 (a.built d)) ∧ w.frozen? ⟨x.g2, d, none⟩ = false := h.built.2 d hd
theorem cl (h : RA w x a) (d r : Nat) (hd : d < a.n) (hr : r < a.rows) : w.cell? ⟨x.h d, r, none⟩ = some (st (a.cell d r)) ∧ w.frozen? ⟨x.h d, r, none⟩ = false := (h.cells d hd).2 r hr
end RA
set_option maxRecDepth 100000 in
theorem ra_gone {w : World} {x : RAd} {a : Arr} (h : RA w x a) {d : Nat} (hd : d < a.n) (r : Nat) :
    Calls Tryz.prog 50 #[.pointer (some ⟨x.p, 0, none⟩), .int .i64 d, .int .i64 r] w fun e w' => e = .returned (.bool (a.gone d r)) ∧ w' = w := by
  have c4 := h.c4
  have c5 := h.c5
  have f := (h.fl d hd).1
  have b := (h.bt d hd).1
  have hdn : (d : Int) < (a.n : Int) := by omega
  unfold Arr.gone
  clear h
  generalize a.failed d = fd at *
  generalize a.built d = bd at *
  have e : decide (bd ≤ r) = decide ((bd : Int) ≤ (r : Int)) := by simp
  rw [e]
  cases fd with
  | true =>
    go_enter Tryz.func50, Tryz.ntmps50
    go_wp2
    go_ret
    exact ⟨rfl, rfl⟩
  | false =>
    go_enter Tryz.func50, Tryz.ntmps50
    go_wp2
    go_ret
    exact ⟨rfl, rfl⟩
set_option maxRecDepth 100000 in
theorem ra_lost {w : World} {x : RAd} {a : Arr} (h : RA w x a) (ho : a.ok) (k : Nat) :
    Calls Tryz.prog 32 #[.pointer (some ⟨x.p, 0, none⟩), .int .i64 k] w fun e w' => e = .returned (.int .i64 (a.nl k)) ∧ w' = w := by
  have HP : Hid (RA w x a) := h
  have c0 := h.c0
  have hn10 := ho.1.2
  unfold Arr.nl
  clear h ho
  go_enter Tryz.func32, Tryz.ntmps32
  go_wp2
  go_loop [5, 6] (fun c t => ∃ j : Nat, j ≤ a.n ∧ c = .int .i64 (((gn (fun d => a.gone d k) j).length : Nat) : Int) ∧ t = .int .i64 j) (fun _ t => a.n - (intOf t).toNat)
  case atStart => exact ⟨0, Nat.zero_le _, rfl, rfl⟩
  case round =>
    obtain ⟨j, hj, rfl, rfl⟩ := hrel
    by_cases hlt : j < a.n
    · have L := ra_gone HP.out hlt k
      have hlt' : (j : Int) < (a.n : Int) := by omega
      have hs := gn_succ (fun d => a.gone d k) j
      have hle : (gn (fun d => a.gone d k) j).length ≤ 10 := by
        have := ix_gn (fun d => a.gone d k) j
        omega
      have HS : Hid ((gn (fun d => a.gone d k) (j + 1)).length = (gn (fun d => a.gone d k) j).length + if a.gone j k = true then 1 else 0) := hs
      clear hs
      generalize (gn (fun d => a.gone d k) j).length = c at *
      have hle' : (c : Int) ≤ 10 := by omega
      cases hg : a.gone j k with
      | true =>
        rw [hg] at L
        rw [hg, if_pos rfl] at HS
        clear hg
        go_wp2_with fail
        refine L.mono ?_
        rintro e w1 ⟨rfl, hw⟩
        obtain rfl := hw.symm
        clear L
        go_wp2
        go_round
        case rel =>
          have : (gn (fun d => a.gone d k) (j + 1)).length = c + 1 := HS.out
          exact ⟨j + 1, by omega, by go_num, by go_num⟩
        case measure => simp [intOf]; omega
      | false =>
        rw [hg] at L
        rw [hg, if_neg Bool.false_ne_true, Nat.add_zero] at HS
        clear hg
        go_wp2_with fail
        refine L.mono ?_
        rintro e w1 ⟨rfl, hw⟩
        obtain rfl := hw.symm
        clear L
        go_wp2
        go_round
        case rel =>
          have : (gn (fun d => a.gone d k) (j + 1)).length = c := HS.out
          exact ⟨j + 1, by omega, by go_num, by go_num⟩
        case measure => simp [intOf]; omega
    · have e : a.n = j := by omega
      have hge : ¬ (j : Int) < (a.n : Int) := by omega
      have HE : Hid ((gn (fun d => a.gone d k) j).length = (gn (fun d => a.gone d k) a.n).length) := by (show _ = _); rw [e]
      clear e
      generalize (gn (fun d => a.gone d k) j).length = c at *
      go_wp2
      go_ret
      exact ⟨ret_int (by rw [HE.out]), rfl⟩
/-- where a cell of it is put -/
theorem RAd.but1 {x : RAd} {n : Nat} {w w' : World} (hb : But (· = x.g1) w w') : But (x.F n) w w' := hb.mono (fun _ hi => .inr (.inr (.inl hi)))
theorem RAd.but2 {x : RAd} {n : Nat} {w w' : World} (hb : But (· = x.g2) w w') : But (x.F n) w w' := hb.mono (fun _ hi => .inr (.inr (.inr (.inl hi))))
theorem RAd.buth {x : RAd} {n d : Nat} {w w' : World} (hd : d < n) (hb : But (· = x.h d) w w') : But (x.F n) w w' := hb.mono (fun _ hi => .inr (.inr (.inr (.inr ⟨d, hd, hi⟩))))
set_option maxRecDepth 100000 in
theorem ra_fail {w : World} {x : RAd} {a : Arr} (h : RA w x a) (d : Int) :
    Calls Tryz.prog 28 #[.pointer (some ⟨x.p, 0, none⟩), .int .i64 d] w fun e w' => e = .returned (.int .i64 (a.failE d)) ∧ RA w' x (a.fail d) ∧ But (x.F a.n) w w' := by
  have HP : Hid (RA w x a) := h
  have c0 := h.c0
  have c4 := h.c4
  by_cases q : a.noD d
  · obtain ⟨e1, e2⟩ := Arr.failE_no q
    rw [e1, e2]
    clear h e1 e2
    by_cases q1 : d < 0
    · clear q
      go_enter Tryz.func28, Tryz.ntmps28
      go_wp2
      go_ret
      exact ⟨rfl, HP.out, But.refl _ _⟩
    · have q2 : (a.n : Int) ≤ d := q.resolve_left q1
      clear q
      go_enter Tryz.func28, Tryz.ntmps28
      go_wp2
      go_ret
      exact ⟨rfl, HP.out, But.refl _ _⟩
  · obtain ⟨k, rfl, hk⟩ := Arr.noD_nat q
    obtain ⟨f, fz⟩ := h.fl k hk
    have hkn : (k : Int) < (a.n : Int) := by omega
    rw [Arr.failE_nat hk]
    cases hf : a.failed k with
    | true =>
      have e : a.fail (k : Int) = a := by unfold Arr.fail; rw [Arr.failE_nat hk, if_pos hf, if_neg (by omega)]
      rw [e, if_pos rfl]
      rw [hf] at f
      clear h q hf e
      go_enter Tryz.func28, Tryz.ntmps28
      go_wp2
      go_ret
      exact ⟨rfl, HP.out, But.refl _ _⟩
    | false =>
      have e : a.fail (k : Int) = { a with failed := up a.failed k true } := by unfold Arr.fail; rw [Arr.failE_nat hk, if_neg (show ¬ a.failed k = true by rw [hf]; exact Bool.false_ne_true), if_pos rfl, Int.toNat_natCast]
      rw [e, if_neg Bool.false_ne_true]
      rw [hf] at f
      have HF : Hid (RA (w.setCell ⟨x.g1, k, none⟩ (.bool true)) x { a with failed := up a.failed k true } ∧ But (x.F a.n) w (w.setCell ⟨x.g1, k, none⟩ (.bool true))) := ⟨h.putFailed k true, RAd.but1 (but_cell _ _ _ _)⟩
      clear h q hf e HP
      go_enter Tryz.func28, Tryz.ntmps28
      go_wp2
      go_ret
      exact ⟨rfl, HF.out⟩
end Go.Proofs.YteafakgjfmbhoaaGreatDoor

/- Two lists of the call's own, which grow in turn. -/
namespace Go.Proofs.YteafakgjfmbhoaaGreatDoor
open Go.RowKit
structure TwoL (B : Nat) (T1 T2 : TypeId) (w : World) (o q : Value) (k l : Nat) (f h : Nat → Value) : Prop where
  a : w.ownsRow B T1 1 o k ((List.range k).map f)
  b : w.ownsRow B T2 1 q l ((List.range l).map h)
  ne : o.ownBlock = none ∨ o.ownBlock ≠ q.ownBlock
namespace TwoL
variable {B : Nat} {T1 T2 : TypeId} {w w2 w3 : World} {o q v : Value} {k l : Nat} {f h : Nat → Value}
theorem old (t : TwoL B T1 T2 w o q k l f h) (hb : Below w.heap.size w w2) : TwoL B T1 T2 w2 o q k l f h := ⟨ownsRow_old t.a hb, ownsRow_old t.b hb, t.ne⟩
theorem emp (B : Nat) (T1 T2 : TypeId) (w : World) (f h : Nat → Value) : TwoL B T1 T2 w (.slice none 0 0) (.slice none 0 0) 0 0 f h := ⟨World.ownsRow_nil _ _ _ _, World.ownsRow_nil _ _ _ _, .inl rfl⟩
theorem range_snoc (f : Nat → Value) (k : Nat) : (List.range (k + 1)).map f = (List.range k).map f ++ [f k] := by rw [List.range_succ, List.map_append]; rfl
theorem pushA (t : TwoL B T1 T2 w o q k l f h) (hal : Below w.heap.size w w2) (hown : w3.ownsRow B T1 1 v (k + 1) ((List.range k).map f ++ [f k])) (hgrow : w2.grownBy w3 o.ownBlock) (hsn : SameOrNew w2 o v) : TwoL B T1 T2 w3 v q (k + 1) l f h := by
  have hb2 := ownsRow_old t.b hal
  refine ⟨by rw [range_snoc]; exact hown, World.ownsRow.kept hb2 hgrow ?_, hsn.ne (fun i hi => (World.ownsRow.lt hb2 i hi).2) t.ne⟩
  rcases t.ne with e | e
  · rw [e]; cases q.ownBlock <;> simp
  · exact .inr (fun z => e z.symm)
theorem pushB (t : TwoL B T1 T2 w o q k l f h) (hal : Below w.heap.size w w2) (hown : w3.ownsRow B T2 1 v (l + 1) ((List.range l).map h ++ [h l])) (hgrow : w2.grownBy w3 q.ownBlock) (hsn : SameOrNew w2 q v) : TwoL B T1 T2 w3 o v k (l + 1) f h := by
  have ha2 := ownsRow_old t.a hal
  have hqo : q.ownBlock = none ∨ q.ownBlock ≠ o.ownBlock := by
    rcases t.ne with e | e
    · rw [e]; cases q.ownBlock <;> simp
    · exact .inr (fun z => e z.symm)
  refine ⟨World.ownsRow.kept ha2 hgrow t.ne, by rw [range_snoc]; exact hown, ?_⟩
  rcases hsn.ne (u := o) (fun i hi => (World.ownsRow.lt ha2 i hi).2) hqo with e | e
  · cases h3 : o.ownBlock with
    | none => exact .inl rfl
    | some b => rw [e]; exact .inr (by simp)
  · exact .inr (fun z => e z.symm)
end TwoL
end Go.Proofs.YteafakgjfmbhoaaGreatDoor

/- The parts of a row of the document's array: a walk over the program. -/
namespace Go.Proofs.YteafakgjfmbhoaaGreatDoor
open Go.RowKit El Pol Mx Lay
theorem own_len {B : Nat} {T : TypeId} {w : World} {v : Value} {n : Nat} {xs : List Value} (h : w.ownsRow B T 1 v n xs) : ∃ ao cap, v = .slice ao n cap := by
  rcases h.2 with ⟨rfl, e⟩ | ⟨g, cap, cur, rfl, _⟩
  · exact ⟨none, 0, by rw [e]⟩
  · exact ⟨_, cap, rfl⟩
set_option maxRecDepth 100000 in
set_option maxHeartbeats 2000000 in
theorem ra_raw {w : World} {x : RAd} {a : Arr} (h : RA w x a) (ho : a.ok) (r : Nat) (hr : r < a.rows) :
    Calls Tryz.prog 45 #[.pointer (some ⟨x.p, 0, none⟩), .int .i64 r] w fun e w' => ∃ (g1 c1 g2 c2 : Nat), e = .returned (.tuple #[.slice (some ⟨g1, 0, none⟩) a.n c1, .slice (some ⟨g2, 0, none⟩) a.n c2]) ∧
      (a.n ≤ c1 ∧ c1 ≤ 9223372036854775807 ∧ a.n ≤ c2 ∧ c2 ≤ 9223372036854775807) ∧ RowAt w' g1 a.n (fun i => st (a.part r i)) ∧ RowAt w' g2 a.n (fun i => .bool (a.lo r i)) ∧ (w.heap.size ≤ g1 ∧ w.heap.size ≤ g2) ∧ Below w.heap.size w w' := by
  obtain ⟨⟨hn1, hn2⟩, ⟨hr1, hr2⟩, hs, hcl, hbl⟩ := ho
  have O := rlayout_any a.n r hn1 hn2 (by omega) w
  have HP : Hid (RA w x a) := h
  have c0 := h.c0
  obtain ⟨i0, hi, hz0, hz1, hz2⟩ := info_parts infoB
  obtain ⟨j0, hj, hy0, hy1, hy2⟩ := info_parts infoT
  clear h hcl hbl
  go_enter Tryz.func45, Tryz.ntmps45
  go_wp2_with fail
  refine O.mono ?_
  rintro e w1 ⟨v', rfl, hO, hB1⟩
  obtain ⟨g0, cap, rfl, hc1, hc2, hg0, hR0⟩ := rowAt_own hO (by omega)
  have HR0 : Hid (RowAt w1 g0 a.n (fun i => vi ((ord a.n r i : Nat) : Int))) := hR0
  have HP1 : Hid (RA w1 x a) := HP.out.old hB1
  have HB1 : Hid (Below w.heap.size w w1) := hB1
  clear O hO hR0 HP hB1 c0
  go_wp2
  go_loopw [7, 8, 9] (fun o q t wr => ∃ j : Nat, j ≤ a.n ∧ t = .int .i64 j ∧ TwoL w1.heap.size 9 4 wr o q j j (fun i => st (a.part r i)) (fun i => .bool (a.lo r i)) ∧ Below w1.heap.size w1 wr) (fun _ _ t _ => a.n - (intOf t).toNat)
  case atStart => exact ⟨0, Nat.zero_le _, rfl, TwoL.emp _ _ _ _ _ _, Below.refl _ _⟩
  case round =>
    obtain ⟨j, hj1, rfl, hT, hB⟩ := hrel
    obtain ⟨ao, co, rfl⟩ := own_len hT.a
    obtain ⟨aq, cq, rfl⟩ := own_len hT.b
    by_cases hlt : j < a.n
    · have hd : ord a.n r j < a.n := ord_lt hn1
      have hP := HP1.out.old hB
      have k0 := ((HR0.out.old hB).2 j hlt).1
      have G := ra_gone hP hd r
      have hlt' : (j : Int) < (a.n : Int) := by omega
      have hdn : ((ord a.n r j : Nat) : Int) < (a.n : Int) := by omega
      have c3 := hP.c3
      have dk := hP.dk _ hd
      have cl := (hP.cl _ r hd hr).1
      have hrr : (r : Int) < (a.rows : Int) := by omega
      have hsz := hB.size
      have HT : Hid (TwoL w1.heap.size 9 4 wr (.slice ao j co) (.slice aq j cq) j j (fun i => st (a.part r i)) (fun i => .bool (a.lo r i))) := hT
      have HB : Hid (Below w1.heap.size w1 wr) := hB
      have hlo : a.lo r j = a.gone (ord a.n r j) r := rfl
      dsimp only at k0
      clear hT hB hP
      cases hl : a.gone (ord a.n r j) r with
      | true =>
        rw [hl] at G hlo
        have HPt : Hid (st (a.part r j) = .string ⟨#[]⟩) := by (show _ = _); unfold Arr.part; rw [hlo, if_pos rfl]; rfl
        have HLo : Hid (a.lo r j = true) := hlo
        clear hl hlo c3 dk cl
        generalize ord a.n r j = d at *
        go_wp2_with fail
        refine G.mono ?_
        rintro e w2 ⟨rfl, hw⟩
        obtain rfl := hw.symm
        clear G
        have hOa := HT.out.a
        go_wp2_with (first | (at_builtin; refine wpList_append_two rfl (.tmp 46) (.tmp 48) 23 rfl w1.heap.size 9 j0 (.string ⟨#[]⟩) 16 Tryz.underlying23 hj hy0 hy1 hy2 rfl _ _ _ rfl (World.ownsRow.alloc hOa _) ⟨wr.heap.size, 0, none⟩ 1 1 [.string ⟨#[]⟩] rfl rfl (one_cell _) (by intro u hu; simp at hu; subst hu; rfl) (by unfold maxLen; omega) (by omega) (by simp; omega) ?_))
        intro v3 w3 hown3 hgrow3 hsn3
        rw [← HPt.out] at hown3
        have hT3 := HT.out.pushA (al_below wr _) hown3 hgrow3 hsn3
        have hB3 : Below w1.heap.size w1 w3 := (HB.out.alloc hsz _).grown hgrow3 (by simp; omega) (fun g hg => (World.ownsRow.lt hOa g hg).1)
        obtain ⟨a3, c3', e3⟩ := own_len hT3.a
        subst e3
        have hsz3 := hB3.size
        have HT3 : Hid (TwoL w1.heap.size 9 4 w3 (.slice a3 (j + 1) c3') (.slice aq j cq) (j + 1) j (fun i => st (a.part r i)) (fun i => .bool (a.lo r i))) := hT3
        have HB3 : Hid (Below w1.heap.size w1 w3) := hB3
        have hOb := HT3.out.b
        clear hown3 hgrow3 hsn3 hT3 hB3 hOa HT HB
        go_wp2_with (first | (at_builtin; refine wpList_append_two rfl (.tmp 50) (.tmp 52) 57 rfl w1.heap.size 4 i0 (.bool false) 1 Tryz.underlying57 hi hz0 hz1 hz2 rfl _ _ _ rfl (World.ownsRow.alloc hOb _) ⟨w3.heap.size, 0, none⟩ 1 1 [.bool _] rfl rfl (one_cell _) (by intro u hu; simp at hu; subst hu; rfl) (by unfold maxLen; omega) (by omega) (by simp; omega) ?_))
        intro v4 w4 hown4 hgrow4 hsn4
        rw [← HLo.out] at hown4
        have hT4 := HT3.out.pushB (al_below w3 _) hown4 hgrow4 hsn4
        have HT4 : Hid (TwoL w1.heap.size 9 4 w4 (.slice a3 (j + 1) c3') v4 (j + 1) (j + 1) (fun i => st (a.part r i)) (fun i => .bool (a.lo r i))) := hT4
        have HB4 : Hid (Below w1.heap.size w1 w4) := (HB3.out.alloc hsz3 _).grown hgrow4 (by simp; omega) (fun g hg => (World.ownsRow.lt hOb g hg).1)
        clear hown4 hgrow4 hsn4 hT4 hOb HT3 HB3
        go_wp2
        go_roundw
        case rel => exact ⟨j + 1, by omega, by go_num, HT4.out, HB4.out⟩
        case measure => simp [intOf]; omega
      | false =>
        rw [hl] at G hlo
        have HPt : Hid (st (a.part r j) = st (a.cell (ord a.n r j) r)) := by (show _ = _); unfold Arr.part; rw [hlo, if_neg Bool.false_ne_true]
        have HLo : Hid (a.lo r j = false) := hlo
        clear hl hlo
        obtain ⟨s, hs'⟩ : ∃ s, s = sb (a.cell (ord a.n r j) r) := ⟨_, rfl⟩
        unfold st at HPt cl
        rw [← hs'] at HPt cl
        clear hs'
        generalize ord a.n r j = d at *
        go_wp2_with fail
        refine G.mono ?_
        rintro e w2 ⟨rfl, hw⟩
        obtain rfl := hw.symm
        clear G
        go_wp2_with fail
        go_quiet (fail)
        have HT2 : Hid (TwoL w1.heap.size 9 4 (wr.drewN nq) (.slice ao j co) (.slice aq j cq) j j (fun i => st (a.part r i)) (fun i => .bool (a.lo r i))) := HT.out.old (below_drewN (Below.refl _ _) nq)
        have HB2 : Hid (Below w1.heap.size w1 (wr.drewN nq)) := below_drewN HB.out nq
        have hsz2 : w1.heap.size ≤ (wr.drewN nq).heap.size := hsz
        clear c3 dk cl k0 HT HB hsz
        generalize wr.drewN nq = wr at *
        have HT : Hid _ := HT2.out
        have HB : Hid (Below w1.heap.size w1 wr) := HB2.out
        have hsz := hsz2
        clear HT2 HB2 hsz2
        have hOa := HT.out.a
        go_wp2_with (first | (at_builtin; refine wpList_append_two rfl (.tmp 46) (.tmp 48) 23 rfl w1.heap.size 9 j0 (.string ⟨#[]⟩) 16 Tryz.underlying23 hj hy0 hy1 hy2 rfl _ _ _ rfl (World.ownsRow.alloc hOa _) ⟨wr.heap.size, 0, none⟩ 1 1 [.string s] rfl rfl (one_cell _) (by intro u hu; simp at hu; subst hu; rfl) (by unfold maxLen; omega) (by omega) (by simp; omega) ?_))
        intro v3 w3 hown3 hgrow3 hsn3
        rw [← HPt.out] at hown3
        have hT3 := HT.out.pushA (al_below wr _) hown3 hgrow3 hsn3
        have hB3 : Below w1.heap.size w1 w3 := (HB.out.alloc hsz _).grown hgrow3 (by simp; omega) (fun g hg => (World.ownsRow.lt hOa g hg).1)
        obtain ⟨a3, c3', e3⟩ := own_len hT3.a
        subst e3
        have hsz3 := hB3.size
        have HT3 : Hid (TwoL w1.heap.size 9 4 w3 (.slice a3 (j + 1) c3') (.slice aq j cq) (j + 1) j (fun i => st (a.part r i)) (fun i => .bool (a.lo r i))) := hT3
        have HB3 : Hid (Below w1.heap.size w1 w3) := hB3
        have hOb := HT3.out.b
        clear hown3 hgrow3 hsn3 hT3 hB3 hOa HT HB
        go_wp2_with (first | (at_builtin; refine wpList_append_two rfl (.tmp 50) (.tmp 52) 57 rfl w1.heap.size 4 i0 (.bool false) 1 Tryz.underlying57 hi hz0 hz1 hz2 rfl _ _ _ rfl (World.ownsRow.alloc hOb _) ⟨w3.heap.size, 0, none⟩ 1 1 [.bool _] rfl rfl (one_cell _) (by intro u hu; simp at hu; subst hu; rfl) (by unfold maxLen; omega) (by omega) (by simp; omega) ?_))
        intro v4 w4 hown4 hgrow4 hsn4
        rw [← HLo.out] at hown4
        have hT4 := HT3.out.pushB (al_below w3 _) hown4 hgrow4 hsn4
        have HT4 : Hid (TwoL w1.heap.size 9 4 w4 (.slice a3 (j + 1) c3') v4 (j + 1) (j + 1) (fun i => st (a.part r i)) (fun i => .bool (a.lo r i))) := hT4
        have HB4 : Hid (Below w1.heap.size w1 w4) := (HB3.out.alloc hsz3 _).grown hgrow4 (by simp; omega) (fun g hg => (World.ownsRow.lt hOb g hg).1)
        clear hown4 hgrow4 hsn4 hT4 hOb HT3 HB3
        go_wp2
        go_roundw
        case rel => exact ⟨j + 1, by omega, by go_num, HT4.out, HB4.out⟩
        case measure => simp [intOf]; omega
    · have e : a.n = j := by omega
      have hge : ¬ (j : Int) < (a.n : Int) := by omega
      have hT2 := hT
      rw [← e] at hT2
      obtain ⟨g1, c1, e1, p1, p2, p3, p4⟩ := rowAt_own hT2.a (by omega)
      obtain ⟨g2, c2, e2, q1, q2, q3, q4⟩ := rowAt_own hT2.b (by omega)
      rw [e] at e1 e2
      cases e1
      cases e2
      have HF : Hid (RowAt wr g1 a.n (fun i => st (a.part r i)) ∧ RowAt wr g2 a.n (fun i => .bool (a.lo r i)) ∧ (w.heap.size ≤ g1 ∧ w.heap.size ≤ g2) ∧ Below w.heap.size w wr) := ⟨p4, q4, ⟨Nat.le_trans HB1.out.size p3, Nat.le_trans HB1.out.size q3⟩, HB1.out.trans (hB.mono HB1.out.size)⟩
      have HCa : Hid (a.n ≤ co ∧ co ≤ 9223372036854775807 ∧ a.n ≤ cq ∧ cq ≤ 9223372036854775807) := ⟨p1, p2, q1, q2⟩
      have HE : Hid (a.n = j) := e
      clear hT hT2 hB p4 q4 e p1 p2 q1 q2
      go_wp2
      go_ret2
      exact ⟨g1, co, g2, cq, by rw [HE.out]; rfl, HCa.out, HF.out⟩
end Go.Proofs.YteafakgjfmbhoaaGreatDoor

/- A block of the document's array is read, a cell is another one: walks over the program. -/
namespace Go.Proofs.YteafakgjfmbhoaaGreatDoor
open Go.RowKit El Pol Mx Lay
/-- a row of it, healed -/
theorem ra_heal {w : World} {a : Arr} (ho : a.ok) (r : Nat) (hr : r < a.rows) (h2 : a.nl r ≤ 2) {g1 g2 c1 c2 : Nat} (h1 : RowAt w g1 a.n (fun i => st (a.part r i))) (h3 : RowAt w g2 a.n (fun i => .bool (a.lo r i))) (hc : a.n ≤ c1 ∧ c1 ≤ 9223372036854775807 ∧ a.n ≤ c2 ∧ c2 ≤ 9223372036854775807) :
    Calls Tryz.prog 47 #[.slice (some ⟨g1, 0, none⟩) a.n c1, .slice (some ⟨g2, 0, none⟩) a.n c2] w fun e w' => ∃ (g c : Nat), e = .returned (.slice (some ⟨g, 0, none⟩) a.n c) ∧ (a.n ≤ c ∧ c ≤ 9223372036854775807) ∧ RowAt w' g a.n (fun i => st (a.heal r i)) ∧ w.heap.size ≤ g ∧ Below w.heap.size w w' := by
  have hk : a.n - 2 + 2 = a.n := by have := ho.1.1; omega
  have hn := ho.1
  have r1 := h1.rd hc.1 hc.2.1
  have r3 := h3.rd hc.2.2.1 hc.2.2.2
  have := rheal_own (a.n - 2) a.size (by omega) (by omega) (.slice (some ⟨g1, 0, none⟩) a.n c1) (.slice (some ⟨g2, 0, none⟩) a.n c2) (a.part r) (a.lo r) w (by rw [hk]; exact r1) (by rw [hk]; exact r3) (Arr.left_lo ho hr h2) (Arr.part_left ho hr) ho.2.2.1.2
  refine this.mono fun e w' ⟨v', D, he, hD, hO, hB⟩ => ?_
  rw [hk, heal_list ho hr h2 hD] at hO
  obtain ⟨g, c, rfl, k1, k2, k3, k4⟩ := rowAt_own hO (by omega)
  exact ⟨g, c, he, ⟨k1, k2⟩, k4, k3, hB⟩
set_option maxRecDepth 100000 in
set_option maxHeartbeats 2000000 in
theorem ra_poke {w : World} {x : RAd} {a : Arr} (h : RA w x a) (d r : Int) (t : List El) :
    Calls Tryz.prog 25 #[.pointer (some ⟨x.p, 0, none⟩), .int .i64 d, .int .i64 r, st t] w fun e w' => e = .returned (.int .i64 (a.pokeE d r t.length)) ∧ RA w' x (a.poke d r t) ∧ But (x.F a.n) w w' := by
  have HP : Hid (RA w x a) := h
  have c0 := h.c0
  have c1 := h.c1
  have c2 := h.c2
  have hsl : (sb t).size = t.length := sb_size t
  by_cases q : a.noD d ∨ a.noR r
  · have e1 : a.pokeE d r t.length = 1 := if_pos q
    have e2 : a.poke d r t = a := by unfold Arr.poke; rw [e1, if_neg (by omega)]
    rw [e1, e2]
    clear h e1 e2
    by_cases q1 : d < 0
    · clear q
      go_enter Tryz.func25, Tryz.ntmps25
      go_wp2
      go_ret
      exact ⟨rfl, HP.out, But.refl _ _⟩
    · by_cases q2 : (a.n : Int) ≤ d
      · clear q
        go_enter Tryz.func25, Tryz.ntmps25
        go_wp2
        go_ret
        exact ⟨rfl, HP.out, But.refl _ _⟩
      · by_cases q3 : r < 0
        · clear q
          go_enter Tryz.func25, Tryz.ntmps25
          go_wp2
          go_ret
          exact ⟨rfl, HP.out, But.refl _ _⟩
        · have q4 : (a.rows : Int) ≤ r := by unfold Arr.noD Arr.noR at q; omega
          clear q
          go_enter Tryz.func25, Tryz.ntmps25
          go_wp2
          go_ret
          exact ⟨rfl, HP.out, But.refl _ _⟩
  · obtain ⟨k, rfl, hk⟩ := Arr.noD_nat (fun z => q (.inl z))
    obtain ⟨s, rfl, hs⟩ := Arr.noR_nat (fun z => q (.inr z))
    have hkn : (k : Int) < (a.n : Int) := by omega
    have hsn : (s : Int) < (a.rows : Int) := by omega
    by_cases hx : t.length = a.size
    · have G := ra_gone h hk s
      have hE : a.pokeE (k : Int) (s : Int) t.length = if a.gone k s = true then 6 else 0 := by unfold Arr.pokeE; rw [if_neg q, if_pos hx, Int.toNat_natCast, Int.toNat_natCast]
      have hsl2 : (sb t).size = a.size := by rw [hsl, hx]
      cases hg : a.gone k s with
      | true =>
        rw [hg, if_pos rfl] at hE
        have e2 : a.poke (k : Int) (s : Int) t = a := by unfold Arr.poke; rw [hE, if_neg (by omega)]
        rw [hE, e2]
        rw [hg] at G
        clear h q hE e2 hx hsl hg
        go_enter Tryz.func25, Tryz.ntmps25
        go_wp2_with fail
        refine G.mono ?_
        rintro e w1 ⟨rfl, hw⟩
        obtain rfl := hw.symm
        clear G
        go_wp2
        go_ret
        exact ⟨rfl, HP.out, But.refl _ _⟩
      | false =>
        rw [hg, if_neg Bool.false_ne_true] at hE
        have e2 : a.poke (k : Int) (s : Int) t = { a with cell := fun e r => if e = k ∧ r = s then t else a.cell e r } := by unfold Arr.poke; rw [hE, if_pos rfl, Int.toNat_natCast, Int.toNat_natCast]
        rw [hE, e2]
        rw [hg] at G
        have c3 := h.c3
        have dk := h.dk k hk
        obtain ⟨cl, cf⟩ := h.cl k s hk hs
        have HF : Hid (RA (w.setCell ⟨x.h k, s, none⟩ (st t)) x { a with cell := fun e r => if e = k ∧ r = s then t else a.cell e r } ∧ But (x.F a.n) w (w.setCell ⟨x.h k, s, none⟩ (st t))) := ⟨h.putCell k s hk t, RAd.buth hk (but_cell _ _ _ _)⟩
        clear h q hE e2 hx hsl hg HP
        go_enter Tryz.func25, Tryz.ntmps25
        go_wp2_with fail
        refine G.mono ?_
        rintro e w1 ⟨rfl, hw⟩
        obtain rfl := hw.symm
        clear G
        go_wp2
        go_ret
        exact ⟨rfl, HF.out⟩
    · have hE : a.pokeE (k : Int) (s : Int) t.length = 3 := by unfold Arr.pokeE; rw [if_neg q, if_neg hx]
      have e2 : a.poke (k : Int) (s : Int) t = a := by unfold Arr.poke; rw [hE, if_neg (by omega)]
      rw [hE, e2]
      have hne : ¬ ((t.length : Nat) : Int) = (a.size : Int) := by omega
      clear h q hE e2 hx
      generalize t.length = tl at *
      go_enter Tryz.func25, Tryz.ntmps25
      go_wp2
      go_ret
      exact ⟨rfl, HP.out, But.refl _ _⟩
/-- a block's row and place, as the walk writes them -/
theorem block_facts {a : Arr} (ho : a.ok) {b : Int} (hb : ¬ a.noB b) : ∃ (k c m : Nat), b = k ∧ ((a.n : Int) - 2 = (c : Int) ∧ (a.rows : Int) * (c : Int) = (m : Int) ∧ (m : Int) ≤ 160 ∧ (k : Int) < (m : Int)) ∧ (((c : Int) == 0) = false ∧ (1 : Int) ≤ (c : Int)) ∧ (k : Int) / (c : Int) = ((a.rw' b : Nat) : Int) ∧ (k : Int) % (c : Int) = ((a.ix' b : Nat) : Int) ∧ a.rw' b < a.rows ∧ a.ix' b < a.n - 2 ∧ c = a.n - 2 := by
  obtain ⟨h1, h2, _, h4, h5⟩ := Keep.block_of ho hb
  obtain ⟨n1, n2⟩ := ho.1
  have hr := ho.2.1.2
  have hbig : a.rows * (a.n - 2) ≤ 20 * 8 := Nat.mul_le_mul hr (by omega)
  refine ⟨b.toNat, a.n - 2, a.rows * (a.n - 2), by omega, ⟨by omega, by rw [Int.natCast_mul], by omega, by omega⟩, ⟨by rw [beq_eq_false_iff_ne]; omega, by omega⟩, ?_, ?_, h1, h2, rfl⟩
  · unfold Arr.rw'; rw [Int.natCast_ediv]
  · unfold Arr.ix'; rw [Int.natCast_emod]
theorem noB_facts {a : Arr} (ho : a.ok) {b : Int} (hb : a.noB b) : ∃ (c m : Nat), ((a.n : Int) - 2 = (c : Int) ∧ (a.rows : Int) * (c : Int) = (m : Int) ∧ (m : Int) ≤ 160) ∧ (b < 0 ∨ (m : Int) ≤ b) := by
  obtain ⟨n1, n2⟩ := ho.1
  have hr := ho.2.1.2
  have hbig : a.rows * (a.n - 2) ≤ 20 * 8 := Nat.mul_le_mul hr (by omega)
  exact ⟨a.n - 2, a.rows * (a.n - 2), ⟨by omega, by rw [Int.natCast_mul], by omega⟩, hb⟩
end Go.Proofs.YteafakgjfmbhoaaGreatDoor
