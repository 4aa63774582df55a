/- Texts of plain mathematics, of memory and of walks, in one. -/
import Derived.Test.YtilfjahbdlepjaaGreatDoorAr
import Derived.Test.YtilfjahbdlepjaaGreatDoorGe
import Derived.Test.YtilfjahbdlepjaaGreatDoorMe
import Derived.Test.YtilfjahbdlepjaaGreatDoorPa
import Derived.Test.YtilfjahbdlepjaaGreatDoorMt
import Derived.Test.YtilfjahbdlepjaaGreatDoorLy
import Derived.Test.YtilfjahbdlepjaaGreatDoorRefHc
import Derived.Test.YtilfjahbdlepjaaGreatDoorDk
import Derived.Test.YtilfjahbdlepjaaGreatDoorRg
import Derived.Test.YtilfjahbdlepjaaGreatDoorRefLo
/- The document's array in memory: where its parts stand, what they hold, and what keeps them. -/
namespace Go.Proofs.YtilfjahbdlepjaaGreatDoor
open Go.RowKit El Pol Mx Lay
/-- where its parts stand: itself, the disks, of each its rows; what has failed; what is built -/
structure RAd where
  p : Nat
  g0 : Nat
  g1 : Nat
  g2 : Nat
  c0 : Nat
  c1 : Nat
  c2 : Nat
  h : Nat → Nat
  hc : Nat → Nat
def RAd.F (x : RAd) (n : Nat) (k : Nat) : Prop := k = x.p ∨ k = x.g0 ∨ k = x.g1 ∨ k = x.g2 ∨ ∃ d, d < n ∧ k = x.h d
structure RAd.Apart (x : RAd) (n : Nat) : Prop where
  p0 : x.p ≠ x.g0
  p1 : x.p ≠ x.g1
  p2 : x.p ≠ x.g2
  g01 : x.g0 ≠ x.g1
  g02 : x.g0 ≠ x.g2
  g12 : x.g1 ≠ x.g2
  hp : ∀ d, d < n → x.h d ≠ x.p
  h0 : ∀ d, d < n → x.h d ≠ x.g0
  h1 : ∀ d, d < n → x.h d ≠ x.g1
  h2 : ∀ d, d < n → x.h d ≠ x.g2
  hh : ∀ d e, d < n → e < n → x.h d = x.h e → d = e
/-- the six cells of it -/
def raF (x : RAd) (a : Arr) (i : Nat) : Value :=
  if i = 0 then .int .i64 a.n else if i = 1 then .int .i64 a.rows else if i = 2 then .int .i64 a.size
  else if i = 3 then .slice (some ⟨x.g0, 0, none⟩) a.n x.c0 else if i = 4 then .slice (some ⟨x.g1, 0, none⟩) a.n x.c1 else .slice (some ⟨x.g2, 0, none⟩) a.n x.c2
structure RA (w : World) (x : RAd) (a : Arr) : Prop where
  me : RowAt w x.p 6 (raF x a)
  disks : RowAt w x.g0 a.n (fun d => .slice (some ⟨x.h d, 0, none⟩) a.rows (x.hc d))
  cells : ∀ d, d < a.n → RowAt w (x.h d) a.rows (fun r => st (a.cell d r))
  failed : RowAt w x.g1 a.n (fun d => .bool (a.failed d))
  built : RowAt w x.g2 a.n (fun d => .int .i64 (a.built d))
  apart : x.Apart a.n
namespace RA
variable {w w' : World} {x : RAd} {a : Arr}
theorem old (h : RA w x a) (hb : Below w.heap.size w w') : RA w' x a :=
  ⟨h.me.old hb, h.disks.old hb, fun d hd => (h.cells d hd).old hb, h.failed.old hb, h.built.old hb, h.apart⟩
theorem but {G : Nat → Prop} (h : RA w x a) (hb : But G w w') (hn : ∀ k, x.F a.n k → ¬ G k) : RA w' x a :=
  ⟨h.me.but hb (hn _ (.inl rfl)), h.disks.but hb (hn _ (.inr (.inl rfl))), fun d hd => (h.cells d hd).but hb (hn _ (.inr (.inr (.inr (.inr ⟨d, hd, rfl⟩))))), h.failed.but hb (hn _ (.inr (.inr (.inl rfl)))), h.built.but hb (hn _ (.inr (.inr (.inr (.inl rfl))))), h.apart⟩
theorem lt (h : RA w x a) : ∀ k, x.F a.n k → k < w.heap.size := by
  rintro k (rfl | rfl | rfl | rfl | ⟨d, hd, rfl⟩)
  · exact h.me.1
  · exact h.disks.1
  · exact h.failed.1
  · exact h.built.1
  · exact (h.cells d hd).1
theorem drewN (h : RA w x a) (n : Nat) : RA (w.drewN n) x a := h.old (below_drewN (Below.refl _ _) n)
/-- one has failed, or not -/
theorem putFailed (h : RA w x a) (d : Nat) (b : Bool) : RA (w.setCell ⟨x.g1, d, none⟩ (.bool b)) x { a with failed := up a.failed d b } := by
  have hb := but_cell w x.g1 d (.bool b)
  refine ⟨h.me.but hb (fun e => h.apart.p1 e), h.disks.but hb (fun e => h.apart.g01 e), fun e he => (h.cells e he).but hb (fun q => h.apart.h1 e he q), (h.failed.put d (.bool b)).1.congr (fun k _ => ?_), h.built.but hb (fun e => h.apart.g12 e.symm), h.apart⟩
  show up (fun d => Value.bool (a.failed d)) d (.bool b) k = .bool (up a.failed d b k)
  by_cases e : k = d
  · subst e; rw [up_at, up_at]
  · rw [up_ne _ _ e, up_ne _ _ e]
/-- one is built up to there -/
theorem putBuilt (h : RA w x a) (d m : Nat) : RA (w.setCell ⟨x.g2, d, none⟩ (.int .i64 m)) x { a with built := up a.built d m } := by
  have hb := but_cell w x.g2 d (.int .i64 m)
  refine ⟨h.me.but hb (fun e => h.apart.p2 e), h.disks.but hb (fun e => h.apart.g02 e), fun e he => (h.cells e he).but hb (fun q => h.apart.h2 e he q), h.failed.but hb (fun e => h.apart.g12 e), (h.built.put d (.int .i64 m)).1.congr (fun k _ => ?_), h.apart⟩
  show up (fun d => Value.int .i64 (a.built d)) d (.int .i64 m) k = .int .i64 ((up a.built d m k : Nat) : Int)
  by_cases e : k = d
  · subst e; rw [up_at, up_at]
  · rw [up_ne _ _ e, up_ne _ _ e]
/-- one cell another one -/
theorem putCell (h : RA w x a) (d r : Nat) (hd : d < a.n) (t : List El) : RA (w.setCell ⟨x.h d, r, none⟩ (st t)) x { a with cell := fun e s => if e = d ∧ s = r then t else a.cell e s } := by
  have hb := but_cell w (x.h d) r (st t)
  refine ⟨h.me.but hb (fun e => h.apart.hp d hd e.symm), h.disks.but hb (fun e => h.apart.h0 d hd e.symm), fun e he => ?_, h.failed.but hb (fun e => h.apart.h1 d hd e.symm), h.built.but hb (fun e => h.apart.h2 d hd e.symm), h.apart⟩
  by_cases q : e = d
  · subst q
    refine ((h.cells e he).put r (st t)).1.congr (fun k _ => ?_)
    show up (fun r => st (a.cell e r)) r (st t) k = st (if e = e ∧ k = r then t else a.cell e k)
    by_cases e2 : k = r
    · subst e2; rw [up_at, if_pos ⟨rfl, rfl⟩]
    · rw [up_ne _ _ e2, if_neg (fun z => e2 z.2)]
  · refine ((h.cells e he).but hb (fun z => q (h.apart.hh e d he hd z))).congr (fun k _ => ?_)
    show st (a.cell e k) = st (if e = d ∧ k = r then t else a.cell e k)
    rw [if_neg (fun z => q z.1)]
theorem congr {a' : Arr} (h : RA w x a) (h1 : a'.n = a.n) (h2 : a'.rows = a.rows) (h3 : a'.size = a.size) (h4 : ∀ d r, d < a.n → r < a.rows → a'.cell d r = a.cell d r) (h5 : ∀ d, d < a.n → a'.failed d = a.failed d) (h6 : ∀ d, d < a.n → a'.built d = a.built d) : RA w x a' := by
  obtain ⟨n', r', s', c', f', b'⟩ := a'
  dsimp only at h1 h2 h3 h4 h5 h6
  subst h1; subst h2; subst h3
  exact ⟨h.me.congr (fun i _ => rfl), h.disks, fun d hd => (h.cells d hd).congr (fun r hr => by (show st (a.cell d r) = st (c' d r)); rw [h4 d r hd hr]), h.failed.congr (fun d hd => by (show Value.bool (a.failed d) = .bool (f' d)); rw [h5 d hd]), h.built.congr (fun d hd => by (show Value.int .i64 (a.built d) = .int .i64 (b' d)); rw [h6 d hd]), h.apart⟩
end RA
end Go.Proofs.YtilfjahbdlepjaaGreatDoor

/- What is asked of the document's array: what is lost, fails, is replaced: walks over the program. -/
namespace Go.Proofs.YtilfjahbdlepjaaGreatDoor
open Go.RowKit El Pol Mx Lay
namespace RA
variable {w w' : World} {x : RAd} {a : Arr}
theorem c0 (h : RA w x a) : w.cell? ⟨x.p, 0, none⟩ = some (.int .i64 a.n) := (h.me.2 0 (by omega)).1
theorem c1 (h : RA w x a) : w.cell? ⟨x.p, 1, none⟩ = some (.int .i64 a.rows) := (h.me.2 1 (by omega)).1
theorem c2 (h : RA w x a) : w.cell? ⟨x.p, 2, none⟩ = some (.int .i64 a.size) := (h.me.2 2 (by omega)).1
theorem c3 (h : RA w x a) : w.cell? ⟨x.p, 3, none⟩ = some (.slice (some ⟨x.g0, 0, none⟩) a.n x.c0) := (h.me.2 3 (by omega)).1
theorem c4 (h : RA w x a) : w.cell? ⟨x.p, 4, none⟩ = some (.slice (some ⟨x.g1, 0, none⟩) a.n x.c1) := (h.me.2 4 (by omega)).1
theorem c5 (h : RA w x a) : w.cell? ⟨x.p, 5, none⟩ = some (.slice (some ⟨x.g2, 0, none⟩) a.n x.c2) := (h.me.2 5 (by omega)).1
theorem dk (h : RA w x a) (d : Nat) (hd : d < a.n) : w.cell? ⟨x.g0, d, none⟩ = some (.slice (some ⟨x.h d, 0, none⟩) a.rows (x.hc d)) := (h.disks.2 d hd).1
theorem fl (h : RA w x a) (d : Nat) (hd : d < a.n) : w.cell? ⟨x.g1, d, none⟩ = some (.bool (a.failed d)) ∧ w.frozen? ⟨x.g1, d, none⟩ = false := h.failed.2 d hd
theorem bt (h : RA w x a) (d : Nat) (hd : d < a.n) : w.cell? ⟨x.g2, d, none⟩ = some (.int .i64 (a.built d)) ∧ w.frozen? ⟨x.g2, d, none⟩ = false := h.built.2 d hd
theorem cl (h : RA w x a) (d r : Nat) (hd : d < a.n) (hr : r < a.rows) : w.cell? ⟨x.h d, r, none⟩ = some (st (a.cell d r)) ∧ w.frozen? ⟨x.h d, r, none⟩ = false := (h.cells d hd).2 r hr
end RA
set_option maxRecDepth 100000 in
theorem ra_gone {w : World} {x : RAd} {a : Arr} (h : RA w x a) {d : Nat} (hd : d < a.n) (r : Nat) :
    Calls Tryz.prog 50 #[.pointer (some ⟨x.p, 0, none⟩), .int .i64 d, .int .i64 r] w fun e w' => e = .returned (.bool (a.gone d r)) ∧ w' = w := by
  have c4 := h.c4
  have c5 := h.c5
  have f := (h.fl d hd).1
  have b := (h.bt d hd).1
  have hdn : (d : Int) < (a.n : Int) := by omega
  unfold Arr.gone
  clear h
  generalize a.failed d = fd at *
  generalize a.built d = bd at *
  have e : decide (bd ≤ r) = decide ((bd : Int) ≤ (r : Int)) := by simp
  rw [e]
  cases fd with
  | true =>
    go_enter Tryz.func50, Tryz.ntmps50
    go_wp2
    go_ret
    exact ⟨rfl, rfl⟩
  | false =>
    go_enter Tryz.func50, Tryz.ntmps50
    go_wp2
    go_ret
    exact ⟨rfl, rfl⟩
set_option maxRecDepth 100000 in
theorem ra_lost {w : World} {x : RAd} {a : Arr} (h : RA w x a) (ho : a.ok) (k : Nat) :
    Calls Tryz.prog 22 #[.pointer (some ⟨x.p, 0, none⟩), .int .i64 k] w fun e w' => e = .returned (.int .i64 (a.nl k)) ∧ w' = w := by
  have HP : Hid (RA w x a) := h
  have c0 := h.c0
  have hn10 := ho.1.2
  unfold Arr.nl
  clear h ho
  go_enter Tryz.func22, Tryz.ntmps22
  go_wp2
  go_loop [5, 6] (fun c t => ∃ j : Nat, j ≤ a.n ∧ c = .int .i64 (((gn (fun d => a.gone d k) j).length : Nat) : Int) ∧ t = .int .i64 j) (fun _ t => a.n - (intOf t).toNat)
  case atStart => exact ⟨0, Nat.zero_le _, rfl, rfl⟩
  case round =>
    obtain ⟨j, hj, rfl, rfl⟩ := hrel
    by_cases hlt : j < a.n
    · have L := ra_gone HP.out hlt k
      have hlt' : (j : Int) < (a.n : Int) := by omega
      have hs := gn_succ (fun d => a.gone d k) j
      have hle : (gn (fun d => a.gone d k) j).length ≤ 10 := by
        have := ix_gn (fun d => a.gone d k) j
        omega
      have HS : Hid ((gn (fun d => a.gone d k) (j + 1)).length = (gn (fun d => a.gone d k) j).length + if a.gone j k = true then 1 else 0) := hs
      clear hs
      generalize (gn (fun d => a.gone d k) j).length = c at *
      have hle' : (c : Int) ≤ 10 := by omega
      cases hg : a.gone j k with
      | true =>
        rw [hg] at L
        rw [hg, if_pos rfl] at HS
        clear hg
        go_wp2_with fail
        refine L.mono ?_
        rintro e w1 ⟨rfl, hw⟩
        obtain rfl := hw.symm
        clear L
        go_wp2
        go_round
        case rel =>
          have : (gn (fun d => a.gone d k) (j + 1)).length = c + 1 := HS.out
          exact ⟨j + 1, by omega, by go_num, by go_num⟩
        case measure => simp [intOf]; omega
      | false =>
        rw [hg] at L
        rw [hg, if_neg Bool.false_ne_true, Nat.add_zero] at HS
        clear hg
        go_wp2_with fail
        refine L.mono ?_
        rintro e w1 ⟨rfl, hw⟩
        obtain rfl := hw.symm
        clear L
        go_wp2
        go_round
        case rel =>
          have : (gn (fun d => a.gone d k) (j + 1)).length = c := HS.out
          exact ⟨j + 1, by omega, by go_num, by go_num⟩
        case measure => simp [intOf]; omega
    · have e : a.n = j := by omega
      have hge : ¬ (j : Int) < (a.n : Int) := by omega
      have HE : Hid ((gn (fun d => a.gone d k) j).length = (gn (fun d => a.gone d k) a.n).length) := by (show _ = _); rw [e]
      clear e
      generalize (gn (fun d => a.gone d k) j).length = c at *
      go_wp2
      go_ret
      exact ⟨ret_int (by rw [HE.out]), rfl⟩
/-- where a cell of it is put -/
theorem RAd.but1 {x : RAd} {n : Nat} {w w' : World} (hb : But (· = x.g1) w w') : But (x.F n) w w' := hb.mono (fun _ hi => .inr (.inr (.inl hi)))
theorem RAd.but2 {x : RAd} {n : Nat} {w w' : World} (hb : But (· = x.g2) w w') : But (x.F n) w w' := hb.mono (fun _ hi => .inr (.inr (.inr (.inl hi))))
theorem RAd.buth {x : RAd} {n d : Nat} {w w' : World} (hd : d < n) (hb : But (· = x.h d) w w') : But (x.F n) w w' := hb.mono (fun _ hi => .inr (.inr (.inr (.inr ⟨d, hd, hi⟩))))
set_option maxRecDepth 100000 in
theorem ra_fail {w : World} {x : RAd} {a : Arr} (h : RA w x a) (d : Int) :
    Calls Tryz.prog 12 #[.pointer (some ⟨x.p, 0, none⟩), .int .i64 d] w fun e w' => e = .returned (.int .i64 (a.failE d)) ∧ RA w' x (a.fail d) ∧ But (x.F a.n) w w' := by
  have HP : Hid (RA w x a) := h
  have c0 := h.c0
  have c4 := h.c4
  by_cases q : a.noD d
  · obtain ⟨e1, e2⟩ := Arr.failE_no q
    rw [e1, e2]
    clear h e1 e2
    by_cases q1 : d < 0
    · clear q
      go_enter Tryz.func12, Tryz.ntmps12
      go_wp2
      go_ret
      exact ⟨rfl, HP.out, But.refl _ _⟩
    · have q2 : (a.n : Int) ≤ d := q.resolve_left q1
      clear q
      go_enter Tryz.func12, Tryz.ntmps12
      go_wp2
      go_ret
      exact ⟨rfl, HP.out, But.refl _ _⟩
  · obtain ⟨k, rfl, hk⟩ := Arr.noD_nat q
    obtain ⟨f, fz⟩ := h.fl k hk
    have hkn : (k : Int) < (a.n : Int) := by omega
    rw [Arr.failE_nat hk]
    cases hf : a.failed k with
    | true =>
      have e : a.fail (k : Int) = a := by unfold Arr.fail; rw [Arr.failE_nat hk, if_pos hf, if_neg (by omega)]
      rw [e, if_pos rfl]
      rw [hf] at f
      clear h q hf e
      go_enter Tryz.func12, Tryz.ntmps12
      go_wp2
      go_ret
      exact ⟨rfl, HP.out, But.refl _ _⟩
    | false =>
      have e : a.fail (k : Int) = { a with failed := up a.failed k true } := by unfold Arr.fail; rw [Arr.failE_nat hk, if_neg (show ¬ a.failed k = true by rw [hf]; exact Bool.false_ne_true), if_pos rfl, Int.toNat_natCast]
      rw [e, if_neg Bool.false_ne_true]
      rw [hf] at f
      have HF : Hid (RA (w.setCell ⟨x.g1, k, none⟩ (.bool true)) x { a with failed := up a.failed k true } ∧ But (x.F a.n) w (w.setCell ⟨x.g1, k, none⟩ (.bool true))) := ⟨h.putFailed k true, RAd.but1 (but_cell _ _ _ _)⟩
      clear h q hf e HP
      go_enter Tryz.func12, Tryz.ntmps12
      go_wp2
      go_ret
      exact ⟨rfl, HF.out⟩
end Go.Proofs.YtilfjahbdlepjaaGreatDoor

/- Two lists of the call's own, which grow in turn. -/
namespace Go.Proofs.YtilfjahbdlepjaaGreatDoor
open Go.RowKit
structure TwoL (B : Nat) (T1 T2 : TypeId) (w : World) (o q : Value) (k l : Nat) (f h : Nat → Value) : Prop where
  a : w.ownsRow B T1 1 o k ((List.range k).map f)
  b : w.ownsRow B T2 1 q l ((List.range l).map h)
  ne : o.ownBlock = none ∨ o.ownBlock ≠ q.ownBlock
namespace TwoL
variable {B : Nat} {T1 T2 : TypeId} {w w2 w3 : World} {o q v : Value} {k l : Nat} {f h : Nat → Value}
theorem old (t : TwoL B T1 T2 w o q k l f h) (hb : Below w.heap.size w w2) : TwoL B T1 T2 w2 o q k l f h := ⟨ownsRow_old t.a hb, ownsRow_old t.b hb, t.ne⟩
theorem emp (B : Nat) (T1 T2 : TypeId) (w : World) (f h : Nat → Value) : TwoL B T1 T2 w (.slice none 0 0) (.slice none 0 0) 0 0 f h := ⟨World.ownsRow_nil _ _ _ _, World.ownsRow_nil _ _ _ _, .inl rfl⟩
theorem range_snoc (f : Nat → Value) (k : Nat) : (List.range (k + 1)).map f = (List.range k).map f ++ [f k] := by rw [List.range_succ, List.map_append]; rfl
theorem pushA (t : TwoL B T1 T2 w o q k l f h) (hal : Below w.heap.size w w2) (hown : w3.ownsRow B T1 1 v (k + 1) ((List.range k).map f ++ [f k])) (hgrow : w2.grownBy w3 o.ownBlock) (hsn : SameOrNew w2 o v) : TwoL B T1 T2 w3 v q (k + 1) l f h := by
  have hb2 := ownsRow_old t.b hal
  refine ⟨by rw [range_snoc]; exact hown, World.ownsRow.kept hb2 hgrow ?_, hsn.ne (fun i hi => (World.ownsRow.lt hb2 i hi).2) t.ne⟩
  rcases t.ne with e | e
  · rw [e]; cases q.ownBlock <;> simp
  · exact .inr (fun z => e z.symm)
theorem pushB (t : TwoL B T1 T2 w o q k l f h) (hal : Below w.heap.size w w2) (hown : w3.ownsRow B T2 1 v (l + 1) ((List.range l).map h ++ [h l])) (hgrow : w2.grownBy w3 q.ownBlock) (hsn : SameOrNew w2 q v) : TwoL B T1 T2 w3 o v k (l + 1) f h := by
  have ha2 := ownsRow_old t.a hal
  have hqo : q.ownBlock = none ∨ q.ownBlock ≠ o.ownBlock := by
    rcases t.ne with e | e
    · rw [e]; cases q.ownBlock <;> simp
    · exact .inr (fun z => e z.symm)
  refine ⟨World.ownsRow.kept ha2 hgrow t.ne, by rw [range_snoc]; exact hown, ?_⟩
  rcases hsn.ne (u := o) (fun i hi => (World.ownsRow.lt ha2 i hi).2) hqo with e | e
  · cases h3 : o.ownBlock with
    | none => exact .inl rfl
    | some b => rw [e]; exact .inr (by simp)
  · exact .inr (fun z => e z.symm)
end TwoL
end Go.Proofs.YtilfjahbdlepjaaGreatDoor

/- The parts of a row of the document's array: a walk over the program. -/
namespace Go.Proofs.YtilfjahbdlepjaaGreatDoor
open Go.RowKit El Pol Mx Lay
theorem own_len {B : Nat} {T : TypeId} {w : World} {v : Value} {n : Nat} {xs : List Value} (h : w.ownsRow B T 1 v n xs) : ∃ ao cap, v = .slice ao n cap := by
  rcases h.2 with ⟨rfl, e⟩ | ⟨g, cap, cur, rfl, _⟩
  · exact ⟨none, 0, by rw [e]⟩
  · exact ⟨_, cap, rfl⟩
set_option maxRecDepth 100000 in
set_option maxHeartbeats 2000000 in
theorem ra_raw {w : World} {x : RAd} {a : Arr} (h : RA w x a) (ho : a.ok) (r : Nat) (hr : r < a.rows) :
    Calls Tryz.prog 23 #[.pointer (some ⟨x.p, 0, none⟩), .int .i64 r] w fun e w' => ∃ (g1 c1 g2 c2 : Nat), e = .returned (.tuple #[.slice (some ⟨g1, 0, none⟩) a.n c1, .slice (some ⟨g2, 0, none⟩) a.n c2]) ∧
      (a.n ≤ c1 ∧ c1 ≤ 9223372036854775807 ∧ a.n ≤ c2 ∧ c2 ≤ 9223372036854775807) ∧ RowAt w' g1 a.n (fun i => st (a.part r i)) ∧ RowAt w' g2 a.n (fun i => .bool (a.lo r i)) ∧ (w.heap.size ≤ g1 ∧ w.heap.size ≤ g2) ∧ Below w.heap.size w w' := by
  obtain ⟨⟨hn1, hn2⟩, ⟨hr1, hr2⟩, hs, hcl, hbl⟩ := ho
  have O := rlayout_any a.n r hn1 hn2 (by omega) w
  have HP : Hid (RA w x a) := h
  have c0 := h.c0
  obtain ⟨i0, hi, hz0, hz1, hz2⟩ := info_parts infoB
  obtain ⟨j0, hj, hy0, hy1, hy2⟩ := info_parts infoT
  clear h hcl hbl
  go_enter Tryz.func23, Tryz.ntmps23
  go_wp2_with fail
  refine O.mono ?_
  rintro e w1 ⟨v', rfl, hO, hB1⟩
  obtain ⟨g0, cap, rfl, hc1, hc2, hg0, hR0⟩ := rowAt_own hO (by omega)
  have HR0 : Hid (RowAt w1 g0 a.n (fun i => vi ((ord a.n r i : Nat) : Int))) := hR0
  have HP1 : Hid (RA w1 x a) := HP.out.old hB1
  have HB1 : Hid (Below w.heap.size w w1) := hB1
  clear O hO hR0 HP hB1 c0
  go_wp2
  go_loopw [7, 8, 9] (fun o q t wr => ∃ j : Nat, j ≤ a.n ∧ t = .int .i64 j ∧ TwoL w1.heap.size 9 4 wr o q j j (fun i => st (a.part r i)) (fun i => .bool (a.lo r i)) ∧ Below w1.heap.size w1 wr) (fun _ _ t _ => a.n - (intOf t).toNat)
  case atStart => exact ⟨0, Nat.zero_le _, rfl, TwoL.emp _ _ _ _ _ _, Below.refl _ _⟩
  case round =>
    obtain ⟨j, hj1, rfl, hT, hB⟩ := hrel
    obtain ⟨ao, co, rfl⟩ := own_len hT.a
    obtain ⟨aq, cq, rfl⟩ := own_len hT.b
    by_cases hlt : j < a.n
    · have hd : ord a.n r j < a.n := ord_lt hn1
      have hP := HP1.out.old hB
      have k0 := ((HR0.out.old hB).2 j hlt).1
      have G := ra_gone hP hd r
      have hlt' : (j : Int) < (a.n : Int) := by omega
      have hdn : ((ord a.n r j : Nat) : Int) < (a.n : Int) := by omega
      have c3 := hP.c3
      have dk := hP.dk _ hd
      have cl := (hP.cl _ r hd hr).1
      have hrr : (r : Int) < (a.rows : Int) := by omega
      have hsz := hB.size
      have HT : Hid (TwoL w1.heap.size 9 4 wr (.slice ao j co) (.slice aq j cq) j j (fun i => st (a.part r i)) (fun i => .bool (a.lo r i))) := hT
      have HB : Hid (Below w1.heap.size w1 wr) := hB
      have hlo : a.lo r j = a.gone (ord a.n r j) r := rfl
      dsimp only at k0
      clear hT hB hP
      cases hl : a.gone (ord a.n r j) r with
      | true =>
        rw [hl] at G hlo
        have HPt : Hid (st (a.part r j) = .string ⟨#[]⟩) := by (show _ = _); unfold Arr.part; rw [hlo, if_pos rfl]; rfl
        have HLo : Hid (a.lo r j = true) := hlo
        clear hl hlo c3 dk cl
        generalize ord a.n r j = d at *
        go_wp2_with fail
        refine G.mono ?_
        rintro e w2 ⟨rfl, hw⟩
        obtain rfl := hw.symm
        clear G
        have hOa := HT.out.a
        go_wp2_with (first | (at_builtin; refine wpList_append_two rfl (.tmp 46) (.tmp 48) 48 rfl w1.heap.size 9 j0 (.string ⟨#[]⟩) 16 Tryz.underlying48 hj hy0 hy1 hy2 rfl _ _ _ rfl (World.ownsRow.alloc hOa _) ⟨wr.heap.size, 0, none⟩ 1 1 [.string ⟨#[]⟩] rfl rfl (one_cell _) (by intro u hu; simp at hu; subst hu; rfl) (by unfold maxLen; omega) (by omega) (by simp; omega) ?_))
        intro v3 w3 hown3 hgrow3 hsn3
        rw [← HPt.out] at hown3
        have hT3 := HT.out.pushA (al_below wr _) hown3 hgrow3 hsn3
        have hB3 : Below w1.heap.size w1 w3 := (HB.out.alloc hsz _).grown hgrow3 (by simp; omega) (fun g hg => (World.ownsRow.lt hOa g hg).1)
        obtain ⟨a3, c3', e3⟩ := own_len hT3.a
        subst e3
        have hsz3 := hB3.size
        have HT3 : Hid (TwoL w1.heap.size 9 4 w3 (.slice a3 (j + 1) c3') (.slice aq j cq) (j + 1) j (fun i => st (a.part r i)) (fun i => .bool (a.lo r i))) := hT3
        have HB3 : Hid (Below w1.heap.size w1 w3) := hB3
        have hOb := HT3.out.b
        clear hown3 hgrow3 hsn3 hT3 hB3 hOa HT HB
        go_wp2_with (first | (at_builtin; refine wpList_append_two rfl (.tmp 50) (.tmp 52) 49 rfl w1.heap.size 4 i0 (.bool false) 1 Tryz.underlying49 hi hz0 hz1 hz2 rfl _ _ _ rfl (World.ownsRow.alloc hOb _) ⟨w3.heap.size, 0, none⟩ 1 1 [.bool _] rfl rfl (one_cell _) (by intro u hu; simp at hu; subst hu; rfl) (by unfold maxLen; omega) (by omega) (by simp; omega) ?_))
        intro v4 w4 hown4 hgrow4 hsn4
        rw [← HLo.out] at hown4
        have hT4 := HT3.out.pushB (al_below w3 _) hown4 hgrow4 hsn4
        have HT4 : Hid (TwoL w1.heap.size 9 4 w4 (.slice a3 (j + 1) c3') v4 (j + 1) (j + 1) (fun i => st (a.part r i)) (fun i => .bool (a.lo r i))) := hT4
        have HB4 : Hid (Below w1.heap.size w1 w4) := (HB3.out.alloc hsz3 _).grown hgrow4 (by simp; omega) (fun g hg => (World.ownsRow.lt hOb g hg).1)
        clear hown4 hgrow4 hsn4 hT4 hOb HT3 HB3
        go_wp2
        go_roundw
        case rel => exact ⟨j + 1, by omega, by go_num, HT4.out, HB4.out⟩
        case measure => simp [intOf]; omega
      | false =>
        rw [hl] at G hlo
        have HPt : Hid (st (a.part r j) = st (a.cell (ord a.n r j) r)) := by (show _ = _); unfold Arr.part; rw [hlo, if_neg Bool.false_ne_true]
        have HLo : Hid (a.lo r j = false) := hlo
        clear hl hlo
        obtain ⟨s, hs'⟩ : ∃ s, s = sb (a.cell (ord a.n r j) r) := ⟨_, rfl⟩
        unfold st at HPt cl
        rw [← hs'] at HPt cl
        clear hs'
        generalize ord a.n r j = d at *
        go_wp2_with fail
        refine G.mono ?_
        rintro e w2 ⟨rfl, hw⟩
        obtain rfl := hw.symm
        clear G
        go_wp2_with fail
        go_quiet (fail)
        have HT2 : Hid (TwoL w1.heap.size 9 4 (wr.drewN nq) (.slice ao j co) (.slice aq j cq) j j (fun i => st (a.part r i)) (fun i => .bool (a.lo r i))) := HT.out.old (below_drewN (Below.refl _ _) nq)
        have HB2 : Hid (Below w1.heap.size w1 (wr.drewN nq)) := below_drewN HB.out nq
        have hsz2 : w1.heap.size ≤ (wr.drewN nq).heap.size := hsz
        clear c3 dk cl k0 HT HB hsz
        generalize wr.drewN nq = wr at *
        have HT : Hid _ := HT2.out
        have HB : Hid (Below w1.heap.size w1 wr) := HB2.out
        have hsz := hsz2
        clear HT2 HB2 hsz2
        have hOa := HT.out.a
        go_wp2_with (first | (at_builtin; refine wpList_append_two rfl (.tmp 46) (.tmp 48) 48 rfl w1.heap.size 9 j0 (.string ⟨#[]⟩) 16 Tryz.underlying48 hj hy0 hy1 hy2 rfl _ _ _ rfl (World.ownsRow.alloc hOa _) ⟨wr.heap.size, 0, none⟩ 1 1 [.string s] rfl rfl (one_cell _) (by intro u hu; simp at hu; subst hu; rfl) (by unfold maxLen; omega) (by omega) (by simp; omega) ?_))
        intro v3 w3 hown3 hgrow3 hsn3
        rw [← HPt.out] at hown3
        have hT3 := HT.out.pushA (al_below wr _) hown3 hgrow3 hsn3
        have hB3 : Below w1.heap.size w1 w3 := (HB.out.alloc hsz _).grown hgrow3 (by simp; omega) (fun g hg => (World.ownsRow.lt hOa g hg).1)
        obtain ⟨a3, c3', e3⟩ := own_len hT3.a
        subst e3
        have hsz3 := hB3.size
        have HT3 : Hid (TwoL w1.heap.size 9 4 w3 (.slice a3 (j + 1) c3') (.slice aq j cq) (j + 1) j (fun i => st (a.part r i)) (fun i => .bool (a.lo r i))) := hT3
        have HB3 : Hid (Below w1.heap.size w1 w3) := hB3
        have hOb := HT3.out.b
        clear hown3 hgrow3 hsn3 hT3 hB3 hOa HT HB
        go_wp2_with (first | (at_builtin; refine wpList_append_two rfl (.tmp 50) (.tmp 52) 49 rfl w1.heap.size 4 i0 (.bool false) 1 Tryz.underlying49 hi hz0 hz1 hz2 rfl _ _ _ rfl (World.ownsRow.alloc hOb _) ⟨w3.heap.size, 0, none⟩ 1 1 [.bool _] rfl rfl (one_cell _) (by intro u hu; simp at hu; subst hu; rfl) (by unfold maxLen; omega) (by omega) (by simp; omega) ?_))
        intro v4 w4 hown4 hgrow4 hsn4
        rw [← HLo.out] at hown4
        have hT4 := HT3.out.pushB (al_below w3 _) hown4 hgrow4 hsn4
        have HT4 : Hid (TwoL w1.heap.size 9 4 w4 (.slice a3 (j + 1) c3') v4 (j + 1) (j + 1) (fun i => st (a.part r i)) (fun i => .bool (a.lo r i))) := hT4
        have HB4 : Hid (Below w1.heap.size w1 w4) := (HB3.out.alloc hsz3 _).grown hgrow4 (by simp; omega) (fun g hg => (World.ownsRow.lt hOb g hg).1)
        clear hown4 hgrow4 hsn4 hT4 hOb HT3 HB3
        go_wp2
        go_roundw
        case rel => exact ⟨j + 1, by omega, by go_num, HT4.out, HB4.out⟩
        case measure => simp [intOf]; omega
    · have e : a.n = j := by omega
      have hge : ¬ (j : Int) < (a.n : Int) := by omega
      have hT2 := hT
      rw [← e] at hT2
      obtain ⟨g1, c1, e1, p1, p2, p3, p4⟩ := rowAt_own hT2.a (by omega)
      obtain ⟨g2, c2, e2, q1, q2, q3, q4⟩ := rowAt_own hT2.b (by omega)
      rw [e] at e1 e2
      cases e1
      cases e2
      have HF : Hid (RowAt wr g1 a.n (fun i => st (a.part r i)) ∧ RowAt wr g2 a.n (fun i => .bool (a.lo r i)) ∧ (w.heap.size ≤ g1 ∧ w.heap.size ≤ g2) ∧ Below w.heap.size w wr) := ⟨p4, q4, ⟨Nat.le_trans HB1.out.size p3, Nat.le_trans HB1.out.size q3⟩, HB1.out.trans (hB.mono HB1.out.size)⟩
      have HCa : Hid (a.n ≤ co ∧ co ≤ 9223372036854775807 ∧ a.n ≤ cq ∧ cq ≤ 9223372036854775807) := ⟨p1, p2, q1, q2⟩
      have HE : Hid (a.n = j) := e
      clear hT hT2 hB p4 q4 e p1 p2 q1 q2
      go_wp2
      go_ret2
      exact ⟨g1, co, g2, cq, by rw [HE.out]; rfl, HCa.out, HF.out⟩
end Go.Proofs.YtilfjahbdlepjaaGreatDoor

/- A block of the document's array is read, a cell is another one: walks over the program. -/
namespace Go.Proofs.YtilfjahbdlepjaaGreatDoor
open Go.RowKit El Pol Mx Lay
/-- a row of it, healed -/
theorem ra_heal {w : World} {a : Arr} (ho : a.ok) (r : Nat) (hr : r < a.rows) (h2 : a.nl r ≤ 2) {g1 g2 c1 c2 : Nat} (h1 : RowAt w g1 a.n (fun i => st (a.part r i))) (h3 : RowAt w g2 a.n (fun i => .bool (a.lo r i))) (hc : a.n ≤ c1 ∧ c1 ≤ 9223372036854775807 ∧ a.n ≤ c2 ∧ c2 ≤ 9223372036854775807) :
    Calls Tryz.prog 36 #[.slice (some ⟨g1, 0, none⟩) a.n c1, .slice (some ⟨g2, 0, none⟩) a.n c2] w fun e w' => ∃ (g c : Nat), e = .returned (.slice (some ⟨g, 0, none⟩) a.n c) ∧ (a.n ≤ c ∧ c ≤ 9223372036854775807) ∧ RowAt w' g a.n (fun i => st (a.heal r i)) ∧ w.heap.size ≤ g ∧ Below w.heap.size w w' := by
  have hk : a.n - 2 + 2 = a.n := by have := ho.1.1; omega
  have hn := ho.1
  have r1 := h1.rd hc.1 hc.2.1
  have r3 := h3.rd hc.2.2.1 hc.2.2.2
  have := rheal_own (a.n - 2) a.size (by omega) (by omega) (.slice (some ⟨g1, 0, none⟩) a.n c1) (.slice (some ⟨g2, 0, none⟩) a.n c2) (a.part r) (a.lo r) w (by rw [hk]; exact r1) (by rw [hk]; exact r3) (Arr.left_lo ho hr h2) (Arr.part_left ho hr) ho.2.2.1.2
  refine this.mono fun e w' ⟨v', D, he, hD, hO, hB⟩ => ?_
  rw [hk, heal_list ho hr h2 hD] at hO
  obtain ⟨g, c, rfl, k1, k2, k3, k4⟩ := rowAt_own hO (by omega)
  exact ⟨g, c, he, ⟨k1, k2⟩, k4, k3, hB⟩
set_option maxRecDepth 100000 in
set_option maxHeartbeats 2000000 in
theorem ra_poke {w : World} {x : RAd} {a : Arr} (h : RA w x a) (d r : Int) (t : List El) :
    Calls Tryz.prog 18 #[.pointer (some ⟨x.p, 0, none⟩), .int .i64 d, .int .i64 r, st t] w fun e w' => e = .returned (.int .i64 (a.pokeE d r t.length)) ∧ RA w' x (a.poke d r t) ∧ But (x.F a.n) w w' := by
  have HP : Hid (RA w x a) := h
  have c0 := h.c0
  have c1 := h.c1
  have c2 := h.c2
  have hsl : (sb t).size = t.length := sb_size t
  by_cases q : a.noD d ∨ a.noR r
  · have e1 : a.pokeE d r t.length = 1 := if_pos q
    have e2 : a.poke d r t = a := by unfold Arr.poke; rw [e1, if_neg (by omega)]
    rw [e1, e2]
    clear h e1 e2
    by_cases q1 : d < 0
    · clear q
      go_enter Tryz.func18, Tryz.ntmps18
      go_wp2
      go_ret
      exact ⟨rfl, HP.out, But.refl _ _⟩
    · by_cases q2 : (a.n : Int) ≤ d
      · clear q
        go_enter Tryz.func18, Tryz.ntmps18
        go_wp2
        go_ret
        exact ⟨rfl, HP.out, But.refl _ _⟩
      · by_cases q3 : r < 0
        · clear q
          go_enter Tryz.func18, Tryz.ntmps18
          go_wp2
          go_ret
          exact ⟨rfl, HP.out, But.refl _ _⟩
        · have q4 : (a.rows : Int) ≤ r := by unfold Arr.noD Arr.noR at q; omega
          clear q
          go_enter Tryz.func18, Tryz.ntmps18
          go_wp2
          go_ret
          exact ⟨rfl, HP.out, But.refl _ _⟩
  · obtain ⟨k, rfl, hk⟩ := Arr.noD_nat (fun z => q (.inl z))
    obtain ⟨s, rfl, hs⟩ := Arr.noR_nat (fun z => q (.inr z))
    have hkn : (k : Int) < (a.n : Int) := by omega
    have hsn : (s : Int) < (a.rows : Int) := by omega
    by_cases hx : t.length = a.size
    · have G := ra_gone h hk s
      have hE : a.pokeE (k : Int) (s : Int) t.length = if a.gone k s = true then 6 else 0 := by unfold Arr.pokeE; rw [if_neg q, if_pos hx, Int.toNat_natCast, Int.toNat_natCast]
      have hsl2 : (sb t).size = a.size := by rw [hsl, hx]
      cases hg : a.gone k s with
      | true =>
        rw [hg, if_pos rfl] at hE
        have e2 : a.poke (k : Int) (s : Int) t = a := by unfold Arr.poke; rw [hE, if_neg (by omega)]
        rw [hE, e2]
        rw [hg] at G
        clear h q hE e2 hx hsl hg
        go_enter Tryz.func18, Tryz.ntmps18
        go_wp2_with fail
        refine G.mono ?_
        rintro e w1 ⟨rfl, hw⟩
        obtain rfl := hw.symm
        clear G
        go_wp2
        go_ret
        exact ⟨rfl, HP.out, But.refl _ _⟩
      | false =>
        rw [hg, if_neg Bool.false_ne_true] at hE
        have e2 : a.poke (k : Int) (s : Int) t = { a with cell := fun e r => if e = k ∧ r = s then t else a.cell e r } := by unfold Arr.poke; rw [hE, if_pos rfl, Int.toNat_natCast, Int.toNat_natCast]
        rw [hE, e2]
        rw [hg] at G
        have c3 := h.c3
        have dk := h.dk k hk
        obtain ⟨cl, cf⟩ := h.cl k s hk hs
        have HF : Hid (RA (w.setCell ⟨x.h k, s, none⟩ (st t)) x { a with cell := fun e r => if e = k ∧ r = s then t else a.cell e r } ∧ But (x.F a.n) w (w.setCell ⟨x.h k, s, none⟩ (st t))) := ⟨h.putCell k s hk t, RAd.buth hk (but_cell _ _ _ _)⟩
        clear h q hE e2 hx hsl hg HP
        go_enter Tryz.func18, Tryz.ntmps18
        go_wp2_with fail
        refine G.mono ?_
        rintro e w1 ⟨rfl, hw⟩
        obtain rfl := hw.symm
        clear G
        go_wp2
        go_ret
        exact ⟨rfl, HF.out⟩
    · have hE : a.pokeE (k : Int) (s : Int) t.length = 3 := by unfold Arr.pokeE; rw [if_neg q, if_neg hx]
      have e2 : a.poke (k : Int) (s : Int) t = a := by unfold Arr.poke; rw [hE, if_neg (by omega)]
      rw [hE, e2]
      have hne : ¬ ((t.length : Nat) : Int) = (a.size : Int) := by omega
      clear h q hE e2 hx
      generalize t.length = tl at *
      go_enter Tryz.func18, Tryz.ntmps18
      go_wp2
      go_ret
      exact ⟨rfl, HP.out, But.refl _ _⟩
/-- a block's row and place, as the walk writes them -/
theorem block_facts {a : Arr} (ho : a.ok) {b : Int} (hb : ¬ a.noB b) : ∃ (k c m : Nat), b = k ∧ ((a.n : Int) - 2 = (c : Int) ∧ (a.rows : Int) * (c : Int) = (m : Int) ∧ (m : Int) ≤ 160 ∧ (k : Int) < (m : Int)) ∧ (((c : Int) == 0) = false ∧ (1 : Int) ≤ (c : Int)) ∧ (k : Int) / (c : Int) = ((a.rw' b : Nat) : Int) ∧ (k : Int) % (c : Int) = ((a.ix' b : Nat) : Int) ∧ a.rw' b < a.rows ∧ a.ix' b < a.n - 2 ∧ c = a.n - 2 := by
  obtain ⟨h1, h2, _, h4, h5⟩ := Keep.block_of ho hb
  obtain ⟨n1, n2⟩ := ho.1
  have hr := ho.2.1.2
  have hbig : a.rows * (a.n - 2) ≤ 20 * 8 := Nat.mul_le_mul hr (by omega)
  refine ⟨b.toNat, a.n - 2, a.rows * (a.n - 2), by omega, ⟨by omega, by rw [Int.natCast_mul], by omega, by omega⟩, ⟨by rw [beq_eq_false_iff_ne]; omega, by omega⟩, ?_, ?_, h1, h2, rfl⟩
  · unfold Arr.rw'; rw [Int.natCast_ediv]
  · unfold Arr.ix'; rw [Int.natCast_emod]
theorem noB_facts {a : Arr} (ho : a.ok) {b : Int} (hb : a.noB b) : ∃ (c m : Nat), ((a.n : Int) - 2 = (c : Int) ∧ (a.rows : Int) * (c : Int) = (m : Int) ∧ (m : Int) ≤ 160) ∧ (b < 0 ∨ (m : Int) ≤ b) := by
  obtain ⟨n1, n2⟩ := ho.1
  have hr := ho.2.1.2
  have hbig : a.rows * (a.n - 2) ≤ 20 * 8 := Nat.mul_le_mul hr (by omega)
  exact ⟨a.n - 2, a.rows * (a.n - 2), ⟨by omega, by rw [Int.natCast_mul], by omega⟩, hb⟩
end Go.Proofs.YtilfjahbdlepjaaGreatDoor

/- A block of the document's array is written: a walk over the program. -/
namespace Go.Proofs.YtilfjahbdlepjaaGreatDoor
open Go.RowKit El Pol Mx Lay
/-- the first i parts of a row are written, as far as they are not lost -/
noncomputable def wx (a : Arr) (r ix : Nat) (t : List El) (i : Nat) : Arr := { a with cell := fun e s => if s = r ∧ e < a.n ∧ a.gone e s = false ∧ pos a.n s e < i then a.newP r ix t (pos a.n s e) else a.cell e s }
structure WxS (w : World) (x : RAd) (a : Arr) (r ix : Nat) (t : List El) (g0 gl g2 i : Nat) (wr : World) : Prop where
  but : But (x.F a.n) w wr
  ra : RA wr x (wx a r ix t i)
  ord : RowAt wr g0 a.n (fun j => vi ((ord a.n r j : Nat) : Int))
  hl : RowAt wr gl a.n (fun j => st (a.newP r ix t j))
  lo : RowAt wr g2 a.n (fun j => .bool (a.lo r j))
  out : ∀ k, x.F a.n k → k ≠ g0 ∧ k ≠ gl ∧ k ≠ g2
namespace WxS
variable {w wr : World} {x : RAd} {a : Arr} {r ix : Nat} {t : List El} {g0 gl g2 i : Nat}
theorem skip (s : WxS w x a r ix t g0 gl g2 i wr) (ho : a.ok) (hl : a.lo r i = true) : WxS w x a r ix t g0 gl g2 (i + 1) wr := by
  refine ⟨s.but, s.ra.congr rfl rfl rfl (fun e q he _ => ?_) (fun _ _ => rfl) (fun _ _ => rfl), s.ord, s.hl, s.lo, s.out⟩
  show (if q = r ∧ e < a.n ∧ a.gone e q = false ∧ pos a.n q e < i + 1 then a.newP r ix t (pos a.n q e) else a.cell e q) = if q = r ∧ e < a.n ∧ a.gone e q = false ∧ pos a.n q e < i then a.newP r ix t (pos a.n q e) else a.cell e q
  by_cases z : q = r ∧ e < a.n ∧ a.gone e q = false ∧ pos a.n q e < i + 1
  · obtain ⟨z1, z2, z3, z4⟩ := z
    have hne : pos a.n q e ≠ i := fun y => by
      have h1 := ord_pos (r := q) ho.1.1 ho.1.2 z2
      rw [y, z1] at h1
      unfold Arr.lo at hl
      rw [h1, ← z1, z3] at hl
      cases hl
    rw [if_pos ⟨z1, z2, z3, z4⟩, if_pos ⟨z1, z2, z3, by omega⟩]
  · rw [if_neg z, if_neg (fun y => z ⟨y.1, y.2.1, y.2.2.1, by omega⟩)]
theorem put (s : WxS w x a r ix t g0 gl g2 i wr) (ho : a.ok) (hi : i < a.n) (hl : a.lo r i = false) (m : Nat) : WxS w x a r ix t g0 gl g2 (i + 1) ((wr.drewN m).setCell ⟨x.h (Lay.ord a.n r i), r, none⟩ (st (a.newP r ix t i))) := by
  have hd : Lay.ord a.n r i < a.n := ord_lt ho.1.1
  have hb : But (x.F a.n) wr ((wr.drewN m).setCell ⟨x.h (Lay.ord a.n r i), r, none⟩ (st (a.newP r ix t i))) := ((But.refl _ _).drewN m).trans (RAd.buth hd (but_cell _ _ _ _)) (Grows.refl _ _)
  refine ⟨s.but.trans hb (Grows.refl _ _), ((s.ra.drewN m).putCell (Lay.ord a.n r i) r hd (a.newP r ix t i)).congr rfl rfl rfl (fun e q he _ => ?_) (fun _ _ => rfl) (fun _ _ => rfl), s.ord.but hb (fun q => (s.out _ q).1 rfl), s.hl.but hb (fun q => (s.out _ q).2.1 rfl), s.lo.but hb (fun q => (s.out _ q).2.2 rfl), s.out⟩
  show (if q = r ∧ e < a.n ∧ a.gone e q = false ∧ pos a.n q e < i + 1 then a.newP r ix t (pos a.n q e) else a.cell e q) = if e = Lay.ord a.n r i ∧ q = r then a.newP r ix t i else if q = r ∧ e < a.n ∧ a.gone e q = false ∧ pos a.n q e < i then a.newP r ix t (pos a.n q e) else a.cell e q
  by_cases z : e = Lay.ord a.n r i ∧ q = r
  · obtain ⟨z1, z2⟩ := z
    have hp : pos a.n q e = i := by rw [z1, z2]; exact pos_ord ho.1.1 ho.1.2 hi
    have hg : a.gone e q = false := by rw [z1, z2]; exact hl
    rw [if_pos ⟨z2, he, hg, by omega⟩, if_pos ⟨z1, z2⟩, hp]
  · rw [if_neg z]
    by_cases y : q = r ∧ e < a.n ∧ a.gone e q = false ∧ pos a.n q e < i
    · rw [if_pos y, if_pos ⟨y.1, y.2.1, y.2.2.1, by omega⟩]
    · rw [if_neg y, if_neg]
      rintro ⟨y1, y2, y3, y4⟩
      have hpi : pos a.n q e = i := by
        rcases Nat.lt_or_ge (pos a.n q e) i with u | u
        · exact absurd ⟨y1, y2, y3, u⟩ y
        · omega
      have h1 := ord_pos (r := q) ho.1.1 ho.1.2 y2
      rw [hpi, y1] at h1
      exact z ⟨h1.symm, y1⟩
end WxS
theorem newP_row {a : Arr} {r i j : Nat} {t : List El} (ht : t.length = a.size) : st (row (mx (up (a.heal r) i t) j) a.size) = st (up (a.heal r) i t j) := by
  have h : row (mx (up (a.heal r) i t) j) a.size = up (a.heal r) i t j := by
    have hlen : (up (a.heal r) i t j).length = a.size := by
      unfold up
      split
      · exact ht
      · exact Arr.heal_len _ _ _
    have := row_co (up (a.heal r) i t j)
    rw [hlen] at this
    exact this
  rw [h]
set_option maxRecDepth 100000 in
set_option maxHeartbeats 4000000 in
theorem ra_write_bad {w : World} {x : RAd} {a : Arr} (h : RA w x a) (ho : a.ok) (b : Int) (t : List El) (he : a.writeE b t.length ≠ 0) :
    Calls Tryz.prog 10 #[.pointer (some ⟨x.p, 0, none⟩), .int .i64 b, st t] w fun e w' => e = .returned (.int .i64 (a.writeE b t.length)) ∧ RA w' x a ∧ But (x.F a.n) w w' := by
  have HP : Hid (RA w x a) := h
  have c0 := h.c0
  have c1 := h.c1
  have c2 := h.c2
  have hn1 := ho.1.1
  have hn2 := ho.1.2
  have hr2 := ho.2.1.2
  have hsl : (sb t).size = t.length := sb_size t
  by_cases q : a.noB b
  · rw [show a.writeE b t.length = 1 from if_pos q]
    obtain ⟨c, m, ⟨hs, hm, hm160⟩, hq⟩ := noB_facts ho q
    clear h ho q he
    by_cases q1 : b < 0
    · clear hq
      go_enter Tryz.func10, Tryz.ntmps10
      go_wp2
      go_ret
      exact ⟨rfl, HP.out, But.refl _ _⟩
    · have hq2 : (m : Int) ≤ b := hq.resolve_left q1
      clear hq
      go_enter Tryz.func10, Tryz.ntmps10
      go_wp2
      go_ret
      exact ⟨rfl, HP.out, But.refl _ _⟩
  · obtain ⟨k, c, m, rfl, ⟨hs, hm, hm160, hkm⟩, ⟨hc0, hc1⟩, hdiv, hmod, hrw, hix, hcn⟩ := block_facts ho q
    have hdiv0 : (0 : Int) ≤ (k : Int) / (c : Int) := by rw [hdiv]; omega
    have hdiv1 : (k : Int) / (c : Int) ≤ (k : Int) := Int.ediv_le_self _ (by omega)
    by_cases hx : t.length = a.size
    · have h2 : 2 < a.nl (a.rw' (k : Int)) := by
        unfold Arr.writeE at he
        rw [if_neg q, if_pos hx] at he
        split at he
        · assumption
        · exact absurd rfl he
      rw [show a.writeE (k : Int) t.length = 8 by unfold Arr.writeE; rw [if_neg q, if_pos hx, if_pos h2]]
      have L := ra_lost h ho (a.rw' (k : Int))
      have h2' : (2 : Int) < ((a.nl (a.rw' (k : Int)) : Nat) : Int) := by omega
      have hle : (sb t).size = a.size := by rw [hsl, hx]
      clear h ho q he hx hsl h2 hcn
      generalize a.nl (a.rw' (k : Int)) = z at *
      generalize a.ix' (k : Int) = i at *
      generalize a.rw' (k : Int) = r at *
      go_enter Tryz.func10, Tryz.ntmps10
      go_wp2_with fail
      refine L.mono ?_
      rintro e w2 ⟨rfl, hw⟩
      obtain rfl := hw.symm
      clear L
      go_wp2
      go_ret
      exact ⟨rfl, HP.out, But.refl _ _⟩
    · rw [show a.writeE (k : Int) t.length = 3 by unfold Arr.writeE; rw [if_neg q, if_neg hx]]
      have hne : ¬ ((t.length : Nat) : Int) = (a.size : Int) := by omega
      clear h ho q he hx hcn
      generalize t.length = tl at *
      generalize a.ix' (k : Int) = i at *
      generalize a.rw' (k : Int) = r at *
      go_enter Tryz.func10, Tryz.ntmps10
      go_wp2
      go_ret
      exact ⟨rfl, HP.out, But.refl _ _⟩
set_option maxRecDepth 100000 in
set_option maxHeartbeats 8000000 in
theorem ra_write_ok {w : World} {x : RAd} {a : Arr} (h : RA w x a) (ho : a.ok) (b : Int) (t : List El) (he : a.writeE b t.length = 0) :
    Calls Tryz.prog 10 #[.pointer (some ⟨x.p, 0, none⟩), .int .i64 b, st t] w fun e w' => e = .returned (.int .i64 0) ∧ RA w' x (a.write b t) ∧ But (x.F a.n) w w' := by
  have HP : Hid (RA w x a) := h
  have HO : Hid a.ok := ho
  have c0 := h.c0
  have c1 := h.c1
  have c2 := h.c2
  have hn1 := ho.1.1
  have hn2 := ho.1.2
  have hr2 := ho.2.1.2
  have hsl : (sb t).size = t.length := sb_size t
  have q : ¬ a.noB b := fun q => by unfold Arr.writeE at he; rw [if_pos q] at he; omega
  have hx : t.length = a.size := by
    unfold Arr.writeE at he
    rw [if_neg q] at he
    split at he
    · assumption
    · omega
  have h2 : a.nl (a.rw' b) ≤ 2 := by
    unfold Arr.writeE at he
    rw [if_neg q, if_pos hx] at he
    split at he <;> omega
  have HFin : Hid (∀ wr, RA wr x (wx a (a.rw' b) (a.ix' b) t a.n) → RA wr x (a.write b t)) := fun wr hra => by
    have ew : a.write b t = { a with cell := fun d r => if r = a.rw' b ∧ d < a.n ∧ a.gone d r = false then a.newP (a.rw' b) (a.ix' b) t (pos a.n r d) else a.cell d r } := by
      unfold Arr.write; rw [if_pos he]
    rw [ew]
    refine hra.congr rfl rfl rfl (fun e s _ _ => ?_) (fun _ _ => rfl) (fun _ _ => rfl)
    show (if s = a.rw' b ∧ e < a.n ∧ a.gone e s = false then a.newP (a.rw' b) (a.ix' b) t (pos a.n s e) else a.cell e s) = if s = a.rw' b ∧ e < a.n ∧ a.gone e s = false ∧ pos a.n s e < a.n then a.newP (a.rw' b) (a.ix' b) t (pos a.n s e) else a.cell e s
    by_cases z : s = a.rw' b ∧ e < a.n ∧ a.gone e s = false
    · rw [if_pos z, if_pos ⟨z.1, z.2.1, z.2.2, pos_lt hn1⟩]
    · rw [if_neg z, if_neg (fun y => z ⟨y.1, y.2.1, y.2.2.1⟩)]
  obtain ⟨k, c, m, rfl, ⟨hs, hm, hm160, hkm⟩, ⟨hc0, hc1⟩, hdiv, hmod, hrw, hix, hcn⟩ := block_facts ho q
  have hdiv0 : (0 : Int) ≤ (k : Int) / (c : Int) := by rw [hdiv]; omega
  have hdiv1 : (k : Int) / (c : Int) ≤ (k : Int) := Int.ediv_le_self _ (by omega)
  have hmod0 : (0 : Int) ≤ (k : Int) % (c : Int) := by rw [hmod]; omega
  have hmod1 : (k : Int) % (c : Int) < (c : Int) := by rw [hmod]; omega
  have hixn : ((a.ix' (k : Int) : Nat) : Int) < (a.n : Int) := by omega
  have L := ra_lost h ho (a.rw' (k : Int))
  have h2' : ¬ (2 : Int) < ((a.nl (a.rw' (k : Int)) : Nat) : Int) := by omega
  have hle : (sb t).size = a.size := by rw [hsl, hx]
  have R := ra_raw h ho _ hrw
  have HHl : Hid (∀ (w' : World) (g1 g2 c1 c2 : Nat), RowAt w' g1 a.n (fun i => st (a.part (a.rw' (k : Int)) i)) → RowAt w' g2 a.n (fun i => .bool (a.lo (a.rw' (k : Int)) i)) → (a.n ≤ c1 ∧ c1 ≤ 9223372036854775807 ∧ a.n ≤ c2 ∧ c2 ≤ 9223372036854775807) → _) := fun w' g1 g2 c1 c2 u1 u2 u3 => ra_heal ho _ hrw h2 (w := w') (g1 := g1) (g2 := g2) (c1 := c1) (c2 := c2) u1 u2 u3
  have HOr : Hid (∀ w', _) := fun w' => rlayout_any a.n (a.rw' (k : Int)) hn1 hn2 (by omega) w'
  have HPq : Hid (∀ (g1 c1 : Nat) (w' : World), RowAt w' g1 a.n (fun y => st (up (a.heal (a.rw' (k : Int))) (a.ix' (k : Int)) t y)) → a.n ≤ c1 → c1 ≤ 9223372036854775807 →
      Calls Tryz.prog 37 #[.slice (some ⟨g1, 0, none⟩) c c1] w' fun e w'' => e = .returned (.tuple #[st (a.newP (a.rw' (k : Int)) (a.ix' (k : Int)) t c), st (a.newP (a.rw' (k : Int)) (a.ix' (k : Int)) t (c + 1))]) ∧ Below w'.heap.size w' w'') := fun g1 c1 w' h' u1 u2 => by
    rw [hcn, Arr.newP_p, Arr.newP_q]
    exact rpq_any (.slice (some ⟨g1, 0, none⟩) (a.n - 2) c1) (a.n - 2) a.size (mx (up (a.heal (a.rw' (k : Int))) (a.ix' (k : Int)) t)) w' (((h'.rd u1 u2).cut (by omega)).congr (fun j _ => (newP_row hx).symm)) (by omega) (by omega) ho.2.2.1.2
  have HNp : Hid (∀ (w' : World) (gl : Nat), RowAt w' gl a.n (up (up (fun y => st (up (a.heal (a.rw' (k : Int))) (a.ix' (k : Int)) t y)) c (st (a.newP (a.rw' (k : Int)) (a.ix' (k : Int)) t c))) (c + 1) (st (a.newP (a.rw' (k : Int)) (a.ix' (k : Int)) t (c + 1)))) → RowAt w' gl a.n (fun j => st (a.newP (a.rw' (k : Int)) (a.ix' (k : Int)) t j))) := fun w' gl hh => hh.congr (fun j hj => by
    by_cases z1 : j = c + 1
    · subst z1; rw [up_at]
    · rw [up_ne _ _ z1]
      by_cases z2 : j = c
      · subst z2; rw [up_at]
      · rw [up_ne _ _ z2]
        have hjc : j < a.n - 2 := by omega
        show st (up (a.heal (a.rw' (k : Int))) (a.ix' (k : Int)) t j) = st (a.newP (a.rw' (k : Int)) (a.ix' (k : Int)) t j)
        unfold Arr.newP
        rw [pqp_data hjc]
        exact (newP_row hx).symm)
  have HLT : Hid (∀ y, x.F a.n y → y < w.heap.size) := h.lt
  have HC0 : Hid (∀ w', RA w' x a → w'.cell? ⟨x.p, 0, none⟩ = some (.int .i64 a.n)) := fun w' h' => h'.c0
  have HSt : Hid (∀ (W : World) (g0 gl g2 : Nat), Below w.heap.size w W → RowAt W g0 a.n (fun j => vi ((ord a.n (a.rw' (k : Int)) j : Nat) : Int)) → RowAt W gl a.n (fun j => st (a.newP (a.rw' (k : Int)) (a.ix' (k : Int)) t j)) → RowAt W g2 a.n (fun j => .bool (a.lo (a.rw' (k : Int)) j)) → w.heap.size ≤ g0 → w.heap.size ≤ gl → w.heap.size ≤ g2 → WxS w x a (a.rw' (k : Int)) (a.ix' (k : Int)) t g0 gl g2 0 W) := fun W g0 gl g2 hB u1 u2 u3 v1 v2 v3 => by
    refine ⟨Below.but hB _, (HP.out.old hB).congr rfl rfl rfl (fun e s _ _ => ?_) (fun _ _ => rfl) (fun _ _ => rfl), u1, u2, u3, fun y hy => ?_⟩
    · show (if s = a.rw' (k : Int) ∧ e < a.n ∧ a.gone e s = false ∧ pos a.n s e < 0 then a.newP (a.rw' (k : Int)) (a.ix' (k : Int)) t (pos a.n s e) else a.cell e s) = a.cell e s
      rw [if_neg (fun z => by have := z.2.2.2; omega)]
    · have := HLT.out y hy
      omega
  have hcn2 : c + 2 = a.n := by omega
  have hck : (c : Int) < (a.n : Int) := by omega
  have hck1 : (c : Int) + 1 < (a.n : Int) := by omega
  have hixc : a.ix' (k : Int) < a.n := by omega
  have HLoA : Hid (∀ (wr : World) (g0 gl g2 i : Nat), i < a.n → WxS w x a (a.rw' (k : Int)) (a.ix' (k : Int)) t g0 gl g2 i wr → (wr.cell? ⟨g2, i, none⟩ = some (.bool (a.lo (a.rw' (k : Int)) i))) ∧ (a.lo (a.rw' (k : Int)) i = true → WxS w x a (a.rw' (k : Int)) (a.ix' (k : Int)) t g0 gl g2 (i + 1) wr) ∧
      (a.lo (a.rw' (k : Int)) i = false → ∃ (d : Nat) (u : List El), d < a.n ∧ wr.cell? ⟨g0, i, none⟩ = some (.int .i64 d) ∧ wr.cell? ⟨gl, i, none⟩ = some (st u) ∧ wr.cell? ⟨x.p, 3, none⟩ = some (.slice (some ⟨x.g0, 0, none⟩) a.n x.c0) ∧ wr.cell? ⟨x.g0, d, none⟩ = some (.slice (some ⟨x.h d, 0, none⟩) a.rows (x.hc d)) ∧ (∃ y, wr.cell? ⟨x.h d, a.rw' (k : Int), none⟩ = some y) ∧ wr.frozen? ⟨x.h d, a.rw' (k : Int), none⟩ = false ∧ ∀ mm, WxS w x a (a.rw' (k : Int)) (a.ix' (k : Int)) t g0 gl g2 (i + 1) ((wr.drewN mm).setCell ⟨x.h d, a.rw' (k : Int), none⟩ (st u)))) := fun wr g0 gl g2 i hi s =>
    ⟨(s.lo.2 i hi).1, fun hl => s.skip ho hl, fun hl => by
      have hd : ord a.n (a.rw' (k : Int)) i < a.n := ord_lt hn1
      obtain ⟨y1, y2⟩ := s.ra.cl (ord a.n (a.rw' (k : Int)) i) (a.rw' (k : Int)) hd hrw
      exact ⟨ord a.n (a.rw' (k : Int)) i, a.newP (a.rw' (k : Int)) (a.ix' (k : Int)) t i, hd, (s.ord.2 i hi).1, (s.hl.2 i hi).1, s.ra.c3, s.ra.dk _ hd, ⟨_, y1⟩, y2, fun mm => s.put ho hi hl mm⟩⟩
  have hrwi : ((a.rw' (k : Int) : Nat) : Int) < (a.rows : Int) := by omega
  clear h ho q he hx hsl h2 hcn
  generalize a.newP (a.rw' (k : Int)) (a.ix' (k : Int)) t c = PP at *
  generalize a.newP (a.rw' (k : Int)) (a.ix' (k : Int)) t (c + 1) = QQ at *
  generalize a.nl (a.rw' (k : Int)) = z at *
  generalize a.ix' (k : Int) = i at *
  generalize a.rw' (k : Int) = r at *
  generalize a.write (k : Int) t = aw at *
  go_enter Tryz.func10, Tryz.ntmps10
  go_wp2_with fail
  refine L.mono ?_
  rintro e w2 ⟨rfl, hw⟩
  obtain rfl := hw.symm
  clear L
  go_wp2_with fail
  refine R.mono ?_
  rintro e w2 ⟨g1, cc1, g2, cc2, rfl, hcc, u1, u2, ⟨v1, v2⟩, hB2⟩
  have H := HHl.out w2 g1 g2 cc1 cc2 u1 u2 hcc
  have HLw : Hid (RowAt w2 g2 a.n (fun j => .bool (a.lo r j))) := u2
  obtain ⟨p1, p2, p3, p4⟩ := hcc
  clear R HHl u1 u2 v1
  go_wp2_with fail
  refine H.mono ?_
  rintro e w3 ⟨gl, cl', rfl, ⟨ql1, ql2⟩, hl, hgl, hB3⟩
  obtain ⟨k1, f1⟩ := hl.2 i hixc
  have hgl2 : g2 < gl := by have := HLw.out.1; omega
  have hgl3 : w.heap.size ≤ gl := Nat.le_trans hB2.size hgl
  have hl1 := hl.put i (st t)
  have P := HPq.out gl cl' (w3.setCell ⟨gl, i, none⟩ (st t)) (hl1.1.congr (fun y _ => by
    unfold up
    split <;> rfl)) ql1 ql2
  have HR1 : Hid (RowAt (w3.setCell ⟨gl, i, none⟩ (st t)) gl a.n (fun y => st (up (a.heal r) i t y))) := hl1.1.congr (fun y _ => by
    unfold up
    split <;> rfl)
  have HLw2 : Hid (RowAt (w3.setCell ⟨gl, i, none⟩ (st t)) g2 a.n (fun j => .bool (a.lo r j))) := (HLw.out.old hB3).apart (by omega) i (st t)
  have HB3 : Hid (Below w.heap.size w (w3.setCell ⟨gl, i, none⟩ (st t))) := (hB2.trans (hB3.mono hB2.size)).trans (hl1.2.mono hgl3)
  dsimp only at k1
  clear H HPq hl hl1 hB2 hB3 HLw
  have hclc : c ≤ cl' := by omega
  go_wp2_with fail
  refine P.mono ?_
  rintro e w4 ⟨rfl, hB4⟩
  have hR4 := HR1.out.old hB4
  have hL4 := HLw2.out.old hB4
  obtain ⟨k4, f4⟩ := hR4.2 c (by omega)
  obtain ⟨k5, f5⟩ := (hR4.put c (st PP)).1.2 (c + 1) (by omega)
  have HNR : Hid (RowAt ((w4.setCell ⟨gl, c, none⟩ (st PP)).setCell ⟨gl, c + 1, none⟩ (st QQ)) gl a.n (fun j => st (a.newP r i t j))) := HNp.out _ _ (((hR4.put c (st PP)).1.put (c + 1) (st QQ)).1)
  have HNL : Hid (RowAt ((w4.setCell ⟨gl, c, none⟩ (st PP)).setCell ⟨gl, c + 1, none⟩ (st QQ)) g2 a.n (fun j => .bool (a.lo r j))) := (hL4.apart (by omega) c (st PP)).apart (by omega) (c + 1) (st QQ)
  have hB5 : Below w.heap.size w ((w4.setCell ⟨gl, c, none⟩ (st PP)).setCell ⟨gl, c + 1, none⟩ (st QQ)) := ((HB3.out.trans (hB4.mono HB3.out.size)).trans ((hR4.put c (st PP)).2.mono hgl3)).trans (((hR4.put c (st PP)).1.put (c + 1) (st QQ)).2.mono hgl3)
  have c0' := HC0.out _ (HP.out.old hB5)
  have O := HOr.out ((w4.setCell ⟨gl, c, none⟩ (st PP)).setCell ⟨gl, c + 1, none⟩ (st QQ))
  have HB5 : Hid (Below w.heap.size w ((w4.setCell ⟨gl, c, none⟩ (st PP)).setCell ⟨gl, c + 1, none⟩ (st QQ))) := hB5
  clear P HR1 HLw2 HB3 hB4 hR4 hL4 k1 f1 HNp HOr hB5 HC0 c0
  dsimp only at k4
  go_upto_region 15 with fail
  generalize (w4.setCell ⟨gl, c, none⟩ (st PP)).setCell ⟨gl, c + 1, none⟩ (st QQ) = W5 at *
  clear k4 f4 k5 f5
  go_wp2_with fail
  refine O.mono ?_
  rintro e w6 ⟨v6, rfl, hO, hB6⟩
  obtain ⟨g0, cap, rfl, hcp1, hcp2, hg0, hR0⟩ := rowAt_own hO (by omega)
  have HS0 : Hid (WxS w x a r i t g0 gl g2 0 w6) := HSt.out w6 g0 gl g2 (HB5.out.trans (hB6.mono HB5.out.size)) hR0 (HNR.out.old hB6) (HNL.out.old hB6) (Nat.le_trans HB5.out.size hg0) hgl3 v2
  clear O hO hR0 hB6 HB5 HNR HNL c0' HSt
  go_wp2
  go_loopw [15] (fun tt wr => ∃ j : Nat, j ≤ a.n ∧ tt = .int .i64 j ∧ WxS w x a r i t g0 gl g2 j wr) (fun tt _ => a.n - (intOf tt).toNat)
  case atStart => exact ⟨0, Nat.zero_le _, rfl, HS0.out⟩
  case round =>
    clear HS0
    obtain ⟨j, hj, rfl, hS⟩ := hrel
    by_cases hlt : j < a.n
    · obtain ⟨y1, y2, y3⟩ := HLoA.out wr g0 gl g2 j hlt hS
      have hlt' : (j : Int) < (a.n : Int) := by omega
      cases hlo : a.lo r j with
      | true =>
        have HN : Hid (WxS w x a r i t g0 gl g2 (j + 1) wr) := y2 hlo
        rw [hlo] at y1
        clear hS y2 y3 hlo HLoA
        go_wp2
        go_roundw
        case rel => exact ⟨j + 1, by omega, by go_num, HN.out⟩
        case measure => simp [intOf]; omega
      | false =>
        obtain ⟨d, u, hd, z1, z2, z3, z4, ⟨yy, z5⟩, z6, z7⟩ := y3 hlo
        rw [hlo] at y1
        have hd' : (d : Int) < (a.n : Int) := by omega
        have HN : Hid (∀ mm, WxS w x a r i t g0 gl g2 (j + 1) ((wr.drewN mm).setCell ⟨x.h d, r, none⟩ (st u))) := z7
        clear hS y2 y3 hlo HLoA z7
        go_upto_region 20 with fail
        refine region_tail 16 (by kernel_rfl) (by kernel_rfl) ?_
        simp only [List.take_succ_cons, List.take_zero, List.drop_succ_cons, List.drop_zero]
        repeat (go_big_quiet_step (fail))
        refine wpQuiet_nil ?_
        intro w9 hw9
        obtain ⟨nr, rfl⟩ := hw9
        have HN2 : Hid (WxS w x a r i t g0 gl g2 (j + 1) ((wr.drewN nr).setCell ⟨x.h d, r, none⟩ (st u))) := HN.out nr
        clear HN
        go_wp2
        go_roundw
        case rel => exact ⟨j + 1, by omega, by go_num, HN2.out⟩
        case measure => simp [intOf]; omega
    · have e : a.n = j := by omega
      have hge : ¬ (j : Int) < (a.n : Int) := by omega
      rw [← e] at hS
      have HF : Hid (RA wr x aw ∧ But (x.F a.n) w wr) := ⟨HFin.out wr hS.ra, hS.but⟩
      clear hS HFin HLoA e
      go_wp2
      go_ret
      exact ⟨rfl, HF.out⟩
theorem ra_write {w : World} {x : RAd} {a : Arr} (h : RA w x a) (ho : a.ok) (b : Int) (t : List El) :
    Calls Tryz.prog 10 #[.pointer (some ⟨x.p, 0, none⟩), .int .i64 b, st t] w fun e w' => e = .returned (.int .i64 (a.writeE b t.length)) ∧ RA w' x (a.write b t) ∧ But (x.F a.n) w w' := by
  by_cases he : a.writeE b t.length = 0
  · rw [he]
    exact ra_write_ok h ho b t he
  · rw [Arr.write_no he]
    exact ra_write_bad h ho b t he
end Go.Proofs.YtilfjahbdlepjaaGreatDoor

/- A new array of the document's: what its loops keep. -/
namespace Go.Proofs.YtilfjahbdlepjaaGreatDoor
open Go.RowKit El Pol Mx Lay
/-- its six cells while it is made -/
def naF (n rows size : Nat) (V0 V1 V2 : Value) (i : Nat) : Value :=
  if i = 0 then .int .i64 n else if i = 1 then .int .i64 rows else if i = 2 then .int .i64 size else if i = 3 then V0 else if i = 4 then V1 else V2
structure NaS (w : World) (n rows size : Nat) (V0 V1 V2 : Value) (h hc : Nat → Nat) (k0 k1 k2 : Nat) (wr : World) : Prop where
  low : Below w.heap.size w wr
  me : RowAt wr w.heap.size 6 (naF n rows size V0 V1 V2)
  o0 : wr.ownsRow (w.heap.size + 1) 48 1 V0 k0 ((List.range k0).map (fun d => .slice (some ⟨h d, 0, none⟩) rows (hc d)))
  o1 : wr.ownsRow (w.heap.size + 1) 4 1 V1 k1 ((List.range k1).map (fun _ => .bool false))
  o2 : wr.ownsRow (w.heap.size + 1) 3 1 V2 k2 ((List.range k2).map (fun _ => .int .i64 rows))
  rows' : ∀ d, d < k0 → RowAt wr (h d) rows (fun _ => st (List.replicate size 0)) ∧ w.heap.size + 1 ≤ h d
  n01 : V0.ownBlock = none ∨ V0.ownBlock ≠ V1.ownBlock
  n02 : V0.ownBlock = none ∨ V0.ownBlock ≠ V2.ownBlock
  n12 : V1.ownBlock = none ∨ V1.ownBlock ≠ V2.ownBlock
  h0 : ∀ d, d < k0 → V0.ownBlock ≠ some (h d)
  h1 : ∀ d, d < k0 → V1.ownBlock ≠ some (h d)
  h2 : ∀ d, d < k0 → V2.ownBlock ≠ some (h d)
  hh : ∀ d e, d < k0 → e < k0 → h d = h e → d = e
theorem swapNe {a b : Option Nat} (h : a = none ∨ a ≠ b) : b = none ∨ b ≠ a := by
  rcases h with e | e
  · rw [e]; cases b <;> simp
  · exact .inr (fun z => e z.symm)
namespace NaS
variable {w wr w2 w3 : World} {n rows size : Nat} {V0 V1 V2 v : Value} {h hc : Nat → Nat} {k0 k1 k2 : Nat}
theorem old (s : NaS w n rows size V0 V1 V2 h hc k0 k1 k2 wr) (hb : Below wr.heap.size wr w2) : NaS w n rows size V0 V1 V2 h hc k0 k1 k2 w2 :=
  ⟨s.low.trans (hb.mono s.low.size), s.me.old hb, ownsRow_old s.o0 hb, ownsRow_old s.o1 hb, ownsRow_old s.o2 hb, fun d hd => ⟨(s.rows' d hd).1.old hb, (s.rows' d hd).2⟩, s.n01, s.n02, s.n12, s.h0, s.h1, s.h2, s.hh⟩
theorem grownRow {w w' : World} {r : Option Nat} {k m : Nat} {f : Nat → Value} (hk : RowAt w k m f) (hg : w.grownBy w' r) (hn : r ≠ some k) : RowAt w' k m f := by
  refine ⟨Nat.lt_of_lt_of_le hk.1 hg.size, fun i hi => ?_⟩
  have e := hg.block k hk.1 (fun e => hn e.symm)
  rw [World.cell?_of_block (a := ⟨k, i, none⟩) (w := w) (w' := w') e, World.frozen?_of_block (a := ⟨k, i, none⟩) (w := w) (w' := w') e]
  exact hk.2 i hi
theorem lowB (s : NaS w n rows size V0 V1 V2 h hc k0 k1 k2 wr) (hal : Below wr.heap.size wr w2) {r : Option Nat} (hg : w2.grownBy w3 r) (hr : ∀ k, r = some k → w.heap.size + 1 ≤ k) : Below w.heap.size w w3 :=
  (s.low.trans (hal.mono s.low.size)).trans (below_of_grownR hg (Nat.le_trans s.low.size hal.size) (fun k hk => by have := hr k hk; omega))
theorem push0 (s : NaS w n rows size V0 V1 V2 h hc k0 k1 k2 wr) {hk cc : Nat} (hrow : RowAt wr hk rows (fun _ => st (List.replicate size 0))) (hnew : w.heap.size + 1 ≤ hk) (hx0 : V0.ownBlock ≠ some hk) (hx1 : V1.ownBlock ≠ some hk) (hx2 : V2.ownBlock ≠ some hk) (hxh : ∀ d, d < k0 → h d ≠ hk) (hal : Below wr.heap.size wr w2)
    (hown : w3.ownsRow (w.heap.size + 1) 48 1 v (k0 + 1) ((List.range k0).map (fun d => .slice (some ⟨h d, 0, none⟩) rows (hc d)) ++ [.slice (some ⟨hk, 0, none⟩) rows cc])) (hgrow : w2.grownBy w3 V0.ownBlock) (hsn : SameOrNew w2 V0 v) :
    NaS w n rows size v V1 V2 (up h k0 hk) (up hc k0 cc) (k0 + 1) k1 k2 (w3.setCell ⟨w.heap.size, 3, none⟩ v) ∧ (w3.cell? ⟨w.heap.size, 3, none⟩ = some V0 ∧ w3.frozen? ⟨w.heap.size, 3, none⟩ = false) := by
  have s2 := s.old hal
  have hb0 : ∀ k, V0.ownBlock = some k → w.heap.size + 1 ≤ k := fun k hk => (World.ownsRow.lt s.o0 k hk).1
  have hp0 : V0.ownBlock ≠ some w.heap.size := fun e => by have := hb0 _ e; omega
  have me3 := grownRow s2.me hgrow hp0
  have hb := but_cell w3 w.heap.size 3 v
  have ne1 : V1.ownBlock = none ∨ V1.ownBlock ≠ V0.ownBlock := swapNe s.n01
  have ne2 : V2.ownBlock = none ∨ V2.ownBlock ≠ V0.ownBlock := swapNe s.n02
  have o1' := World.ownsRow.kept s2.o1 hgrow ne1
  have o2' := World.ownsRow.kept s2.o2 hgrow ne2
  have hlow := s.lowB hal hgrow hb0
  have hB1 : ∀ {T : TypeId} {u : Value} {m : Nat} {xs : List Value}, w3.ownsRow (w.heap.size + 1) T 1 u m xs → (w3.setCell ⟨w.heap.size, 3, none⟩ v).ownsRow (w.heap.size + 1) T 1 u m xs := fun ho => ownsRow_but ho hb (fun k hk e => by have := (World.ownsRow.lt ho k hk).1; omega)
  have hne : ∀ k, V0.ownBlock ≠ some k → k < w2.heap.size → v.ownBlock ≠ some k := fun k hk hlt e => by
    rcases hsn with z | z
    · rw [z] at e; exact hk e
    · have := z k e; omega
  have hrs : ∀ d, d < k0 + 1 → RowAt w2 (up h k0 hk d) rows (fun _ => st (List.replicate size 0)) ∧ w.heap.size + 1 ≤ up h k0 hk d ∧ V0.ownBlock ≠ some (up h k0 hk d) := fun d hd => by
    by_cases e : d = k0
    · subst e; rw [up_at]; exact ⟨hrow.old hal, hnew, hx0⟩
    · rw [up_ne _ _ e]; exact ⟨(s2.rows' d (by omega)).1, (s2.rows' d (by omega)).2, s.h0 d (by omega)⟩
  refine ⟨⟨hlow.trans (hb.below hlow.size (fun k hk => by rw [hk]; exact Nat.le_refl _)), (me3.put 3 v).1.congr (fun i hi => ?_), ?_, hB1 o1', hB1 o2', fun d hd => ?_, ?_, ?_, s.n12, fun d hd => ?_, fun d hd => ?_, fun d hd => ?_, fun d e hd he => ?_⟩, ?_, ?_⟩
  · unfold up naF
    by_cases q : i = 3
    · subst q; rfl
    · rw [if_neg q]
      by_cases q0 : i = 0
      · subst q0; rfl
      · rw [if_neg q0, if_neg q0]
        by_cases q1 : i = 1
        · subst q1; rfl
        · rw [if_neg q1, if_neg q1]
          by_cases q2 : i = 2
          · subst q2; rfl
          · rw [if_neg q2, if_neg q2, if_neg q, if_neg q]
  · have e : (List.range (k0 + 1)).map (fun d => Value.slice (some ⟨up h k0 hk d, 0, none⟩) rows (up hc k0 cc d)) = (List.range k0).map (fun d => .slice (some ⟨h d, 0, none⟩) rows (hc d)) ++ [.slice (some ⟨hk, 0, none⟩) rows cc] := by
      rw [List.range_succ, List.map_append, List.map_cons, List.map_nil, up_at, up_at]
      congr 1
      refine List.map_congr_left (fun d hd => ?_)
      have := List.mem_range.1 hd
      rw [up_ne _ _ (by omega), up_ne _ _ (by omega)]
    rw [e]
    exact hB1 hown
  · obtain ⟨q1, q2, q3⟩ := hrs d hd
    exact ⟨(grownRow q1 hgrow q3).but hb (by omega), q2⟩
  · exact hsn.ne (fun k hk => (World.ownsRow.lt s2.o1 k hk).2) s.n01
  · exact hsn.ne (fun k hk => (World.ownsRow.lt s2.o2 k hk).2) s.n02
  · obtain ⟨q1, _, q3⟩ := hrs d hd
    exact hne _ q3 q1.1
  · by_cases q : d = k0
    · subst q; rw [up_at]; exact hx1
    · rw [up_ne _ _ q]; exact s.h1 d (by omega)
  · by_cases q : d = k0
    · subst q; rw [up_at]; exact hx2
    · rw [up_ne _ _ q]; exact s.h2 d (by omega)
  · by_cases q : d = k0
    · by_cases q2 : e = k0
      · omega
      · subst q; rw [up_at, up_ne _ _ q2]; exact fun z => absurd z.symm (hxh e (by omega))
    · by_cases q2 : e = k0
      · subst q2; rw [up_at, up_ne _ _ q]; exact fun z => absurd z (hxh d (by omega))
      · rw [up_ne _ _ q, up_ne _ _ q2]; exact s.hh d e (by omega) (by omega)
  · exact (me3.2 3 (by omega)).1
  · exact (me3.2 3 (by omega)).2
theorem push1 (s : NaS w n rows size V0 V1 V2 h hc k0 k1 k2 wr) (hal : Below wr.heap.size wr w2)
    (hown : w3.ownsRow (w.heap.size + 1) 4 1 v (k1 + 1) ((List.range k1).map (fun _ => .bool false) ++ [.bool false])) (hgrow : w2.grownBy w3 V1.ownBlock) (hsn : SameOrNew w2 V1 v) :
    NaS w n rows size V0 v V2 h hc k0 (k1 + 1) k2 (w3.setCell ⟨w.heap.size, 4, none⟩ v) ∧ (w3.cell? ⟨w.heap.size, 4, none⟩ = some V1 ∧ w3.frozen? ⟨w.heap.size, 4, none⟩ = false) := by
  have s2 := s.old hal
  have hb0 : ∀ k, V1.ownBlock = some k → w.heap.size + 1 ≤ k := fun k hk => (World.ownsRow.lt s.o1 k hk).1
  have hp0 : V1.ownBlock ≠ some w.heap.size := fun e => by have := hb0 _ e; omega
  have me3 := grownRow s2.me hgrow hp0
  have hb := but_cell w3 w.heap.size 4 v
  have o0' := World.ownsRow.kept s2.o0 hgrow s.n01
  have o2' := World.ownsRow.kept s2.o2 hgrow (swapNe s.n12)
  have hlow := s.lowB hal hgrow hb0
  have hB1 : ∀ {T : TypeId} {u : Value} {m : Nat} {xs : List Value}, w3.ownsRow (w.heap.size + 1) T 1 u m xs → (w3.setCell ⟨w.heap.size, 4, none⟩ v).ownsRow (w.heap.size + 1) T 1 u m xs := fun ho => ownsRow_but ho hb (fun k hk e => by have := (World.ownsRow.lt ho k hk).1; omega)
  have hne : ∀ k, V1.ownBlock ≠ some k → k < w2.heap.size → v.ownBlock ≠ some k := fun k hk hlt e => by
    rcases hsn with z | z
    · rw [z] at e; exact hk e
    · have := z k e; omega
  refine ⟨⟨hlow.trans (hb.below hlow.size (fun k hk => by rw [hk]; exact Nat.le_refl _)), (me3.put 4 v).1.congr (fun i hi => ?_), hB1 o0', ?_, hB1 o2', fun d hd => ?_, ?_, s.n02, ?_, s.h0, fun d hd => ?_, s.h2, s.hh⟩, ?_, ?_⟩
  · unfold up naF
    by_cases q : i = 4
    · subst q; rfl
    · rw [if_neg q]
      by_cases q0 : i = 0
      · subst q0; rfl
      · rw [if_neg q0, if_neg q0]
        by_cases q1 : i = 1
        · subst q1; rfl
        · rw [if_neg q1, if_neg q1]
          by_cases q2 : i = 2
          · subst q2; rfl
          · rw [if_neg q2, if_neg q2, if_neg q, if_neg q]
  · rw [List.range_succ, List.map_append, List.map_cons, List.map_nil]
    exact hB1 hown
  · obtain ⟨q1, q2⟩ := s2.rows' d hd
    exact ⟨(grownRow q1 hgrow (s.h1 d hd)).but hb (by omega), q2⟩
  · exact swapNe (hsn.ne (fun k hk => (World.ownsRow.lt s2.o0 k hk).2) (swapNe s.n01))
  · exact hsn.ne (fun k hk => (World.ownsRow.lt s2.o2 k hk).2) s.n12
  · exact hne _ (s.h1 d hd) (s2.rows' d hd).1.1
  · exact (me3.2 4 (by omega)).1
  · exact (me3.2 4 (by omega)).2
theorem push2 (s : NaS w n rows size V0 V1 V2 h hc k0 k1 k2 wr) (hal : Below wr.heap.size wr w2)
    (hown : w3.ownsRow (w.heap.size + 1) 3 1 v (k2 + 1) ((List.range k2).map (fun _ => .int .i64 rows) ++ [.int .i64 rows])) (hgrow : w2.grownBy w3 V2.ownBlock) (hsn : SameOrNew w2 V2 v) :
    NaS w n rows size V0 V1 v h hc k0 k1 (k2 + 1) (w3.setCell ⟨w.heap.size, 5, none⟩ v) ∧ (w3.cell? ⟨w.heap.size, 5, none⟩ = some V2 ∧ w3.frozen? ⟨w.heap.size, 5, none⟩ = false) := by
  have s2 := s.old hal
  have hb0 : ∀ k, V2.ownBlock = some k → w.heap.size + 1 ≤ k := fun k hk => (World.ownsRow.lt s.o2 k hk).1
  have hp0 : V2.ownBlock ≠ some w.heap.size := fun e => by have := hb0 _ e; omega
  have me3 := grownRow s2.me hgrow hp0
  have hb := but_cell w3 w.heap.size 5 v
  have o0' := World.ownsRow.kept s2.o0 hgrow s.n02
  have o1' := World.ownsRow.kept s2.o1 hgrow s.n12
  have hlow := s.lowB hal hgrow hb0
  have hB1 : ∀ {T : TypeId} {u : Value} {m : Nat} {xs : List Value}, w3.ownsRow (w.heap.size + 1) T 1 u m xs → (w3.setCell ⟨w.heap.size, 5, none⟩ v).ownsRow (w.heap.size + 1) T 1 u m xs := fun ho => ownsRow_but ho hb (fun k hk e => by have := (World.ownsRow.lt ho k hk).1; omega)
  have hne : ∀ k, V2.ownBlock ≠ some k → k < w2.heap.size → v.ownBlock ≠ some k := fun k hk hlt e => by
    rcases hsn with z | z
    · rw [z] at e; exact hk e
    · have := z k e; omega
  refine ⟨⟨hlow.trans (hb.below hlow.size (fun k hk => by rw [hk]; exact Nat.le_refl _)), (me3.put 5 v).1.congr (fun i hi => ?_), hB1 o0', hB1 o1', ?_, fun d hd => ?_, s.n01, ?_, ?_, s.h0, s.h1, fun d hd => ?_, s.hh⟩, ?_, ?_⟩
  · unfold up naF
    by_cases q : i = 5
    · subst q; rfl
    · rw [if_neg q]
      by_cases q0 : i = 0
      · subst q0; rfl
      · rw [if_neg q0, if_neg q0]
        by_cases q1 : i = 1
        · subst q1; rfl
        · rw [if_neg q1, if_neg q1]
          by_cases q2 : i = 2
          · subst q2; rfl
          · rw [if_neg q2, if_neg q2]
            by_cases q3 : i = 3
            · subst q3; rfl
            · rw [if_neg q3, if_neg q3, if_pos (by omega), if_pos (by omega)]
  · rw [List.range_succ, List.map_append, List.map_cons, List.map_nil]
    exact hB1 hown
  · obtain ⟨q1, q2⟩ := s2.rows' d hd
    exact ⟨(grownRow q1 hgrow (s.h2 d hd)).but hb (by omega), q2⟩
  · exact swapNe (hsn.ne (fun k hk => (World.ownsRow.lt s2.o0 k hk).2) (swapNe s.n02))
  · exact swapNe (hsn.ne (fun k hk => (World.ownsRow.lt s2.o1 k hk).2) (swapNe s.n12))
  · exact hne _ (s.h2 d hd) (s2.rows' d hd).1.1
  · exact (me3.2 5 (by omega)).1
  · exact (me3.2 5 (by omega)).2
/-- all are made -/
theorem done (s : NaS w n rows size V0 V1 V2 h hc n n n wr) (hn : 0 < n) : ∃ x : RAd, x.p = w.heap.size ∧ RA wr x (Arr.fresh n rows size) ∧ ∀ k, x.F n k → w.heap.size ≤ k := by
  obtain ⟨g0, c0, rfl, _, _, b0, r0⟩ := rowAt_own s.o0 hn
  obtain ⟨g1, c1, rfl, _, _, b1, r1⟩ := rowAt_own s.o1 hn
  obtain ⟨g2, c2, rfl, _, _, b2, r2⟩ := rowAt_own s.o2 hn
  have e01 : g0 ≠ g1 := fun e => by
    rcases s.n01 with z | z
    · simp [Value.ownBlock] at z
    · exact z (by simp [Value.ownBlock, e])
  have e02 : g0 ≠ g2 := fun e => by
    rcases s.n02 with z | z
    · simp [Value.ownBlock] at z
    · exact z (by simp [Value.ownBlock, e])
  have e12 : g1 ≠ g2 := fun e => by
    rcases s.n12 with z | z
    · simp [Value.ownBlock] at z
    · exact z (by simp [Value.ownBlock, e])
  refine ⟨⟨w.heap.size, g0, g1, g2, c0, c1, c2, h, hc⟩, rfl, ⟨s.me.congr (fun i _ => rfl), r0, fun d hd => (s.rows' d hd).1, r1, r2, ⟨by dsimp only; omega, by dsimp only; omega, by dsimp only; omega, e01, e02, e12, fun d hd => ?_, fun d hd e => s.h0 d hd (congrArg some (show h d = g0 from e).symm), fun d hd e => s.h1 d hd (congrArg some (show h d = g1 from e).symm), fun d hd e => s.h2 d hd (congrArg some (show h d = g2 from e).symm), s.hh⟩⟩, ?_⟩
  · have := (s.rows' d hd).2
    dsimp only
    omega
  · rintro k (z | z | z | z | ⟨d, hd, z⟩)
    · dsimp only at z; omega
    · dsimp only at z; omega
    · dsimp only at z; omega
    · dsimp only at z; omega
    · have := (s.rows' d hd).2
      dsimp only at z
      omega
end NaS
end Go.Proofs.YtilfjahbdlepjaaGreatDoor

/- A new array of the document's: a walk over the program. -/
namespace Go.Proofs.YtilfjahbdlepjaaGreatDoor
open Go.RowKit El Pol Mx Lay
theorem infoTs : (Tryz.prog.info? 48).map (fun i => (i.zero, i.size, i.bytes)) = some (some (.slice none 0 0), 1, 24) := by kernel_rfl
theorem na_start (w : World) (n rows size : Nat) (T : TypeId) : NaS w n rows size (.slice none 0 0) (.slice none 0 0) (.slice none 0 0) (fun _ => 0) (fun _ => 0) 0 0 0 (w.alloc (.cells #[.int .i64 n, .int .i64 rows, .int .i64 size, .slice none 0 0, .slice none 0 0, .slice none 0 0] T)) := by
  refine ⟨al_below w _, ⟨by simp, fun i hi => ⟨?_, frozen_of_row _ _ _ _ _ (heap_alloc_new w _)⟩⟩, World.ownsRow_nil _ _ _ _, World.ownsRow_nil _ _ _ _, World.ownsRow_nil _ _ _ _, fun d hd => absurd hd (Nat.not_lt_zero _), .inl rfl, .inl rfl, .inl rfl, fun d hd => absurd hd (Nat.not_lt_zero _), fun d hd => absurd hd (Nat.not_lt_zero _), fun d hd => absurd hd (Nat.not_lt_zero _), fun d e hd => absurd hd (Nat.not_lt_zero _)⟩
  rw [cell_of_row _ _ i _ _ _ (heap_alloc_new w _)]
  have : i = 0 ∨ i = 1 ∨ i = 2 ∨ i = 3 ∨ i = 4 ∨ i = 5 := by omega
  rcases this with rfl | rfl | rfl | rfl | rfl | rfl <;> rfl
set_option maxRecDepth 100000 in
set_option maxHeartbeats 8000000 in
theorem ra_new (n rows size : Nat) (h1 : 3 ≤ n ∧ n ≤ 10) (h2 : 1 ≤ rows ∧ rows ≤ 20) (h3 : 1 ≤ size ∧ size ≤ 16) (w : World) :
    Calls Tryz.prog 8 #[.int .i64 n, .int .i64 rows, .int .i64 size] w fun e w' => ∃ x : RAd, e = .returned (.pointer (some ⟨x.p, 0, none⟩)) ∧ RA w' x (Arr.fresh n rows size) ∧ (∀ k, x.F n k → w.heap.size ≤ k) ∧ Below w.heap.size w w' := by
  obtain ⟨i0, hi, hz0, hz1, hz2⟩ := info_parts info8
  obtain ⟨j0, hj, hy0, hy1, hy2⟩ := info_parts infoT
  obtain ⟨b0, hbb, hb0, hb1, hb2⟩ := info_parts infoB
  obtain ⟨n0, hnn, hn0, hn1, hn2⟩ := info_parts infoI
  obtain ⟨s0, hss, hs0, hs1, hs2⟩ := info_parts infoTs
  have HS0 : Hid (NaS w n rows size (.slice none 0 0) (.slice none 0 0) (.slice none 0 0) (fun _ => 0) (fun _ => 0) 0 0 0 (w.alloc (.cells #[.int .i64 n, .int .i64 rows, .int .i64 size, .slice none 0 0, .slice none 0 0, .slice none 0 0] 81))) := na_start w n rows size _
  obtain ⟨h1a, h1b⟩ := h1
  obtain ⟨h2a, h2b⟩ := h2
  obtain ⟨h3a, h3b⟩ := h3
  have h16' : (size : Int) ≤ 16 := by omega
  go_enter Tryz.func8, Tryz.ntmps8
  go_wp2
  go_loopw [8] (fun t wr => ∃ (k : Nat) (V0 V1 V2 : Value) (h hc : Nat → Nat), k ≤ n ∧ t = .int .i64 k ∧ NaS w n rows size V0 V1 V2 h hc k k k wr) (fun t _ => n - (intOf t).toNat)
  case atStart => exact ⟨0, _, _, _, _, _, Nat.zero_le _, rfl, HS0.out⟩
  case round =>
    clear HS0
    obtain ⟨k, V0, V1, V2, h, hc, hk, rfl, hS⟩ := hrel
    by_cases hlt : k < n
    · obtain ⟨w0, rfl⟩ : ∃ w0, w0 = wr := ⟨_, rfl⟩
      have HS : Hid (NaS w n rows size V0 V1 V2 h hc k k k w0) := hS
      clear hS
      go_wp2
      go_loopw [9, 10] (fun o t wq => ∃ r : Nat, r ≤ rows ∧ t = .int .i64 r ∧ wq.ownsRow w0.heap.size 9 1 o r ((List.range r).map (fun _ => st (List.replicate size 0))) ∧ Below w0.heap.size w0 wq) (fun _ t _ => rows - (intOf t).toNat)
      case atStart => exact ⟨0, Nat.zero_le _, rfl, World.ownsRow_nil _ _ _ _, Below.refl _ _⟩
      case round =>
        obtain ⟨r, hr, rfl, hO, hB⟩ := hrel
        obtain ⟨ao, co, rfl⟩ := own_len hO
        by_cases hltr : r < rows
        · have HO : Hid _ := hO
          have HB : Hid (Below w0.heap.size w0 wr) := hB
          have hltr' : (r : Int) < (rows : Int) := by omega
          clear hO hB
          go_wp2_with (first | (at_make; refine wpList_make_full _ rfl _ _ 82 rfl wr.heap.size 5 i0 (.int .u8 0) 1 Tryz.underlying82 hi hz0 hz1 _ _ _ _ size rfl rfl rfl rfl (by rw [hz2]; omega) (by unfold maxLen; omega) (Nat.le_refl _) ?_))
          intro w3 hown hgrow
          have hOw := Ow.made hown
          have hB3 := below_of_grown hgrow
          have hcv := run_text hOw.rd 82 9 Tryz.underlying82 Tryz.underlying9
          have hO3 := ownsRow_old HO.out hB3
          have hB4 := HB.out.trans (hB3.mono HB.out.size)
          have HO3 : Hid _ := hO3
          have HB4 : Hid (Below w0.heap.size w0 w3) := hB4
          clear hown hgrow hOw hB3 HO HB hO3 hB4
          generalize hte : List.replicate size (0 : El) = t at hcv HO3
          have HTE : Hid (List.replicate size (0 : El) = t) := hte
          clear hte
          go_wp2_with (first | (at_builtin; refine wpList_append_own _ rfl _ _ 48 rfl w0.heap.size 9 j0 (.string ⟨#[]⟩) 1 16 Tryz.underlying48 hj hy0 hy1 hy2 rfl (by decide) _ _ _ rfl (World.ownsRow.alloc HO3.out _) ⟨w3.heap.size, 0, none⟩ 1 1 [st t] rfl rfl (one_cell _) (by intro u hu; simp at hu; subst hu; rfl) (by unfold maxLen; omega) (by omega) (by have := HB4.out.size; simp; omega) ?_))
          intro v' w5 hown hgrow _
          have hB5 : Below w0.heap.size w0 w5 := (HB4.out.alloc HB4.out.size _).grown hgrow (by have := HB4.out.size; simp; omega) (fun g hg => (World.ownsRow.lt HO3.out g hg).1)
          have HO5 : Hid (w5.ownsRow w0.heap.size 9 1 v' (r + 1) ((List.range (r + 1)).map (fun _ => st (List.replicate size 0)))) := by
            (show World.ownsRow _ _ _ _ _ _ _)
            rw [HTE.out, List.range_succ, List.map_append, List.map_cons, List.map_nil]
            exact hown
          have HB5 : Hid (Below w0.heap.size w0 w5) := hB5
          clear hown hgrow hB5 HO3 HB4
          go_wp2
          go_roundw
          case rel => exact ⟨r + 1, by omega, by go_num, HO5.out, HB5.out⟩
          case measure => simp [intOf]; omega
        · have e : rows = r := by omega
          subst e
          obtain ⟨hk', cc, ev, _, _, hgk, hRk⟩ := rowAt_own hO (by omega)
          cases ev
          have hS1 := HS.out.old hB
          have hVlt : ∀ (V : Value) (T : TypeId) (m : Nat) (xs : List Value), w0.ownsRow (w.heap.size + 1) T 1 V m xs → V.ownBlock ≠ some hk' := fun V T m xs ho e => by have := (World.ownsRow.lt ho hk' e).2; omega
          have hx0 := hVlt _ _ _ _ HS.out.o0
          have hx1 := hVlt _ _ _ _ HS.out.o1
          have hx2 := hVlt _ _ _ _ HS.out.o2
          have hxh : ∀ d, d < k → h d ≠ hk' := fun d hd e => by have := (HS.out.rows' d hd).1.1; omega
          have hnew : w.heap.size + 1 ≤ hk' := by have := HS.out.me.1; omega
          have HRk : Hid (RowAt wr hk' rows (fun _ => st (List.replicate size 0))) := hRk
          have HS1 : Hid (NaS w n rows size V0 V1 V2 h hc k k k wr) := hS1
          have m3 := (hS1.me.2 3 (by omega)).1
          have m3' : wr.cell? ⟨w.heap.size, 3, none⟩ = some V0 := m3
          have hO0 := hS1.o0
          have hsz1 : w.heap.size + 1 ≤ wr.heap.size := hS1.me.1
          obtain ⟨q0, d0, e0⟩ := own_len hO0
          have hge : ¬ (rows : Int) < (rows : Int) := by omega
          clear hO hB hRk hS1 m3 HS hVlt hltr
          subst e0
          go_wp2_with (first | (at_builtin; refine wpList_append_two rfl (.tmp 36) (.tmp 38) 79 rfl (w.heap.size + 1) 48 s0 (.slice none 0 0) 24 Tryz.underlying79 hss hs0 hs1 hs2 rfl _ _ _ rfl (World.ownsRow.alloc hO0 _) ⟨wr.heap.size, 0, none⟩ 1 1 [.slice (some ⟨hk', 0, none⟩) rows co] rfl rfl (one_cell _) (by intro u hu; simp at hu; subst hu; rfl) (by unfold maxLen; omega) (by omega) (by simp; omega) ?_))
          intro v3 w3 hown3 hgrow3 hsn3
          obtain ⟨S3, ⟨k3, f3⟩⟩ := HS1.out.push0 HRk.out hnew hx0 hx1 hx2 hxh (al_below wr _) hown3 hgrow3 hsn3
          obtain ⟨a3, c3, e3⟩ := own_len S3.o0
          subst e3
          have HS3 : Hid (NaS w n rows size (.slice a3 (k + 1) c3) V1 V2 (up h k hk') (up hc k co) (k + 1) k k (w3.setCell ⟨w.heap.size, 3, none⟩ (.slice a3 (k + 1) c3))) := S3
          clear hown3 hgrow3 hsn3 S3 HS1 HRk hO0 m3' hx0 hx1 hx2 hxh hnew hsz1
          go_upto_region 11 with fail
          generalize w3.setCell ⟨w.heap.size, 3, none⟩ (.slice a3 (k + 1) c3) = W3 at *
          clear k3 f3
          have m4 : W3.cell? ⟨w.heap.size, 4, none⟩ = some V1 := (HS3.out.me.2 4 (by omega)).1
          have hO1 := HS3.out.o1
          have hsz3 : w.heap.size + 1 ≤ W3.heap.size := HS3.out.me.1
          obtain ⟨q1, d1, e1⟩ := own_len hO1
          subst e1
          go_wp2_with (first | (at_builtin; refine wpList_append_two rfl (.tmp 46) (.tmp 47) 49 rfl (w.heap.size + 1) 4 b0 (.bool false) 1 Tryz.underlying49 hbb hb0 hb1 hb2 rfl _ _ _ rfl (World.ownsRow.alloc hO1 _) ⟨W3.heap.size, 0, none⟩ 1 1 [.bool false] rfl rfl (one_cell _) (by intro u hu; simp at hu; subst hu; rfl) (by unfold maxLen; omega) (by omega) (by simp; omega) ?_))
          intro v4 w4 hown4 hgrow4 hsn4
          obtain ⟨S4, ⟨k4, f4⟩⟩ := HS3.out.push1 (al_below W3 _) hown4 hgrow4 hsn4
          obtain ⟨a4, c4, e4⟩ := own_len S4.o1
          subst e4
          have HS4 : Hid (NaS w n rows size (.slice a3 (k + 1) c3) (.slice a4 (k + 1) c4) V2 (up h k hk') (up hc k co) (k + 1) (k + 1) k (w4.setCell ⟨w.heap.size, 4, none⟩ (.slice a4 (k + 1) c4))) := S4
          clear hown4 hgrow4 hsn4 S4 HS3 hO1 m4 hsz3
          go_upto_region 12 with fail
          generalize w4.setCell ⟨w.heap.size, 4, none⟩ (.slice a4 (k + 1) c4) = W4 at *
          clear k4 f4
          have m5 : W4.cell? ⟨w.heap.size, 5, none⟩ = some V2 := (HS4.out.me.2 5 (by omega)).1
          have hO2 := HS4.out.o2
          have hsz4 : w.heap.size + 1 ≤ W4.heap.size := HS4.out.me.1
          obtain ⟨q2, d2, e2⟩ := own_len hO2
          subst e2
          go_wp2_with (first | (at_builtin; refine wpList_append_two rfl (.tmp 55) (.tmp 57) 32 rfl (w.heap.size + 1) 3 n0 (.int .i64 0) 8 Tryz.underlying32 hnn hn0 hn1 hn2 rfl _ _ _ rfl (World.ownsRow.alloc hO2 _) ⟨W4.heap.size, 0, none⟩ 1 1 [.int .i64 (rows : Int)] rfl rfl (one_cell _) (by intro u hu; simp at hu; subst hu; rfl) (by unfold maxLen; omega) (by omega) (by simp; omega) ?_))
          intro v5 w5 hown5 hgrow5 hsn5
          obtain ⟨S5, ⟨k5, f5⟩⟩ := HS4.out.push2 (al_below W4 _) hown5 hgrow5 hsn5
          have HS5 : Hid (NaS w n rows size (.slice a3 (k + 1) c3) (.slice a4 (k + 1) c4) v5 (up h k hk') (up hc k co) (k + 1) (k + 1) (k + 1) (w5.setCell ⟨w.heap.size, 5, none⟩ v5)) := S5
          obtain ⟨a5, c5, e5⟩ := own_len S5.o2
          subst e5
          clear hown5 hgrow5 hsn5 S5 HS4 hO2 m5 hsz4
          go_wp2
          go_roundw
          case rel => exact ⟨k + 1, _, _, _, _, _, by omega, by go_num, HS5.out⟩
          case measure => simp [intOf]; omega
    · have e : n = k := by omega
      subst e
      obtain ⟨x, e1, e2, e3⟩ := hS.done (by omega)
      have HE : Hid (x.p = w.heap.size) := e1
      have HF : Hid (RA wr x (Arr.fresh n rows size) ∧ (∀ k, x.F n k → w.heap.size ≤ k) ∧ Below w.heap.size w wr) := ⟨e2, e3, hS.low⟩
      have hge : ¬ (n : Int) < (n : Int) := by omega
      clear hS e1 e2 e3 hlt
      go_wp2
      go_ret
      exact ⟨x, by rw [HE.out]; rfl, HF.out⟩
end Go.Proofs.YtilfjahbdlepjaaGreatDoor

/- A row of the document's array is scrubbed: a walk over the program. -/
namespace Go.Proofs.YtilfjahbdlepjaaGreatDoor
open Go.RowKit El Pol Mx Lay
set_option maxRecDepth 100000 in
set_option maxHeartbeats 4000000 in
theorem ra_scrub {w : World} {x : RAd} {a : Arr} (h : RA w x a) (ho : a.ok) (s : Nat) (hs : s < a.rows) :
    Calls Tryz.prog 28 #[.pointer (some ⟨x.p, 0, none⟩), .int .i64 s] w fun e w' => e = .returned (.tuple #[.int .i64 (a.scrubD s), .int .i64 (a.scrubE s)]) ∧ RA w' x (a.scrub s) ∧ But (x.F a.n) w w' := by
  have L := ra_lost h ho s
  have R := ra_raw h ho s hs
  obtain ⟨hn1, hn2⟩ := ho.1
  have hr2 := ho.2.1.2
  have HP : Hid (RA w x a) := h
  have HLT : Hid (∀ k, x.F a.n k → k < w.heap.size) := h.lt
  rcases Arr.scrub_ways ho s with ⟨h0, q3, q4, q5⟩ | ⟨h0, ⟨q1, q2⟩, q3, q4, q5⟩ | ⟨h0, ⟨q1, q2⟩, q3, q4, q5⟩ | ⟨h0, ⟨q1, q2, hli⟩, q3, q4, q5⟩
  · rw [q3, q4, q5]
    have hpos : (0 : Int) < (a.nl s : Int) := by omega
    clear h ho R q3 q4 q5 h0
    generalize a.nl s = m at *
    go_enter Tryz.func28, Tryz.ntmps28
    go_wp2_with fail
    refine L.mono ?_
    rintro e w1 ⟨rfl, hw⟩
    obtain rfl := hw.symm
    clear L hw
    go_wp2
    go_ret2
    exact ⟨rfl, HP.out, But.refl _ _⟩
  all_goals
    have HL : Hid (∀ (w1 : World) (g1 c1 : Nat), a.n ≤ c1 → c1 ≤ 9223372036854775807 → RowAt w1 g1 a.n (fun i => st (a.part s i)) → Calls Tryz.prog 54 #[.slice (some ⟨g1, 0, none⟩) a.n c1] w1 fun e w' => e = .returned (.tuple #[.int .i64 (a.lz s), .bool (decide (a.lf s = 0))]) ∧ Below w1.heap.size w1 w') := fun w1 g1 c1 k1 k2 h1 => by
      have hk : a.n - 2 + 2 = a.n := by omega
      have := rlocate_any (a.n - 2) a.size (by omega) (by omega) (.slice (some ⟨g1, 0, none⟩) a.n c1) (a.part s) w1 (by rw [hk]; exact h1.rd k1 k2) (fun i _ => Arr.part_len ho hs (Arr.lo_none ho h0 _)) ho.2.2.1.2
      refine this.mono fun e w' ⟨z, f, he, hL, hB⟩ => ⟨?_, hB⟩
      obtain ⟨q1, q2⟩ := Arr.l_same ho hL
      rw [he, q1, q2]
    rw [q3, q4, q5]
    rw [h0] at L
  · simp only [q1, q2] at HL
    clear h ho q1 q2 q3 q4 q5 h0
    go_enter Tryz.func28, Tryz.ntmps28
    go_wp2_with fail
    refine L.mono ?_
    rintro e w1 ⟨rfl, hw⟩
    obtain rfl := hw.symm
    clear L hw
    go_wp2_with fail
    refine R.mono ?_
    rintro e w1 ⟨g1, c1, g2, c2, rfl, hcc, u1, u2, ⟨hg1, hg2⟩, hB1⟩
    have C := HL.out w1 g1 c1 hcc.1 hcc.2.1 u1
    clear R HL
    clear u1 u2
    go_wp2_with fail
    refine C.mono ?_
    rintro e w2 ⟨rfl, hB2⟩
    have HB : Hid (Below w.heap.size w w2) := hB1.trans (hB2.mono hB1.size)
    clear C hB1 hB2
    go_wp2
    go_ret2
    exact ⟨rfl, HP.out.old HB.out, Below.but HB.out _⟩
  · simp only [q1, q2] at HL
    clear h ho q1 q2 q3 q4 q5 h0
    go_enter Tryz.func28, Tryz.ntmps28
    go_wp2_with fail
    refine L.mono ?_
    rintro e w1 ⟨rfl, hw⟩
    obtain rfl := hw.symm
    clear L hw
    go_wp2_with fail
    refine R.mono ?_
    rintro e w1 ⟨g1, c1, g2, c2, rfl, hcc, u1, u2, ⟨hg1, hg2⟩, hB1⟩
    have C := HL.out w1 g1 c1 hcc.1 hcc.2.1 u1
    clear R HL
    clear u1 u2
    go_wp2_with fail
    refine C.mono ?_
    rintro e w2 ⟨rfl, hB2⟩
    have HB : Hid (Below w.heap.size w w2) := hB1.trans (hB2.mono hB1.size)
    clear C hB1 hB2
    go_wp2
    go_ret2
    exact ⟨rfl, HP.out.old HB.out, Below.but HB.out _⟩
  · simp only [q1, q2] at HL
    rw [(Arr.poke_none hs h0 (ord_lt hn1) (Arr.heal1_len a s (a.li s) (a.li s))).2]
    have HH : Hid (∀ (w1 : World) (g1 c1 g2 c2 i : Nat), (a.n ≤ c1 ∧ c1 ≤ 9223372036854775807 ∧ a.n ≤ c2 ∧ c2 ≤ 9223372036854775807) → RowAt w1 g1 a.n (fun j => st (a.part s j)) → RowAt w1 g2 a.n (fun j => .bool (lost1 i j)) →
        Calls Tryz.prog 36 #[.slice (some ⟨g1, 0, none⟩) a.n c1, .slice (some ⟨g2, 0, none⟩) a.n c2] w1 fun e w' => ∃ (gp cp : Nat), e = .returned (.slice (some ⟨gp, 0, none⟩) a.n cp) ∧ RowAt w' gp a.n (fun j => st (a.heal1 s i j)) ∧ Below w1.heap.size w1 w') := fun w1 g1 c1 g2 c2 i hc h1 h3 => by
      have hk : a.n - 2 + 2 = a.n := by omega
      have r1 := h1.rd hc.1 hc.2.1
      have r3 := h3.rd hc.2.2.1 hc.2.2.2
      have := rheal_own (a.n - 2) a.size (by omega) (by omega) (.slice (some ⟨g1, 0, none⟩) a.n c1) (.slice (some ⟨g2, 0, none⟩) a.n c2) (a.part s) (lost1 i) w1 (by rw [hk]; exact r1) (by rw [hk]; exact r3) (ix_lost1 i _) (fun _ _ => Arr.part_len ho hs (Arr.lo_none ho h0 _)) ho.2.2.1.2
      refine this.mono fun e w' ⟨v', D, he, hD, hO, hB⟩ => ?_
      rw [hk] at hO
      obtain ⟨gp, cp, rfl, _, _, _, hR⟩ := rowAt_own hO (by omega)
      exact ⟨gp, cp, he, hR.congr (fun j _ => by rw [Arr.heal1_is ho hD j]), hB⟩
    have HO : Hid (∀ w1, _) := fun w1 => rlayout_any a.n s hn1 hn2 (by omega) w1
    have HLo : Hid (∀ i, a.lo s i = false) := Arr.lo_none ho h0
    have hd : ord a.n s (a.li s) < a.n := ord_lt hn1
    have HPut : Hid (∀ (w2 : World) (m : Nat) (d : Nat) (t : List El), d < a.n → RA w2 x a → RA ((w2.drewN m).setCell ⟨x.h d, s, none⟩ (st t)) x { a with cell := fun e r => if e = d ∧ r = s then t else a.cell e r }) := fun w2 m d t hd hp => (hp.drewN m).putCell d s hd t
    have HBut : Hid (∀ (w2 : World) (m : Nat) (d : Nat) (t : List El), d < a.n → But (x.F a.n) w2 ((w2.drewN m).setCell ⟨x.h d, s, none⟩ (st t))) := fun w2 m d t hd => ((But.refl (x.F a.n) w2).drewN m).setCell (p := ⟨x.h d, s, none⟩) (.inr (.inr (.inr (.inr ⟨d, hd, rfl⟩)))) _
    clear h ho q1 q2 q3 q4 q5 h0
    obtain ⟨i, hie⟩ : ∃ i, i = a.li s := ⟨_, rfl⟩
    rw [← hie] at hli hd HL ⊢
    obtain ⟨t, ht⟩ : ∃ t, t = a.heal1 s i i := ⟨_, rfl⟩
    have HT : Hid (t = a.heal1 s i i) := ht
    rw [← ht]
    clear hie ht
    have hin : (i : Int) < (a.n : Int) := by omega
    have hsr : (s : Int) < (a.rows : Int) := by omega
    obtain ⟨d, hde⟩ : ∃ d, d = ord a.n s i := ⟨_, rfl⟩
    have HD : Hid (d = ord a.n s i) := hde
    rw [← hde] at hd ⊢
    clear hde
    have hdn : (d : Int) < (a.n : Int) := by omega
    generalize ha' : ({ a with cell := fun e r => if e = d ∧ r = s then t else a.cell e r } : Arr) = a'
    have HA' : Hid (({ a with cell := fun e r => if e = d ∧ r = s then t else a.cell e r } : Arr) = a') := ha'
    clear ha'
    go_enter Tryz.func28, Tryz.ntmps28
    go_wp2_with fail
    refine L.mono ?_
    rintro e w1 ⟨rfl, hw⟩
    obtain rfl := hw.symm
    clear L hw
    go_wp2_with fail
    refine R.mono ?_
    rintro e w1 ⟨g1, c1, g2, c2, rfl, hcc, u1, u2, ⟨hg1, hg2⟩, hB1⟩
    have C := HL.out w1 g1 c1 hcc.1 hcc.2.1 u1
    clear R HL
    have k2 := u2.2 i hli
    obtain ⟨k2, f2⟩ := k2
    have HU1 : Hid (RowAt w1 g1 a.n (fun i => st (a.part s i))) := u1
    have HU2 : Hid (RowAt w1 g2 a.n (fun i => .bool (a.lo s i))) := u2
    clear u1 u2
    go_wp2_with fail
    refine C.mono ?_
    rintro e w2 ⟨rfl, hB2⟩
    have v1 := HU1.out.old hB2
    have v2 := HU2.out.old hB2
    obtain ⟨l2, m2⟩ := v2.2 i hli
    dsimp only at l2
    have hB12 := hB1.trans (hB2.mono hB1.size)
    have hB3 : Below w.heap.size w (w2.setCell ⟨g2, i, none⟩ (.bool true)) := hB12.setCell (p := ⟨g2, i, none⟩) hg2 _
    have p2 := v2.put i (.bool true)
    have hx : g1 ≠ g2 := fun e => by
      subst e
      have z1 := (v1.2 i hli).1
      rw [l2] at z1
      cases z1
    have H := HH.out (w2.setCell ⟨g2, i, none⟩ (.bool true)) g1 c1 g2 c2 i hcc (v1.apart hx i (.bool true)) (p2.1.congr (fun j _ => by
      unfold up lost1
      by_cases q : j = i
      · rw [if_pos q, decide_eq_true q]
      · rw [if_neg q, decide_eq_false q]
        show Value.bool (a.lo s j) = _
        rw [HLo.out]))
    have HB3 : Hid (Below w.heap.size w (w2.setCell ⟨g2, i, none⟩ (.bool true))) := hB3
    clear C k2 f2 HU1 HU2 v1 v2 hB12 hB3 p2 HH HLo hB2 hB1
    go_wp2_with fail
    generalize w2.setCell ⟨g2, i, none⟩ (.bool true) = w3 at *
    refine H.mono ?_
    rintro e w4 ⟨gp, cp, rfl, hRp, hB4⟩
    have hB14 := HB3.out.trans (hB4.mono HB3.out.size)
    have c0 := (HP.out.old hB14).c0
    have O := HO.out w4
    have HRp : Hid (RowAt w4 gp a.n (fun j => st (a.heal1 s i j))) := hRp
    have HB14 : Hid (Below w.heap.size w w4) := hB14
    clear H HB3 hRp hB4 hB14 l2 m2
    go_wp2_with fail
    refine O.mono ?_
    rintro e w5 ⟨v5, rfl, hO, hB5⟩
    obtain ⟨g0, cap, rfl, hc1, hc2, hg0, hR0⟩ := rowAt_own hO (by omega)
    have hB15 := HB14.out.trans (hB5.mono HB14.out.size)
    have hP5 := HP.out.old hB15
    have k0 := (hR0.2 i hli).1
    have kp := ((HRp.out.old hB5).2 i hli).1
    dsimp only at k0 kp
    rw [← HT.out] at kp
    rw [← HD.out] at k0
    have c3 := hP5.c3
    have dk := hP5.dk _ hd
    obtain ⟨cl, cf⟩ := hP5.cl _ s hd hs
    have HF : Hid (∀ m, RA ((w5.drewN m).setCell ⟨x.h d, s, none⟩ (st t)) x a' ∧ But (x.F a.n) w ((w5.drewN m).setCell ⟨x.h d, s, none⟩ (st t))) := fun m => ⟨by rw [← HA'.out]; exact HPut.out w5 m _ t hd hP5, (Below.but hB15 _).trans (HBut.out w5 m _ t hd) (Grows.refl _ _)⟩
    clear O hO hR0 HRp HB14 hB5 hB15 hP5 HPut HBut HO HP HLT c0 HT
    generalize a.cell d s = t0 at *
    go_upto_region 12 with fail
    refine region_tail 13 (by kernel_rfl) (by kernel_rfl) ?_
    simp only [List.take_succ_cons, List.take_zero, List.drop_succ_cons, List.drop_zero]
    repeat (go_big_quiet_step (fail))
    refine wpQuiet_nil ?_
    intro w9 hw9
    obtain ⟨nq, rfl⟩ := hw9
    have HF2 : Hid _ := HF.out nq
    clear HF
    go_wp2
    go_ret2
    exact ⟨rfl, HF2.out.1, HF2.out.2⟩
end Go.Proofs.YtilfjahbdlepjaaGreatDoor
