/- The program's array and the document's, side by side: the state between the steps, and what keeps it. -/
import Derived.Test.YtilfjahbdlepjaaGreatDoorPa
import Derived.Test.YtilfjahbdlepjaaGreatDoorArI
import Derived.Test.YtilfjahbdlepjaaGreatDoorRr
import Derived.Test.YtilfjahbdlepjaaGreatDoorGe
namespace Go.Proofs.YtilfjahbdlepjaaGreatDoor
open Go.RowKit El Pol Mx Lay
structure PS (w : World) (x : PAd) (y : RAd) (n rows size : Nat) (A C : Arr) (N : Nat) (wc : World) : Prop where
  al : AL w x A N wc
  ra : RA wc y C
  ia : A.is n rows size
  ic : C.is n rows size
  yo : ∀ k, y.F n k → w.heap.size ≤ k
  dis : ∀ k, x.F n k → ¬ y.F n k
structure VP (w : World) (x : PAd) (y : RAd) (n q : Nat) (wc : World) (v : Nat → Int) : Prop where
  row : RowAt wc q 4 (fun j => .int .i64 (v j))
  hq : w.heap.size ≤ q
  nx : ¬ x.F n q
  ny : ¬ y.F n q
section
variable {w wc w1 : World} {x : PAd} {y : RAd} {n rows size q : Nat} {A A' C C' : Arr} {N N' : Nat} {v : Nat → Int}
theorem VP.old (h : VP w x y n q wc v) (hb : Below wc.heap.size wc w1) : VP w x y n q w1 v := ⟨h.row.old hb, h.hq, h.nx, h.ny⟩
theorem VP.butx (h : VP w x y n q wc v) (hb : But (x.F n) wc w1) : VP w x y n q w1 v := ⟨h.row.but hb h.nx, h.hq, h.nx, h.ny⟩
theorem VP.buty (h : VP w x y n q wc v) (hb : But (y.F n) wc w1) : VP w x y n q w1 v := ⟨h.row.but hb h.ny, h.hq, h.nx, h.ny⟩
theorem VP.at (h : VP w x y n q wc v) (j : Nat) (hj : j < 4) : wc.cell? ⟨q, j, none⟩ = some (.int .i64 (v j)) := (h.row.2 j hj).1
theorem VP.put (h : VP w x y n q wc v) (i : Nat) (z : Int) (u : Nat → Int) (hu : ∀ k, k < 4 → u k = if k = i then z else v k) : VP w x y n q (wc.setCell ⟨q, i, none⟩ (.int .i64 z)) u :=
  ⟨(h.row.put i _).1.congr (fun k hk => by
    rw [hu k hk]
    by_cases e : k = i
    · subst e; rw [up_at, if_pos rfl]
    · rw [up_ne _ _ e, if_neg e]), h.hq, h.nx, h.ny⟩
theorem PS.old (h : PS w x y n rows size A C N wc) (hb : Below wc.heap.size wc w1) : PS w x y n rows size A C N w1 := ⟨h.al.old hb, h.ra.old hb, h.ia, h.ic, h.yo, h.dis⟩
theorem PS.onQ (h : PS w x y n rows size A C N wc) (hv : VP w x y n q wc v) (i : Nat) (u : Value) : PS w x y n rows size A C N (wc.setCell ⟨q, i, none⟩ u) := by
  have hb := but_cell wc q i u
  refine ⟨⟨h.al.low.trans (hb.below h.al.low.size (fun k hk => by rw [hk]; exact hv.hq)), h.al.pa.but hb (fun k hk e => ?_), h.al.out⟩, h.ra.but hb (fun k hk e => ?_), h.ia, h.ic, h.yo, h.dis⟩
  · rw [h.ia.2.1, e] at hk
    exact hv.nx hk
  · rw [h.ic.2.1, e] at hk
    exact hv.ny hk
theorem PS.doc (h : PS w x y n rows size A C N wc) (hp : RA w1 y C') (hb : But (y.F C.n) wc w1) (hi : C'.is n rows size) : PS w x y n rows size A C' N w1 ∧ But (y.F n) wc w1 := by
  have hb' := hb
  rw [h.ic.2.1] at hb'
  refine ⟨⟨⟨h.al.low.trans (hb'.below h.al.low.size h.yo), h.al.pa.but hb' (fun k hk => h.dis k (by rw [← h.ia.2.1]; exact hk)), h.al.out⟩, hp, h.ia, hi, h.yo, h.dis⟩, hb'⟩
theorem PS.prog (h : PS w x y n rows size A C N wc) (hp : PA w1 x A' N') (hb : But (x.F A.n) wc w1) (hi : A'.is n rows size) : PS w x y n rows size A' C N' w1 ∧ But (x.F n) wc w1 := by
  have hb' := hb
  rw [h.ia.2.1] at hb'
  refine ⟨⟨h.al.next hp hb (hi.2.1.trans h.ia.2.1.symm), h.ra.but hb' (fun k hk e => h.dis k e (by rw [← h.ic.2.1]; exact hk)), hi, h.ic, h.yo, h.dis⟩, hb'⟩
theorem VP.new (h : PS w x y n rows size A C N wc) (t : TypeId) : VP w x y n wc.heap.size (wc.alloc (.cells #[.int .i64 0, .int .i64 0, .int .i64 0, .int .i64 0] t)) (fun _ => 0) :=
  ⟨RowAt.new wc 4 (.int .i64 0) t, h.al.low.size, fun hf => by have := h.al.pa.lt wc.heap.size (by rw [h.ia.2.1]; exact hf); omega, fun hf => by have := h.ra.lt wc.heap.size (by rw [h.ic.2.1]; exact hf); omega⟩
theorem PS.dwrite (h : PS w x y n rows size A C N wc) (b : Int) (t : List El) :
    Calls Tryz.prog 10 #[.pointer (some ⟨y.p, 0, none⟩), .int .i64 b, st t] wc fun e w1 => e = .returned (.int .i64 (C.writeE b t.length)) ∧ PS w x y n rows size A (C.write b t) N w1 ∧ But (y.F n) wc w1 :=
  (ra_write h.ra h.ic.1 b t).mono fun _ _ ⟨he, hp, hb⟩ => ⟨he, h.doc hp hb (is_write h.ic b t)⟩
theorem PS.pwrite (h : PS w x y n rows size A C N wc) (hN : N < 900000) (b : Int) (hb : b ≤ 9223372036854775807) (t : List El) :
    Calls Tryz.prog 11 #[.pointer (some ⟨x.p, 0, none⟩), .int .i64 b, st t] wc fun e w1 => e = .returned (errV (A.writeE b t.length)) ∧ PS w x y n rows size (A.write b t) C (N + 3) w1 ∧ But (x.F n) wc w1 :=
  (pa_write h.al.pa h.ia.1 hN b hb t).mono fun _ _ ⟨he, hp, hb⟩ => ⟨he, h.prog hp hb (is_write h.ia b t)⟩
theorem PS.dfail (h : PS w x y n rows size A C N wc) (d : Int) :
    Calls Tryz.prog 12 #[.pointer (some ⟨y.p, 0, none⟩), .int .i64 d] wc fun e w1 => e = .returned (.int .i64 (C.failE d)) ∧ PS w x y n rows size A (C.fail d) N w1 ∧ But (y.F n) wc w1 :=
  (ra_fail h.ra d).mono fun _ _ ⟨he, hp, hb⟩ => ⟨he, h.doc hp hb (is_fail h.ic d)⟩
theorem PS.pfail (h : PS w x y n rows size A C N wc) (d : Int) :
    Calls Tryz.prog 13 #[.pointer (some ⟨x.p, 0, none⟩), .int .i64 d] wc fun e w1 => e = .returned (errV (A.failE d)) ∧ PS w x y n rows size (A.fail d) C N w1 ∧ But (x.F n) wc w1 :=
  (pa_fail h.al.pa d).mono fun _ _ ⟨he, hp, hb⟩ => ⟨he, h.prog hp hb (is_fail h.ia d)⟩
theorem PS.dreplace (h : PS w x y n rows size A C N wc) (d : Int) :
    Calls Tryz.prog 14 #[.pointer (some ⟨y.p, 0, none⟩), .int .i64 d] wc fun e w1 => e = .returned (.int .i64 (C.replaceE d)) ∧ PS w x y n rows size A (C.replace d) N w1 ∧ But (y.F n) wc w1 :=
  (ra_replace h.ra d).mono fun _ _ ⟨he, hp, hb⟩ => ⟨he, h.doc hp hb (is_replace h.ic d)⟩
theorem PS.preplace (h : PS w x y n rows size A C N wc) (d : Int) :
    Calls Tryz.prog 15 #[.pointer (some ⟨x.p, 0, none⟩), .int .i64 d] wc fun e w1 => e = .returned (errV (A.replaceE d)) ∧ PS w x y n rows size (A.replace d) C N w1 ∧ But (x.F n) wc w1 :=
  (pa_replace h.al.pa d).mono fun _ _ ⟨he, hp, hb⟩ => ⟨he, h.prog hp hb (is_replace h.ia d)⟩
theorem PS.drebuild (h : PS w x y n rows size A C N wc) (d : Int) :
    Calls Tryz.prog 16 #[.pointer (some ⟨y.p, 0, none⟩), .int .i64 d] wc fun e w1 => e = .returned (.tuple #[.int .i64 (C.rebuildN d), .int .i64 (C.rebuildE d)]) ∧ PS w x y n rows size A (C.rebuild d) N w1 ∧ But (y.F n) wc w1 :=
  (ra_rebuild h.ra h.ic.1 d).mono fun _ _ ⟨he, hp, hb⟩ => ⟨he, h.doc hp hb (is_rebuild h.ic d)⟩
theorem PS.prebuild (h : PS w x y n rows size A C N wc) (hN : N < 900000) (d : Int) :
    Calls Tryz.prog 17 #[.pointer (some ⟨x.p, 0, none⟩), .int .i64 d] wc fun e w1 => e = .returned (.tuple #[.int .i64 (A.rebuildN d), errV (A.rebuildE d)]) ∧ PS w x y n rows size (A.rebuild d) C (N + 1) w1 ∧ But (x.F n) wc w1 :=
  (pa_rebuild h.al.pa h.ia.1 hN d).mono fun _ _ ⟨he, hp, hb⟩ => ⟨he, h.prog hp hb (is_rebuild h.ia d)⟩
theorem PS.dpoke (h : PS w x y n rows size A C N wc) (d r : Int) (t : List El) :
    Calls Tryz.prog 18 #[.pointer (some ⟨y.p, 0, none⟩), .int .i64 d, .int .i64 r, st t] wc fun e w1 => e = .returned (.int .i64 (C.pokeE d r t.length)) ∧ PS w x y n rows size A (C.poke d r t) N w1 ∧ But (y.F n) wc w1 :=
  (ra_poke h.ra d r t).mono fun _ _ ⟨he, hp, hb⟩ => ⟨he, h.doc hp hb (is_poke h.ic d r t)⟩
theorem PS.ppoke (h : PS w x y n rows size A C N wc) (hN : N < 900000) (d r : Int) (t : List El) :
    Calls Tryz.prog 19 #[.pointer (some ⟨x.p, 0, none⟩), .int .i64 d, .int .i64 r, st t] wc fun e w1 => e = .returned (errV (A.pokeE d r t.length)) ∧ PS w x y n rows size (A.poke d r t) C (N + 1) w1 ∧ But (x.F n) wc w1 :=
  (pa_poke h.al.pa h.ia.1 hN d r t).mono fun _ _ ⟨he, hp, hb⟩ => ⟨he, h.prog hp hb (is_poke h.ia d r t)⟩
end
end Go.Proofs.YtilfjahbdlepjaaGreatDoor
