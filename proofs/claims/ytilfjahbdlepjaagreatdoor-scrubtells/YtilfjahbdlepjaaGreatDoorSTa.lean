/- The program's two arrays and the document's two, side by side: the state between the steps, and what keeps it. -/
import Derived.Test.YtilfjahbdlepjaaGreatDoorPa
import Derived.Test.YtilfjahbdlepjaaGreatDoorArI
import Derived.Test.YtilfjahbdlepjaaGreatDoorRr
import Derived.Test.YtilfjahbdlepjaaGreatDoorSc
import Derived.Test.YtilfjahbdlepjaaGreatDoorGe
namespace Go.Proofs.YtilfjahbdlepjaaGreatDoor
open Go.RowKit El Pol Mx Lay
theorem is_scrub {n rows size : Nat} {A : Arr} (h : A.is n rows size) (r : Nat) : (A.scrub r).is n rows size := by
  obtain ⟨s1, s2, s3, _, _⟩ := Arr.scrub_same A r
  exact ⟨Arr.scrub_ok h.1 r, s1.trans h.2.1, s2.trans h.2.2.1, s3.trans h.2.2.2⟩
theorem is_all {n rows size : Nat} {A : Arr} (h : A.is n rows size) (k : Nat) : (A.all k).is n rows size := by
  obtain ⟨s1, s2, s3, _, _⟩ := Arr.all_same A k
  exact ⟨Arr.all_ok h.1 k, s1.trans h.2.1, s2.trans h.2.2.1, s3.trans h.2.2.2⟩
theorem is_row {n rows size : Nat} {A : Arr} (h : A.is n rows size) (m r : Int) : (A.row' m r).is n rows size := by
  unfold Arr.row'
  split
  · exact is_scrub h _
  · exact h
structure QS (w : World) (x1 x2 : PAd) (y1 y2 : RAd) (n rows size : Nat) (A1 A2 C1 C2 : Arr) (N1 N2 : Nat) (wc : World) : Prop where
  a1 : AL w x1 A1 N1 wc
  a2 : AL w x2 A2 N2 wc
  r1 : RA wc y1 C1
  r2 : RA wc y2 C2
  i1 : A1.is n rows size
  i2 : A2.is n rows size
  j1 : C1.is n rows size
  j2 : C2.is n rows size
  o1 : ∀ k, y1.F n k → w.heap.size ≤ k
  o2 : ∀ k, y2.F n k → w.heap.size ≤ k
  d12 : ∀ k, x1.F n k → ¬ x2.F n k
  e11 : ∀ k, x1.F n k → ¬ y1.F n k
  e12 : ∀ k, x1.F n k → ¬ y2.F n k
  e21 : ∀ k, x2.F n k → ¬ y1.F n k
  e22 : ∀ k, x2.F n k → ¬ y2.F n k
  f12 : ∀ k, y1.F n k → ¬ y2.F n k
/-- all four places -/
def QF (x1 x2 : PAd) (y1 y2 : RAd) (n : Nat) (k : Nat) : Prop := x1.F n k ∨ x2.F n k ∨ y1.F n k ∨ y2.F n k
structure VQ (w : World) (x1 x2 : PAd) (y1 y2 : RAd) (n q : Nat) (wc : World) (v : Nat → Int) : Prop where
  row : RowAt wc q 4 (fun j => .int .i64 (v j))
  hq : w.heap.size ≤ q
  nf : ¬ QF x1 x2 y1 y2 n q
section
variable {w wc w1 : World} {x1 x2 : PAd} {y1 y2 : RAd} {n rows size q : Nat} {A1 A2 C1 C2 A' : Arr} {N1 N2 N' : Nat} {v : Nat → Int}
theorem VQ.old (h : VQ w x1 x2 y1 y2 n q wc v) (hb : Below wc.heap.size wc w1) : VQ w x1 x2 y1 y2 n q w1 v := ⟨h.row.old hb, h.hq, h.nf⟩
theorem VQ.but (h : VQ w x1 x2 y1 y2 n q wc v) (hb : But (QF x1 x2 y1 y2 n) wc w1) : VQ w x1 x2 y1 y2 n q w1 v := ⟨h.row.but hb h.nf, h.hq, h.nf⟩
theorem VQ.at (h : VQ w x1 x2 y1 y2 n q wc v) (j : Nat) (hj : j < 4) : wc.cell? ⟨q, j, none⟩ = some (.int .i64 (v j)) := (h.row.2 j hj).1
theorem VQ.put (h : VQ w x1 x2 y1 y2 n q wc v) (i : Nat) (z : Int) (u : Nat → Int) (hu : ∀ k, k < 4 → u k = if k = i then z else v k) : VQ w x1 x2 y1 y2 n q (wc.setCell ⟨q, i, none⟩ (.int .i64 z)) u :=
  ⟨(h.row.put i _).1.congr (fun k hk => by
    rw [hu k hk]
    by_cases e : k = i
    · subst e; rw [up_at, if_pos rfl]
    · rw [up_ne _ _ e, if_neg e]), h.hq, h.nf⟩
theorem QS.old (h : QS w x1 x2 y1 y2 n rows size A1 A2 C1 C2 N1 N2 wc) (hb : Below wc.heap.size wc w1) : QS w x1 x2 y1 y2 n rows size A1 A2 C1 C2 N1 N2 w1 :=
  ⟨h.a1.old hb, h.a2.old hb, h.r1.old hb, h.r2.old hb, h.i1, h.i2, h.j1, h.j2, h.o1, h.o2, h.d12, h.e11, h.e12, h.e21, h.e22, h.f12⟩
/-- what is written elsewhere -/
theorem AL.elsewhere {x : PAd} {A : Arr} {N : Nat} {F : Nat → Prop} (h : AL w x A N wc) (hb : But F wc w1) (hF : ∀ k, F k → w.heap.size ≤ k) (hn : ∀ k, x.F A.n k → ¬ F k) : AL w x A N w1 :=
  ⟨h.low.trans (hb.below h.low.size hF), h.pa.but hb hn, h.out⟩
theorem QS.x1o (h : QS w x1 x2 y1 y2 n rows size A1 A2 C1 C2 N1 N2 wc) : ∀ k, x1.F n k → w.heap.size ≤ k := fun k hk => h.a1.out k (by rw [h.i1.2.1]; exact hk)
theorem QS.x2o (h : QS w x1 x2 y1 y2 n rows size A1 A2 C1 C2 N1 N2 wc) : ∀ k, x2.F n k → w.heap.size ≤ k := fun k hk => h.a2.out k (by rw [h.i2.2.1]; exact hk)
theorem QS.lt (h : QS w x1 x2 y1 y2 n rows size A1 A2 C1 C2 N1 N2 wc) : ∀ k, QF x1 x2 y1 y2 n k → k < wc.heap.size := by
  rintro k (hk | hk | hk | hk)
  · exact h.a1.pa.lt k (by rw [h.i1.2.1]; exact hk)
  · exact h.a2.pa.lt k (by rw [h.i2.2.1]; exact hk)
  · exact h.r1.lt k (by rw [h.j1.2.1]; exact hk)
  · exact h.r2.lt k (by rw [h.j2.2.1]; exact hk)
theorem QS.onOther (h : QS w x1 x2 y1 y2 n rows size A1 A2 C1 C2 N1 N2 wc) {F : Nat → Prop} (hb : But F wc w1) (hF : ∀ k, F k → w.heap.size ≤ k) (hn : ∀ k, QF x1 x2 y1 y2 n k → ¬ F k) : QS w x1 x2 y1 y2 n rows size A1 A2 C1 C2 N1 N2 w1 :=
  ⟨h.a1.elsewhere hb hF (fun k hk => hn k (.inl (by rw [← h.i1.2.1]; exact hk))), h.a2.elsewhere hb hF (fun k hk => hn k (.inr (.inl (by rw [← h.i2.2.1]; exact hk)))), h.r1.but hb (fun k hk => hn k (.inr (.inr (.inl (by rw [← h.j1.2.1]; exact hk))))), h.r2.but hb (fun k hk => hn k (.inr (.inr (.inr (by rw [← h.j2.2.1]; exact hk))))), h.i1, h.i2, h.j1, h.j2, h.o1, h.o2, h.d12, h.e11, h.e12, h.e21, h.e22, h.f12⟩
theorem QS.onQ (h : QS w x1 x2 y1 y2 n rows size A1 A2 C1 C2 N1 N2 wc) (hv : VQ w x1 x2 y1 y2 n q wc v) (i : Nat) (u : Value) : QS w x1 x2 y1 y2 n rows size A1 A2 C1 C2 N1 N2 (wc.setCell ⟨q, i, none⟩ u) :=
  h.onOther (but_cell wc q i u) (fun k hk => by rw [hk]; exact hv.hq) (fun k hk e => hv.nf (by rw [← e]; exact hk))
theorem QS.prog1 (h : QS w x1 x2 y1 y2 n rows size A1 A2 C1 C2 N1 N2 wc) (hp : PA w1 x1 A' N') (hb : But (x1.F A1.n) wc w1) (hi : A'.is n rows size) : QS w x1 x2 y1 y2 n rows size A' A2 C1 C2 N' N2 w1 ∧ But (QF x1 x2 y1 y2 n) wc w1 := by
  have hb' : But (x1.F n) wc w1 := by rw [← h.i1.2.1]; exact hb
  exact ⟨⟨h.a1.next hp hb (hi.2.1.trans h.i1.2.1.symm), h.a2.elsewhere hb' h.x1o (fun k hk q => h.d12 k q (by rw [← h.i2.2.1]; exact hk)), h.r1.but hb' (fun k hk q => h.e11 k q (by rw [← h.j1.2.1]; exact hk)), h.r2.but hb' (fun k hk q => h.e12 k q (by rw [← h.j2.2.1]; exact hk)), hi, h.i2, h.j1, h.j2, h.o1, h.o2, h.d12, h.e11, h.e12, h.e21, h.e22, h.f12⟩, hb'.mono (fun _ hi => .inl hi)⟩
theorem QS.prog2 (h : QS w x1 x2 y1 y2 n rows size A1 A2 C1 C2 N1 N2 wc) (hp : PA w1 x2 A' N') (hb : But (x2.F A2.n) wc w1) (hi : A'.is n rows size) : QS w x1 x2 y1 y2 n rows size A1 A' C1 C2 N1 N' w1 ∧ But (QF x1 x2 y1 y2 n) wc w1 := by
  have hb' : But (x2.F n) wc w1 := by rw [← h.i2.2.1]; exact hb
  exact ⟨⟨h.a1.elsewhere hb' h.x2o (fun k hk q => h.d12 k (by rw [← h.i1.2.1]; exact hk) q), h.a2.next hp hb (hi.2.1.trans h.i2.2.1.symm), h.r1.but hb' (fun k hk q => h.e21 k q (by rw [← h.j1.2.1]; exact hk)), h.r2.but hb' (fun k hk q => h.e22 k q (by rw [← h.j2.2.1]; exact hk)), h.i1, hi, h.j1, h.j2, h.o1, h.o2, h.d12, h.e11, h.e12, h.e21, h.e22, h.f12⟩, hb'.mono (fun _ hi => .inr (.inl hi))⟩
theorem QS.doc1 (h : QS w x1 x2 y1 y2 n rows size A1 A2 C1 C2 N1 N2 wc) (hp : RA w1 y1 A') (hb : But (y1.F C1.n) wc w1) (hi : A'.is n rows size) : QS w x1 x2 y1 y2 n rows size A1 A2 A' C2 N1 N2 w1 ∧ But (QF x1 x2 y1 y2 n) wc w1 := by
  have hb' : But (y1.F n) wc w1 := by rw [← h.j1.2.1]; exact hb
  exact ⟨⟨h.a1.elsewhere hb' h.o1 (fun k hk => h.e11 k (by rw [← h.i1.2.1]; exact hk)), h.a2.elsewhere hb' h.o1 (fun k hk => h.e21 k (by rw [← h.i2.2.1]; exact hk)), hp, h.r2.but hb' (fun k hk q => h.f12 k q (by rw [← h.j2.2.1]; exact hk)), h.i1, h.i2, hi, h.j2, h.o1, h.o2, h.d12, h.e11, h.e12, h.e21, h.e22, h.f12⟩, hb'.mono (fun _ hi => .inr (.inr (.inl hi)))⟩
theorem QS.doc2 (h : QS w x1 x2 y1 y2 n rows size A1 A2 C1 C2 N1 N2 wc) (hp : RA w1 y2 A') (hb : But (y2.F C2.n) wc w1) (hi : A'.is n rows size) : QS w x1 x2 y1 y2 n rows size A1 A2 C1 A' N1 N2 w1 ∧ But (QF x1 x2 y1 y2 n) wc w1 := by
  have hb' : But (y2.F n) wc w1 := by rw [← h.j2.2.1]; exact hb
  exact ⟨⟨h.a1.elsewhere hb' h.o2 (fun k hk => h.e12 k (by rw [← h.i1.2.1]; exact hk)), h.a2.elsewhere hb' h.o2 (fun k hk => h.e22 k (by rw [← h.i2.2.1]; exact hk)), h.r1.but hb' (fun k hk q => h.f12 k (by rw [← h.j1.2.1]; exact hk) q), hp, h.i1, h.i2, h.j1, hi, h.o1, h.o2, h.d12, h.e11, h.e12, h.e21, h.e22, h.f12⟩, hb'.mono (fun _ hi => .inr (.inr (.inr hi)))⟩
theorem VQ.new (h : QS w x1 x2 y1 y2 n rows size A1 A2 C1 C2 N1 N2 wc) (t : TypeId) : VQ w x1 x2 y1 y2 n wc.heap.size (wc.alloc (.cells #[.int .i64 0, .int .i64 0, .int .i64 0, .int .i64 0] t)) (fun _ => 0) :=
  ⟨RowAt.new wc 4 (.int .i64 0) t, h.a1.low.size, fun hf => by have := h.lt _ hf; omega⟩
theorem QS.write1 (h : QS w x1 x2 y1 y2 n rows size A1 A2 C1 C2 N1 N2 wc) (hN : N1 < 900000) (b : Int) (hb : b ≤ 9223372036854775807) (t : List El) :
    Calls Tryz.prog 11 #[.pointer (some ⟨x1.p, 0, none⟩), .int .i64 b, st t] wc fun e w1 => e = .returned (errV (A1.writeE b t.length)) ∧ QS w x1 x2 y1 y2 n rows size (A1.write b t) A2 C1 C2 (N1 + 3) N2 w1 ∧ But (QF x1 x2 y1 y2 n) wc w1 :=
  (pa_write h.a1.pa h.i1.1 hN b hb t).mono fun _ _ ⟨he, hp, hb⟩ => ⟨he, h.prog1 hp hb (is_write h.i1 b t)⟩
theorem QS.fail1 (h : QS w x1 x2 y1 y2 n rows size A1 A2 C1 C2 N1 N2 wc) (d : Int) :
    Calls Tryz.prog 13 #[.pointer (some ⟨x1.p, 0, none⟩), .int .i64 d] wc fun e w1 => e = .returned (errV (A1.failE d)) ∧ QS w x1 x2 y1 y2 n rows size (A1.fail d) A2 C1 C2 (N1) N2 w1 ∧ But (QF x1 x2 y1 y2 n) wc w1 :=
  (pa_fail h.a1.pa d).mono fun _ _ ⟨he, hp, hb⟩ => ⟨he, h.prog1 hp hb (is_fail h.i1 d)⟩
theorem QS.poke1 (h : QS w x1 x2 y1 y2 n rows size A1 A2 C1 C2 N1 N2 wc) (hN : N1 < 900000) (d r : Int) (t : List El) :
    Calls Tryz.prog 19 #[.pointer (some ⟨x1.p, 0, none⟩), .int .i64 d, .int .i64 r, st t] wc fun e w1 => e = .returned (errV (A1.pokeE d r t.length)) ∧ QS w x1 x2 y1 y2 n rows size (A1.poke d r t) A2 C1 C2 (N1 + 1) N2 w1 ∧ But (QF x1 x2 y1 y2 n) wc w1 :=
  (pa_poke h.a1.pa h.i1.1 hN d r t).mono fun _ _ ⟨he, hp, hb⟩ => ⟨he, h.prog1 hp hb (is_poke h.i1 d r t)⟩
theorem QS.write2 (h : QS w x1 x2 y1 y2 n rows size A1 A2 C1 C2 N1 N2 wc) (hN : N2 < 900000) (b : Int) (hb : b ≤ 9223372036854775807) (t : List El) :
    Calls Tryz.prog 11 #[.pointer (some ⟨x2.p, 0, none⟩), .int .i64 b, st t] wc fun e w1 => e = .returned (errV (A2.writeE b t.length)) ∧ QS w x1 x2 y1 y2 n rows size A1 (A2.write b t) C1 C2 N1 (N2 + 3) w1 ∧ But (QF x1 x2 y1 y2 n) wc w1 :=
  (pa_write h.a2.pa h.i2.1 hN b hb t).mono fun _ _ ⟨he, hp, hb⟩ => ⟨he, h.prog2 hp hb (is_write h.i2 b t)⟩
theorem QS.fail2 (h : QS w x1 x2 y1 y2 n rows size A1 A2 C1 C2 N1 N2 wc) (d : Int) :
    Calls Tryz.prog 13 #[.pointer (some ⟨x2.p, 0, none⟩), .int .i64 d] wc fun e w1 => e = .returned (errV (A2.failE d)) ∧ QS w x1 x2 y1 y2 n rows size A1 (A2.fail d) C1 C2 N1 (N2) w1 ∧ But (QF x1 x2 y1 y2 n) wc w1 :=
  (pa_fail h.a2.pa d).mono fun _ _ ⟨he, hp, hb⟩ => ⟨he, h.prog2 hp hb (is_fail h.i2 d)⟩
theorem QS.poke2 (h : QS w x1 x2 y1 y2 n rows size A1 A2 C1 C2 N1 N2 wc) (hN : N2 < 900000) (d r : Int) (t : List El) :
    Calls Tryz.prog 19 #[.pointer (some ⟨x2.p, 0, none⟩), .int .i64 d, .int .i64 r, st t] wc fun e w1 => e = .returned (errV (A2.pokeE d r t.length)) ∧ QS w x1 x2 y1 y2 n rows size A1 (A2.poke d r t) C1 C2 N1 (N2 + 1) w1 ∧ But (QF x1 x2 y1 y2 n) wc w1 :=
  (pa_poke h.a2.pa h.i2.1 hN d r t).mono fun _ _ ⟨he, hp, hb⟩ => ⟨he, h.prog2 hp hb (is_poke h.i2 d r t)⟩
theorem QS.write3 (h : QS w x1 x2 y1 y2 n rows size A1 A2 C1 C2 N1 N2 wc) (b : Int) (t : List El) :
    Calls Tryz.prog 10 #[.pointer (some ⟨y1.p, 0, none⟩), .int .i64 b, st t] wc fun e w1 => e = .returned (.int .i64 (C1.writeE b t.length)) ∧ QS w x1 x2 y1 y2 n rows size A1 A2 (C1.write b t) C2 N1 N2 w1 ∧ But (QF x1 x2 y1 y2 n) wc w1 :=
  (ra_write h.r1 h.j1.1 b t).mono fun _ _ ⟨he, hp, hb⟩ => ⟨he, h.doc1 hp hb (is_write h.j1 b t)⟩
theorem QS.fail3 (h : QS w x1 x2 y1 y2 n rows size A1 A2 C1 C2 N1 N2 wc) (d : Int) :
    Calls Tryz.prog 12 #[.pointer (some ⟨y1.p, 0, none⟩), .int .i64 d] wc fun e w1 => e = .returned (.int .i64 (C1.failE d)) ∧ QS w x1 x2 y1 y2 n rows size A1 A2 (C1.fail d) C2 N1 N2 w1 ∧ But (QF x1 x2 y1 y2 n) wc w1 :=
  (ra_fail h.r1 d).mono fun _ _ ⟨he, hp, hb⟩ => ⟨he, h.doc1 hp hb (is_fail h.j1 d)⟩
theorem QS.poke3 (h : QS w x1 x2 y1 y2 n rows size A1 A2 C1 C2 N1 N2 wc) (d r : Int) (t : List El) :
    Calls Tryz.prog 18 #[.pointer (some ⟨y1.p, 0, none⟩), .int .i64 d, .int .i64 r, st t] wc fun e w1 => e = .returned (.int .i64 (C1.pokeE d r t.length)) ∧ QS w x1 x2 y1 y2 n rows size A1 A2 (C1.poke d r t) C2 N1 N2 w1 ∧ But (QF x1 x2 y1 y2 n) wc w1 :=
  (ra_poke h.r1 d r t).mono fun _ _ ⟨he, hp, hb⟩ => ⟨he, h.doc1 hp hb (is_poke h.j1 d r t)⟩
theorem QS.write4 (h : QS w x1 x2 y1 y2 n rows size A1 A2 C1 C2 N1 N2 wc) (b : Int) (t : List El) :
    Calls Tryz.prog 10 #[.pointer (some ⟨y2.p, 0, none⟩), .int .i64 b, st t] wc fun e w1 => e = .returned (.int .i64 (C2.writeE b t.length)) ∧ QS w x1 x2 y1 y2 n rows size A1 A2 C1 (C2.write b t) N1 N2 w1 ∧ But (QF x1 x2 y1 y2 n) wc w1 :=
  (ra_write h.r2 h.j2.1 b t).mono fun _ _ ⟨he, hp, hb⟩ => ⟨he, h.doc2 hp hb (is_write h.j2 b t)⟩
theorem QS.fail4 (h : QS w x1 x2 y1 y2 n rows size A1 A2 C1 C2 N1 N2 wc) (d : Int) :
    Calls Tryz.prog 12 #[.pointer (some ⟨y2.p, 0, none⟩), .int .i64 d] wc fun e w1 => e = .returned (.int .i64 (C2.failE d)) ∧ QS w x1 x2 y1 y2 n rows size A1 A2 C1 (C2.fail d) N1 N2 w1 ∧ But (QF x1 x2 y1 y2 n) wc w1 :=
  (ra_fail h.r2 d).mono fun _ _ ⟨he, hp, hb⟩ => ⟨he, h.doc2 hp hb (is_fail h.j2 d)⟩
theorem QS.poke4 (h : QS w x1 x2 y1 y2 n rows size A1 A2 C1 C2 N1 N2 wc) (d r : Int) (t : List El) :
    Calls Tryz.prog 18 #[.pointer (some ⟨y2.p, 0, none⟩), .int .i64 d, .int .i64 r, st t] wc fun e w1 => e = .returned (.int .i64 (C2.pokeE d r t.length)) ∧ QS w x1 x2 y1 y2 n rows size A1 A2 C1 (C2.poke d r t) N1 N2 w1 ∧ But (QF x1 x2 y1 y2 n) wc w1 :=
  (ra_poke h.r2 d r t).mono fun _ _ ⟨he, hp, hb⟩ => ⟨he, h.doc2 hp hb (is_poke h.j2 d r t)⟩
end
end Go.Proofs.YtilfjahbdlepjaaGreatDoor
