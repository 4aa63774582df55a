/- Texts of plain mathematics, of memory and of walks, in one. -/
import Derived.Test.YticgapgggoklfaaPa
import Derived.Test.YticgapgggoklfaaGe
/- An array that is played with, and what was written into it: the state between the steps, and what keeps it. -/
namespace Go.Proofs.Yticgapgggoklfaa
open Go.RowKit El Pol Mx Lay
theorem owns_len3 {B : Nat} {T : TypeId} {w : World} {v : Value} {n : Nat} {xs : List Value} (h : w.ownsRow B T 1 v n xs) : ∃ ao cap, v = .slice ao n cap := by
  rcases h.2 with ⟨rfl, e⟩ | ⟨g, cap, cur, rfl, _⟩
  · exact ⟨none, 0, by rw [e]⟩
  · exact ⟨_, cap, rfl⟩
theorem rowAt_rep {B : Nat} {T : TypeId} {w : World} {v : Value} {n : Nat} {z : Value} (h : w.ownsRow B T 1 v n (List.replicate n z)) (hn : 0 < n) : ∃ g cap, v = .slice (some ⟨g, 0, none⟩) n cap ∧ B ≤ g ∧ RowAt w g n (fun _ => z) := by
  have h0 := h
  rcases h.2 with ⟨_, e⟩ | ⟨g, cap, cur, rfl, hB, hg, _⟩
  · omega
  · refine ⟨g, cap, rfl, hB, lt_of_block hg, fun i hi => ⟨?_, frozen_of_row _ _ _ _ _ hg⟩⟩
    rw [World.ownsRow.cellAt h0 i (by omega)]
    simp [hi]
/-- a step's numbers, those that are not told being 0 -/
def vG (L : Nat → Nat) (F : Nat → Nat → Int) (k : Nat) : Nat → Int := fun j => if j < L k then F k j else 0
structure KS (w : World) (x : PAd) (g n rows size : Nat) (A : Arr) (c : Nat → List El) (N : Nat) (wc : World) : Prop where
  al : AL w x A N wc
  keep : Keep A c
  nrs : A.n = n ∧ A.rows = rows ∧ A.size = size
  row : RowAt wc g (rows * (n - 2)) (fun b => st (c b))
  hg : w.heap.size ≤ g
  ng : ¬ x.F n g
/-- a step's numbers at q -/
structure VG (w : World) (x : PAd) (n g M q : Nat) (wc : World) (v : Nat → Int) : Prop where
  row : RowAt wc q M (fun j => .int .i64 (v j))
  hq : w.heap.size ≤ q
  ng : q ≠ g
  nf : ¬ x.F n q
section
variable {w wc w1 : World} {x : PAd} {g n rows size M q : Nat} {A A' : Arr} {c c' : Nat → List El} {N N' : Nat} {v : Nat → Int}
theorem VG.old (h : VG w x n g M q wc v) (hb : Below wc.heap.size wc w1) : VG w x n g M q w1 v := ⟨h.row.old hb, h.hq, h.ng, h.nf⟩
theorem VG.but (h : VG w x n g M q wc v) (hb : But (x.F n) wc w1) : VG w x n g M q w1 v := ⟨h.row.but hb h.nf, h.hq, h.ng, h.nf⟩
theorem VG.onCell (h : VG w x n g M q wc v) (i : Nat) (u : Value) : VG w x n g M q (wc.setCell ⟨g, i, none⟩ u) v := ⟨h.row.apart h.ng i u, h.hq, h.ng, h.nf⟩
theorem VG.at (h : VG w x n g M q wc v) (j : Nat) (hj : j < M) : wc.cell? ⟨q, j, none⟩ = some (.int .i64 (v j)) := (h.row.2 j hj).1
theorem VG.put (h : VG w x n g M q wc v) (i : Nat) (y : Int) (u : Nat → Int) (hu : ∀ k, k < M → u k = if k = i then y else v k) : VG w x n g M q (wc.setCell ⟨q, i, none⟩ (.int .i64 y)) u :=
  ⟨(h.row.put i _).1.congr (fun k hk => by
    rw [hu k hk]
    by_cases e : k = i
    · subst e; rw [up_at, if_pos rfl]
    · rw [up_ne _ _ e, if_neg e]), h.hq, h.ng, h.nf⟩
theorem KS.old (h : KS w x g n rows size A c N wc) (hb : Below wc.heap.size wc w1) : KS w x g n rows size A c N w1 :=
  ⟨h.al.old hb, h.keep, h.nrs, h.row.old hb, h.hg, h.ng⟩
theorem KS.step (h : KS w x g n rows size A c N wc) (hp : PA w1 x A' N') (hb : But (x.F A.n) wc w1) (hk : Keep A' c) (hs : A'.n = A.n ∧ A'.rows = A.rows ∧ A'.size = A.size) : KS w x g n rows size A' c N' w1 := by
  obtain ⟨s1, s2, s3⟩ := hs
  obtain ⟨h1, h2, h3⟩ := h.nrs
  have hb' := hb
  rw [h1] at hb'
  exact ⟨h.al.next hp hb s1, hk, ⟨s1.trans h1, s2.trans h2, s3.trans h3⟩, h.row.but hb' h.ng, h.hg, h.ng⟩
theorem KS.onQ (h : KS w x g n rows size A c N wc) (hv : VG w x n g M q wc v) (i : Nat) (u : Value) : KS w x g n rows size A c N (wc.setCell ⟨q, i, none⟩ u) := by
  have hb := but_cell wc q i u
  refine ⟨⟨h.al.low.trans (hb.below h.al.low.size (fun k hk => by rw [hk]; exact hv.hq)), h.al.pa.but hb (fun k hk e => ?_), h.al.out⟩, h.keep, h.nrs, h.row.but hb (fun e => hv.ng e.symm), h.hg, h.ng⟩
  rw [h.nrs.1, e] at hk
  exact hv.nf hk
theorem KS.store (h : KS w x g n rows size A c N wc) (hp : PA w1 x A' N') (hb : But (x.F A.n) wc w1) (b : Nat) (t : List El) (hk : Keep A' (up c b t)) (hs : A'.n = A.n ∧ A'.rows = A.rows ∧ A'.size = A.size) :
    KS w x g n rows size A' (up c b t) N' (w1.setCell ⟨g, b, none⟩ (st t)) := by
  obtain ⟨s1, s2, s3⟩ := hs
  obtain ⟨h1, h2, h3⟩ := h.nrs
  have hb' := hb
  rw [h1] at hb'
  have hr := (h.row.but hb' h.ng).put b (st t)
  have hb2 := but_cell w1 g b (st t)
  have ha := h.al.next hp hb s1
  refine ⟨⟨ha.low.trans (hb2.below ha.low.size (fun k hk => by rw [hk]; exact h.hg)), ha.pa.but hb2 (fun k hk e => ?_), ha.out⟩, hk, ⟨s1.trans h1, s2.trans h2, s3.trans h3⟩, hr.1.congr (fun i _ => ?_), h.hg, h.ng⟩
  · rw [s1, h1, e] at hk
    exact h.ng hk
  · by_cases e : i = b
    · subst e; rw [up_at, up_at]
    · rw [up_ne _ _ e, up_ne _ _ e]
theorem KS.cell (h : KS w x g n rows size A c N wc) (b : Nat) (hb : b < rows * (n - 2)) : wc.cell? ⟨g, b, none⟩ = some (st (c b)) ∧ wc.frozen? ⟨g, b, none⟩ = false := h.row.2 b hb
theorem VG.new (h : KS w x g n rows size A c N wc) (M : Nat) (t : TypeId) : VG w x n g M wc.heap.size (wc.alloc (.cells (Array.replicate M (.int .i64 0)) t)) (fun _ => 0) :=
  ⟨RowAt.new wc M (.int .i64 0) t, h.al.low.size, Nat.ne_of_gt h.row.1, fun hf => by have := h.al.pa.lt wc.heap.size (by rw [h.nrs.1]; exact hf); omega⟩
theorem same_write (A : Arr) (b : Int) (t : List El) : (A.write b t).n = A.n ∧ (A.write b t).rows = A.rows ∧ (A.write b t).size = A.size := by unfold Arr.write; split <;> exact ⟨rfl, rfl, rfl⟩
theorem same_fail (A : Arr) (d : Int) : (A.fail d).n = A.n ∧ (A.fail d).rows = A.rows ∧ (A.fail d).size = A.size := by unfold Arr.fail; split <;> exact ⟨rfl, rfl, rfl⟩
theorem same_replace (A : Arr) (d : Int) : (A.replace d).n = A.n ∧ (A.replace d).rows = A.rows ∧ (A.replace d).size = A.size := by unfold Arr.replace; split <;> exact ⟨rfl, rfl, rfl⟩
theorem same_rebuild (A : Arr) (d : Int) : (A.rebuild d).n = A.n ∧ (A.rebuild d).rows = A.rows ∧ (A.rebuild d).size = A.size := by unfold Arr.rebuild; split <;> exact ⟨rfl, rfl, rfl⟩
/-- a write of a block that there is -/
theorem KS.write (h : KS w x g n rows size A c N wc) (hN : N < 900000) (hr20 : rows ≤ 20) (hn10 : n ≤ 10) (b : Nat) (hb : b < rows * (n - 2)) (t : List El) (ht : t.length = size) :
    Calls Try.prog 15 #[.pointer (some ⟨x.p, 0, none⟩), .int .i64 b, st t] wc fun e w1 => e = .returned .nilIface ∧ (w1.cell? ⟨g, b, none⟩ = some (st (c b)) ∧ w1.frozen? ⟨g, b, none⟩ = false) ∧ (KS w x g n rows size (A.write (b : Int) t) (up c b t) (N + 3) (w1.setCell ⟨g, b, none⟩ (st t))) ∧ But (x.F n) wc w1 := by
  obtain ⟨h1, h2, h3⟩ := h.nrs
  have hbig : rows * (n - 2) ≤ 20 * 8 := Nat.mul_le_mul hr20 (by omega)
  have hno : ¬ A.noB (b : Int) := by unfold Arr.noB; rw [h1, h2]; omega
  have hE := h.keep.writeE hno (show t.length = A.size by rw [h3]; exact ht)
  have hK := h.keep.write hno (show t.length = A.size by rw [h3]; exact ht)
  rw [Int.toNat_natCast] at hK
  have := pa_write h.al.pa h.keep.ok hN (b : Int) (by omega) t
  rw [hE, errV, if_pos rfl] at this
  refine this.mono fun e w1 ⟨he, hp, hbt⟩ => ?_
  have hb' := hbt
  rw [h1] at hb'
  exact ⟨he, (h.row.but hb' h.ng).2 b hb, h.store hp hbt b t hK (same_write _ _ _), hb'⟩
theorem KS.read (h : KS w x g n rows size A c N wc) (hr20 : rows ≤ 20) (hn10 : n ≤ 10) (b : Nat) (hb : b < rows * (n - 2)) :
    Calls Try.prog 20 #[.pointer (some ⟨x.p, 0, none⟩), .int .i64 b] wc fun e w1 => e = .returned (.tuple #[st (c b), .nilIface]) ∧ Below wc.heap.size wc w1 := by
  obtain ⟨h1, h2, h3⟩ := h.nrs
  have hbig : rows * (n - 2) ≤ 20 * 8 := Nat.mul_le_mul hr20 (by omega)
  have hno : ¬ A.noB (b : Int) := by unfold Arr.noB; rw [h1, h2]; omega
  obtain ⟨e1, e2⟩ := h.keep.read hno
  rw [Int.toNat_natCast] at e2
  have := pa_read h.al.pa h.keep.ok (b : Int) (by omega)
  rw [e1, e2, errV, if_pos rfl] at this
  exact this
theorem KS.fail (h : KS w x g n rows size A c N wc) (d : Int) (hf : ∀ r, r < rows → A.nl r ≤ 1) :
    Calls Try.prog 17 #[.pointer (some ⟨x.p, 0, none⟩), .int .i64 d] wc fun e w1 => ∃ k, e = .returned (errV k) ∧ KS w x g n rows size (A.fail d) c N w1 ∧ But (x.F n) wc w1 :=
  (pa_fail h.al.pa d).mono fun e w1 ⟨he, hp, hb⟩ => ⟨_, he, h.step hp hb (h.keep.fail d (by rw [h.nrs.2.1]; exact hf)) (same_fail _ _), by rw [h.nrs.1] at hb; exact hb⟩
theorem KS.replace (h : KS w x g n rows size A c N wc) (d : Int) :
    Calls Try.prog 18 #[.pointer (some ⟨x.p, 0, none⟩), .int .i64 d] wc fun e w1 => ∃ k, e = .returned (errV k) ∧ KS w x g n rows size (A.replace d) c N w1 ∧ But (x.F n) wc w1 :=
  (pa_replace h.al.pa d).mono fun e w1 ⟨he, hp, hb⟩ => ⟨_, he, h.step hp hb (h.keep.replace d) (same_replace _ _), by rw [h.nrs.1] at hb; exact hb⟩
theorem rebuildE_not8 (h : Keep A c) (d : Int) : A.rebuildE d ≠ 8 := by
  unfold Arr.rebuildE
  split
  · omega
  · rename_i q
    obtain ⟨k, rfl, hk⟩ := Arr.noD_nat q
    rw [Int.toNat_natCast]
    split
    · omega
    · rename_i q2
      have hb := h.ok.2.2.2.2 k hk
      have : A.nl (A.built k) ≤ 2 := h.few _ (by
        rcases Nat.lt_or_ge (A.built k) A.rows with z | z
        · exact z
        · exact absurd (.inr (by omega)) q2)
      rw [if_neg (by omega)]
      omega
theorem KS.rebuild (h : KS w x g n rows size A c N wc) (hN : N < 900000) (d : Int) :
    Calls Try.prog 19 #[.pointer (some ⟨x.p, 0, none⟩), .int .i64 d] wc fun e w1 => ∃ (z : Int) (k : Nat), (e = .returned (.tuple #[.int .i64 z, errV k]) ∧ k ≠ 8) ∧ KS w x g n rows size (A.rebuild d) c (N + 1) w1 ∧ But (x.F n) wc w1 :=
  (pa_rebuild h.al.pa h.keep.ok hN d).mono fun e w1 ⟨he, hp, hb⟩ => ⟨_, _, ⟨he, rebuildE_not8 h.keep d⟩, h.step hp hb (h.keep.rebuild d) (same_rebuild _ _), by rw [h.nrs.1] at hb; exact hb⟩
end
end Go.Proofs.Yticgapgggoklfaa
