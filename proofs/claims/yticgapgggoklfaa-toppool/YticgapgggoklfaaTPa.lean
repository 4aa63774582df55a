/- TopPool: an array, a pool and what was written, side by side in a law: what keeps them. -/
import Derived.Test.YticgapgggoklfaaPa
import Derived.Test.YticgapgggoklfaaAk
import Derived.Test.YticgapgggoklfaaTPm
import Derived.Test.YticgapgggoklfaaPoL
namespace Go.Proofs.Yticgapgggoklfaa
open Go.RowKit El Pol Mx Lay
/-- the array A at x, the pool t at y, the cells c at g -/
structure TW (w : World) (x : PAd) (y : PP) (g n rows : Nat) (A : Arr) (t : Plo) (c : Nat → List El) (N : Nat) (wc : World) : Prop where
  al : AL w x A N wc
  nrs : A.n = n ∧ A.rows = rows ∧ A.size = 2
  row : RowAt wc g (rows * (n - 2)) (fun b => st (c b))
  hg : w.heap.size ≤ g
  ng : ¬ x.F n g
  pl : PL w y t wc
  ax : ∀ k, x.F n k → ¬ y.F k
  ag : ¬ y.F g
section
variable {w wc w1 : World} {x : PAd} {y : PP} {g n rows op : Nat} {A A' : Arr} {t t' : Plo} {c : Nat → List El} {N N' : Nat}
theorem TW.low (h : TW w x y g n rows A t c N wc) : Below w.heap.size w wc := h.al.low
theorem TW.old (h : TW w x y g n rows A t c N wc) (hb : Below wc.heap.size wc w1) : TW w x y g n rows A t c N w1 := ⟨h.al.old hb, h.nrs, h.row.old hb, h.hg, h.ng, h.pl.old hb, h.ax, h.ag⟩
theorem TW.onA (h : TW w x y g n rows A t c N wc) (hp : PA w1 x A' N') (hb : But (x.F A.n) wc w1) (hs : A'.n = A.n ∧ A'.rows = A.rows ∧ A'.size = A.size) : TW w x y g n rows A' t c N' w1 := by
  obtain ⟨s1, s2, s3⟩ := hs
  obtain ⟨h1, h2, h3⟩ := h.nrs
  have hb' := hb
  rw [h1] at hb'
  exact ⟨h.al.next hp hb s1, ⟨s1.trans h1, s2.trans h2, s3.trans h3⟩, h.row.but hb' h.ng, h.hg, h.ng, h.pl.elsewhere hb' (fun k hk => h.al.out k (by rw [h1]; exact hk)) (fun k hy hx => h.ax k hx hy), h.ax, h.ag⟩
theorem TW.onP (h : TW w x y g n rows A t c N wc) (hp : PL w y t' w1) (hb : But y.F wc w1) : TW w x y g n rows A t' c N w1 :=
  ⟨⟨hp.low, h.al.pa.but hb (fun k hk => h.ax k (by rw [← h.nrs.1]; exact hk)), h.al.out⟩, h.nrs, h.row.but hb h.ag, h.hg, h.ng, hp, h.ax, h.ag⟩
theorem TW.onG (h : TW w x y g n rows A t c N wc) (b : Nat) (v : List El) : TW w x y g n rows A t (up c b v) N (wc.setCell ⟨g, b, none⟩ (st v)) := by
  have hb := but_cell wc g b (st v)
  refine ⟨⟨h.al.low.trans (hb.below h.al.low.size (fun k hk => by rw [hk]; exact h.hg)), h.al.pa.but hb (fun k hk e => h.ng (by rw [h.nrs.1, e] at hk; exact hk)), h.al.out⟩, h.nrs, (h.row.put b (st v)).1.congr (fun i _ => ?_), h.hg, h.ng, h.pl.elsewhere hb (fun k hk => by rw [hk]; exact h.hg) (fun k hk e => h.ag (by rw [← e]; exact hk)), h.ax, h.ag⟩
  by_cases e : i = b
  · rw [e, up_at, up_at]
  · rw [up_ne _ _ e, up_ne _ _ e]
theorem TW.write (h : TW w x y g n rows A t c N wc) (hT : TP A t c op) (hN : N < 900000) (hr20 : rows ≤ 20) (hn10 : n ≤ 10) (b : Nat) (hb : b < rows * (n - 2)) (v : List El) (hv : v.length = 2) :
    Calls Try.prog 15 #[.pointer (some ⟨x.p, 0, none⟩), .int .i64 b, st v] wc fun e w1 => e = .returned .nilIface ∧ TW w x y g n rows (A.write (b : Int) v) t c (N + 3) w1 ∧ TP (A.write (b : Int) v) t (up c b v) op := by
  obtain ⟨h1, h2, h3⟩ := h.nrs
  have hbig : rows * (n - 2) ≤ 20 * 8 := Nat.mul_le_mul hr20 (by omega)
  have hno : ¬ A.noB (b : Int) := by unfold Arr.noB; rw [h1, h2]; omega
  have hE := hT.keep.writeE hno (show v.length = A.size by rw [h3]; exact hv)
  have hK := hT.write hno (show v.length = A.size by rw [h3]; exact hv)
  rw [Int.toNat_natCast] at hK
  have := pa_write h.al.pa hT.keep.ok hN (b : Int) (by omega) v
  rw [hE, errV, if_pos rfl] at this
  exact this.mono fun e w1 ⟨he, hp, hbt⟩ => ⟨he, h.onA hp hbt (same_write _ _ _), hK⟩
theorem TW.read (h : TW w x y g n rows A t c N wc) (hT : TP A t c op) (hr20 : rows ≤ 20) (hn10 : n ≤ 10) (b : Nat) (hb : b < rows * (n - 2)) :
    Calls Try.prog 20 #[.pointer (some ⟨x.p, 0, none⟩), .int .i64 b] wc fun e w1 => e = .returned (.tuple #[st (c b), .nilIface]) ∧ Below wc.heap.size wc w1 := by
  obtain ⟨h1, h2, h3⟩ := h.nrs
  have hbig : rows * (n - 2) ≤ 20 * 8 := Nat.mul_le_mul hr20 (by omega)
  have hno : ¬ A.noB (b : Int) := by unfold Arr.noB; rw [h1, h2]; omega
  obtain ⟨e1, e2⟩ := hT.keep.read hno
  rw [Int.toNat_natCast] at e2
  have := pa_read h.al.pa hT.keep.ok (b : Int) (by omega)
  rw [e1, e2, errV, if_pos rfl] at this
  exact this
theorem TW.fail (h : TW w x y g n rows A t c N wc) (k : Nat) (hE : A.failE (k : Int) = 0) :
    Calls Try.prog 17 #[.pointer (some ⟨x.p, 0, none⟩), .int .i64 (k : Int)] wc fun e w1 => e = .returned .nilIface ∧ TW w x y g n rows (A.fail (k : Int)) t c N w1 := by
  have := pa_fail h.al.pa (k : Int)
  rw [hE, errV, if_pos rfl] at this
  exact this.mono fun e w1 ⟨he, hp, hb⟩ => ⟨he, h.onA hp hb (same_fail _ _)⟩
theorem TW.replace (h : TW w x y g n rows A t c N wc) (k : Nat) (hE : A.replaceE (k : Int) = 0) :
    Calls Try.prog 18 #[.pointer (some ⟨x.p, 0, none⟩), .int .i64 (k : Int)] wc fun e w1 => e = .returned .nilIface ∧ TW w x y g n rows (A.replace (k : Int)) t c N w1 := by
  have := pa_replace h.al.pa (k : Int)
  rw [hE, errV, if_pos rfl] at this
  exact this.mono fun e w1 ⟨he, hp, hb⟩ => ⟨he, h.onA hp hb (same_replace _ _)⟩
theorem TW.rebuild (h : TW w x y g n rows A t c N wc) (hK : Keep A c) (hN : N < 900000) (k : Nat) (hE : A.rebuildE (k : Int) = 0) {z : Nat} (hz : A.rebuildN (k : Int) = z) :
    Calls Try.prog 19 #[.pointer (some ⟨x.p, 0, none⟩), .int .i64 (k : Int)] wc fun e w1 => e = .returned (.tuple #[.int .i64 ((z : Nat) : Int), .nilIface]) ∧ TW w x y g n rows (A.rebuild (k : Int)) t c (N + 1) w1 := by
  have := pa_rebuild h.al.pa hK.ok hN (k : Int)
  rw [hE, hz, errV, if_pos rfl] at this
  exact this.mono fun e w1 ⟨he, hp, hb⟩ => ⟨he, h.onA hp hb (same_rebuild _ _)⟩
theorem TW.pfail (h : TW w x y g n rows A t c N wc) (d : Int) : Calls Try.prog 8 #[.pointer (some ⟨y.p, 0, none⟩), .int .i64 d] wc fun e w' => e = .returned (.tuple #[.int .i64 (t.failN d), errV (t.failE d)]) ∧ TW w x y g n rows A (t.fail d) c N w' :=
  (h.pl.fail d).mono fun _ _ ⟨he, hp, hb⟩ => ⟨he, h.onP hp hb⟩
theorem TW.pfill (h : TW w x y g n rows A t c N wc) (d : Int) : Calls Try.prog 10 #[.pointer (some ⟨y.p, 0, none⟩), .int .i64 d] wc fun e w' => e = .returned (errV (t.fillE d)) ∧ TW w x y g n rows A (t.fill d) c N w' :=
  (h.pl.fill d).mono fun _ _ ⟨he, hp, hb⟩ => ⟨he, h.onP hp hb⟩
theorem TW.slots (h : TW w x y g n rows A t c N wc) (hT : TP A t c op) : Calls Try.prog 9 #[.pointer (some ⟨y.p, 0, none⟩)] wc fun e w' => ∃ v, e = .returned v ∧ OwI wc.heap.size w' v n t.sl ∧ TW w x y g n rows A t c N w' := by
  have := pslots h.pl.isp h.pl.ok
  rw [hT.wk, h.nrs.1] at this
  exact this.mono fun e w1 ⟨v, he, hO, hb⟩ => ⟨v, he, hO, h.old hb⟩
theorem pnew_some (a b : Int) (w : World) : Calls Try.prog 7 #[.int .i64 a, .int .i64 b] w fun e w' => ∃ u v, e = .returned (.tuple #[u, v]) ∧ Below w.heap.size w w' := by
  by_cases h : Plo.bad a b
  · exact (pnew_no h w).mono fun e w1 ⟨he, hw⟩ => ⟨_, _, he, by rw [hw]; exact Below.refl _ _⟩
  · unfold Plo.bad at h
    obtain ⟨m, rfl⟩ : ∃ m : Nat, a = (m : Int) := ⟨a.toNat, by omega⟩
    obtain ⟨k, rfl⟩ : ∃ k : Nat, b = (k : Int) := ⟨b.toNat, by omega⟩
    exact (pnew_ok (by omega) (by omega) (by omega) w).mono fun e w1 ⟨x, he, _, _, hb⟩ => ⟨_, _, he, hb⟩
end
end Go.Proofs.Yticgapgggoklfaa
