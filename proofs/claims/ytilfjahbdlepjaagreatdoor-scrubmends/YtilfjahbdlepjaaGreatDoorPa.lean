/- Texts of plain mathematics, of memory and of walks, in one. -/
import Derived.Test.YtilfjahbdlepjaaGreatDoorAr
import Derived.Test.YtilfjahbdlepjaaGreatDoorGe
import Derived.Test.YtilfjahbdlepjaaGreatDoorDk
import Derived.Test.YtilfjahbdlepjaaGreatDoorLy
import Derived.Deep.Cut
import Derived.Deep.CutRange
import Derived.Test.YtilfjahbdlepjaaGreatDoorPw
/- The program's array in memory: where its parts stand, what they hold, and what keeps them. -/
namespace Go.Proofs.YtilfjahbdlepjaaGreatDoor
open Go.RowKit El Pol Mx Lay
/-- where its parts stand: itself, the list of its members, the members, their disks -/
structure PAd where
  p : Nat
  g : Nat
  m : Nat → Nat
  k : Nat → Nat
def PAd.F (x : PAd) (n : Nat) (i : Nat) : Prop := i = x.p ∨ i = x.g ∨ (∃ d, d < n ∧ i = x.m d) ∨ ∃ d, d < n ∧ i = x.k d
structure PAd.Apart (x : PAd) (n : Nat) : Prop where
  pg : x.p ≠ x.g
  mp : ∀ d, d < n → x.m d ≠ x.p
  mg : ∀ d, d < n → x.m d ≠ x.g
  kp : ∀ d, d < n → x.k d ≠ x.p
  kg : ∀ d, d < n → x.k d ≠ x.g
  mk2 : ∀ d e, d < n → e < n → x.m d ≠ x.k e
  mm : ∀ d e, d < n → e < n → x.m d = x.m e → d = e
  kk : ∀ d e, d < n → e < n → x.k d = x.k e → d = e
/-- its three cells -/
def paF (x : PAd) (a : Arr) (i : Nat) : Value :=
  if i = 0 then .int .i64 a.rows else if i = 1 then .int .i64 a.size else .slice (some ⟨x.g, 0, none⟩) a.n a.n
/-- a member's two cells -/
def pmF (k b : Nat) (i : Nat) : Value := if i = 0 then .pointer (some ⟨k, 0, none⟩) else .int .i64 b
/-- a disk is what the model says -/
structure DA (a : Arr) (N d : Nat) (D : Dsk) : Prop where
  rows : D.rows = a.rows
  size : D.size = a.size
  failed : D.failed = a.failed d
  writes : D.writes ≤ N
  row : ∀ r, r < a.rows → a.gone d r = false → D.row r = a.cell d r
structure PA (w : World) (x : PAd) (a : Arr) (N : Nat) : Prop where
  me : RowAt w x.p 3 (paF x a)
  mem : RowAt w x.g a.n (fun d => .pointer (some ⟨x.m d, 0, none⟩))
  one : ∀ d, d < a.n → RowAt w (x.m d) 2 (pmF (x.k d) (a.built d))
  dsk : ∀ d, d < a.n → ∃ D, IsD w (x.k d) D ∧ DA a N d D
  apart : x.Apart a.n
namespace PA
variable {w w' : World} {x : PAd} {a : Arr} {N d : Nat}
theorem old (h : PA w x a N) (hb : Below w.heap.size w w') : PA w' x a N :=
  ⟨h.me.old hb, h.mem.old hb, fun d hd => (h.one d hd).old hb, fun d hd => (h.dsk d hd).imp fun _ k => ⟨k.1.old hb, k.2⟩, h.apart⟩
theorem but {G : Nat → Prop} (h : PA w x a N) (hb : But G w w') (hn : ∀ k, x.F a.n k → ¬ G k) : PA w' x a N :=
  ⟨h.me.but hb (hn _ (.inl rfl)), h.mem.but hb (hn _ (.inr (.inl rfl))), fun d hd => (h.one d hd).but hb (hn _ (.inr (.inr (.inl ⟨d, hd, rfl⟩)))), fun d hd => (h.dsk d hd).imp fun _ k => ⟨k.1.but hb (hn _ (.inr (.inr (.inr ⟨d, hd, rfl⟩)))), k.2⟩, h.apart⟩
theorem lt (h : PA w x a N) : ∀ k, x.F a.n k → k < w.heap.size := by
  rintro k (rfl | rfl | ⟨d, hd, rfl⟩ | ⟨d, hd, rfl⟩)
  · exact h.me.1
  · exact h.mem.1
  · exact (h.one d hd).1
  · obtain ⟨D, h1, _⟩ := h.dsk d hd
    exact h1.lt
theorem drewN (h : PA w x a N) (n : Nat) : PA (w.drewN n) x a N := h.old (below_drewN (Below.refl _ _) n)
theorem more (h : PA w x a N) {M : Nat} (hM : N ≤ M) : PA w x a M :=
  ⟨h.me, h.mem, h.one, fun d hd => (h.dsk d hd).imp fun _ k => ⟨k.1, ⟨k.2.rows, k.2.size, k.2.failed, Nat.le_trans k.2.writes hM, k.2.row⟩⟩, h.apart⟩
theorem c0 (h : PA w x a N) : w.cell? ⟨x.p, 0, none⟩ = some (.int .i64 a.rows) := (h.me.2 0 (by omega)).1
theorem c1 (h : PA w x a N) : w.cell? ⟨x.p, 1, none⟩ = some (.int .i64 a.size) := (h.me.2 1 (by omega)).1
theorem c2 (h : PA w x a N) : w.cell? ⟨x.p, 2, none⟩ = some (.slice (some ⟨x.g, 0, none⟩) a.n a.n) := (h.me.2 2 (by omega)).1
theorem cm (h : PA w x a N) (d : Nat) (hd : d < a.n) : w.cell? ⟨x.g, d, none⟩ = some (.pointer (some ⟨x.m d, 0, none⟩)) := (h.mem.2 d hd).1
theorem m0 (h : PA w x a N) (d : Nat) (hd : d < a.n) : w.cell? ⟨x.m d, 0, none⟩ = some (.pointer (some ⟨x.k d, 0, none⟩)) := ((h.one d hd).2 0 (by omega)).1
theorem m1 (h : PA w x a N) (d : Nat) (hd : d < a.n) : w.cell? ⟨x.m d, 1, none⟩ = some (.int .i64 (a.built d)) := ((h.one d hd).2 1 (by omega)).1
theorem f1 (h : PA w x a N) (d : Nat) (hd : d < a.n) : w.frozen? ⟨x.m d, 1, none⟩ = false := ((h.one d hd).2 1 (by omega)).2
theorem rdm (h : PA w x a N) (ho : a.ok) : RdF w (.slice (some ⟨x.g, 0, none⟩) a.n a.n) a.n (fun d => .pointer (some ⟨x.m d, 0, none⟩)) := by
  refine .inr ⟨_, _, rfl, Nat.le_refl _, by have := ho.1.2; omega, fun i hi => ?_⟩
  have e : (⟨x.g, 0, none⟩ : Addr).add i = ⟨x.g, i, none⟩ := by
    unfold Addr.add
    split
    · subst_vars; rfl
    · simp
  rw [e]
  exact h.cm i hi
/-- a disk of it another one, and how far it is built -/
theorem put (h : PA w x a N) {a' : Arr} {M d : Nat} (hd : d < a.n) {D' : Dsk} (hD : IsD w' (x.k d) D') (hb : But (· = x.k d) w w') (hn : a'.n = a.n) (hr : a'.rows = a.rows) (hs : a'.size = a.size)
    (hB : ∀ e, e < a.n → a'.built e = a.built e) (hM : N ≤ M) (hd' : DA a' M d D')
    (hf : ∀ e, e < a.n → e ≠ d → a'.failed e = a.failed e) (hc : ∀ e r, e < a.n → e ≠ d → r < a.rows → a.gone e r = false → a'.cell e r = a.cell e r) : PA w' x a' M := by
  obtain ⟨n', r', s', c', f', b'⟩ := a'
  dsimp only at hn hr hs hB hf hc
  subst hn; subst hr; subst hs
  refine ⟨(h.me.but hb (fun e => h.apart.kp d hd e.symm)).congr (fun i _ => rfl), h.mem.but hb (fun e => h.apart.kg d hd e.symm), fun e he => ?_, fun e he => ?_, h.apart⟩
  · (show RowAt w' (x.m e) 2 (pmF (x.k e) (b' e)))
    rw [hB e he]
    exact (h.one e he).but hb (fun q => h.apart.mk2 e d he hd q)
  · by_cases q : e = d
    · subst q
      exact ⟨D', hD, hd'⟩
    · obtain ⟨D, h1, h2⟩ := h.dsk e he
      refine ⟨D, h1.but hb (fun z => q (h.apart.kk e d he hd z)), h2.rows, h2.size, h2.failed.trans (hf e he q).symm, Nat.le_trans h2.writes hM, fun r hr hg => ?_⟩
      have hg' : a.gone e r = false := by
        have hg2 : (f' e || decide (b' e ≤ r)) = false := hg
        rw [hf e he q, hB e he] at hg2
        exact hg2
      rw [h2.row r hr hg']
      exact (hc e r he q hr hg').symm
/-- a disk of it another one, and how far that is built -/
theorem put2 (h : PA w x a N) {a' : Arr} {M d : Nat} {w1 : World} (hd : d < a.n) {D' : Dsk} (hD : IsD w1 (x.k d) D') (hb : But (· = x.k d) w w1) (hn : a'.n = a.n) (hr : a'.rows = a.rows) (hs : a'.size = a.size)
    (hB : ∀ e, e < a.n → e ≠ d → a'.built e = a.built e) (hM : N ≤ M) (hd' : DA a' M d D')
    (hf : ∀ e, e < a.n → e ≠ d → a'.failed e = a.failed e) (hc : ∀ e r, e < a.n → e ≠ d → r < a.rows → a.gone e r = false → a'.cell e r = a.cell e r) : PA (w1.setCell ⟨x.m d, 1, none⟩ (.int .i64 (a'.built d))) x a' M := by
  obtain ⟨n', r', s', c', f', b'⟩ := a'
  dsimp only at hn hr hs hB hf hc
  subst hn; subst hr; subst hs
  have hb2 := but_cell w1 (x.m d) 1 (.int .i64 (b' d))
  refine ⟨((h.me.but hb (fun e => h.apart.kp d hd e.symm)).but hb2 (fun e => h.apart.mp d hd e.symm)).congr (fun i _ => rfl), (h.mem.but hb (fun e => h.apart.kg d hd e.symm)).but hb2 (fun e => h.apart.mg d hd e.symm), fun e he => ?_, fun e he => ?_, h.apart⟩
  · (show RowAt _ (x.m e) 2 (pmF (x.k e) (b' e)))
    have h1 := (h.one e he).but hb (fun q => h.apart.mk2 e d he hd q)
    by_cases q : e = d
    · subst q
      refine (h1.put 1 (.int .i64 (b' e))).1.congr (fun i hi => ?_)
      unfold up pmF
      by_cases q : i = 1
      · rw [if_pos q, if_neg (by omega)]
      · rw [if_neg q, if_pos (by omega), if_pos (by omega)]
    · rw [hB e he q]
      exact h1.but hb2 (fun z => q (h.apart.mm e d he hd z))
  · by_cases q : e = d
    · subst q
      exact ⟨D', hD.but hb2 (fun z => h.apart.mk2 e e hd hd z.symm), hd'⟩
    · obtain ⟨D, h1, h2⟩ := h.dsk e he
      refine ⟨D, (h1.but hb (fun z => q (h.apart.kk e d he hd z))).but hb2 (fun z => h.apart.mk2 d e hd he z.symm), h2.rows, h2.size, h2.failed.trans (hf e he q).symm, Nat.le_trans h2.writes hM, fun r hr hg => ?_⟩
      have hg' : a.gone e r = false := by
        have hg2 : (f' e || decide (b' e ≤ r)) = false := hg
        rw [hf e he q, hB e he q] at hg2
        exact hg2
      rw [h2.row r hr hg']
      exact (hc e r he q hr hg').symm
theorem butk (hd : d < a.n) (hb : But (· = x.k d) w w') : But (x.F a.n) w w' := hb.mono (fun _ hi => .inr (.inr (.inr ⟨d, hd, hi⟩)))
theorem butm (hd : d < a.n) (hb : But (x.F a.n) w w') (u : Value) : But (x.F a.n) w (w'.setCell ⟨x.m d, 1, none⟩ u) := hb.setCell (p := ⟨x.m d, 1, none⟩) (.inr (.inr (.inl ⟨d, hd, rfl⟩))) u
end PA
theorem DA.ok {a : Arr} {N d : Nat} {D : Dsk} (h : DA a N d D) (ho : a.ok) : D.ok := by
  unfold Dsk.ok
  rw [h.rows, h.size]
  exact ⟨ho.2.1, ho.2.2.1⟩
end Go.Proofs.YtilfjahbdlepjaaGreatDoor

/- What is asked of a member of the array, and which disks and rows there are: walks over the program. -/
namespace Go.Proofs.YtilfjahbdlepjaaGreatDoor
open Go.RowKit El Pol Mx Lay
set_option maxRecDepth 100000 in
theorem pa_lost {w : World} {x : PAd} {a : Arr} {N : Nat} (h : PA w x a N) {d : Nat} (hd : d < a.n) (r : Nat) :
    Calls Tryz.prog 52 #[.pointer (some ⟨x.m d, 0, none⟩), .int .i64 r] w fun e w' => e = .returned (.bool (a.gone d r)) ∧ w' = w := by
  obtain ⟨D, h1, h2⟩ := h.dsk d hd
  have W := dworks h1
  rw [h2.failed] at W
  have m0 := h.m0 d hd
  have m1 := h.m1 d hd
  unfold Arr.gone
  clear h h1 h2
  generalize a.failed d = f at *
  generalize a.built d = b at *
  generalize x.m d = mp at *
  generalize x.k d = kp at *
  have e : decide (b ≤ r) = decide ((b : Int) ≤ (r : Int)) := by simp
  rw [e]
  cases f with
  | true =>
    go_enter Tryz.func52, Tryz.ntmps52
    go_wp2_with fail
    refine W.mono ?_
    rintro e w1 ⟨rfl, hw⟩
    obtain rfl := hw.symm
    clear W
    go_wp2
    go_ret
    exact ⟨rfl, rfl⟩
  | false =>
    go_enter Tryz.func52, Tryz.ntmps52
    go_wp2_with fail
    refine W.mono ?_
    rintro e w1 ⟨rfl, hw⟩
    obtain rfl := hw.symm
    clear W
    go_wp2
    go_ret
    exact ⟨rfl, rfl⟩
set_option maxRecDepth 100000 in
theorem pa_noD {w : World} {x : PAd} {a : Arr} {N : Nat} (h : PA w x a N) (d : Int) :
    Calls Tryz.prog 44 #[.pointer (some ⟨x.p, 0, none⟩), .int .i64 d] w fun e w' => e = .returned (.bool (decide (a.noD d))) ∧ w' = w := by
  have c2 := h.c2
  clear h
  by_cases h1 : d < 0
  · rw [show decide (a.noD d) = true from decide_eq_true (Or.inl h1)]
    go_enter Tryz.func44, Tryz.ntmps44
    go_wp2
    go_ret
    exact ⟨rfl, rfl⟩
  · have e : decide (a.noD d) = decide ((a.n : Int) ≤ d) := decide_eq_decide.2 ⟨fun q => q.resolve_left h1, Or.inr⟩
    rw [e]
    go_enter Tryz.func44, Tryz.ntmps44
    go_wp2
    go_ret
    exact ⟨rfl, rfl⟩
set_option maxRecDepth 100000 in
theorem pa_noR {w : World} {x : PAd} {a : Arr} {N : Nat} (h : PA w x a N) (r : Int) :
    Calls Tryz.prog 51 #[.pointer (some ⟨x.p, 0, none⟩), .int .i64 r] w fun e w' => e = .returned (.bool (decide (a.noR r))) ∧ w' = w := by
  have c0 := h.c0
  clear h
  by_cases h1 : r < 0
  · rw [show decide (a.noR r) = true from decide_eq_true (Or.inl h1)]
    go_enter Tryz.func51, Tryz.ntmps51
    go_wp2
    go_ret
    exact ⟨rfl, rfl⟩
  · have e : decide (a.noR r) = decide ((a.rows : Int) ≤ r) := decide_eq_decide.2 ⟨fun q => q.resolve_left h1, Or.inr⟩
    rw [e]
    go_enter Tryz.func51, Tryz.ntmps51
    go_wp2
    go_ret
    exact ⟨rfl, rfl⟩
end Go.Proofs.YtilfjahbdlepjaaGreatDoor

/- A disk of the array fails: walks over the program. -/
namespace Go.Proofs.YtilfjahbdlepjaaGreatDoor
open Go.RowKit El Pol Mx Lay
namespace Arr
theorem noD_nat {a : Arr} {d : Int} (h : ¬ a.noD d) : ∃ k : Nat, d = k ∧ k < a.n := ⟨d.toNat, by unfold noD at h; omega, by unfold noD at h; omega⟩
theorem noR_nat {a : Arr} {d : Int} (h : ¬ a.noR d) : ∃ k : Nat, d = k ∧ k < a.rows := ⟨d.toNat, by unfold noR at h; omega, by unfold noR at h; omega⟩
theorem failE_no {a : Arr} {d : Int} (h : a.noD d) : a.failE d = 1 ∧ a.fail d = a := by
  have : a.failE d = 1 := if_pos h
  exact ⟨this, by unfold fail; rw [if_neg (by omega)]⟩
theorem replaceE_no {a : Arr} {d : Int} (h : a.noD d) : a.replaceE d = 1 ∧ a.replace d = a := by
  have : a.replaceE d = 1 := if_pos h
  exact ⟨this, by unfold replace; rw [if_neg (by omega)]⟩
theorem fail_same (a : Arr) (d : Int) : (a.fail d).n = a.n ∧ (a.fail d).rows = a.rows ∧ (a.fail d).size = a.size ∧ (a.fail d).cell = a.cell ∧ (a.fail d).built = a.built := by
  unfold fail
  split <;> exact ⟨rfl, rfl, rfl, rfl, rfl⟩
theorem fail_failed {a : Arr} {k : Nat} (h : k < a.n) (e : Nat) : (a.fail (k : Int)).failed e = up a.failed k true e := by
  unfold fail failE
  rw [if_neg (show ¬ a.noD (k : Int) by unfold noD; omega), Int.toNat_natCast]
  by_cases q : a.failed k = true
  · rw [if_pos q, if_neg (by omega)]
    by_cases z : e = k
    · subst z; rw [up_at, q]
    · rw [up_ne _ _ z]
  · rw [if_neg q, if_pos rfl]
theorem failE_nat {a : Arr} {k : Nat} (h : k < a.n) : a.failE (k : Int) = if a.failed k = true then 6 else 0 := by
  unfold failE
  rw [if_neg (show ¬ a.noD (k : Int) by unfold noD; omega), Int.toNat_natCast]
theorem replaceE_nat {a : Arr} {k : Nat} (h : k < a.n) : a.replaceE (k : Int) = if a.failed k = true then 0 else 6 := by
  unfold replaceE
  rw [if_neg (show ¬ a.noD (k : Int) by unfold noD; omega), Int.toNat_natCast]
theorem replace_yes {a : Arr} {k : Nat} (h : k < a.n) (hf : a.failed k = true) : a.replace (k : Int) = { a with failed := up a.failed k false, built := up a.built k 0 } := by
  unfold replace
  rw [replaceE_nat h, if_pos hf, if_pos rfl, Int.toNat_natCast]
theorem replace_not {a : Arr} {k : Nat} (h : k < a.n) (hf : a.failed k = false) : a.replace (k : Int) = a := by
  unfold replace
  rw [replaceE_nat h, if_neg (show ¬ a.failed k = true by rw [hf]; exact Bool.false_ne_true), if_neg (by omega)]
end Arr
end Go.Proofs.YtilfjahbdlepjaaGreatDoor

/- Where a part stands in its row's order; where a block is: walks over the program. -/
namespace Go.Proofs.YtilfjahbdlepjaaGreatDoor
open Go.RowKit El Pol Mx Lay
/-- a list of the call's own, as it stands in its block -/
theorem rowAt_own {B : Nat} {T : TypeId} {w : World} {v : Value} {n : Nat} {f : Nat → Value} (h : w.ownsRow B T 1 v n ((List.range n).map f)) (hn : 0 < n) : ∃ g cap, v = .slice (some ⟨g, 0, none⟩) n cap ∧ n ≤ cap ∧ cap ≤ 9223372036854775807 ∧ B ≤ g ∧ RowAt w g n f := by
  have h0 := h
  rcases h.2 with ⟨_, e⟩ | ⟨g, cap, cur, rfl, hB, hg, h1, h2, _⟩
  · omega
  · refine ⟨g, cap, rfl, h1, by unfold maxLen at h2; omega, hB, lt_of_block hg, fun i hi => ⟨?_, frozen_of_row _ _ _ _ _ hg⟩⟩
    rw [World.ownsRow.cellAt h0 i (by omega)]
    simp [hi]
theorem add_row (g i : Nat) : (⟨g, 0, none⟩ : Addr).add i = ⟨g, i, none⟩ := by
  unfold Addr.add
  split
  · subst_vars; rfl
  · simp
theorem RowAt.rd {w : World} {g n cap : Nat} {f : Nat → Value} (h : RowAt w g n f) (h1 : n ≤ cap) (h2 : cap ≤ 9223372036854775807) : RdF w (.slice (some ⟨g, 0, none⟩) n cap) n f :=
  .inr ⟨_, _, rfl, h1, h2, fun i hi => by rw [add_row]; exact (h.2 i hi).1⟩
set_option maxRecDepth 100000 in
theorem index_at (g n cap p : Nat) (f : Nat → Int) (z : Int) (w : World) (h : RowAt w g n (fun i => vi (f i))) (hn : n ≤ 1000) (hp : p < n) (hz : f p = z) (hne : ∀ i, i < p → f i ≠ z) :
    Calls Tryz.prog 41 #[.slice (some ⟨g, 0, none⟩) n cap, .int .i64 z] w fun e w' => e = .returned (.int .i64 p) ∧ w' = w := by
  have HR : Hid (∀ i, i < n → w.cell? ⟨g, i, none⟩ = some (vi (f i))) := fun i hi => (h.2 i hi).1
  have HN : Hid (∀ i, i < p → f i ≠ z) := hne
  have HZ : Hid (f p = z) := hz
  clear h hne hz
  go_enter Tryz.func41, Tryz.ntmps41
  go_wp2
  go_loop [8] (fun t => ∃ k : Nat, k ≤ p ∧ t = .int .i64 k) (fun t => p + 1 - (intOf t).toNat)
  case atStart => exact ⟨0, Nat.zero_le _, rfl⟩
  case round =>
    obtain ⟨k, hk, rfl⟩ := hrel
    have hc := HR.out k (by omega)
    have hlt : (k : Int) < (n : Int) := by omega
    by_cases e : k = p
    · subst e
      have e1 : (z == f k) = true := by rw [beq_iff_eq, HZ.out]
      generalize f k = y at *
      go_wp2
      go_ret
      exact ⟨rfl, rfl⟩
    · have e1 : (z == f k) = false := by rw [beq_eq_false_iff_ne]; exact fun q => HN.out k (by omega) q.symm
      have hkp : k < p := by omega
      clear e
      generalize f k = y at *
      go_wp2
      go_round
      case rel => exact ⟨k + 1, by omega, by go_num⟩
      case measure => simp [intOf]; omega
theorem index_ord (g n cap r d : Nat) (h1 : 3 ≤ n) (h2 : n ≤ 10) (hd : d < n) (w : World) (h : RowAt w g n (fun i => vi ((ord n r i : Nat) : Int))) :
    Calls Tryz.prog 41 #[.slice (some ⟨g, 0, none⟩) n cap, .int .i64 d] w fun e w' => e = .returned (.int .i64 (pos n r d)) ∧ w' = w :=
  index_at g n cap (pos n r d) (fun i => ((ord n r i : Nat) : Int)) d w h (by omega) (pos_lt h1) (by (show ((ord n r (pos n r d) : Nat) : Int) = _); rw [ord_pos h1 h2 hd]) (fun i hi q => by
    have e : ord n r i = d := by
      have q' : ((ord n r i : Nat) : Int) = (d : Int) := q
      omega
    have := pos_ord (r := r) h1 h2 (show i < n by have := pos_lt (r := r) (d := d) h1; omega)
    rw [e] at this
    omega)
theorem spot_new {w w1 : World} (hB1 : Below (w.alloc (.cells #[.int .i64 0, .int .i64 0] 60)).heap.size (w.alloc (.cells #[.int .i64 0, .int .i64 0] 60)) w1) :
    ((∀ o, (w1.alloc o).cell? ⟨w.heap.size, 0, none⟩ = some (.int .i64 0)) ∧ ∀ o, (w1.alloc o).frozen? ⟨w.heap.size, 0, none⟩ = false) ∧ (∀ o, (w1.alloc o).cell? ⟨w.heap.size, 1, none⟩ = some (.int .i64 0)) ∧ ∀ o, (w1.alloc o).frozen? ⟨w.heap.size, 1, none⟩ = false := by
  have h := fun o => ((RowAt.new w 2 (.int .i64 0) 60).old hB1).old (al_below w1 o)
  exact ⟨⟨fun o => ((h o).2 0 (by omega)).1, fun o => ((h o).2 0 (by omega)).2⟩, fun o => ((h o).2 1 (by omega)).1, fun o => ((h o).2 1 (by omega)).2⟩
/-- is there no such block? -/
def Arr.spotE (a : Arr) (b : Int) : Nat := if a.noB b then 1 else 0
def Arr.spotD (a : Arr) (b : Int) : Nat := if a.noB b then 0 else ord a.n (a.rw' b) (a.ix' b)
def Arr.spotR (a : Arr) (b : Int) : Nat := if a.noB b then 0 else a.rw' b
set_option maxRecDepth 100000 in
set_option maxHeartbeats 1000000 in
theorem pa_spot {w : World} {x : PAd} {a : Arr} {N : Nat} (h : PA w x a N) (ho : a.ok) (b : Int) (hb : b ≤ 9223372036854775807) :
    Calls Tryz.prog 39 #[.pointer (some ⟨x.p, 0, none⟩), .int .i64 b] w fun e w' => e = .returned (.tuple #[spt (a.spotD b) (a.spotR b), errV (a.spotE b)]) ∧ Below w.heap.size w w' := by
  have c2 : ∀ o, (w.alloc o).cell? ⟨x.p, 2, none⟩ = some (.slice (some ⟨x.g, 0, none⟩) a.n a.n) := fun o => (h.old (al_below w o)).c2
  have HP : Hid (PA w x a N) := h
  obtain ⟨⟨hn1, hn2⟩, ⟨hr1, hr2⟩, _⟩ := ho
  clear h
  unfold Arr.spotE Arr.spotD Arr.spotR
  by_cases q : dbd a.n b ≠ 0
  · have hno : a.noB b := by
      unfold dbd at q
      rw [lbad_of (by omega) (by omega)] at q
      unfold Arr.noB
      have e : (20 : Int) * ((a.n : Int) - 2) = ((20 * (a.n - 2) : Nat) : Int) := by omega
      have e2 : a.rows * (a.n - 2) ≤ 20 * (a.n - 2) := Nat.mul_le_mul_right _ hr2
      split at q
      · rename_i q1
        rcases q1 with q1 | q1 | q1
        · exact absurd rfl q1
        · exact .inl q1
        · rw [e] at q1
          exact .inr (by omega)
      · exact absurd rfl q
    rw [if_pos hno, if_pos hno, if_pos hno]
    have D := data_bad a.n b hb q
    clear hno q HP
    go_enter Tryz.func39, Tryz.ntmps39
    go_wp2_with fail
    refine (D _).mono ?_
    rintro e w1 ⟨rfl, hB1⟩
    have hBw : Below w.heap.size w w1 := (al_below w _).trans (hB1.mono (by simp))
    have hsz := hBw.size
    have hsz1 := hB1.size
    simp at hsz1
    obtain ⟨⟨k0, k1⟩, k2, k3⟩ := spot_new hB1
    clear D hB1 c2
    go_wp2
    exact bodyPost_ret (v := .tuple #[spt 0 0, erange]) (by simp [results, Tryz.results39, go_sem, k0, k2]) rfl ⟨rfl, by repeat (first | exact hBw | refine below_drewN ?_ _ | refine Below.setCell ?_ (by first | omega | (simp; done) | (simp; omega)) _ | refine Below.alloc ?_ (by first | omega | (simp; done) | (simp; omega)) _)⟩
  · have q0 : dbd a.n b = 0 := by omega
    have hbd : 0 ≤ b ∧ b < ((20 * (a.n - 2) : Nat) : Int) := by
      unfold dbd at q0
      have e : (20 : Int) * ((a.n : Int) - 2) = ((20 * (a.n - 2) : Nat) : Int) := by omega
      rw [e] at q0
      split at q0 <;> omega
    obtain ⟨k, rfl⟩ : ∃ k : Nat, b = k := ⟨b.toNat, by omega⟩
    have hk : k < 20 * (a.n - 2) := by omega
    have hm : 0 < a.n - 2 := by omega
    have D := data_ok a.n k hn1 hn2 hk
    have e1 : a.rw' (k : Int) = k / (a.n - 2) := by unfold Arr.rw'; rw [Int.toNat_natCast]
    have e2 : a.ix' (k : Int) = k % (a.n - 2) := by unfold Arr.ix'; rw [Int.toNat_natCast]
    have eb : a.noB (k : Int) ↔ a.noR ((k / (a.n - 2) : Nat) : Int) := by
      unfold Arr.noB Arr.noR
      have := Nat.div_lt_iff_lt_mul (x := k) (y := a.rows) hm
      constructor
      · intro z
        refine .inr ?_
        have : ¬ k / (a.n - 2) < a.rows := fun z2 => by have := this.1 z2; omega
        omega
      · intro z
        refine .inr ?_
        have : ¬ k < a.rows * (a.n - 2) := fun z2 => by have := this.2 z2; omega
        omega
    have NR : Hid (∀ w', PA w' x a N → Calls Tryz.prog 51 #[.pointer (some ⟨x.p, 0, none⟩), .int .i64 ((k / (a.n - 2) : Nat) : Int)] w' fun e w'' => e = .returned (.bool (decide (a.noR ((k / (a.n - 2) : Nat) : Int)))) ∧ w'' = w') := fun w' h' => pa_noR h' _
    rw [e1, e2]
    by_cases hno : a.noB (k : Int)
    · rw [if_pos hno, if_pos hno, if_pos hno]
      rw [decide_eq_true (eb.1 hno)] at NR
      clear hno q q0 hbd hk e1 e2 eb
      generalize ((k / (a.n - 2) : Nat) : Int) = row at *
      generalize ((ord a.n (k / (a.n - 2)) (k % (a.n - 2)) : Nat) : Int) = col at *
      go_enter Tryz.func39, Tryz.ntmps39
      go_wp2_with fail
      refine (D _).mono ?_
      rintro e w1 ⟨rfl, hB1⟩
      have hBw : Below w.heap.size w w1 := (al_below w _).trans (hB1.mono (by simp))
      have hsz := hBw.size
      have hsz1 := hB1.size
      simp at hsz1
      obtain ⟨⟨k0, k1⟩, k2, k3⟩ := spot_new hB1
      have HP1 : Hid (PA w1 x a N) := HP.out.old hBw
      clear D hB1 c2 HP
      go_wp2_with fail
      refine (NR.out _ (HP1.out.old (al_below _ _))).mono ?_
      rintro e w2 ⟨rfl, hw⟩
      obtain rfl := hw.symm
      clear NR HP1
      go_wp2
      exact bodyPost_ret (v := .tuple #[spt 0 0, erange]) (by simp [results, Tryz.results39, go_sem, k0, k2]) rfl ⟨rfl, by repeat (first | exact hBw | refine below_drewN ?_ _ | refine Below.setCell ?_ (by first | omega | (simp; done) | (simp; omega)) _ | refine Below.alloc ?_ (by first | omega | (simp; done) | (simp; omega)) _)⟩
    · rw [if_neg hno, if_neg hno, if_neg hno]
      rw [decide_eq_false (fun z => hno (eb.2 z))] at NR
      clear hno q q0 hbd hk e1 e2 eb
      generalize ((k / (a.n - 2) : Nat) : Int) = row at *
      generalize ((ord a.n (k / (a.n - 2)) (k % (a.n - 2)) : Nat) : Int) = col at *
      go_enter Tryz.func39, Tryz.ntmps39
      go_wp2_with fail
      refine (D _).mono ?_
      rintro e w1 ⟨rfl, hB1⟩
      have hBw : Below w.heap.size w w1 := (al_below w _).trans (hB1.mono (by simp))
      have hsz := hBw.size
      have hsz1 := hB1.size
      simp at hsz1
      obtain ⟨⟨k0, k1⟩, k2, k3⟩ := spot_new hB1
      have HP1 : Hid (PA w1 x a N) := HP.out.old hBw
      clear D hB1 c2 HP
      go_wp2_with fail
      refine (NR.out _ (HP1.out.old (al_below _ _))).mono ?_
      rintro e w2 ⟨rfl, hw⟩
      obtain rfl := hw.symm
      clear NR HP1
      go_wp2
      exact bodyPost_ret (v := .tuple #[spt col row, .nilIface]) (by simp [results, Tryz.results39, go_sem, k0, k2]) rfl ⟨rfl, by repeat (first | exact hBw | refine below_drewN ?_ _ | refine Below.setCell ?_ (by first | omega | (simp; done) | (simp; omega)) _ | refine Below.alloc ?_ (by first | omega | (simp; done) | (simp; omega)) _)⟩
end Go.Proofs.YtilfjahbdlepjaaGreatDoor

/- The parts of a row: a walk over the program. -/
namespace Go.Proofs.YtilfjahbdlepjaaGreatDoor
open Go.RowKit El Pol Mx Lay
theorem made_one (z : Value) (n : Nat) : madeCells #[z] n = Array.replicate n z := by
  apply Array.toList_inj.1
  rw [toList_madeCells_one]
  simp
/-- between the rounds: the first k parts are told -/
structure RawS (w : World) (x : PAd) (a : Arr) (N r g0 g1 g2 : Nat) (k : Nat) (wr : World) : Prop where
  low : Below w.heap.size w wr
  pa : PA wr x a N
  ord : RowAt wr g0 a.n (fun i => vi ((ord a.n r i : Nat) : Int))
  parts : RowAt wr g1 a.n (fun i => st (if i < k then a.part r i else []))
  lost : RowAt wr g2 a.n (fun i => .bool (if i < k then a.lo r i else false))
  h1 : w.heap.size ≤ g1
  h2 : w.heap.size ≤ g2
  n01 : g0 ≠ g1
  n02 : g0 ≠ g2
  n12 : g1 ≠ g2
  apart : ∀ i, x.F a.n i → i < w.heap.size
namespace RawS
variable {w wr : World} {x : PAd} {a : Arr} {N r g0 g1 g2 k : Nat}
theorem gone (h : RawS w x a N r g0 g1 g2 k wr) (hl : a.lo r k = true) : RawS w x a N r g0 g1 g2 (k + 1) (wr.setCell ⟨g2, k, none⟩ (.bool true)) := by
  have hb := but_cell wr g2 k (.bool true)
  have hn : ∀ i, x.F a.n i → ¬ i = g2 := fun i hi e => by have := h.apart i hi; have := h.h2; omega
  refine ⟨h.low.trans ((h.lost.put k _).2.mono h.h2), h.pa.but hb hn, h.ord.but hb h.n02, (h.parts.but hb h.n12).congr (fun i _ => ?_), (h.lost.put k _).1.congr (fun i _ => ?_), h.h1, h.h2, h.n01, h.n02, h.n12, h.apart⟩
  · by_cases e : i = k
    · subst e
      rw [if_neg (by omega), if_pos (by omega)]
      unfold Arr.part
      rw [if_pos hl]
    · by_cases q : i < k
      · rw [if_pos q, if_pos (by omega)]
      · rw [if_neg q, if_neg (by omega)]
  · by_cases e : i = k
    · subst e
      rw [up_at, if_pos (by omega), hl]
    · rw [up_ne _ _ e]
      by_cases q : i < k
      · rw [if_pos q, if_pos (by omega)]
      · rw [if_neg q, if_neg (by omega)]
theorem left (h : RawS w x a N r g0 g1 g2 k wr) (hl : a.lo r k = false) (m : Nat) : RawS w x a N r g0 g1 g2 (k + 1) (((wr.setCell ⟨g2, k, none⟩ (.bool false)).drewN m).setCell ⟨g1, k, none⟩ (st (a.cell (Lay.ord a.n r k) r))) := by
  have hb0 : But (· = g2) wr ((wr.setCell ⟨g2, k, none⟩ (.bool false)).drewN m) := (but_cell wr g2 k (.bool false)).drewN m
  have hn : ∀ i, x.F a.n i → ¬ i = g2 := fun i hi e => by have := h.apart i hi; have := h.h2; omega
  have hn1 : ∀ i, x.F a.n i → ¬ i = g1 := fun i hi e => by have := h.apart i hi; have := h.h1; omega
  have l1 := h.lost.put k (.bool false)
  have l2 : RowAt ((wr.setCell ⟨g2, k, none⟩ (.bool false)).drewN m) g2 a.n _ := l1.1.old (below_drewN (Below.refl _ _) m)
  have hB1 : Below w.heap.size w ((wr.setCell ⟨g2, k, none⟩ (.bool false)).drewN m) := below_drewN (h.low.trans (l1.2.mono h.h2)) m
  have p1 := h.parts.but hb0 h.n12
  have o1 := h.ord.but hb0 h.n02
  have a1 := h.pa.but hb0 hn
  generalize (wr.setCell ⟨g2, k, none⟩ (.bool false)).drewN m = w2 at *
  have hb := but_cell w2 g1 k (st (a.cell (Lay.ord a.n r k) r))
  refine ⟨hB1.trans ((p1.put k _).2.mono h.h1), a1.but hb hn1, o1.but hb h.n01, (p1.put k _).1.congr (fun i _ => ?_), (l2.but hb (fun e => h.n12 e.symm)).congr (fun i _ => ?_), h.h1, h.h2, h.n01, h.n02, h.n12, h.apart⟩
  · by_cases e : i = k
    · subst e
      rw [up_at, if_pos (by omega)]
      unfold Arr.part
      rw [hl, if_neg Bool.false_ne_true]
    · rw [up_ne _ _ e]
      by_cases q : i < k
      · rw [if_pos q, if_pos (by omega)]
      · rw [if_neg q, if_neg (by omega)]
  · by_cases e : i = k
    · subst e
      rw [up_at, if_pos (by omega), hl]
    · rw [up_ne _ _ e]
      by_cases q : i < k
      · rw [if_pos q, if_pos (by omega)]
      · rw [if_neg q, if_neg (by omega)]
theorem start {w1 w2 : World} (hB : Below w.heap.size w w1) (hP : PA w1 x a N) (hR : RowAt w1 g0 a.n (fun i => vi ((Lay.ord a.n r i : Nat) : Int))) (hl : ∀ i, x.F a.n i → i < w.heap.size) (hb : Below w1.heap.size w1 w2)
    (p : RowAt w2 g1 a.n (fun _ => st [])) (q : RowAt w2 g2 a.n (fun _ => .bool false)) (h1 : w1.heap.size ≤ g1) (h2 : w1.heap.size ≤ g2) (h12 : g1 ≠ g2) : RawS w x a N r g0 g1 g2 0 w2 :=
  ⟨hB.trans (hb.mono hB.size), hP.old hb, hR.old hb, p.congr (fun i _ => by rw [if_neg (by omega)]), q.congr (fun i _ => by rw [if_neg (by omega)]), Nat.le_trans hB.size h1, Nat.le_trans hB.size h2,
    fun e => by have := hR.1; omega, fun e => by have := hR.1; omega, h12, hl⟩
end RawS
set_option maxRecDepth 100000 in
theorem pa_raw_bad {w : World} {x : PAd} {a : Arr} {N : Nat} (h : PA w x a N) (r : Int) (q : a.noR r) :
    Calls Tryz.prog 25 #[.pointer (some ⟨x.p, 0, none⟩), .int .i64 r] w fun e w' => e = .returned (.tuple #[.slice none 0 0, .slice none 0 0, errV 1]) ∧ w' = w := by
  have NR := pa_noR h r
  rw [decide_eq_true q] at NR
  clear h q
  go_enter Tryz.func25, Tryz.ntmps25
  go_wp2_with fail
  refine NR.mono ?_
  rintro e w1 ⟨rfl, hw⟩
  obtain rfl := hw.symm
  clear NR
  go_wp2
  go_ret3
  exact ⟨rfl, rfl⟩
theorem read_row {a : Arr} {N d r : Nat} {D : Dsk} (h : DA a N d D) (hr : r < a.rows) (hg : a.gone d r = false) : D.readE (r : Int) = 0 ∧ D.readT (r : Int) = a.cell d r := by
  have hf : a.failed d = false := by
    unfold Arr.gone at hg
    cases q : a.failed d with
    | false => rfl
    | true => rw [q] at hg; cases hg
  have e : D.readE (r : Int) = 0 := by
    unfold Dsk.readE
    rw [h.failed, hf, if_neg Bool.false_ne_true, if_neg (by rw [h.rows]; omega)]
  refine ⟨e, ?_⟩
  unfold Dsk.readT
  rw [if_pos e, Int.toNat_natCast]
  exact h.row r hr hg
set_option maxRecDepth 100000 in
set_option maxHeartbeats 2000000 in
theorem pa_raw {w : World} {x : PAd} {a : Arr} {N : Nat} (h : PA w x a N) (ho : a.ok) (r : Nat) (hr : r < a.rows) :
    Calls Tryz.prog 25 #[.pointer (some ⟨x.p, 0, none⟩), .int .i64 r] w fun e w' => ∃ (g1 g2 : Nat), e = .returned (.tuple #[.slice (some ⟨g1, 0, none⟩) a.n a.n, .slice (some ⟨g2, 0, none⟩) a.n a.n, .nilIface]) ∧
      RowAt w' g1 a.n (fun i => st (a.part r i)) ∧ RowAt w' g2 a.n (fun i => .bool (a.lo r i)) ∧ (w.heap.size ≤ g1 ∧ w.heap.size ≤ g2) ∧ Below w.heap.size w w' := by
  have NR := pa_noR h r
  rw [decide_eq_false (show ¬ a.noR (r : Int) by unfold Arr.noR; omega)] at NR
  obtain ⟨⟨hn1, hn2⟩, ⟨hr1, hr2⟩, hs, hcl, hbl⟩ := ho
  have O := order_ok a.n r hn1 hn2 (by omega) w
  have HP : Hid (PA w x a N) := h
  have HLT : Hid (∀ i, x.F a.n i → i < w.heap.size) := h.lt
  have c2 := h.c2
  obtain ⟨i0, hi, hz0, hz1, hz2⟩ := info_parts infoB
  obtain ⟨j0, hj, hy0, hy1, hy2⟩ := info_parts infoT
  obtain ⟨Z, hZ⟩ : ∃ Z, Z = Array.replicate a.n (Value.bool false) := ⟨_, rfl⟩
  obtain ⟨Y, hY⟩ : ∃ Y, Y = Array.replicate a.n (Value.string ⟨#[]⟩) := ⟨_, rfl⟩
  have HZ : Hid (Z = Array.replicate a.n (Value.bool false)) := hZ
  have HY : Hid (Y = Array.replicate a.n (Value.string ⟨#[]⟩)) := hY
  have hmk : ∀ W : World, (Instr.makeSlice 49 (.int .i64 (a.n : Int)) (.int .i64 (a.n : Int))).run Tryz.prog W = .ok (.slice (some ⟨W.heap.size, 0, none⟩) a.n a.n) (W.alloc (.cells Z 4)) := fun W => by
    have := run_make (P := Tryz.prog) W 49 4 i0 (.bool false) Tryz.underlying49 hi hz0 .i64 .i64 (a.n : Int) (a.n : Int) (by omega) (by omega) (by rw [hz2]; omega) (by omega)
    rw [this, hz1, Int.toNat_natCast, Nat.mul_one, hZ]
    simp [Value.cells, made_one]
  have hmt : ∀ W : World, (Instr.makeSlice 48 (.int .i64 (a.n : Int)) (.int .i64 (a.n : Int))).run Tryz.prog W = .ok (.slice (some ⟨W.heap.size, 0, none⟩) a.n a.n) (W.alloc (.cells Y 9)) := fun W => by
    have := run_make (P := Tryz.prog) W 48 9 j0 (.string ⟨#[]⟩) Tryz.underlying48 hj hy0 .i64 .i64 (a.n : Int) (a.n : Int) (by omega) (by omega) (by rw [hy2]; omega) (by omega)
    rw [this, hy1, Int.toNat_natCast, Nat.mul_one, hY]
    simp [Value.cells, made_one]
  clear h hZ hY
  have HCL : Hid _ := hcl
  have HBL : Hid _ := hbl
  clear hcl hbl
  go_enter Tryz.func25, Tryz.ntmps25
  go_wp2_with fail
  refine NR.mono ?_
  rintro e w1 ⟨rfl, hw⟩
  obtain rfl := hw.symm
  clear NR
  go_wp2_with fail
  refine O.mono ?_
  rintro e w1 ⟨v', rfl, hO, hB1⟩
  obtain ⟨g0, cap, rfl, hc1, hc2, hg0, hR0⟩ := rowAt_own hO (by omega)
  have HR0 : Hid (RowAt w1 g0 a.n (fun i => vi ((ord a.n r i : Nat) : Int))) := hR0
  have HP1 : Hid (PA w1 x a N) := HP.out.old hB1
  have HB1 : Hid (Below w.heap.size w w1) := hB1
  clear O hO hR0 HP hB1 c2
  go_upto_region 6 with fail
  go_cut [9, 10] from 31 to 36 (fun s t wx => ∃ (g1 g2 : Nat), s = .slice (some ⟨g1, 0, none⟩) a.n a.n ∧ t = .slice (some ⟨g2, 0, none⟩) a.n a.n ∧ RawS w x a N r g0 g1 g2 0 wx)
  case first =>
    have HF1 : Hid (RawS w x a N r g0 w1.heap.size (w1.heap.size + 1) 0 ((w1.alloc (.cells Y 9)).alloc (.cells Z 4)).drew) := by
      rw [HY.out, HZ.out]
      have n1 := RowAt.new w1 a.n (Value.string ⟨#[]⟩) 9
      have n2 := RowAt.new (w1.alloc (.cells (Array.replicate a.n (Value.string ⟨#[]⟩)) 9)) a.n (Value.bool false) 4
      have b1 := al_below (w1.alloc (.cells (Array.replicate a.n (Value.string ⟨#[]⟩)) 9)) (.cells (Array.replicate a.n (Value.bool false)) 4)
      have b0 := al_below w1 (.cells (Array.replicate a.n (Value.string ⟨#[]⟩)) 9)
      exact RawS.start HB1.out HP1.out HR0.out HLT.out (b0.trans (b1.mono b0.size)).drew ((n1.old b1).old (Below.refl _ _).drew) (by have := n2.old (Below.refl _ _).drew; simpa using this) (Nat.le_refl _) (by omega) (by omega)
    have HF2 : Hid (RawS w x a N r g0 (w1.heap.size + 1) w1.heap.size 0 ((w1.alloc (.cells Z 4)).alloc (.cells Y 9)).drew) := by
      rw [HY.out, HZ.out]
      have n1 := RowAt.new w1 a.n (Value.bool false) 4
      have n2 := RowAt.new (w1.alloc (.cells (Array.replicate a.n (Value.bool false)) 4)) a.n (Value.string ⟨#[]⟩) 9
      have b1 := al_below (w1.alloc (.cells (Array.replicate a.n (Value.bool false)) 4)) (.cells (Array.replicate a.n (Value.string ⟨#[]⟩)) 9)
      have b0 := al_below w1 (.cells (Array.replicate a.n (Value.bool false)) 4)
      exact RawS.start HB1.out HP1.out HR0.out HLT.out (b0.trans (b1.mono b0.size)).drew (RowAt.congr (f := fun _ => Value.string ⟨#[]⟩) (by have := n2.old (Below.refl _ _).drew; simpa using this) (fun _ _ => rfl)) ((n1.old b1).old (Below.refl _ _).drew) (by omega) (Nat.le_refl _) (by omega)
    clear HR0 HP1 HB1 HZ HY HLT
    go_region
    · go_wp2_with fail
      go_meet
      case rel => exact ⟨_, _, rfl, rfl, HF1.out⟩
    · go_wp2_with fail
      go_meet
      case rel => exact ⟨_, _, rfl, rfl, HF2.out⟩
  case rest =>
    obtain ⟨g1, g2, rfl, rfl, hS⟩ := hcut
    clear hmk hmt HZ HY HR0 HP1 HB1
    go_wp2
    go_loopw [39] (fun t wr => ∃ j : Nat, j ≤ a.n ∧ t = .int .i64 j ∧ RawS w x a N r g0 g1 g2 j wr) (fun t _ => a.n - (intOf t).toNat)
    case atStart => exact ⟨0, Nat.zero_le _, rfl, hS⟩
    case round =>
      clear hS
      obtain ⟨j, hj, rfl, hS⟩ := hrel
      by_cases hlt : j < a.n
      · have hd : ord a.n r j < a.n := ord_lt hn1
        have HL1 := fun (q : a.lo r j = true) => hS.gone q
        have HL2 := fun (q : a.lo r j = false) => hS.left q
        have L := pa_lost hS.pa hd r
        have k0 := (hS.ord.2 j hlt).1
        have k2 := hS.lost.2 j hlt
        have k1 := hS.parts.2 j hlt
        have c2 := hS.pa.c2
        have cm := hS.pa.cm _ hd
        have hlt' : (j : Int) < (a.n : Int) := by omega
        have hdn : ((ord a.n r j : Nat) : Int) < (a.n : Int) := by omega
        obtain ⟨D, hD, hDA⟩ := hS.pa.dsk _ hd
        have m0 := hS.pa.m0 _ hd
        have n2 : x.m (ord a.n r j) ≠ g2 := fun e => by have := hS.apart (x.m (ord a.n r j)) (.inr (.inr (.inl ⟨_, hd, rfl⟩))); have := hS.h2; omega
        have n3 : x.k (ord a.n r j) ≠ g2 := fun e => by have := hS.apart (x.k (ord a.n r j)) (.inr (.inr (.inr ⟨_, hd, rfl⟩))); have := hS.h2; omega
        have bc := but_cell wr g2 j (.bool false)
        have m0' : (wr.setCell ⟨g2, j, none⟩ (.bool false)).cell? ⟨x.m (ord a.n r j), 0, none⟩ = some (.pointer (some ⟨x.k (ord a.n r j), 0, none⟩)) := by
          rw [bc.cell (p := ⟨x.m (ord a.n r j), 0, none⟩) (hS.pa.one _ hd).1 n2]
          exact m0
        have RR := dread (hD.but bc n3) (hDA.ok ⟨⟨hn1, hn2⟩, ⟨hr1, hr2⟩, hs, HCL.out, HBL.out⟩) (r : Int)
        have k3 := (hS.parts.but bc hS.n12).2 j hlt
        have HLO : Hid (a.lo r j = a.gone (ord a.n r j) r) := rfl
        obtain ⟨k1, f1⟩ := k3
        obtain ⟨k2, f2⟩ := k2
        dsimp only at k0 k1 k2
        cases hl : a.gone (ord a.n r j) r with
        | true =>
          have HX : Hid (RawS w x a N r g0 g1 g2 (j + 1) (wr.setCell ⟨g2, j, none⟩ (.bool true))) := HL1 (HLO.out.trans hl)
          rw [hl] at L
          clear HL1 HL2 hS hD hDA RR bc m0 m0' k1 f1 hl n2 n3 HLO
          generalize ord a.n r j = d at *
          go_wp2_with fail
          refine L.mono ?_
          rintro e w2 ⟨rfl, hw⟩
          obtain rfl := hw.symm
          clear L
          go_wp2
          go_roundw
          case rel => exact ⟨j + 1, by omega, by go_num, HX.out⟩
          case measure => simp [intOf]; omega
        | false =>
          obtain ⟨e1, e2⟩ := read_row hDA hr hl
          have HX : Hid (∀ m, RawS w x a N r g0 g1 g2 (j + 1) (((wr.setCell ⟨g2, j, none⟩ (.bool false)).drewN m).setCell ⟨g1, j, none⟩ (st (a.cell (ord a.n r j) r)))) := HL2 (HLO.out.trans hl)
          rw [hl] at L
          rw [e1, e2, errV, if_pos rfl] at RR
          clear HL1 HL2 hS hD hDA bc m0 hl n2 n3 HLO e1 e2
          obtain ⟨s, hs'⟩ : ∃ s, s = sb (a.cell (ord a.n r j) r) := ⟨_, rfl⟩
          unfold st at RR HX
          rw [← hs'] at RR HX
          clear hs'
          generalize ord a.n r j = d at *
          go_wp2_with fail
          refine L.mono ?_
          rintro e w2 ⟨rfl, hw⟩
          obtain rfl := hw.symm
          clear L
          go_wp2_with fail
          refine RR.mono ?_
          rintro e w3 ⟨rfl, m, hw3⟩
          subst hw3
          have HX2 : Hid (RawS w x a N r g0 g1 g2 (j + 1) (((wr.setCell ⟨g2, j, none⟩ (.bool false)).drewN m).setCell ⟨g1, j, none⟩ (.string s))) := HX.out m
          have k4 : ((wr.setCell ⟨g2, j, none⟩ (.bool false)).drewN m).cell? ⟨g1, j, none⟩ = _ := k1
          have f4 : ((wr.setCell ⟨g2, j, none⟩ (.bool false)).drewN m).frozen? ⟨g1, j, none⟩ = false := f1
          clear RR k0 k1 k2 f1 f2 c2 cm m0' HX
          generalize (wr.setCell ⟨g2, j, none⟩ (.bool false)).drewN m = w4 at *
          go_wp2
          go_roundw
          case rel => exact ⟨j + 1, by omega, by go_num, HX2.out⟩
          case measure => simp [intOf]; omega
      · have e : j = a.n := by omega
        have hge : ¬ (j : Int) < (a.n : Int) := by omega
        subst e
        have HS : Hid (RawS w x a N r g0 g1 g2 a.n wr) := hS
        clear hS
        go_wp2
        go_ret3
        exact ⟨g1, g2, rfl, HS.out.parts.congr (fun i hi => by rw [if_pos hi]), HS.out.lost.congr (fun i hi => by rw [if_pos hi]), ⟨HS.out.h1, HS.out.h2⟩, HS.out.low⟩
end Go.Proofs.YtilfjahbdlepjaaGreatDoor

/- A row's disks and parts, healed; what is lost at a spot: walks over the program. -/
namespace Go.Proofs.YtilfjahbdlepjaaGreatDoor
open Go.RowKit El Pol Mx Lay
theorem owns_le {B C : Nat} {T : TypeId} {w : World} {v : Value} {n : Nat} {xs : List Value} (h : w.ownsRow B T 1 v n xs) (hc : C ≤ B) : w.ownsRow C T 1 v n xs := ownsRow_mono h hc
theorem heal_list {a : Arr} (h : a.ok) {r : Nat} (hr : r < a.rows) (h2 : a.nl r ≤ 2) {D : M} (hD : Healed (a.n - 2) a.size (mx (a.part r)) (a.lo r) D) (n : Nat) : (List.range n).map (fun i => st (row (pqp (a.n - 2) D i) a.size)) = (List.range n).map (fun i => st (a.heal r i)) :=
  List.map_congr_left (fun i _ => by rw [Arr.heal_is h hr h2 hD i])
theorem lost_many {a : Arr} (h : a.ok) {r : Nat} (hr : r < a.rows) (h2 : 2 < a.nl r) : phf a.n a.n (a.part r) (a.lo r) = 8 := by
  unfold phf
  have := h.1
  rw [if_neg (by omega), if_neg (by omega)]
  unfold df
  have h3 := ix_gn (a.lo r) a.n
  rw [Arr.nl_lo h hr] at h3
  rw [if_pos (by omega)]
set_option maxRecDepth 100000 in
set_option maxHeartbeats 1000000 in
theorem pa_stripe_bad {w : World} {x : PAd} {a : Arr} {N : Nat} (h : PA w x a N) (ho : a.ok) (r : Nat) (hr : r < a.rows) (h2 : 2 < a.nl r) :
    Calls Tryz.prog 40 #[.pointer (some ⟨x.p, 0, none⟩), .int .i64 r] w fun e w' => e = .returned (.tuple #[.slice none 0 0, .slice none 0 0, errV 8]) ∧ Below w.heap.size w w' := by
  have R := pa_raw h ho r hr
  have HO : Hid a.ok := ho
  have hn := ho.1
  have HH : Hid (phf a.n a.n (a.part r) (a.lo r) = 8) := lost_many ho hr h2
  clear h ho
  go_enter Tryz.func40, Tryz.ntmps40
  go_wp2_with fail
  refine R.mono ?_
  rintro e w1 ⟨g1, g2, rfl, h1, h3, _, hB1⟩
  have P := pheal_bad (.slice (some ⟨g1, 0, none⟩) a.n a.n) (.slice (some ⟨g2, 0, none⟩) a.n a.n) a.n a.n 8 (a.part r) (a.lo r) w1 (h1.rd (Nat.le_refl _) (by omega)) (h3.rd (Nat.le_refl _) (by omega)) (by omega) (by omega) HH.out (by omega)
  clear R h1 h3
  go_wp2_with fail
  refine P.mono ?_
  rintro e w2 ⟨rfl, hB2⟩
  have hB := hB1.trans (hB2.mono hB1.size)
  clear P hB1 hB2
  go_wp2
  go_ret3
  exact ⟨rfl, hB⟩
set_option maxRecDepth 100000 in
set_option maxHeartbeats 1000000 in
theorem pa_stripe {w : World} {x : PAd} {a : Arr} {N : Nat} (h : PA w x a N) (ho : a.ok) (r : Nat) (hr : r < a.rows) (h2 : a.nl r ≤ 2) :
    Calls Tryz.prog 40 #[.pointer (some ⟨x.p, 0, none⟩), .int .i64 r] w fun e w' => ∃ (g0 c0 g1 c1 : Nat), e = .returned (.tuple #[.slice (some ⟨g0, 0, none⟩) a.n c0, .slice (some ⟨g1, 0, none⟩) a.n c1, .nilIface]) ∧
      (a.n ≤ c0 ∧ a.n ≤ c1 ∧ c1 ≤ 9223372036854775807) ∧ RowAt w' g0 a.n (fun i => vi ((ord a.n r i : Nat) : Int)) ∧ RowAt w' g1 a.n (fun i => st (a.heal r i)) ∧ w.heap.size ≤ g1 ∧ w.heap.size ≤ g0 ∧ g0 ≠ g1 ∧ (∃ D, Healed (a.n - 2) a.size (mx (a.part r)) (a.lo r) D) ∧ Below w.heap.size w w' := by
  have R := pa_raw h ho r hr
  have HO : Hid a.ok := ho
  have HP : Hid (PA w x a N) := h
  obtain ⟨hn1, hn2⟩ := ho.1
  have hr2 := ho.2.1.2
  have hs2 := ho.2.2.1.2
  have HQ : Hid (∀ (w1 : World) (g1 g2 : Nat), RowAt w1 g1 a.n (fun i => st (a.part r i)) → RowAt w1 g2 a.n (fun i => .bool (a.lo r i)) →
      Calls Tryz.prog 68 #[.slice (some ⟨g1, 0, none⟩) a.n a.n, .slice (some ⟨g2, 0, none⟩) a.n a.n] w1 fun e w' => ∃ v', e = .returned (.tuple #[v', .nilIface]) ∧ w'.ownsRow w1.heap.size 9 1 v' a.n ((List.range a.n).map (fun i => st (a.heal r i))) ∧ (∃ D, Healed (a.n - 2) a.size (mx (a.part r)) (a.lo r) D) ∧ Below w1.heap.size w1 w') := fun w1 g1 g2 h1 h3 => by
    have hk : a.n - 2 + 2 = a.n := by omega
    have r1 := h1.rd (Nat.le_refl _) (by omega)
    have r3 := h3.rd (Nat.le_refl _) (by omega)
    have := pheal_ok (a.n - 2) a.size (by omega) (by omega) (.slice (some ⟨g1, 0, none⟩) a.n a.n) (.slice (some ⟨g2, 0, none⟩) a.n a.n) (a.part r) (a.lo r) w1 (by rw [hk]; exact r1) (by rw [hk]; exact r3) (Arr.left_lo ho hr h2) (Arr.part_left ho hr) hs2
    refine this.mono fun e w' ⟨v', D, he, hD, hO, hB⟩ => ⟨v', he, ?_, ⟨D, hD⟩, hB⟩
    rw [hk, heal_list ho hr h2 hD] at hO
    exact hO
  have O := fun w1 => order_ok a.n r hn1 hn2 (by omega) w1
  clear h ho
  go_enter Tryz.func40, Tryz.ntmps40
  go_wp2_with fail
  refine R.mono ?_
  rintro e w1 ⟨g1, g2, rfl, h1, h3, _, hB1⟩
  have P := HQ.out w1 g1 g2 h1 h3
  clear R h1 h3 HQ
  go_wp2_with fail
  refine P.mono ?_
  rintro e w2 ⟨v2, rfl, hO2, hex, hB2⟩
  have HEX : Hid (∃ D, Healed (a.n - 2) a.size (mx (a.part r)) (a.lo r) D) := hex
  clear hex
  obtain ⟨gp, cp, rfl, hp1, hp2, hgp, hRp⟩ := rowAt_own hO2 (by omega)
  have hB := hB1.trans (hB2.mono hB1.size)
  have hgp' := Nat.le_trans hB1.size hgp
  have HRp : Hid (RowAt w2 gp a.n (fun i => st (a.heal r i))) := hRp
  have c2 := (HP.out.old hB).c2
  clear P hB1 hB2 hO2 hRp
  go_wp2_with fail
  refine (O _).mono ?_
  rintro e w3 ⟨v3, rfl, hO3, hB3⟩
  obtain ⟨g0, c0, rfl, ho1, ho2, hg0, hR0⟩ := rowAt_own hO3 (by omega)
  have hBB := hB.trans (hB3.mono hB.size)
  have hg0' := Nat.le_trans hB.size hg0
  have hne : g0 ≠ gp := fun e => by have := HRp.out.1; omega
  have HR0 : Hid (RowAt w3 g0 a.n (fun i => vi ((ord a.n r i : Nat) : Int))) := hR0
  have HRq : Hid (RowAt w3 gp a.n (fun i => st (a.heal r i))) := HRp.out.old hB3
  clear O hO3 hR0 hB3 HRp c2 hB
  go_wp2
  go_ret3
  exact ⟨g0, c0, gp, cp, rfl, ⟨ho1, hp1, hp2⟩, HR0.out, HRq.out, hgp', hg0', hne, HEX.out, hBB⟩
set_option maxRecDepth 100000 in
set_option maxHeartbeats 1000000 in
theorem pa_healed_bad {w : World} {x : PAd} {a : Arr} {N : Nat} (h : PA w x a N) (ho : a.ok) (r : Nat) (hr : r < a.rows) (h2 : 2 < a.nl r) (d : Int) :
    Calls Tryz.prog 48 #[.pointer (some ⟨x.p, 0, none⟩), spt d r] w fun e w' => e = .returned (.tuple #[st [], errV 8]) ∧ Below w.heap.size w w' := by
  have S := pa_stripe_bad (h.old (al_below w (.cells #[.int .i64 d, .int .i64 r] 60))) ho r hr h2
  rw [errV, if_neg (by omega)] at S
  clear h ho h2
  go_enter Tryz.func48, Tryz.ntmps48
  go_wp2_with fail
  refine S.mono ?_
  rintro e w1 ⟨rfl, hB⟩
  have hB1 : Below w.heap.size w w1 := (al_below w _).trans (hB.mono (by simp))
  clear S hB
  go_wp2
  go_ret2
  exact ⟨rfl, hB1⟩
set_option maxRecDepth 100000 in
set_option maxHeartbeats 1000000 in
theorem pa_healed {w : World} {x : PAd} {a : Arr} {N : Nat} (h : PA w x a N) (ho : a.ok) (r : Nat) (hr : r < a.rows) (h2 : a.nl r ≤ 2) (d : Nat) (hd : d < a.n) :
    Calls Tryz.prog 48 #[.pointer (some ⟨x.p, 0, none⟩), spt d r] w fun e w' => e = .returned (.tuple #[st (a.heal r (pos a.n r d)), .nilIface]) ∧ Below w.heap.size w w' := by
  have S := pa_stripe (h.old (al_below w (.cells #[.int .i64 d, .int .i64 r] 60))) ho r hr h2
  obtain ⟨hn1, hn2⟩ := ho.1
  have hp : pos a.n r d < a.n := pos_lt hn1
  obtain ⟨t, ht⟩ : ∃ t, t = a.heal r (pos a.n r d) := ⟨_, rfl⟩
  have HT : Hid (t = a.heal r (pos a.n r d)) := ht
  rw [← ht]
  clear h ho h2 ht
  go_enter Tryz.func48, Tryz.ntmps48
  go_wp2_with fail
  refine S.mono ?_
  rintro e w1 ⟨g0, c0, g1, c1, rfl, ⟨hc0, hc1, hc2⟩, h0, h1, hg1, _, hne, _, hB⟩
  have hB1 : Below w.heap.size w w1 := (al_below w _).trans (hB.mono (by simp))
  have I := index_ord g0 a.n c0 r d hn1 hn2 hd w1 h0
  have k1 := (h1.2 _ hp).1
  dsimp only at k1
  rw [← HT.out] at k1
  have k0 : w1.cell? ⟨w.heap.size, 0, none⟩ = some (.int .i64 d) := by
    rw [hB.cell (p := ⟨w.heap.size, 0, none⟩) (by simp), cell_of_row _ _ 0 _ _ _ (heap_alloc_new w _)]
    rfl
  have hpn : ((pos a.n r d : Nat) : Int) < (a.n : Int) := by omega
  clear S hB h0 h1 HT
  generalize pos a.n r d = i at *
  go_wp2_with fail
  refine I.mono ?_
  rintro e w2 ⟨rfl, hw⟩
  obtain rfl := hw.symm
  clear I
  go_wp2
  go_ret2
  exact ⟨rfl, hB1⟩
end Go.Proofs.YtilfjahbdlepjaaGreatDoor

/- A new struct of two. -/
namespace Go.Proofs.YtilfjahbdlepjaaGreatDoor
open Go.RowKit El Pol Mx Lay
theorem two_new (w : World) (u v : Value) (t : TypeId) : (w.alloc (.cells #[u, v] t)).cell? ⟨w.heap.size, 0, none⟩ = some u ∧ (w.alloc (.cells #[u, v] t)).cell? ⟨w.heap.size, 1, none⟩ = some v := by
  have h := heap_alloc_new w (.cells #[u, v] t)
  exact ⟨by rw [cell_of_row _ _ 0 _ _ _ h]; rfl, by rw [cell_of_row _ _ 1 _ _ _ h]; rfl⟩
end Go.Proofs.YtilfjahbdlepjaaGreatDoor

/- What a write makes of an array, part by part; a member is written, unless it is lost: a walk over the program. -/
namespace Go.Proofs.YtilfjahbdlepjaaGreatDoor
open Go.RowKit El Pol Mx Lay
namespace Arr
/-- a part of a row another one, unless it is lost -/
def put (a : Arr) (d r : Nat) (t : List El) : Arr := if a.gone d r = true then a else { a with cell := fun e s => if e = d ∧ s = r then t else a.cell e s }
theorem put_same (a : Arr) (d r : Nat) (t : List El) : (a.put d r t).n = a.n ∧ (a.put d r t).rows = a.rows ∧ (a.put d r t).size = a.size ∧ (a.put d r t).failed = a.failed ∧ (a.put d r t).built = a.built := by
  unfold put
  split <;> exact ⟨rfl, rfl, rfl, rfl, rfl⟩
theorem put_gone (a : Arr) (d r : Nat) (t : List El) (e s : Nat) : (a.put d r t).gone e s = a.gone e s := by
  obtain ⟨_, _, _, h4, h5⟩ := put_same a d r t
  unfold gone
  rw [h4, h5]
theorem put_cell (a : Arr) (d r : Nat) (t : List El) (e s : Nat) (hg : a.gone e s = false) : (a.put d r t).cell e s = if e = d ∧ s = r then t else a.cell e s := by
  unfold put
  split
  · rename_i q
    rw [if_neg]
    rintro ⟨rfl, rfl⟩
    rw [hg] at q
    cases q
  · rfl
theorem put_ok {a : Arr} (h : a.ok) (d r : Nat) {t : List El} (ht : t.length = a.size) : (a.put d r t).ok := by
  unfold put
  split
  · exact h
  · refine ⟨h.1, h.2.1, h.2.2.1, fun e s he hs => ?_, h.2.2.2.2⟩
    show (if _ then _ else _ : List El).length = a.size
    split
    · exact ht
    · exact h.2.2.2.1 e s he hs
/-- what is healed of what is not lost is what is there -/
theorem heal_left {a : Arr} (h : a.ok) {r : Nat} (hr : r < a.rows) (h2 : a.nl r ≤ 2) (hex : ∃ D, Healed (a.n - 2) a.size (mx (a.part r)) (a.lo r) D) {j : Nat} (hj : j < a.n - 2) (hl : a.lo r j = false) : a.heal r j = a.cell (ord a.n r j) r := by
  obtain ⟨D, hD⟩ := hex
  rw [← Arr.heal_is h hr h2 hD, pqp_data hj]
  have e : a.part r j = a.cell (ord a.n r j) r := by unfold part; rw [hl, if_neg Bool.false_ne_true]
  rw [row_congr (g := fun l => co (a.part r j) l) (fun l hl' => hD.there j hj hl l hl'), ← part_len h hr hl, e]
  exact row_co _
end Arr
theorem PA.congr {w : World} {x : PAd} {a a' : Arr} {N : Nat} (h : PA w x a N) (hn : a'.n = a.n) (hr : a'.rows = a.rows) (hs : a'.size = a.size) (hf : a'.failed = a.failed) (hb : a'.built = a.built)
    (hc : ∀ e r, e < a.n → r < a.rows → a.gone e r = false → a'.cell e r = a.cell e r) : PA w x a' N := by
  obtain ⟨n', r', s', c', f', b'⟩ := a'
  dsimp only at hn hr hs hf hb hc
  subst hn; subst hr; subst hs; subst hf; subst hb
  refine ⟨h.me.congr (fun i _ => rfl), h.mem, h.one, fun e he => ?_, h.apart⟩
  obtain ⟨D, h1, h2⟩ := h.dsk e he
  exact ⟨D, h1, h2.rows, h2.size, h2.failed, h2.writes, fun r hr hg => (h2.row r hr hg).trans (hc e r he hr hg).symm⟩
theorem PAd.F_congr {x : PAd} {n m : Nat} (h : n = m) : x.F n = x.F m := by rw [h]
set_option maxRecDepth 100000 in
set_option maxHeartbeats 1000000 in
theorem pm_write {w : World} {x : PAd} {a : Arr} {N : Nat} (h : PA w x a N) (ho : a.ok) (hN : N < 1000000) {d r : Nat} (hd : d < a.n) (hr : r < a.rows) (t : List El) (ht : t.length = a.size) :
    Calls Tryz.prog 43 #[.pointer (some ⟨x.m d, 0, none⟩), .int .i64 r, st t] w fun e w' => e = .returned .nilIface ∧ PA w' x (a.put d r t) (N + 1) ∧ But (x.F a.n) w w' := by
  have L := pa_lost h hd r
  have m0 := h.m0 d hd
  cases hg : a.gone d r with
  | true =>
    have HP : Hid (PA w x (a.put d r t) (N + 1)) := by
      have e : a.put d r t = a := if_pos hg
      rw [e]
      exact h.more (by omega)
    rw [hg] at L
    clear h ho hg
    generalize a.put d r t = a' at *
    go_enter Tryz.func43, Tryz.ntmps43
    go_wp2_with fail
    refine L.mono ?_
    rintro e w1 ⟨rfl, hw⟩
    obtain rfl := hw.symm
    clear L m0
    go_wp2
    go_ret
    exact ⟨rfl, HP.out, But.refl _ _⟩
  | false =>
    obtain ⟨D, h1, h2⟩ := h.dsk d hd
    have hk := h2.ok ho
    have W := dwrite h1 hk (by have := h2.writes; omega) (r : Int) t
    have hre := (read_row h2 hr hg).1
    have hwe : D.writeE (r : Int) t.length = 0 := by
      unfold Dsk.writeE
      rw [if_pos hre, if_pos (by rw [h2.size]; exact ht)]
    rw [hwe, errV, if_pos rfl] at W
    have HF : Hid (∀ w1, IsD w1 (x.k d) (D.write (r : Int) t) → But (· = x.k d) w w1 → PA w1 x (a.put d r t) (N + 1) ∧ But (x.F a.n) w w1) := fun w1 hD hb => by
      obtain ⟨s1, s2, s3, s4, s5⟩ := Arr.put_same a d r t
      refine ⟨h.put hd hD hb s1 s2 s3 (fun e _ => by rw [s5]) (by omega) ⟨by rw [write_rows, s2]; exact h2.rows, by rw [write_size, s3]; exact h2.size, by rw [write_failed, s4]; exact h2.failed, Nat.le_trans (write_writes_le _ _ _) (by have := h2.writes; omega), fun s hs hgs => ?_⟩ (fun e _ _ => by rw [s4]) (fun e s _ he _ hgs => ?_), PA.butk hd hb⟩
      · rw [Arr.put_gone] at hgs
        rw [s2] at hs
        rw [write_row D hk (r : Int) t hwe, Arr.put_cell _ _ _ _ _ _ hgs, Int.toNat_natCast]
        by_cases q : s = r
        · rw [if_pos q, if_pos ⟨rfl, q⟩]
        · rw [if_neg q, if_neg (fun z => q z.2), h2.row s hs hgs]
      · rw [Arr.put_cell _ _ _ _ _ _ hgs, if_neg (fun z => he z.1)]
    rw [hg] at L
    clear h ho hg h1 h2 hk hre hwe
    generalize a.put d r t = a' at *
    generalize D.write (r : Int) t = D' at *
    go_enter Tryz.func43, Tryz.ntmps43
    go_wp2_with fail
    refine L.mono ?_
    rintro e w1 ⟨rfl, hw⟩
    obtain rfl := hw.symm
    clear L
    go_wp2_with fail
    refine W.mono ?_
    rintro e w1 ⟨rfl, hD, hb⟩
    have HX : Hid _ := HF.out w1 hD hb
    clear W m0 HF
    go_wp2
    go_ret
    exact ⟨rfl, HX.out⟩
/-- which three of a row are written: the block, P, Q -/
def w3 (i k j : Nat) : Nat := if j = 0 then i else if j = 1 then k else k + 1
theorem w3_lt {i k j : Nat} (h : i < k + 2) : w3 i k j < k + 2 := by
  unfold w3
  split
  · omega
  · split <;> omega
/-- the first j of them are written -/
noncomputable def Arr.puts (a : Arr) (r i : Nat) (x : List El) : Nat → Arr
  | 0 => a
  | j + 1 => (a.puts r i x j).put (ord a.n r (w3 i (a.n - 2) j)) r (a.newP r i x (w3 i (a.n - 2) j))
namespace Arr
theorem puts_same (a : Arr) (r i : Nat) (x : List El) : ∀ j, (a.puts r i x j).n = a.n ∧ (a.puts r i x j).rows = a.rows ∧ (a.puts r i x j).size = a.size ∧ (a.puts r i x j).failed = a.failed ∧ (a.puts r i x j).built = a.built
  | 0 => ⟨rfl, rfl, rfl, rfl, rfl⟩
  | j + 1 => by
    obtain ⟨h1, h2, h3, h4, h5⟩ := puts_same a r i x j
    obtain ⟨g1, g2, g3, g4, g5⟩ := put_same (a.puts r i x j) (ord a.n r (w3 i (a.n - 2) j)) r (a.newP r i x (w3 i (a.n - 2) j))
    exact ⟨g1.trans h1, g2.trans h2, g3.trans h3, g4.trans h4, g5.trans h5⟩
theorem puts_gone (a : Arr) (r i : Nat) (x : List El) (j e s : Nat) : (a.puts r i x j).gone e s = a.gone e s := by
  obtain ⟨_, _, _, h4, h5⟩ := puts_same a r i x j
  unfold gone
  rw [h4, h5]
theorem puts_ok {a : Arr} (h : a.ok) (r i : Nat) (x : List El) : ∀ j, (a.puts r i x j).ok
  | 0 => h
  | j + 1 => put_ok (puts_ok h r i x j) _ _ (by rw [(puts_same a r i x j).2.2.1]; exact newP_len _ _ _ _ _)
theorem puts_cell (a : Arr) (r i : Nat) (x : List El) (e s : Nat) (hg : a.gone e s = false) : (a.puts r i x 3).cell e s =
    if e = ord a.n r (a.n - 2 + 1) ∧ s = r then a.newP r i x (a.n - 2 + 1) else if e = ord a.n r (a.n - 2) ∧ s = r then a.newP r i x (a.n - 2) else if e = ord a.n r i ∧ s = r then a.newP r i x i else a.cell e s := by
  show (((a.put _ r _).put _ r _).put _ r _).cell e s = _
  rw [put_cell _ _ _ _ _ _ (by rw [put_gone, put_gone]; exact hg), put_cell _ _ _ _ _ _ (by rw [put_gone]; exact hg), put_cell _ _ _ _ _ _ hg]
  rfl
/-- the three written are the write -/
theorem puts_write {a : Arr} (h : a.ok) {b : Int} {x : List El} (hw : a.writeE b x.length = 0) (hex : ∃ D, Healed (a.n - 2) a.size (mx (a.part (a.rw' b))) (a.lo (a.rw' b)) D) (e s : Nat) (he : e < a.n) (hg : a.gone e s = false) :
    (a.write b x).cell e s = (a.puts (a.rw' b) (a.ix' b) x 3).cell e s := by
  have hb : ¬ a.noB b := fun q => by unfold writeE at hw; rw [if_pos q] at hw; omega
  have hx : x.length = a.size := by
    unfold writeE at hw
    rw [if_neg hb] at hw
    split at hw
    · assumption
    · omega
  have h2 : a.nl (a.rw' b) ≤ 2 := by
    unfold writeE at hw
    rw [if_neg hb, if_pos hx] at hw
    split at hw <;> omega
  obtain ⟨hr, hi, _, _, _⟩ := Keep.block_of h hb
  have h1 := h.1
  rw [puts_cell _ _ _ _ _ _ hg]
  unfold write
  rw [if_pos hw]
  show (if s = a.rw' b ∧ e < a.n ∧ a.gone e s = false then a.newP (a.rw' b) (a.ix' b) x (pos a.n s e) else a.cell e s) = _
  by_cases q : s = a.rw' b
  · subst q
    rw [if_pos ⟨rfl, he, hg⟩]
    have hp := pos_lt (r := a.rw' b) (d := e) h1.1
    have hop := ord_pos (r := a.rw' b) h1.1 h1.2 he
    generalize hpp : pos a.n (a.rw' b) e = p at *
    by_cases q1 : p = a.n - 2 + 1
    · subst q1
      rw [if_pos ⟨hop.symm, rfl⟩]
    · have n1 : ¬ (e = ord a.n (a.rw' b) (a.n - 2 + 1) ∧ a.rw' b = a.rw' b) := fun z => q1 (ord_inj h1.1 h1.2 hp (by omega) (hop.trans z.1))
      rw [if_neg n1]
      by_cases q2 : p = a.n - 2
      · subst q2
        rw [if_pos ⟨hop.symm, rfl⟩]
      · have n2 : ¬ (e = ord a.n (a.rw' b) (a.n - 2) ∧ a.rw' b = a.rw' b) := fun z => q2 (ord_inj h1.1 h1.2 hp (by omega) (hop.trans z.1))
        rw [if_neg n2]
        by_cases q3 : p = a.ix' b
        · subst q3
          rw [if_pos ⟨hop.symm, rfl⟩]
        · have n3 : ¬ (e = ord a.n (a.rw' b) (a.ix' b) ∧ a.rw' b = a.rw' b) := fun z => q3 (ord_inj h1.1 h1.2 hp (by omega) (hop.trans z.1))
          rw [if_neg n3]
          have hl : a.lo (a.rw' b) p = false := by unfold lo; rw [hop]; exact hg
          have := heal_left h hr h2 hex (j := p) (by omega) hl
          rw [hop] at this
          rw [← this]
          unfold newP
          rw [pqp_data (by omega)]
          have e2 : mx (up (a.heal (a.rw' b)) (a.ix' b) x) p = fun l => co (a.heal (a.rw' b) p) l := by
            funext l
            show co (up (a.heal (a.rw' b)) (a.ix' b) x p) l = _
            rw [up_ne _ _ q3]
          rw [e2]
          have := row_co (a.heal (a.rw' b) p)
          rw [heal_len] at this
          exact this
  · rw [if_neg (fun z => q z.1), if_neg (fun z => q z.2), if_neg (fun z => q z.2), if_neg (fun z => q z.2)]
end Arr
end Go.Proofs.YtilfjahbdlepjaaGreatDoor

/- A new array: a walk over the program. -/
namespace Go.Proofs.YtilfjahbdlepjaaGreatDoor
open Go.RowKit El Pol Mx Lay
theorem infoM : (Tryz.prog.info? 72).map (fun i => (i.zero, i.size, i.bytes)) = some (some (.pointer none), 1, 8) := by kernel_rfl
/-- where its parts come to stand -/
def newAt (B n : Nat) : PAd := ⟨B + 1 + 2 * n, B, fun d => B + 2 + 2 * d, fun d => B + 1 + 2 * d⟩
theorem newAt_apart (B n : Nat) : (newAt B n).Apart n := by
  refine ⟨?_, fun d hd => ?_, fun d _ => ?_, fun d hd => ?_, fun d _ => ?_, fun d e _ _ => ?_, fun d e _ _ h => ?_, fun d e _ _ h => ?_⟩ <;> unfold newAt at * <;> dsimp only at * <;> omega
theorem newAt_low (B n : Nat) : ∀ i, (newAt B n).F n i → B ≤ i := by
  rintro i (h | h | ⟨d, _, h⟩ | ⟨d, _, h⟩) <;> unfold newAt at h <;> dsimp only at h <;> omega
/-- the first k members are made -/
structure NewS (w : World) (n rows size k : Nat) (wr : World) : Prop where
  low : Below w.heap.size w wr
  sz : wr.heap.size = w.heap.size + 1 + 2 * k
  row : RowAt wr w.heap.size n (fun d => if d < k then .pointer (some ⟨w.heap.size + 2 + 2 * d, 0, none⟩) else .pointer none)
  one : ∀ d, d < k → RowAt wr (w.heap.size + 2 + 2 * d) 2 (pmF (w.heap.size + 1 + 2 * d) rows)
  dsk : ∀ d, d < k → IsD wr (w.heap.size + 1 + 2 * d) (Dsk.fresh rows size)
theorem NewS.start (w : World) (n rows size : Nat) (T : TypeId) : NewS w n rows size 0 (w.alloc (.cells (Array.replicate n (Value.pointer none)) T)) :=
  ⟨al_below w _, by simp, (RowAt.new w n (.pointer none) T).congr (fun d _ => by rw [if_neg (by omega)]), fun d hd => absurd hd (Nat.not_lt_zero _), fun d hd => absurd hd (Nat.not_lt_zero _)⟩
theorem row_two (w : World) (k r : Nat) (T : TypeId) : RowAt (w.alloc (.cells #[.pointer (some ⟨k, 0, none⟩), .int .i64 r] T)) w.heap.size 2 (pmF k r) := by
  refine ⟨by simp, fun i hi => ⟨?_, frozen_of_row _ _ _ _ _ (heap_alloc_new w _)⟩⟩
  rw [cell_of_row _ _ i _ _ _ (heap_alloc_new w _)]
  have : i = 0 ∨ i = 1 := by omega
  rcases this with rfl | rfl <;> rfl
theorem NewS.next {w wr : World} {n rows size k : Nat} (h : NewS w n rows size k wr) (T : TypeId) :
    NewS w n rows size (k + 1) (((wr.alloc (.cells (Dsk.fresh rows size).cells.toArray 110)).alloc (.cells #[.pointer (some ⟨wr.heap.size, 0, none⟩), .int .i64 rows] T)).setCell ⟨w.heap.size, k, none⟩ (.pointer (some ⟨wr.heap.size + 1, 0, none⟩))) := by
  have hsz := h.sz
  have b1 := al_below wr (.cells (Dsk.fresh rows size).cells.toArray 110)
  have hD : IsD (wr.alloc (.cells (Dsk.fresh rows size).cells.toArray 110)) wr.heap.size (Dsk.fresh rows size) := heap_alloc_new wr _
  have s1 : (wr.alloc (.cells (Dsk.fresh rows size).cells.toArray 110)).heap.size = wr.heap.size + 1 := by simp
  generalize wr.alloc (.cells (Dsk.fresh rows size).cells.toArray 110) = w1 at *
  have b2 := al_below w1 (.cells #[.pointer (some ⟨wr.heap.size, 0, none⟩), .int .i64 rows] T)
  have hM := row_two w1 wr.heap.size rows T
  rw [s1] at hM
  have s2 : (w1.alloc (.cells #[.pointer (some ⟨wr.heap.size, 0, none⟩), .int .i64 rows] T)).heap.size = wr.heap.size + 2 := by simp [s1]
  generalize w1.alloc (.cells #[.pointer (some ⟨wr.heap.size, 0, none⟩), .int .i64 rows] T) = w2 at *
  have b3 : But (· = w.heap.size) w2 (w2.setCell ⟨w.heap.size, k, none⟩ (.pointer (some ⟨wr.heap.size + 1, 0, none⟩))) := but_cell w2 w.heap.size k _
  have bb := b1.trans (b2.mono b1.size)
  have hrow := (h.row.old bb).put k (.pointer (some ⟨wr.heap.size + 1, 0, none⟩))
  refine ⟨(h.low.trans (bb.mono h.low.size)).trans (hrow.2.mono (Nat.le_refl _)), by simp [s2, hsz]; omega, hrow.1.congr (fun d _ => ?_), fun d hd => ?_, fun d hd => ?_⟩
  · by_cases e : d = k
    · subst e
      rw [up_at, if_pos (by omega), hsz, show w.heap.size + 1 + 2 * d + 1 = w.heap.size + 2 + 2 * d by omega]
    · rw [up_ne _ _ e]
      by_cases q : d < k
      · rw [if_pos q, if_pos (by omega)]
      · rw [if_neg q, if_neg (by omega)]
  · by_cases e : d = k
    · subst e
      rw [hsz] at hM
      rw [show w.heap.size + 2 + 2 * d = w.heap.size + 1 + 2 * d + 1 by omega]
      exact hM.but b3 (by omega)
    · exact ((h.one d (by omega)).old bb).but b3 (by omega)
  · by_cases e : d = k
    · subst e
      rw [hsz] at hD
      exact (hD.old b2).but b3 (by omega)
    · exact ((h.dsk d (by omega)).old bb).but b3 (by omega)
theorem NewS.done {w wr : World} {n rows size : Nat} (h : NewS w n rows size n wr) (T : TypeId) :
    PA (wr.alloc (.cells #[.int .i64 rows, .int .i64 size, .slice (some ⟨w.heap.size, 0, none⟩) n n] T)) (newAt w.heap.size n) (Arr.fresh n rows size) 0 ∧ Below w.heap.size w (wr.alloc (.cells #[.int .i64 rows, .int .i64 size, .slice (some ⟨w.heap.size, 0, none⟩) n n] T)) := by
  have al := al_below wr (.cells #[.int .i64 rows, .int .i64 size, .slice (some ⟨w.heap.size, 0, none⟩) n n] T)
  refine ⟨⟨?_, (h.row.old al).congr (fun d hd => by rw [if_pos hd]; rfl), fun d hd => (h.one d hd).old al, fun d hd => ⟨Dsk.fresh rows size, (h.dsk d hd).old al, rfl, rfl, rfl, Nat.le_refl _, fun r hr _ => ?_⟩, newAt_apart _ _⟩, h.low.trans (al.mono h.low.size)⟩
  · show RowAt _ (w.heap.size + 1 + 2 * n) 3 _
    rw [← h.sz]
    refine ⟨by simp, fun i hi => ⟨?_, frozen_of_row _ _ _ _ _ (heap_alloc_new wr _)⟩⟩
    rw [cell_of_row _ _ i _ _ _ (heap_alloc_new wr _)]
    have : i = 0 ∨ i = 1 ∨ i = 2 := by omega
    rcases this with rfl | rfl | rfl <;> rfl
  · show (List.range size).map (fun _ => (0 : El)) = List.replicate size 0
    rw [List.map_const', List.length_range]
/-- what is wrong with the numbers of a new array -/
def abad (n rows size : Int) : Nat := if lbad n ≠ 0 ∨ newE rows size ≠ 0 then 1 else 0
set_option maxRecDepth 100000 in
set_option maxHeartbeats 1000000 in
theorem pa_new_ok (n rows size : Nat) (h1 : 3 ≤ n ∧ n ≤ 10) (h2 : 1 ≤ rows ∧ rows ≤ 20) (h3 : 1 ≤ size ∧ size ≤ 16) (w : World) :
    Calls Tryz.prog 6 #[.int .i64 n, .int .i64 rows, .int .i64 size] w fun e w' => e = .returned (.tuple #[.pointer (some ⟨(newAt w.heap.size n).p, 0, none⟩), .nilIface]) ∧ PA w' (newAt w.heap.size n) (Arr.fresh n rows size) 0 ∧ Below w.heap.size w w' := by
  have C := lcheck_any (n : Int) w
  rw [lbad_of (by omega) (by omega), errV, if_pos rfl] at C
  obtain ⟨i0, hi, hz0, hz1, hz2⟩ := info_parts infoM
  have hmk : ∀ W : World, (Instr.makeSlice 68 (.int .i64 (n : Int)) (.int .i64 (n : Int))).run Tryz.prog W = .ok (.slice (some ⟨W.heap.size, 0, none⟩) n n) (W.alloc (.cells (Array.replicate n (Value.pointer none)) 72)) := fun W => by
    have := run_make (P := Tryz.prog) W 68 72 i0 (.pointer none) Tryz.underlying68 hi hz0 .i64 .i64 (n : Int) (n : Int) (by omega) (by omega) (by rw [hz2]; omega) (by omega)
    rw [this, hz1, Int.toNat_natCast, Nat.mul_one]
    simp [Value.cells, made_one]
  have HD : Hid (∀ W, _) := fun W => dnew_ok rows size h2 h3 W
  have HS0 : Hid (NewS w n rows size 0 (w.alloc (.cells (Array.replicate n (Value.pointer none)) 72))) := NewS.start w n rows size _
  have HDone : Hid (∀ wr, NewS w n rows size n wr → _) := fun wr h => NewS.done h 76
  have hP : (newAt w.heap.size n).p = w.heap.size + 1 + 2 * n := rfl
  rw [hP]
  generalize newAt w.heap.size n = X at *
  generalize Arr.fresh n rows size = A at *
  obtain ⟨Z, hZ⟩ : ∃ Z, Z = Array.replicate n (Value.pointer none) := ⟨_, rfl⟩
  rw [← hZ] at hmk HS0
  obtain ⟨hn1, hn2⟩ := h1
  clear hZ hP h2 h3
  go_enter Tryz.func6, Tryz.ntmps6
  go_wp2_with fail
  refine C.mono ?_
  rintro e w1 ⟨rfl, hw⟩
  obtain rfl := hw.symm
  clear C
  go_wp2
  go_loopw [22] (fun t wr => ∃ k : Nat, k ≤ n ∧ t = .int .i64 k ∧ NewS w n rows size k wr) (fun t _ => n - (intOf t).toNat)
  case atStart => exact ⟨0, Nat.zero_le _, rfl, HS0.out⟩
  case round =>
    clear HS0 hmk
    obtain ⟨k, hk, rfl, hS⟩ := hrel
    by_cases hlt : k < n
    · have D := HD.out wr
      have hlt' : (k : Int) < (n : Int) := by omega
      have HN : Hid (NewS w n rows size (k + 1) _) := hS.next 74
      have hrow := fun o o' => (((hS.row.old (al_below wr o)).old (al_below _ o')).2 k hlt)
      have r1 := fun o o' => (hrow o o').1
      have r2 := fun o o' => (hrow o o').2
      clear hrow hS HD
      go_wp2_with fail
      refine D.mono ?_
      rintro e w2 ⟨rfl, hw2⟩
      subst hw2
      clear D
      go_wp2
      go_roundw
      case rel => exact ⟨k + 1, by omega, by go_num, HN.out⟩
      case measure => simp [intOf]; omega
    · have e : k = n := by omega
      subst e
      have hsz : wr.heap.size = w.heap.size + 1 + 2 * k := hS.sz
      have HF : Hid _ := HDone.out wr hS
      clear hS
      go_wp2
      go_ret2
      exact ⟨by rw [← hsz]; rfl, HF.out⟩
set_option maxRecDepth 100000 in
set_option maxHeartbeats 1000000 in
theorem pa_new_bad (n rows size : Int) (h : abad n rows size ≠ 0) (w : World) :
    Calls Tryz.prog 6 #[.int .i64 n, .int .i64 rows, .int .i64 size] w fun e w' => e = .returned (.tuple #[.pointer none, errV 1]) ∧ Below w.heap.size w w' := by
  have C := lcheck_any n w
  by_cases h1 : lbad n = 0
  · obtain ⟨hn1, hn2⟩ := lbad_ok h1
    rw [h1, errV, if_pos rfl] at C
    have h2 : rows < 1 ∨ 20 < rows ∨ size < 1 ∨ 16 < size := by
      unfold abad at h
      split at h
      · rename_i q
        rcases q with q | q
        · exact absurd h1 q
        · unfold newE at q
          split at q
          · assumption
          · exact absurd rfl q
      · exact absurd rfl h
    obtain ⟨m, rfl⟩ : ∃ m : Nat, n = m := ⟨n.toNat, by omega⟩
    have D := dnew_bad rows size h2
    obtain ⟨i0, hi, hz0, hz1, hz2⟩ := info_parts infoM
    have hmk : ∀ W : World, (Instr.makeSlice 68 (.int .i64 (m : Int)) (.int .i64 (m : Int))).run Tryz.prog W = .ok (.slice (some ⟨W.heap.size, 0, none⟩) m m) (W.alloc (.cells (Array.replicate m (Value.pointer none)) 72)) := fun W => by
      have := run_make (P := Tryz.prog) W 68 72 i0 (.pointer none) Tryz.underlying68 hi hz0 .i64 .i64 (m : Int) (m : Int) (by omega) (by omega) (by rw [hz2]; omega) (by omega)
      rw [this, hz1, Int.toNat_natCast, Nat.mul_one]
      simp [Value.cells, made_one]
    rw [errV, if_neg (by omega)] at D
    clear h h1 h2
    generalize Array.replicate m (Value.pointer none) = Z at *
    go_enter Tryz.func6, Tryz.ntmps6
    go_wp2_with fail
    refine C.mono ?_
    rintro e w1 ⟨rfl, hw⟩
    obtain rfl := hw.symm
    clear C
    go_wp2
    refine wp_loop_rounds 1 ?_
    rw [rounds_succ]
    have hm0 : (0 : Int) < (m : Int) := by omega
    go_wp2_with fail
    refine (D _).mono ?_
    rintro e w2 ⟨rfl, hw⟩
    obtain rfl := hw.symm
    clear D
    go_wp2
    go_ret2
    exact ⟨rfl, by first | exact Below.refl _ _ | exact al_below _ _⟩
  · rw [show lbad n = 1 by unfold lbad at h1 ⊢; split at h1 <;> simp_all, errV, if_neg (by omega)] at C
    clear h h1
    go_enter Tryz.func6, Tryz.ntmps6
    go_wp2_with fail
    refine C.mono ?_
    rintro e w1 ⟨rfl, hw⟩
    obtain rfl := hw.symm
    clear C
    go_wp2
    go_ret2
    exact ⟨rfl, by first | exact Below.refl _ _ | exact al_below _ _⟩
end Go.Proofs.YtilfjahbdlepjaaGreatDoor

/- A cell of the program's array is another one: a walk over the program. -/
namespace Go.Proofs.YtilfjahbdlepjaaGreatDoor
open Go.RowKit El Pol Mx Lay
set_option maxRecDepth 100000 in
set_option maxHeartbeats 1000000 in
theorem pa_poke {w : World} {x : PAd} {a : Arr} {N : Nat} (h : PA w x a N) (ho : a.ok) (hN : N < 900000) (d r : Int) (t : List El) :
    Calls Tryz.prog 19 #[.pointer (some ⟨x.p, 0, none⟩), .int .i64 d, .int .i64 r, st t] w fun e w' => e = .returned (errV (a.pokeE d r t.length)) ∧ PA w' x (a.poke d r t) (N + 1) ∧ But (x.F a.n) w w' := by
  have ND := pa_noD h d
  have NR := pa_noR h r
  have HP : Hid (PA w x a (N + 1)) := h.more (by omega)
  have c1 := h.c1
  have hsl : (sb t).size = t.length := sb_size t
  by_cases q1 : a.noD d
  · have e1 : a.pokeE d r t.length = 1 := if_pos (.inl q1)
    have e2 : a.poke d r t = a := by unfold Arr.poke; rw [e1, if_neg (by omega)]
    rw [e1, e2]
    rw [decide_eq_true q1] at ND
    clear h e1 e2 q1
    go_enter Tryz.func19, Tryz.ntmps19
    go_wp2_with fail
    refine ND.mono ?_
    rintro e w1 ⟨rfl, hw⟩
    obtain rfl := hw.symm
    clear ND
    go_wp2
    go_ret
    exact ⟨rfl, HP.out, But.refl _ _⟩
  · by_cases q2 : a.noR r
    · have e1 : a.pokeE d r t.length = 1 := if_pos (.inr q2)
      have e2 : a.poke d r t = a := by unfold Arr.poke; rw [e1, if_neg (by omega)]
      rw [e1, e2]
      rw [decide_eq_false q1] at ND
      rw [decide_eq_true q2] at NR
      clear h e1 e2 q1 q2
      go_enter Tryz.func19, Tryz.ntmps19
      go_wp2_with fail
      refine ND.mono ?_
      rintro e w1 ⟨rfl, hw⟩
      obtain rfl := hw.symm
      clear ND
      go_wp2_with fail
      refine NR.mono ?_
      rintro e w1 ⟨rfl, hw⟩
      obtain rfl := hw.symm
      clear NR
      go_wp2
      go_ret
      exact ⟨rfl, HP.out, But.refl _ _⟩
    · rw [decide_eq_false q1] at ND
      rw [decide_eq_false q2] at NR
      have q : ¬ (a.noD d ∨ a.noR r) := fun z => z.elim q1 q2
      obtain ⟨k, rfl, hk⟩ := Arr.noD_nat q1
      obtain ⟨s, rfl, hs⟩ := Arr.noR_nat q2
      have hkn : (k : Int) < (a.n : Int) := by omega
      by_cases hx : t.length = a.size
      · have L := pa_lost h hk s
        have c2 := h.c2
        have cm := h.cm k hk
        have m0 := h.m0 k hk
        have hE : a.pokeE (k : Int) (s : Int) t.length = if a.gone k s = true then 6 else 0 := by unfold Arr.pokeE; rw [if_neg q, if_pos hx, Int.toNat_natCast, Int.toNat_natCast]
        have hsl2 : (sb t).size = a.size := by rw [hsl, hx]
        cases hg : a.gone k s with
        | true =>
          rw [hg, if_pos rfl] at hE
          have e2 : a.poke (k : Int) (s : Int) t = a := by unfold Arr.poke; rw [hE, if_neg (by omega)]
          rw [hE, e2]
          rw [hg] at L
          clear h q hE e2 hx hsl hg q1 q2
          go_enter Tryz.func19, Tryz.ntmps19
          go_wp2_with fail
          refine ND.mono ?_
          rintro e w1 ⟨rfl, hw⟩
          obtain rfl := hw.symm
          clear ND
          go_wp2_with fail
          refine NR.mono ?_
          rintro e w1 ⟨rfl, hw⟩
          obtain rfl := hw.symm
          clear NR
          go_wp2_with fail
          refine L.mono ?_
          rintro e w1 ⟨rfl, hw⟩
          obtain rfl := hw.symm
          clear L
          go_wp2
          go_ret
          exact ⟨rfl, HP.out, But.refl _ _⟩
        | false =>
          rw [hg, if_neg Bool.false_ne_true] at hE
          have e2 : a.poke (k : Int) (s : Int) t = { a with cell := fun e r => if e = k ∧ r = s then t else a.cell e r } := by unfold Arr.poke; rw [hE, if_pos rfl, Int.toNat_natCast, Int.toNat_natCast]
          have e3 : a.put k s t = { a with cell := fun e r => if e = k ∧ r = s then t else a.cell e r } := by unfold Arr.put; rw [if_neg (by rw [hg]; exact Bool.false_ne_true)]
          rw [hE, e2, ← e3]
          rw [hg] at L
          obtain ⟨D, h1, h2⟩ := h.dsk k hk
          have hk2 := h2.ok ho
          have W := dwrite h1 hk2 (by have := h2.writes; omega) (s : Int) t
          have hre := (read_row h2 hs hg).1
          have hwe : D.writeE (s : Int) t.length = 0 := by
            unfold Dsk.writeE
            rw [if_pos hre, if_pos (by rw [h2.size]; exact hx)]
          rw [hwe, errV, if_pos rfl] at W
          have HF : Hid (∀ w1, IsD w1 (x.k k) (D.write (s : Int) t) → But (· = x.k k) w w1 → PA w1 x (a.put k s t) (N + 1) ∧ But (x.F a.n) w w1) := fun w1 hD hb => by
            obtain ⟨s1, s2, s3, s4, s5⟩ := Arr.put_same a k s t
            refine ⟨h.put hk hD hb s1 s2 s3 (fun e _ => by rw [s5]) (by omega) ⟨by rw [write_rows, s2]; exact h2.rows, by rw [write_size, s3]; exact h2.size, by rw [write_failed, s4]; exact h2.failed, Nat.le_trans (write_writes_le _ _ _) (by have := h2.writes; omega), fun s' hs' hgs => ?_⟩ (fun e _ _ => by rw [s4]) (fun e s' _ he _ hgs => ?_), PA.butk hk hb⟩
            · rw [Arr.put_gone] at hgs
              rw [s2] at hs'
              rw [write_row D hk2 (s : Int) t hwe, Arr.put_cell _ _ _ _ _ _ hgs, Int.toNat_natCast]
              by_cases z : s' = s
              · rw [if_pos z, if_pos ⟨rfl, z⟩]
              · rw [if_neg z, if_neg (fun z2 => z z2.2), h2.row s' hs' hgs]
            · rw [Arr.put_cell _ _ _ _ _ _ hgs, if_neg (fun z => he z.1)]
          clear h q hE e2 e3 hx hsl hg q1 q2 h1 h2 hk2 hre hwe HP
          generalize a.put k s t = a' at *
          generalize D.write (s : Int) t = D' at *
          go_enter Tryz.func19, Tryz.ntmps19
          go_wp2_with fail
          refine ND.mono ?_
          rintro e w1 ⟨rfl, hw⟩
          obtain rfl := hw.symm
          clear ND
          go_wp2_with fail
          refine NR.mono ?_
          rintro e w1 ⟨rfl, hw⟩
          obtain rfl := hw.symm
          clear NR
          go_wp2_with fail
          refine L.mono ?_
          rintro e w1 ⟨rfl, hw⟩
          obtain rfl := hw.symm
          clear L
          go_wp2_with fail
          refine W.mono ?_
          rintro e w1 ⟨rfl, hD, hb⟩
          have HX : Hid _ := HF.out w1 hD hb
          clear W HF hD hb c1 c2 cm m0
          go_wp2
          go_ret
          exact ⟨rfl, HX.out⟩
      · have hE : a.pokeE (k : Int) (s : Int) t.length = 3 := by unfold Arr.pokeE; rw [if_neg q, if_neg hx]
        have e2 : a.poke (k : Int) (s : Int) t = a := by unfold Arr.poke; rw [hE, if_neg (by omega)]
        rw [hE, e2]
        have hne : ¬ ((t.length : Nat) : Int) = (a.size : Int) := by omega
        clear h q hE e2 hx q1 q2
        generalize t.length = tl at *
        go_enter Tryz.func19, Tryz.ntmps19
        go_wp2_with fail
        refine ND.mono ?_
        rintro e w1 ⟨rfl, hw⟩
        obtain rfl := hw.symm
        clear ND
        go_wp2_with fail
        refine NR.mono ?_
        rintro e w1 ⟨rfl, hw⟩
        obtain rfl := hw.symm
        clear NR
        go_wp2
        go_ret
        exact ⟨rfl, HP.out, But.refl _ _⟩
end Go.Proofs.YtilfjahbdlepjaaGreatDoor

/- An array in a law: what a call leaves of it. -/
namespace Go.Proofs.YtilfjahbdlepjaaGreatDoor
open Go.RowKit El Pol Mx Lay
structure AL (w : World) (x : PAd) (a : Arr) (N : Nat) (wr : World) : Prop where
  low : Below w.heap.size w wr
  pa : PA wr x a N
  out : ∀ i, x.F a.n i → w.heap.size ≤ i
namespace AL
variable {w wr w' : World} {x : PAd} {a a' : Arr} {N M : Nat}
theorem old (h : AL w x a N wr) (hb : Below wr.heap.size wr w') : AL w x a N w' := ⟨h.low.trans (hb.mono h.low.size), h.pa.old hb, h.out⟩
theorem next (h : AL w x a N wr) (hp : PA w' x a' M) (hb : But (x.F a.n) wr w') (hn : a'.n = a.n) : AL w x a' M w' :=
  ⟨h.low.trans (hb.below h.low.size h.out), hp, by rw [hn]; exact h.out⟩
theorem new {n rows size : Nat} (hp : PA w' (newAt w.heap.size n) (Arr.fresh n rows size) 0) (hb : Below w.heap.size w w') : AL w (newAt w.heap.size n) (Arr.fresh n rows size) 0 w' := ⟨hb, hp, newAt_low _ _⟩
theorem newIn {n rows size : Nat} {w0 : World} (h0 : Below w0.heap.size w0 w) (hp : PA w' (newAt w.heap.size n) (Arr.fresh n rows size) 0) (hb : Below w.heap.size w w') : AL w0 (newAt w.heap.size n) (Arr.fresh n rows size) 0 w' :=
  ⟨h0.trans (hb.mono h0.size), hp, fun i hi => Nat.le_trans h0.size (newAt_low _ _ i hi)⟩
theorem grown (h : AL w x a N wr) {r : Option Nat} (hg : wr.grownBy w' r) (hr : ∀ k, r = some k → w.heap.size ≤ k ∧ ¬ x.F a.n k) : AL w x a N w' := by
  have hb : But (fun k => r = some k) wr w' := But.grown hg (fun k hk => hk)
  exact ⟨h.low.trans (hb.below h.low.size (fun k hk => (hr k hk).1)), h.pa.but hb (fun k hk e => (hr k e).2 hk), h.out⟩
theorem drewN (h : AL w x a N wr) (n : Nat) : AL w x a N (wr.drewN n) := h.old (below_drewN (Below.refl _ _) n)
end AL
theorem abad_ok {n rows size : Int} (h : abad n rows size = 0) : (3 ≤ n ∧ n ≤ 10) ∧ (1 ≤ rows ∧ rows ≤ 20) ∧ 1 ≤ size ∧ size ≤ 16 := by
  unfold abad at h
  split at h
  · omega
  · rename_i z
    have z1 : lbad n = 0 := by
      rcases Nat.eq_zero_or_pos (lbad n) with q | q
      · exact q
      · exact absurd (.inl (by omega)) z
    have z2 : newE rows size = 0 := by
      rcases Nat.eq_zero_or_pos (newE rows size) with q | q
      · exact q
      · exact absurd (.inr (by omega)) z
    refine ⟨lbad_ok z1, ?_⟩
    unfold newE at z2
    split at z2 <;> omega
namespace Arr
theorem write_n (a : Arr) (b : Int) (t : List El) : (a.write b t).n = a.n := by unfold write; split <;> rfl
theorem rebuild_n (a : Arr) (d : Int) : (a.rebuild d).n = a.n := by unfold rebuild; split <;> rfl
theorem replace_n (a : Arr) (d : Int) : (a.replace d).n = a.n := by unfold replace; split <;> rfl
theorem fail_n (a : Arr) (d : Int) : (a.fail d).n = a.n := (fail_same a d).1
theorem poke_n (a : Arr) (d r : Int) (t : List El) : (a.poke d r t).n = a.n := by unfold poke; split <;> rfl
end Arr
end Go.Proofs.YtilfjahbdlepjaaGreatDoor

/- A block is read: a walk over the program. -/
namespace Go.Proofs.YtilfjahbdlepjaaGreatDoor
open Go.RowKit El Pol Mx Lay
theorem quiet_lost {w : World} {x : PAd} {a : Arr} {N : Nat} (h : PA w x a N) (ho : a.ok) {d r : Nat} (hd : d < a.n) (hr : r < a.rows) (hg : a.gone d r = false) (n : Nat) :
    Calls Tryz.prog 53 #[.pointer (some ⟨x.k d, 0, none⟩), .int .i64 r] (w.drewN n) fun e w' => e = .returned (.tuple #[st (a.cell d r), .nilIface]) ∧ ∃ m, w' = (w.drewN n).drewN m := by
  obtain ⟨D, hD, hDA⟩ := h.dsk d hd
  obtain ⟨e1, e2⟩ := read_row hDA hr hg
  have := dread (hD.drewN n) (hDA.ok ho) (r : Int)
  rw [e1, e2, errV, if_pos rfl] at this
  exact this
namespace Arr
theorem read_no {a : Arr} {b : Int} (h : a.noB b) : a.readE b = 1 ∧ a.readT b = [] := by
  have : a.readE b = 1 := if_pos h
  exact ⟨this, by unfold readT; rw [if_neg (by omega)]⟩
theorem read_left {a : Arr} {b : Int} (h : ¬ a.noB b) (hl : a.lo (a.rw' b) (a.ix' b) = false) : a.readE b = 0 ∧ a.readT b = a.cell (ord a.n (a.rw' b) (a.ix' b)) (a.rw' b) := by
  have : a.readE b = 0 := by unfold readE; rw [if_neg h, if_pos hl]
  refine ⟨this, ?_⟩
  unfold readT part
  rw [if_pos this, if_pos hl, hl, if_neg Bool.false_ne_true]
theorem read_lost {a : Arr} {b : Int} (h : ¬ a.noB b) (hl : a.lo (a.rw' b) (a.ix' b) = true) (h2 : 2 < a.nl (a.rw' b)) : a.readE b = 8 ∧ a.readT b = [] := by
  have : a.readE b = 8 := by unfold readE; rw [if_neg h, hl, if_neg (by simp), if_pos h2]
  exact ⟨this, by unfold readT; rw [if_neg (by omega)]⟩
theorem read_heal {a : Arr} {b : Int} (h : ¬ a.noB b) (hl : a.lo (a.rw' b) (a.ix' b) = true) (h2 : ¬ 2 < a.nl (a.rw' b)) : a.readE b = 0 ∧ a.readT b = a.heal (a.rw' b) (a.ix' b) := by
  have : a.readE b = 0 := by unfold readE; rw [if_neg h, hl, if_neg (by simp), if_neg h2]
  refine ⟨this, ?_⟩
  unfold readT
  rw [if_pos this, hl, if_neg (by simp)]
end Arr
set_option maxRecDepth 100000 in
set_option maxHeartbeats 2000000 in
theorem pa_read {w : World} {x : PAd} {a : Arr} {N : Nat} (h : PA w x a N) (ho : a.ok) (b : Int) (hb : b ≤ 9223372036854775807) :
    Calls Tryz.prog 21 #[.pointer (some ⟨x.p, 0, none⟩), .int .i64 b] w fun e w' => e = .returned (.tuple #[st (a.readT b), errV (a.readE b)]) ∧ Below w.heap.size w w' := by
  have S := pa_spot h ho b hb
  unfold Arr.spotD Arr.spotR Arr.spotE at S
  by_cases q : a.noB b
  · obtain ⟨e1, e2⟩ := Arr.read_no q
    rw [e1, e2]
    rw [if_pos q, if_pos q, if_pos q, errV, if_neg (by omega)] at S
    clear h ho q e1 e2
    go_enter Tryz.func21, Tryz.ntmps21
    go_wp2_with fail
    refine S.mono ?_
    rintro e w1 ⟨rfl, hB⟩
    have hB2 := hB.alloc hB.size (.cells #[.int .i64 ((0 : Nat) : Int), .int .i64 ((0 : Nat) : Int)] 60)
    clear S hB
    go_wp2
    go_ret2
    exact ⟨rfl, hB2⟩
  · obtain ⟨hr, hi, _, _, _⟩ := Keep.block_of ho q
    have hd : ord a.n (a.rw' b) (a.ix' b) < a.n := ord_lt ho.1.1
    have hpo : pos a.n (a.rw' b) (ord a.n (a.rw' b) (a.ix' b)) = a.ix' b := pos_ord ho.1.1 ho.1.2 (by omega)
    rw [if_neg q, if_neg q, if_neg q, errV, if_pos rfl] at S
    have HP : Hid (PA w x a N) := h
    have HO : Hid a.ok := ho
    have hn10 := ho.1.2
    have hdn : ((ord a.n (a.rw' b) (a.ix' b) : Nat) : Int) < (a.n : Int) := by omega
    cases hl : a.lo (a.rw' b) (a.ix' b) with
    | false =>
      obtain ⟨e1, e2⟩ := Arr.read_left q hl
      rw [e1, e2]
      have hg : a.gone (ord a.n (a.rw' b) (a.ix' b)) (a.rw' b) = false := hl
      have HL : Hid (∀ (w' : World), PA w' x a N → ∀ n, Calls Tryz.prog 52 #[.pointer (some ⟨x.m (ord a.n (a.rw' b) (a.ix' b)), 0, none⟩), .int .i64 (a.rw' b)] (w'.drewN n) fun e w'' => e = .returned (.bool false) ∧ w'' = w'.drewN n) := fun w' h' n => by
        have := pa_lost (h'.drewN n) hd (a.rw' b)
        rw [hg] at this
        exact this
      have HR : Hid (∀ (w' : World), PA w' x a N → ∀ n, Calls Tryz.prog 53 #[.pointer (some ⟨x.k (ord a.n (a.rw' b) (a.ix' b)), 0, none⟩), .int .i64 (a.rw' b)] (w'.drewN n) fun e w'' => e = .returned (.tuple #[st (a.cell (ord a.n (a.rw' b) (a.ix' b)) (a.rw' b)), .nilIface]) ∧ ∃ m, w'' = (w'.drewN n).drewN m) := fun w' h' n => quiet_lost h' ho hd hr hg n
      have HC : Hid (∀ (w' : World), PA w' x a N → w'.cell? ⟨x.p, 2, none⟩ = some (.slice (some ⟨x.g, 0, none⟩) a.n a.n) ∧ w'.cell? ⟨x.g, ord a.n (a.rw' b) (a.ix' b), none⟩ = some (.pointer (some ⟨x.m (ord a.n (a.rw' b) (a.ix' b)), 0, none⟩)) ∧ w'.cell? ⟨x.m (ord a.n (a.rw' b) (a.ix' b)), 0, none⟩ = some (.pointer (some ⟨x.k (ord a.n (a.rw' b) (a.ix' b)), 0, none⟩))) := fun w' h' => ⟨h'.c2, h'.cm _ hd, h'.m0 _ hd⟩
      clear h ho e1 e2 hg hl hpo
      generalize a.cell (ord a.n (a.rw' b) (a.ix' b)) (a.rw' b) = t at *
      generalize ord a.n (a.rw' b) (a.ix' b) = d at *
      generalize a.rw' b = r at *
      go_enter Tryz.func21, Tryz.ntmps21
      go_wp2_with fail
      refine S.mono ?_
      rintro e w1 ⟨rfl, hB⟩
      have hP1 := HP.out.old hB
      have hP2 := hP1.old (al_below w1 (.cells #[.int .i64 (d : Int), .int .i64 (r : Int)] 60))
      obtain ⟨s0, s1⟩ := two_new w1 (.int .i64 (d : Int)) (.int .i64 (r : Int)) 60
      have hB2 := hB.alloc hB.size (.cells #[.int .i64 (d : Int), .int .i64 (r : Int)] 60)
      obtain ⟨c2, cm, m0⟩ := HC.out _ hP2
      have L := HL.out _ hP2
      have HP2 : Hid (PA (w1.alloc (.cells #[.int .i64 (d : Int), .int .i64 (r : Int)] 60)) x a N) := hP2
      clear S hB hP1 hP2 HL HC HP
      go_upto_region 4 with fail
      generalize w1.alloc (.cells #[.int .i64 (d : Int), .int .i64 (r : Int)] 60) = W at *
      go_quiet (fail)
      go_wp2_with fail
      refine (L _).mono ?_
      rintro e w2 ⟨rfl, hw⟩
      subst hw
      have R := HR.out _ (HP2.out.drewN nq)
      have m0' : (W.drewN nq).cell? ⟨x.m d, 0, none⟩ = some (.pointer (some ⟨x.k d, 0, none⟩)) := m0
      have s1' : (W.drewN nq).cell? ⟨w1.heap.size, 1, none⟩ = some (.int .i64 (r : Int)) := s1
      have hB3 := below_drewN hB2 nq
      clear L c2 cm m0 s0 s1 HP2 HR hB2
      generalize W.drewN nq = W2 at *
      go_wp2_with fail
      go_quiet ((go_at_call 53; exact Calls.quiet_of (R _)))
      go_wp2
      go_ret2
      exact ⟨rfl, below_drewN hB3 _⟩
    | true =>
      have hg : a.gone (ord a.n (a.rw' b) (a.ix' b)) (a.rw' b) = true := hl
      have HL : Hid (∀ (w' : World), PA w' x a N → ∀ n, Calls Tryz.prog 52 #[.pointer (some ⟨x.m (ord a.n (a.rw' b) (a.ix' b)), 0, none⟩), .int .i64 (a.rw' b)] (w'.drewN n) fun e w'' => e = .returned (.bool true) ∧ w'' = w'.drewN n) := fun w' h' n => by
        have := pa_lost (h'.drewN n) hd (a.rw' b)
        rw [hg] at this
        exact this
      have HC : Hid (∀ (w' : World), PA w' x a N → w'.cell? ⟨x.p, 2, none⟩ = some (.slice (some ⟨x.g, 0, none⟩) a.n a.n) ∧ w'.cell? ⟨x.g, ord a.n (a.rw' b) (a.ix' b), none⟩ = some (.pointer (some ⟨x.m (ord a.n (a.rw' b) (a.ix' b)), 0, none⟩))) := fun w' h' => ⟨h'.c2, h'.cm _ hd⟩
      have HR : Hid (∀ (w' : World), PA w' x a N → Calls Tryz.prog 48 #[.pointer (some ⟨x.p, 0, none⟩), spt (ord a.n (a.rw' b) (a.ix' b) : Nat) (a.rw' b)] w' fun e w'' => e = .returned (.tuple #[st (a.readT b), errV (a.readE b)]) ∧ Below w'.heap.size w' w'') := fun w' h' => by
        by_cases h2 : 2 < a.nl (a.rw' b)
        · obtain ⟨e1, e2⟩ := Arr.read_lost q hl h2
          rw [e1, e2]
          exact pa_healed_bad h' ho _ hr h2 _
        · obtain ⟨e1, e2⟩ := Arr.read_heal q hl h2
          rw [e1, e2]
          have := pa_healed h' ho _ hr (by omega) _ hd
          rw [hpo] at this
          exact this
      clear h ho hg hl hpo
      generalize a.readT b = t at *
      generalize a.readE b = z at *
      generalize ord a.n (a.rw' b) (a.ix' b) = d at *
      generalize a.rw' b = r at *
      go_enter Tryz.func21, Tryz.ntmps21
      go_wp2_with fail
      refine S.mono ?_
      rintro e w1 ⟨rfl, hB⟩
      have hP1 := HP.out.old hB
      have hP2 := hP1.old (al_below w1 (.cells #[.int .i64 (d : Int), .int .i64 (r : Int)] 60))
      obtain ⟨s0, s1⟩ := two_new w1 (.int .i64 (d : Int)) (.int .i64 (r : Int)) 60
      have hB2 := hB.alloc hB.size (.cells #[.int .i64 (d : Int), .int .i64 (r : Int)] 60)
      obtain ⟨c2, cm⟩ := HC.out _ hP2
      have L := HL.out _ hP2
      have HP2 : Hid (PA (w1.alloc (.cells #[.int .i64 (d : Int), .int .i64 (r : Int)] 60)) x a N) := hP2
      clear S hB hP1 hP2 HL HC HP
      go_upto_region 4 with fail
      generalize w1.alloc (.cells #[.int .i64 (d : Int), .int .i64 (r : Int)] 60) = W at *
      go_quiet (fail)
      go_wp2_with fail
      refine (L _).mono ?_
      rintro e w2 ⟨rfl, hw⟩
      subst hw
      have R := HR.out _ (HP2.out.drewN nq)
      clear L
      go_wp2_with fail
      refine R.mono ?_
      rintro e w3 ⟨rfl, hB3⟩
      have hB4 := below_drewN hB2 nq
      have hBB := hB4.trans (hB3.mono hB4.size)
      clear R hB3 hB2 hB4
      go_wp2
      go_ret2
      exact ⟨rfl, hBB⟩
end Go.Proofs.YtilfjahbdlepjaaGreatDoor

/- A block is written, and P and Q of its row: a walk over the program. -/
namespace Go.Proofs.YtilfjahbdlepjaaGreatDoor
open Go.RowKit El Pol Mx Lay
/-- between the three that are written -/
structure WrS (w : World) (x : PAd) (a : Arr) (N r i : Nat) (t : List El) (g0 g1 gl gs : Nat) (j : Nat) (wr : World) : Prop where
  but : But (x.F a.n) w wr
  pa : PA wr x (a.puts r i t j) (N + j)
  r0 : RowAt wr g0 a.n (fun y => vi ((ord a.n r y : Nat) : Int))
  r1 : ∀ j, j < 3 → wr.cell? ⟨g1, w3 i (a.n - 2) j, none⟩ = some (st (a.newP r i t (w3 i (a.n - 2) j))) ∧ g1 < wr.heap.size
  rl : RowAt wr gl 3 (fun j => vi ((w3 i (a.n - 2) j : Nat) : Int))
  rs : wr.cell? ⟨gs, 1, none⟩ = some (.int .i64 r) ∧ gs < wr.heap.size
  out : ∀ y, x.F a.n y → y ≠ g0 ∧ y ≠ g1 ∧ y ≠ gl ∧ y ≠ gs
theorem WrS.next {w wr w' : World} {x : PAd} {a : Arr} {N r i : Nat} {t : List El} {g0 g1 gl gs j : Nat} (h : WrS w x a N r i t g0 g1 gl gs j wr) (hb : But (x.F a.n) wr w')
    (hp : PA w' x ((a.puts r i t j).put (ord a.n r (w3 i (a.n - 2) j)) r (a.newP r i t (w3 i (a.n - 2) j))) (N + j + 1)) : WrS w x a N r i t g0 g1 gl gs (j + 1) w' := by
  refine ⟨h.but.trans hb (Grows.refl _ _), hp, h.r0.but hb (fun q => (h.out _ q).1 rfl), fun k hk => ⟨?_, Nat.lt_of_lt_of_le (h.r1 k hk).2 hb.size⟩, h.rl.but hb (fun q => (h.out _ q).2.2.1 rfl), ⟨?_, Nat.lt_of_lt_of_le h.rs.2 hb.size⟩, h.out⟩
  · rw [hb.cell (p := ⟨g1, w3 i (a.n - 2) k, none⟩) (h.r1 k hk).2 (fun q => (h.out _ q).2.1 rfl)]
    exact (h.r1 k hk).1
  · rw [hb.cell (p := ⟨gs, 1, none⟩) h.rs.2 (fun q => (h.out _ q).2.2.2 rfl)]
    exact h.rs.1
namespace Arr
theorem write_no {a : Arr} {b : Int} {t : List El} (h : a.writeE b t.length ≠ 0) : a.write b t = a := by unfold write; rw [if_neg h]
theorem newP_at {a : Arr} {r i : Nat} {t : List El} (hi : i < a.n - 2) (ht : t.length = a.size) : a.newP r i t i = t := by
  unfold newP
  rw [pqp_data hi]
  have e : mx (up (a.heal r) i t) i = fun l => co t l := by
    funext l
    show co (up (a.heal r) i t i) l = _
    rw [up_at]
  rw [e, ← ht]
  exact row_co t
theorem newP_p (a : Arr) (r i : Nat) (t : List El) : a.newP r i t (a.n - 2) = row (pp (a.n - 2) (mx (up (a.heal r) i t))) a.size := by unfold newP; rw [pqp_p]
theorem newP_q (a : Arr) (r i : Nat) (t : List El) : a.newP r i t (a.n - 2 + 1) = row (qq (a.n - 2) (mx (up (a.heal r) i t))) a.size := by unfold newP; rw [pqp_q]
end Arr
set_option maxRecDepth 100000 in
set_option maxHeartbeats 2000000 in
theorem pa_write_bad {w : World} {x : PAd} {a : Arr} {N : Nat} (h : PA w x a N) (ho : a.ok) (b : Int) (hb : b ≤ 9223372036854775807) (t : List El) (he : a.writeE b t.length ≠ 0) :
    Calls Tryz.prog 11 #[.pointer (some ⟨x.p, 0, none⟩), .int .i64 b, st t] w fun e w' => e = .returned (errV (a.writeE b t.length)) ∧ PA w' x a N ∧ But (x.F a.n) w w' := by
  have S := pa_spot h ho b hb
  have HP : Hid (PA w x a N) := h
  have HO : Hid a.ok := ho
  unfold Arr.spotD Arr.spotR Arr.spotE at S
  have hlen : (sb t).size = t.length := sb_size t
  by_cases q : a.noB b
  · rw [show a.writeE b t.length = 1 from if_pos q]
    rw [if_pos q, if_pos q, if_pos q, errV, if_neg (by omega)] at S
    clear h ho q he
    go_enter Tryz.func11, Tryz.ntmps11
    go_wp2_with fail
    refine S.mono ?_
    rintro e w1 ⟨rfl, hB⟩
    have hB2 := hB.alloc hB.size (.cells #[.int .i64 ((0 : Nat) : Int), .int .i64 ((0 : Nat) : Int)] 60)
    have HP2 : Hid (PA (w1.alloc (.cells #[.int .i64 ((0 : Nat) : Int), .int .i64 ((0 : Nat) : Int)] 60)) x a N) := HP.out.old hB2
    have HB2 : Hid (But (x.F a.n) w (w1.alloc (.cells #[.int .i64 ((0 : Nat) : Int), .int .i64 ((0 : Nat) : Int)] 60))) := Below.but hB2 _
    clear hB2
    clear S hB
    go_wp2
    go_ret
    exact ⟨rfl, HP2.out, HB2.out⟩
  · obtain ⟨hr, hi, _, _, _⟩ := Keep.block_of ho q
    rw [if_neg q, if_neg q, if_neg q, errV, if_pos rfl] at S
    by_cases hx : t.length = a.size
    · have h2 : 2 < a.nl (a.rw' b) := by
        unfold Arr.writeE at he
        rw [if_neg q, if_pos hx] at he
        split at he
        · assumption
        · exact absurd rfl he
      rw [show a.writeE b t.length = 8 by unfold Arr.writeE; rw [if_neg q, if_pos hx, if_pos h2]]
      have HC : Hid (∀ (w' : World), PA w' x a N → w'.cell? ⟨x.p, 1, none⟩ = some (.int .i64 a.size)) := fun w' h' => h'.c1
      have HS : Hid (∀ (w' : World), PA w' x a N → Calls Tryz.prog 40 #[.pointer (some ⟨x.p, 0, none⟩), .int .i64 (a.rw' b)] w' fun e w'' => e = .returned (.tuple #[.slice none 0 0, .slice none 0 0, .iface 77 (.int .i64 8)]) ∧ Below w'.heap.size w' w'') := fun w' h' => pa_stripe_bad h' ho _ hr h2
      have hle : (sb t).size = a.size := by rw [hlen, hx]
      clear h ho q he hx hlen h2
      generalize ord a.n (a.rw' b) (a.ix' b) = d at *
      generalize a.rw' b = r at *
      generalize a.size = z at *
      go_enter Tryz.func11, Tryz.ntmps11
      go_wp2_with fail
      refine S.mono ?_
      rintro e w1 ⟨rfl, hB⟩
      have hB2 := hB.alloc hB.size (.cells #[.int .i64 (d : Int), .int .i64 (r : Int)] 60)
      have hP2 := HP.out.old hB2
      have c1 := HC.out _ hP2
      have SS := HS.out _ hP2
      obtain ⟨s0, s1⟩ := two_new w1 (.int .i64 (d : Int)) (.int .i64 (r : Int)) 60
      clear hP2 HC HS S hB
      go_wp2_with fail
      refine SS.mono ?_
      rintro e w2 ⟨rfl, hB3⟩
      have hB4 := hB2.trans (hB3.mono hB2.size)
      have HP2 : Hid (PA w2 x a N) := HP.out.old hB4
      have HB2 : Hid (But (x.F a.n) w w2) := Below.but hB4 _
      clear SS hB3 hB2 hB4 c1 s0 s1
      go_wp2
      go_ret
      exact ⟨rfl, HP2.out, HB2.out⟩
    · rw [show a.writeE b t.length = 3 by unfold Arr.writeE; rw [if_neg q, if_neg hx]]
      have HC : Hid (∀ (w' : World), PA w' x a N → w'.cell? ⟨x.p, 1, none⟩ = some (.int .i64 a.size)) := fun w' h' => h'.c1
      have hne : ¬ ((t.length : Nat) : Int) = ((a.size : Nat) : Int) := by omega
      clear h ho q he hx
      generalize ord a.n (a.rw' b) (a.ix' b) = d at *
      generalize a.rw' b = r at *
      generalize a.size = z at *
      generalize t.length = y at *
      go_enter Tryz.func11, Tryz.ntmps11
      go_wp2_with fail
      refine S.mono ?_
      rintro e w1 ⟨rfl, hB⟩
      have hB2 := hB.alloc hB.size (.cells #[.int .i64 (d : Int), .int .i64 (r : Int)] 60)
      have hP2 := HP.out.old hB2
      have c1 := HC.out _ hP2
      have HP2 : Hid (PA (w1.alloc (.cells #[.int .i64 (d : Int), .int .i64 (r : Int)] 60)) x a N) := hP2
      have HB2 : Hid (But (x.F a.n) w (w1.alloc (.cells #[.int .i64 (d : Int), .int .i64 (r : Int)] 60))) := Below.but hB2 _
      clear hP2 hB2 HC S hB
      go_wp2
      go_ret
      exact ⟨rfl, HP2.out, HB2.out⟩
/-- the state ahead of the three writes -/
theorem WrS.start {w W w2 w4 : World} {x : PAd} {a : Arr} {N r i : Nat} {t : List El} {g0 g1 gs : Nat} (ho : a.ok) (hi : i < a.n - 2) (ht : t.length = a.size) (hlt : ∀ y, x.F a.n y → y < w.heap.size) (hW : Below w.heap.size w W) (hgs : w.heap.size ≤ gs)
    (hs : W.cell? ⟨gs, 1, none⟩ = some (.int .i64 r) ∧ gs < W.heap.size) (hp : PA w x a N) (hB2 : Below W.heap.size W w2) (h0 : RowAt w2 g0 a.n (fun y => vi ((ord a.n r y : Nat) : Int))) (h1 : RowAt w2 g1 a.n (fun y => st (a.heal r y)))
    (hg1 : W.heap.size ≤ g1) (hg0 : W.heap.size ≤ g0) (hne : g0 ≠ g1) (hB4 : Below (w2.setCell ⟨g1, i, none⟩ (st t)).heap.size (w2.setCell ⟨g1, i, none⟩ (st t)) w4) (T : TypeId) :
    WrS w x a N r i t g0 g1 w4.heap.size gs 0 (((w4.setCell ⟨g1, a.n - 2, none⟩ (st (a.newP r i t (a.n - 2)))).setCell ⟨g1, a.n - 2 + 1, none⟩ (st (a.newP r i t (a.n - 2 + 1)))).alloc (.cells #[.int .i64 i, .int .i64 ((a.n - 2 : Nat) : Int), .int .i64 ((a.n - 2 + 1 : Nat) : Int)] T)) := by
  have hn := ho.1
  have hbW := hW.size
  have a1 := h1.put i (st t)
  have a4 := a1.1.old hB4
  have a5 := (a4.put (a.n - 2) (st (a.newP r i t (a.n - 2)))).1
  have a6 := (a5.put (a.n - 2 + 1) (st (a.newP r i t (a.n - 2 + 1)))).1
  have b1 : But (· = g1) w2 (w2.setCell ⟨g1, i, none⟩ (st t)) := but_cell w2 g1 i (st t)
  have b4 : But (· = g1) w2 w4 := b1.trans (Below.but hB4 (· = g1)) (Grows.refl _ _)
  have b6 : But (· = g1) w2 ((w4.setCell ⟨g1, a.n - 2, none⟩ (st (a.newP r i t (a.n - 2)))).setCell ⟨g1, a.n - 2 + 1, none⟩ (st (a.newP r i t (a.n - 2 + 1)))) := (b4.setCell (p := ⟨g1, a.n - 2, none⟩) rfl _).setCell (p := ⟨g1, a.n - 2 + 1, none⟩) rfl _
  have hsz : ((w4.setCell ⟨g1, a.n - 2, none⟩ (st (a.newP r i t (a.n - 2)))).setCell ⟨g1, a.n - 2 + 1, none⟩ (st (a.newP r i t (a.n - 2 + 1)))).heap.size = w4.heap.size := by simp
  have hl4 := b4.size
  generalize (w4.setCell ⟨g1, a.n - 2, none⟩ (st (a.newP r i t (a.n - 2)))).setCell ⟨g1, a.n - 2 + 1, none⟩ (st (a.newP r i t (a.n - 2 + 1))) = w6 at *
  have al := al_below w6 (.cells #[.int .i64 i, .int .i64 ((a.n - 2 : Nat) : Int), .int .i64 ((a.n - 2 + 1 : Nat) : Int)] T)
  have hb2 := hB2.size
  have bB : Below W.heap.size w2 w6 := b6.below hb2 (fun k hk => by rw [hk]; exact hg1)
  have bW : Below W.heap.size W w6 := hB2.trans bB
  have bw : Below w.heap.size w (w6.alloc (.cells #[.int .i64 i, .int .i64 ((a.n - 2 : Nat) : Int), .int .i64 ((a.n - 2 + 1 : Nat) : Int)] T)) := (hW.trans (bW.mono hbW)).trans (al.mono (by omega))
  have hg0' := h0.1
  have hg1' := h1.1
  refine ⟨Below.but bw _, hp.old bw, (h0.but b6 hne).old al, fun j hj => ⟨?_, by have := a6.1; simp; omega⟩, ?_, ⟨?_, by have := hs.2; simp; omega⟩, fun y hy => ?_⟩
  · have a7 := a6.old al
    have := (a7.2 (w3 i (a.n - 2) j) (by have := w3_lt (k := a.n - 2) (j := j) (show i < a.n - 2 + 2 by omega); omega)).1
    rw [this]
    congr 1
    unfold w3
    by_cases q0 : j = 0
    · rw [if_pos q0, up_ne _ _ (by omega), up_ne _ _ (by omega), up_at, Arr.newP_at hi ht]
    · rw [if_neg q0]
      by_cases q1 : j = 1
      · rw [if_pos q1, up_ne _ _ (by omega), up_at]
      · rw [if_neg q1, up_at]
  · rw [← hsz]
    refine ⟨by simp, fun j hj => ⟨?_, frozen_of_row _ _ _ _ _ (heap_alloc_new w6 _)⟩⟩
    rw [cell_of_row _ _ j _ _ _ (heap_alloc_new w6 _)]
    have : j = 0 ∨ j = 1 ∨ j = 2 := by omega
    rcases this with rfl | rfl | rfl <;> rfl
  · rw [al.cell (p := ⟨gs, 1, none⟩) (by have := hs.2; (show gs < _); omega), bW.cell (p := ⟨gs, 1, none⟩) hs.2]
    exact hs.1
  · have := hlt y hy
    omega
set_option maxRecDepth 100000 in
set_option maxHeartbeats 4000000 in
theorem pa_write_ok {w : World} {x : PAd} {a : Arr} {N : Nat} (h : PA w x a N) (ho : a.ok) (hN : N < 900000) (b : Int) (hb : b ≤ 9223372036854775807) (t : List El) (he : a.writeE b t.length = 0) :
    Calls Tryz.prog 11 #[.pointer (some ⟨x.p, 0, none⟩), .int .i64 b, st t] w fun e w' => e = .returned .nilIface ∧ PA w' x (a.write b t) (N + 3) ∧ But (x.F a.n) w w' := by
  have S := pa_spot h ho b hb
  have HP : Hid (PA w x a N) := h
  have HO : Hid a.ok := ho
  unfold Arr.spotD Arr.spotR Arr.spotE at S
  have hlen : (sb t).size = t.length := sb_size t
  have q : ¬ a.noB b := fun q => by unfold Arr.writeE at he; rw [if_pos q] at he; omega
  have hx : t.length = a.size := by
    unfold Arr.writeE at he
    rw [if_neg q] at he
    split at he
    · assumption
    · omega
  have h2 : a.nl (a.rw' b) ≤ 2 := by
    unfold Arr.writeE at he
    rw [if_neg q, if_pos hx] at he
    split at he <;> omega
  obtain ⟨hr, hi, _, _, _⟩ := Keep.block_of ho q
  obtain ⟨hn1, hn2⟩ := ho.1
  have hpo : pos a.n (a.rw' b) (ord a.n (a.rw' b) (a.ix' b)) = a.ix' b := pos_ord hn1 hn2 (by omega)
  have hd : ord a.n (a.rw' b) (a.ix' b) < a.n := ord_lt hn1
  rw [if_neg q, if_neg q, if_neg q, errV, if_pos rfl] at S
  have HC : Hid (∀ (w' : World), PA w' x a N → w'.cell? ⟨x.p, 1, none⟩ = some (.int .i64 a.size)) := fun w' h' => h'.c1
  have HS : Hid (∀ (w' : World), PA w' x a N → _) := fun w' h' => pa_stripe h' ho _ hr h2
  have HI : Hid (∀ (g c : Nat) (w' : World), RowAt w' g a.n (fun i => vi ((ord a.n (a.rw' b) i : Nat) : Int)) → Calls Tryz.prog 41 #[.slice (some ⟨g, 0, none⟩) a.n c, .int .i64 (ord a.n (a.rw' b) (a.ix' b) : Nat)] w' fun e w'' => e = .returned (.int .i64 (a.ix' b)) ∧ w'' = w') := fun g c w' h' => by
    have := index_ord g a.n c (a.rw' b) (ord a.n (a.rw' b) (a.ix' b)) hn1 hn2 hd w' h'
    rw [hpo] at this
    exact this
  have HLT : Hid (∀ y, x.F a.n y → y < w.heap.size) := h.lt
  have HE : Hid (∀ (g1 c1 : Nat) (w' : World), RowAt w' g1 a.n (fun y => st (up (a.heal (a.rw' b)) (a.ix' b) t y)) → a.n ≤ c1 → c1 ≤ 9223372036854775807 →
      Calls Tryz.prog 42 #[.slice (some ⟨g1, 0, none⟩) (a.n - 2) c1] w' fun e w'' => e = .returned (.tuple #[st (a.newP (a.rw' b) (a.ix' b) t (a.n - 2)), st (a.newP (a.rw' b) (a.ix' b) t (a.n - 2 + 1)), .nilIface]) ∧ Below w'.heap.size w' w'') := fun g1 c1 w' h' hc1 hc2 => by
    rw [Arr.newP_p, Arr.newP_q]
    exact pencode_ok (a.n - 2) a.size (by omega) (by omega) _ (up (a.heal (a.rw' b)) (a.ix' b) t) w' ((h'.rd hc1 hc2).cut (by omega)) (fun i _ => by
      unfold up
      split
      · exact hx
      · exact Arr.heal_len _ _ _) (by have := ho.2.2.1.2; omega)
  have HW : Hid (∀ wr, (∃ D, Healed (a.n - 2) a.size (mx (a.part (a.rw' b))) (a.lo (a.rw' b)) D) → PA wr x (a.puts (a.rw' b) (a.ix' b) t 3) (N + 3) → PA wr x (a.write b t) (N + 3)) := fun wr hex hp => by
    obtain ⟨s1, s2, s3, s4, s5⟩ := Arr.puts_same a (a.rw' b) (a.ix' b) t 3
    have e0 : (a.write b t).n = a.n ∧ (a.write b t).rows = a.rows ∧ (a.write b t).size = a.size ∧ (a.write b t).failed = a.failed ∧ (a.write b t).built = a.built := by
      unfold Arr.write
      split <;> exact ⟨rfl, rfl, rfl, rfl, rfl⟩
    obtain ⟨z1, z2, z3, z4, z5⟩ := e0
    refine hp.congr (z1.trans s1.symm) (z2.trans s2.symm) (z3.trans s3.symm) (z4.trans s4.symm) (z5.trans s5.symm) (fun e s hse _ hg => ?_)
    rw [Arr.puts_gone] at hg
    exact Arr.puts_write ho he hex e s (by rw [s1] at hse; exact hse) hg
  have hle : (sb t).size = a.size := by rw [hlen, hx]
  have HX : Hid (t.length = a.size) := hx
  have HST : Hid (∀ (W w2 w4 : World) (g0 g1 gs : Nat), Below w.heap.size w W → w.heap.size ≤ gs → (W.cell? ⟨gs, 1, none⟩ = some (.int .i64 (a.rw' b)) ∧ gs < W.heap.size) → Below W.heap.size W w2 → RowAt w2 g0 a.n (fun y => vi ((ord a.n (a.rw' b) y : Nat) : Int)) → RowAt w2 g1 a.n (fun y => st (a.heal (a.rw' b) y)) →
      W.heap.size ≤ g1 → W.heap.size ≤ g0 → g0 ≠ g1 → Below (w2.setCell ⟨g1, a.ix' b, none⟩ (st t)).heap.size (w2.setCell ⟨g1, a.ix' b, none⟩ (st t)) w4 →
      WrS w x a N (a.rw' b) (a.ix' b) t g0 g1 w4.heap.size gs 0 (((w4.setCell ⟨g1, a.n - 2, none⟩ (st (a.newP (a.rw' b) (a.ix' b) t (a.n - 2)))).setCell ⟨g1, a.n - 2 + 1, none⟩ (st (a.newP (a.rw' b) (a.ix' b) t (a.n - 2 + 1)))).alloc (.cells #[.int .i64 (a.ix' b), .int .i64 ((a.n - 2 : Nat) : Int), .int .i64 (((a.n - 2 : Nat) : Int) + 1)] 3))) :=
    fun W w2 w4 g0 g1 gs u1 u2 u3 u4 u5 u6 u7 u8 u9 u10 => by
      have := WrS.start ho hi hx h.lt u1 u2 u3 h u4 u5 u6 u7 u8 u9 u10 3
      rw [Int.natCast_add] at this
      exact this
  have HM : Hid (∀ (wr : World) (j g0 g1 gl gs : Nat), j < 3 → WrS w x a N (a.rw' b) (a.ix' b) t g0 g1 gl gs j wr → ∃ y d : Nat, (wr.cell? ⟨gl, j, none⟩ = some (.int .i64 y) ∧ y < a.n ∧ d < a.n) ∧ wr.cell? ⟨g0, y, none⟩ = some (.int .i64 d) ∧ wr.cell? ⟨x.g, d, none⟩ = some (.pointer (some ⟨x.m d, 0, none⟩)) ∧
      wr.cell? ⟨x.p, 2, none⟩ = some (.slice (some ⟨x.g, 0, none⟩) a.n a.n) ∧ wr.cell? ⟨gs, 1, none⟩ = some (.int .i64 (a.rw' b)) ∧ ∃ u : List El, wr.cell? ⟨g1, y, none⟩ = some (st u) ∧
      ∀ m, Calls Tryz.prog 43 #[.pointer (some ⟨x.m d, 0, none⟩), .int .i64 (a.rw' b), st u] (wr.drewN m) fun e w' => e = .returned .nilIface ∧ WrS w x a N (a.rw' b) (a.ix' b) t g0 g1 gl gs (j + 1) w') :=
    fun wr j g0 g1 gl gs hj hS => by
      obtain ⟨s1, s2, s3, s4, s5⟩ := Arr.puts_same a (a.rw' b) (a.ix' b) t j
      have hy : w3 (a.ix' b) (a.n - 2) j < a.n := by have := w3_lt (k := a.n - 2) (j := j) (show a.ix' b < a.n - 2 + 2 by omega); omega
      have hdd : ord a.n (a.rw' b) (w3 (a.ix' b) (a.n - 2) j) < a.n := ord_lt hn1
      have c2 := hS.pa.c2
      rw [s1] at c2
      refine ⟨w3 (a.ix' b) (a.n - 2) j, ord a.n (a.rw' b) (w3 (a.ix' b) (a.n - 2) j), ⟨(hS.rl.2 j hj).1, hy, hdd⟩, (hS.r0.2 _ hy).1, hS.pa.cm _ (by rw [s1]; exact hdd), c2, hS.rs.1, a.newP (a.rw' b) (a.ix' b) t (w3 (a.ix' b) (a.n - 2) j), (hS.r1 j hj).1, fun m => ?_⟩
      have hp := hS.pa.drewN m
      refine (pm_write hp (Arr.puts_ok ho _ _ _ j) (by omega) (d := ord a.n (a.rw' b) (w3 (a.ix' b) (a.n - 2) j)) (r := a.rw' b) (by rw [s1]; exact hdd) (by rw [s2]; exact hr) _ (by rw [s3]; exact Arr.newP_len _ _ _ _ _)).mono fun e w' ⟨he', hp', hb'⟩ => ⟨he', hS.next ?_ hp'⟩
      rw [s1] at hb'
      exact (But.drewN (But.refl _ _) m).trans hb' (Grows.refl _ _)
  clear h ho q he h2 hpo hx hlen
  obtain ⟨k, hkk⟩ : ∃ k, a.n - 2 = k := ⟨_, rfl⟩
  have hk : (a.n : Int) - 2 = (k : Int) := by omega
  have hkn : k + 2 = a.n := by omega
  have hk1 : (k : Int) + 1 < (a.n : Int) := by omega
  have hk0 : (k : Int) < (a.n : Int) := by omega
  rw [hkk] at hi
  simp only [hkk] at HE HST
  clear hkk
  have hin : ((a.ix' b : Nat) : Int) < (a.n : Int) := by omega
  have hi' : a.ix' b < a.n := by omega
  generalize a.newP (a.rw' b) (a.ix' b) t k = PP at *
  generalize a.newP (a.rw' b) (a.ix' b) t (k + 1) = QQ at *
  have HRW : Hid (a.rw' b < a.rows) := hr
  clear hr
  generalize ord a.n (a.rw' b) (a.ix' b) = d at *
  generalize a.rw' b = r at *
  generalize a.ix' b = i at *
  go_enter Tryz.func11, Tryz.ntmps11
  go_wp2_with fail
  refine S.mono ?_
  rintro e w1 ⟨rfl, hB⟩
  have hB2 := hB.alloc hB.size (.cells #[.int .i64 (d : Int), .int .i64 (r : Int)] 60)
  have hP2 := HP.out.old hB2
  have c1 := HC.out _ hP2
  have SS := HS.out _ hP2
  obtain ⟨s0, s1⟩ := two_new w1 (.int .i64 (d : Int)) (.int .i64 (r : Int)) 60
  have hws : w.heap.size ≤ w1.heap.size := hB.size
  have hW1 : w1.heap.size < (w1.alloc (.cells #[.int .i64 (d : Int), .int .i64 (r : Int)] 60)).heap.size := by simp
  clear hP2 HC HS S hB
  go_wp2_with fail
  refine SS.mono ?_
  rintro e w2 ⟨g0, c0, g1, cc, rfl, ⟨hc0, hc1, hc2⟩, h0, h1, hg1, hg0, hne, hex, hB3⟩
  have I := HI.out g0 c0 w2 h0
  have s0' : w2.cell? ⟨w1.heap.size, 0, none⟩ = some (.int .i64 (d : Int)) := by rw [hB3.cell (p := ⟨w1.heap.size, 0, none⟩) hW1]; exact s0
  obtain ⟨k1, f1⟩ := h1.2 i hi'
  have E := HE.out g1 cc (w2.setCell ⟨g1, i, none⟩ (st t)) ((h1.put i (st t)).1.congr (fun y _ => by
    unfold up
    split <;> rfl)) hc1 hc2
  have HQ := fun w4 => HST.out _ w2 w4 g0 g1 w1.heap.size hB2 hws ⟨s1, hW1⟩ hB3 h0 h1 hg1 hg0 hne
  have HQ' : Hid (∀ w4, Below (w2.setCell ⟨g1, i, none⟩ (st t)).heap.size (w2.setCell ⟨g1, i, none⟩ (st t)) w4 → _) := HQ
  have HR1 : Hid (RowAt (w2.setCell ⟨g1, i, none⟩ (st t)) g1 a.n _) := (h1.put i (st t)).1
  have HEX : Hid (∃ D, Healed (a.n - 2) a.size (mx (a.part r)) (a.lo r) D) := hex
  have hkc : k ≤ cc := by omega
  clear HQ SS HST s0 s1 hW1 h0 h1 hg1 hg0 hne hex hB3 HI HE c1
  dsimp only at k1
  go_wp2_with fail
  refine I.mono ?_
  rintro e w3' ⟨rfl, hw⟩
  obtain rfl := hw.symm
  clear I s0'
  go_wp2_with fail
  refine E.mono ?_
  rintro e w4 ⟨rfl, hB4⟩
  have HS0 : Hid (WrS w x a N r i t g0 g1 w4.heap.size w1.heap.size 0 (((w4.setCell ⟨g1, k, none⟩ (st PP)).setCell ⟨g1, k + 1, none⟩ (st QQ)).alloc (.cells #[.int .i64 (i : Int), .int .i64 (k : Int), .int .i64 ((k : Int) + 1)] 3))) := HQ'.out w4 hB4
  have hR4 := HR1.out.old hB4
  obtain ⟨k4, f4⟩ := hR4.2 k (by omega)
  obtain ⟨k5, f5⟩ := (hR4.put k (st PP)).1.2 (k + 1) (by omega)
  clear E HQ' HR1 hB4 hR4 k1 f1
  go_wp2
  go_loopw [80] (fun tt wr => ∃ j : Nat, j ≤ 3 ∧ tt = .int .i64 j ∧ WrS w x a N r i t g0 g1 w4.heap.size w1.heap.size j wr) (fun tt _ => 3 - (intOf tt).toNat)
  case atStart => exact ⟨0, Nat.zero_le _, rfl, HS0.out⟩
  case round =>
    clear HS0 k4 f4 k5 f5
    obtain ⟨j, hj, rfl, hS⟩ := hrel
    by_cases hlt : j < 3
    · obtain ⟨y, dd, ⟨r1, hya, hda⟩, r2, r3, r4, r5, u, r6, C⟩ := HM.out wr j g0 g1 _ _ hlt hS
      have hlt' : (j : Int) < 3 := by omega
      have hya' : (y : Int) < (a.n : Int) := by omega
      have hda' : (dd : Int) < (a.n : Int) := by omega
      clear hS HM HW HEX
      go_upto_region 18 with fail
      refine region_tail 16 (by kernel_rfl) (by kernel_rfl) ?_
      simp only [List.take_succ_cons, List.take_zero, List.drop_succ_cons, List.drop_zero]
      repeat (go_big_quiet_step (fail))
      refine wpQuiet_nil ?_
      intro w9 hw9
      obtain ⟨nq, rfl⟩ := hw9
      go_wp2_with fail
      refine (C _).mono ?_
      rintro e w10 ⟨rfl, hS⟩
      have HSS : Hid (WrS w x a N r i t g0 g1 w4.heap.size w1.heap.size (j + 1) w10) := hS
      clear C hS r1 r2 r3 r4 r5 r6
      go_wp2
      go_roundw
      case rel => exact ⟨j + 1, by omega, by go_num, HSS.out⟩
      case measure => simp [intOf]; omega
    · have e : j = 3 := by omega
      subst e
      have HSS : Hid (WrS w x a N r i t g0 g1 w4.heap.size w1.heap.size 3 wr) := hS
      clear hS
      go_wp2
      go_ret
      exact ⟨rfl, HW.out _ HEX.out HSS.out.pa, HSS.out.but⟩
theorem pa_write {w : World} {x : PAd} {a : Arr} {N : Nat} (h : PA w x a N) (ho : a.ok) (hN : N < 900000) (b : Int) (hb : b ≤ 9223372036854775807) (t : List El) :
    Calls Tryz.prog 11 #[.pointer (some ⟨x.p, 0, none⟩), .int .i64 b, st t] w fun e w' => e = .returned (errV (a.writeE b t.length)) ∧ PA w' x (a.write b t) (N + 3) ∧ But (x.F a.n) w w' := by
  by_cases he : a.writeE b t.length = 0
  · rw [he, errV, if_pos rfl]
    exact pa_write_ok h ho hN b hb t he
  · rw [Arr.write_no he]
    exact (pa_write_bad h ho b hb t he).mono fun e w' ⟨h1, h2, h3⟩ => ⟨h1, h2.more (by omega), h3⟩
end Go.Proofs.YtilfjahbdlepjaaGreatDoor
