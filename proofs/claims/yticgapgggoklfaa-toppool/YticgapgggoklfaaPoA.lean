/- Who takes whose place: a model, which the document's pool and the program's both follow. -/
import Derived.Test.YticgapgggoklfaaGe
namespace Go.Proofs.Yticgapgggoklfaa
/-- the first of n for which p holds -/
def fstO (p : Nat → Bool) : Nat → Option Nat
  | 0 => none
  | i + 1 => match fstO p i with
    | some k => some k
    | none => if p i = true then some i else none
/-- its number; -1: there is none -/
def fstI (p : Nat → Bool) (n : Nat) : Int := match fstO p n with
  | some k => (k : Int)
  | none => -1
theorem fstO_ways (p : Nat → Bool) : ∀ n, (fstO p n = none ∧ ∀ i, i < n → p i = false) ∨ ∃ i : Nat, i < n ∧ fstO p n = some i ∧ p i = true ∧ ∀ j, j < i → p j = false
  | 0 => .inl ⟨rfl, fun i hi => absurd hi (Nat.not_lt_zero _)⟩
  | n + 1 => by
    unfold fstO
    rcases fstO_ways p n with ⟨e, h⟩ | ⟨i, hi, e, h1, h2⟩
    · rw [e]
      by_cases q : p n = true
      · exact .inr ⟨n, by omega, if_pos q, q, h⟩
      · refine .inl ⟨if_neg q, fun i hi => ?_⟩
        by_cases ei : i = n
        · rw [ei]; simpa using q
        · exact h i (by omega)
    · rw [e]
      exact .inr ⟨i, by omega, rfl, h1, h2⟩
theorem fstI_ways (p : Nat → Bool) (n : Nat) : (fstI p n = -1 ∧ ∀ i, i < n → p i = false) ∨ ∃ i : Nat, i < n ∧ fstI p n = (i : Int) ∧ p i = true ∧ ∀ j, j < i → p j = false := by
  unfold fstI
  rcases fstO_ways p n with ⟨e, h⟩ | ⟨i, hi, e, h1, h2⟩
  · rw [e]; exact .inl ⟨rfl, h⟩
  · rw [e]; exact .inr ⟨i, hi, rfl, h1, h2⟩
theorem fstI_none {p : Nat → Bool} {n : Nat} (h : ∀ i, i < n → p i = false) : fstI p n = -1 := by
  rcases fstI_ways p n with ⟨e, _⟩ | ⟨i, hi, _, h1, _⟩
  · exact e
  · rw [h i hi] at h1; exact absurd h1 Bool.false_ne_true
theorem fstI_at {p : Nat → Bool} {n i : Nat} (hi : i < n) (h1 : p i = true) (h2 : ∀ j, j < i → p j = false) : fstI p n = (i : Int) := by
  rcases fstI_ways p n with ⟨_, h⟩ | ⟨j, hj, e, h3, h4⟩
  · rw [h i hi] at h1; exact absurd h1 Bool.false_ne_true
  · have : j = i := by
      rcases Nat.lt_trichotomy j i with q | q | q
      · rw [h2 j q] at h3; exact absurd h3 Bool.false_ne_true
      · exact q
      · rw [h4 i q] at h1; exact absurd h1 Bool.false_ne_true
    rw [e, this]
/-- so many slots and disks: of each disk its state (0: works, 1: a spare, 2: failed, 3: filling), of each slot its disk (-1: none) -/
structure Plo where
  wk : Nat
  n : Nat
  st : Nat → Nat
  sl : Nat → Int
namespace Plo
def fresh (wk sp : Nat) : Plo := ⟨wk, wk + sp, fun d => if d < wk then 0 else 1, fun k => (k : Int)⟩
def noD (t : Plo) (d : Int) : Prop := d < 0 ∨ (t.n : Int) ≤ d
instance (t : Plo) (d : Int) : Decidable (t.noD d) := inferInstanceAs (Decidable (_ ∨ _))
/-- the slot of a disk; the first that has none; the spare of the least number -/
def slotOf (t : Plo) (d : Int) : Int := fstI (fun k => decide (t.sl k = d)) t.wk
def spare (t : Plo) : Int := fstI (fun d => decide (t.st d = 1)) t.n
/-- a disk has failed -/
def out (t : Plo) (d : Nat) : Plo := ⟨t.wk, t.n, up t.st d 2, t.sl⟩
/-- a disk stands in a slot, if there is one -/
def into (t : Plo) (k : Nat) (s : Int) : Plo := ⟨t.wk, t.n, if 0 ≤ s then up t.st s.toNat 3 else t.st, up t.sl k s⟩
def failE (t : Plo) (d : Int) : Nat := if t.noD d then 1 else if t.st d.toNat = 2 then 6 else 0
def failN (t : Plo) (d : Int) : Int := if t.failE d = 0 then (if t.slotOf d < 0 then -1 else (t.out d.toNat).spare) else 0
def fail (t : Plo) (d : Int) : Plo := if t.failE d = 0 then (if t.slotOf d < 0 then t.out d.toNat else (t.out d.toNat).into (t.slotOf d).toNat (t.out d.toNat).spare) else t
def fillE (t : Plo) (d : Int) : Nat := if t.noD d then 1 else if t.st d.toNat = 3 then 0 else 6
def fill (t : Plo) (d : Int) : Plo := if t.fillE d = 0 then ⟨t.wk, t.n, up t.st d.toNat 0, t.sl⟩ else t
def newE (t : Plo) (d : Int) : Nat := if t.noD d then 1 else if t.st d.toNat = 2 then 0 else 6
def newN (t : Plo) (d : Int) : Int := if t.newE d = 0 then t.slotOf (-1) else 0
def new (t : Plo) (d : Int) : Plo := if t.newE d = 0 then (if 0 ≤ t.slotOf (-1) then t.into (t.slotOf (-1)).toNat d else ⟨t.wk, t.n, up t.st d.toNat 1, t.sl⟩) else t
/-- each slot its disk -/
structure ok (t : Plo) : Prop where
  lw : 1 ≤ t.wk
  hw : t.wk ≤ 10
  ln : t.wk ≤ t.n
  hn : t.n ≤ 20
  s3 : ∀ d, t.st d ≤ 3
  slot : ∀ k, k < t.wk → t.sl k = -1 ∨ ∃ d : Nat, d < t.n ∧ t.sl k = (d : Int) ∧ (t.st d = 0 ∨ t.st d = 3)
  one : ∀ k k', k < t.wk → k' < t.wk → t.sl k = t.sl k' → t.sl k ≠ -1 → k = k'
  all : ∀ d, d < t.n → t.st d = 0 ∨ t.st d = 3 → ∃ k, k < t.wk ∧ t.sl k = (d : Int)
  full : ∀ k, k < t.wk → t.sl k = -1 → ∀ d, d < t.n → t.st d ≠ 1
theorem ok.fresh {wk sp : Nat} (h1 : 1 ≤ wk) (h2 : wk ≤ 10) (h3 : sp ≤ 10) : ok (fresh wk sp) := by
  refine ⟨h1, h2, Nat.le_add_right _ _, by show wk + sp ≤ 20; omega, fun d => ?_, fun k hk => ?_, fun k k' _ _ e _ => ?_, fun d hd e => ?_, fun k _ e => ?_⟩
  · show (if d < wk then 0 else 1) ≤ 3
    split <;> omega
  · exact .inr ⟨k, by show k < wk + sp; have : k < wk := hk; omega, rfl, .inl (if_pos hk)⟩
  · have e' : (k : Int) = (k' : Int) := e
    omega
  · refine ⟨d, ?_, rfl⟩
    show d < wk
    by_cases q : d < wk
    · exact q
    · have e' : (if d < wk then 0 else 1) = 0 ∨ (if d < wk then 0 else 1) = 3 := e
      rw [if_neg q] at e'
      omega
  · have e' : (k : Int) = -1 := e
    omega
theorem disk_nat {t : Plo} {d : Int} (q : ¬ t.noD d) : ∃ m : Nat, d = (m : Int) ∧ m < t.n := ⟨d.toNat, by unfold noD at q; omega, by unfold noD at q; omega⟩
theorem slotOf_ways (t : Plo) (d : Int) : (t.slotOf d = -1 ∧ ∀ k, k < t.wk → t.sl k ≠ d) ∨ ∃ k : Nat, k < t.wk ∧ t.slotOf d = (k : Int) ∧ t.sl k = d ∧ ∀ j, j < k → t.sl j ≠ d := by
  rcases fstI_ways (fun k => decide (t.sl k = d)) t.wk with ⟨e, h⟩ | ⟨k, hk, e, h1, h2⟩
  · exact .inl ⟨e, fun k hk => of_decide_eq_false (h k hk)⟩
  · exact .inr ⟨k, hk, e, of_decide_eq_true h1, fun j hj => of_decide_eq_false (h2 j hj)⟩
theorem spare_ways (t : Plo) : (t.spare = -1 ∧ ∀ d, d < t.n → t.st d ≠ 1) ∨ ∃ d : Nat, d < t.n ∧ t.spare = (d : Int) ∧ t.st d = 1 ∧ ∀ j, j < d → t.st j ≠ 1 := by
  rcases fstI_ways (fun d => decide (t.st d = 1)) t.n with ⟨e, h⟩ | ⟨d, hd, e, h1, h2⟩
  · exact .inl ⟨e, fun k hk => of_decide_eq_false (h k hk)⟩
  · exact .inr ⟨d, hd, e, of_decide_eq_true h1, fun j hj => of_decide_eq_false (h2 j hj)⟩
theorem ok.fail {t : Plo} (h : ok t) (d : Int) : ok (t.fail d) := by
  unfold Plo.fail
  split
  · rename_i q
    have q1 : ¬ t.noD d := fun e => by unfold failE at q; rw [if_pos e] at q; omega
    obtain ⟨m, rfl, hm⟩ := disk_nat q1
    have q2 : t.st m ≠ 2 := fun e => by unfold failE at q; rw [if_neg q1, Int.toNat_natCast, if_pos e] at q; omega
    rw [Int.toNat_natCast]
    have hs3 : ∀ d, up t.st m 2 d ≤ 3 := fun d => by
      by_cases e : d = m
      · rw [e, up_at]; omega
      · rw [up_ne _ _ e]; exact h.s3 d
    rcases slotOf_ways t (m : Int) with ⟨e, h1⟩ | ⟨k, hk, e, h1, h2⟩
    · rw [if_pos (by omega)]
      -- it stood in no slot
      have hst : ∀ d, d ≠ m → up t.st m 2 d = t.st d := fun d hd => up_ne _ _ hd
      refine ⟨h.lw, h.hw, h.ln, h.hn, hs3, fun k hk => ?_, h.one, fun d hd e => ?_, fun k hk e d hd => ?_⟩
      · rcases h.slot k hk with q | ⟨d, hd, e1, e2⟩
        · exact .inl q
        · refine .inr ⟨d, hd, e1, ?_⟩
          show up t.st m 2 d = 0 ∨ up t.st m 2 d = 3
          rw [hst d (fun z => h1 k hk (by rw [e1, z]))]
          exact e2
      · have e' : up t.st m 2 d = 0 ∨ up t.st m 2 d = 3 := e
        by_cases z : d = m
        · rw [z, up_at] at e'; omega
        · rw [hst d z] at e'; exact h.all d hd e'
      · show up t.st m 2 d ≠ 1
        by_cases z : d = m
        · rw [z, up_at]; omega
        · rw [hst d z]; exact h.full k hk e d hd
    · rw [if_neg (by omega), e, Int.toNat_natCast]
      have hkk : ∀ j, j < t.wk → t.sl j = (m : Int) → j = k := fun j hj z => h.one j k hj hk (z.trans h1.symm) (by rw [z]; omega)
      rcases spare_ways (t.out m) with ⟨es, hs⟩ | ⟨s, hs, es, hs1, _⟩
      · -- there is no spare: the slot has none
        rw [es]
        refine ⟨h.lw, h.hw, h.ln, h.hn, ?_, fun j hj => ?_, fun j j' hj hj' e1 e2 => ?_, fun d hd e1 => ?_, fun j hj e1 d hd => ?_⟩
        · show ∀ d, (if (0 : Int) ≤ -1 then up (up t.st m 2) (-1 : Int).toNat 3 else up t.st m 2) d ≤ 3
          rw [if_neg (by omega)]; exact hs3
        · show up t.sl k (-1) j = -1 ∨ ∃ d : Nat, d < t.n ∧ up t.sl k (-1) j = (d : Int) ∧ ((if (0 : Int) ≤ -1 then up (up t.st m 2) (-1 : Int).toNat 3 else up t.st m 2) d = 0 ∨ (if (0 : Int) ≤ -1 then up (up t.st m 2) (-1 : Int).toNat 3 else up t.st m 2) d = 3)
          rw [if_neg (by omega)]
          by_cases z : j = k
          · rw [z, up_at]; exact .inl rfl
          · rw [up_ne _ _ z]
            rcases h.slot j hj with q | ⟨d, hd, e1, e2⟩
            · exact .inl q
            · refine .inr ⟨d, hd, e1, ?_⟩
              rw [up_ne _ _ (fun y => z (hkk j hj (by rw [e1, y])))]
              exact e2
        · have e1' : up t.sl k (-1) j = up t.sl k (-1) j' := e1
          have e2' : up t.sl k (-1) j ≠ -1 := e2
          by_cases z : j = k
          · rw [z, up_at] at e2'; omega
          · by_cases z' : j' = k
            · rw [z', up_at] at e1'; rw [e1'] at e2'; omega
            · rw [up_ne _ _ z] at e1' e2'
              rw [up_ne _ _ z'] at e1'
              exact h.one j j' hj hj' e1' e2'
        · have e1' : (if (0 : Int) ≤ -1 then up (up t.st m 2) (-1 : Int).toNat 3 else up t.st m 2) d = 0 ∨ (if (0 : Int) ≤ -1 then up (up t.st m 2) (-1 : Int).toNat 3 else up t.st m 2) d = 3 := e1
          rw [if_neg (by omega)] at e1'
          have z : d ≠ m := fun y => by rw [y, up_at] at e1'; omega
          rw [up_ne _ _ z] at e1'
          obtain ⟨j, hj, ej⟩ := h.all d hd e1'
          refine ⟨j, hj, ?_⟩
          show up t.sl k (-1) j = (d : Int)
          rw [up_ne _ _ (fun y => z (by rw [y, h1] at ej; omega))]
          exact ej
        · show (if (0 : Int) ≤ -1 then up (up t.st m 2) (-1 : Int).toNat 3 else up t.st m 2) d ≠ 1
          rw [if_neg (by omega)]
          exact hs d hd
      · -- the spare stands there
        rw [es]
        have hsm : s ≠ m := fun z => by
          have : up t.st m 2 s = 1 := hs1
          rw [z, up_at] at this; omega
        have hss : t.st s = 1 := by
          have : up t.st m 2 s = 1 := hs1
          rw [up_ne _ _ hsm] at this; exact this
        have hsl : ∀ j, j < t.wk → t.sl j ≠ (s : Int) := fun j hj z => by
          rcases h.slot j hj with q | ⟨d, hd, e1, e2⟩
          · omega
          · have : d = s := by omega
            rw [this] at e2; omega
        have hno : ∀ j, j < t.wk → t.sl j ≠ -1 := fun j hj z => h.full j hj z s hs hss
        have hST : ∀ d, (if (0 : Int) ≤ (s : Int) then up (up t.st m 2) ((s : Int).toNat) 3 else up t.st m 2) d = if d = s then 3 else if d = m then 2 else t.st d := fun d => by
          rw [if_pos (by omega), Int.toNat_natCast]
          by_cases y : d = s
          · rw [y, up_at, if_pos rfl]
          · rw [up_ne _ _ y, if_neg y]
            by_cases y2 : d = m
            · rw [y2, up_at, if_pos rfl]
            · rw [up_ne _ _ y2, if_neg y2]
        refine ⟨h.lw, h.hw, h.ln, h.hn, fun d => ?_, fun j hj => ?_, fun j j' hj hj' e1 e2 => ?_, fun d hd e1 => ?_, fun j hj e1 d hd => ?_⟩
        · show (if (0 : Int) ≤ (s : Int) then up (up t.st m 2) ((s : Int).toNat) 3 else up t.st m 2) d ≤ 3
          rw [hST]
          have := h.s3 d
          split
          · omega
          · split <;> omega
        · by_cases z : j = k
          · refine .inr ⟨s, hs, ?_, .inr ?_⟩
            · show up t.sl k (s : Int) j = _
              rw [z, up_at]
            · show (if (0 : Int) ≤ (s : Int) then up (up t.st m 2) ((s : Int).toNat) 3 else up t.st m 2) s = 3
              rw [hST, if_pos rfl]
          · rcases h.slot j hj with q | ⟨d, hd, e1, e2⟩
            · exact absurd q (hno j hj)
            · refine .inr ⟨d, hd, ?_, ?_⟩
              · show up t.sl k (s : Int) j = _
                rw [up_ne _ _ z]; exact e1
              · show (if (0 : Int) ≤ (s : Int) then up (up t.st m 2) ((s : Int).toNat) 3 else up t.st m 2) d = 0 ∨ (if (0 : Int) ≤ (s : Int) then up (up t.st m 2) ((s : Int).toNat) 3 else up t.st m 2) d = 3
                rw [hST, if_neg (fun y => hsl j hj (by rw [e1, y])), if_neg (fun y => z (hkk j hj (by rw [e1, y])))]
                exact e2
        · have e1' : up t.sl k (s : Int) j = up t.sl k (s : Int) j' := e1
          by_cases z : j = k
          · by_cases z' : j' = k
            · omega
            · rw [z, up_at, up_ne _ _ z'] at e1'
              exact absurd e1'.symm (hsl j' hj')
          · by_cases z' : j' = k
            · rw [z', up_at, up_ne _ _ z] at e1'
              exact absurd e1' (hsl j hj)
            · rw [up_ne _ _ z, up_ne _ _ z'] at e1'
              exact h.one j j' hj hj' e1' (hno j hj)
        · have e1' : (if (0 : Int) ≤ (s : Int) then up (up t.st m 2) ((s : Int).toNat) 3 else up t.st m 2) d = 0 ∨ (if (0 : Int) ≤ (s : Int) then up (up t.st m 2) ((s : Int).toNat) 3 else up t.st m 2) d = 3 := e1
          rw [hST] at e1'
          by_cases y : d = s
          · refine ⟨k, hk, ?_⟩
            show up t.sl k (s : Int) k = _
            rw [up_at, y]
          · rw [if_neg y] at e1'
            have y2 : d ≠ m := fun y2 => by rw [if_pos y2] at e1'; omega
            rw [if_neg y2] at e1'
            obtain ⟨j, hj, ej⟩ := h.all d hd e1'
            refine ⟨j, hj, ?_⟩
            show up t.sl k (s : Int) j = _
            rw [up_ne _ _ (fun z => y2 (by rw [z, h1] at ej; omega))]
            exact ej
        · have e1' : up t.sl k (s : Int) j = -1 := e1
          by_cases z : j = k
          · rw [z, up_at] at e1'; omega
          · rw [up_ne _ _ z] at e1'; exact absurd e1' (hno j hj)
  · exact h
theorem ok.fill {t : Plo} (h : ok t) (d : Int) : ok (t.fill d) := by
  unfold Plo.fill
  split
  · rename_i q
    have q1 : ¬ t.noD d := fun e => by unfold fillE at q; rw [if_pos e] at q; omega
    obtain ⟨m, rfl, hm⟩ := disk_nat q1
    have q2 : t.st m = 3 := Decidable.byContradiction (fun e => by unfold fillE at q; rw [if_neg q1, Int.toNat_natCast, if_neg e] at q; omega)
    rw [Int.toNat_natCast]
    have hu : ∀ d, (up t.st m 0 d = 0 ∨ up t.st m 0 d = 3) ↔ (t.st d = 0 ∨ t.st d = 3) := fun d => by
      by_cases e : d = m
      · rw [e, up_at]; omega
      · rw [up_ne _ _ e]
    refine ⟨h.lw, h.hw, h.ln, h.hn, fun d => ?_, fun k hk => ?_, h.one, fun d hd e => h.all d hd ((hu d).1 e), fun k hk e d hd => ?_⟩
    · show up t.st m 0 d ≤ 3
      by_cases e : d = m
      · rw [e, up_at]; omega
      · rw [up_ne _ _ e]; exact h.s3 d
    · rcases h.slot k hk with q | ⟨d, hd, e1, e2⟩
      · exact .inl q
      · exact .inr ⟨d, hd, e1, (hu d).2 e2⟩
    · show up t.st m 0 d ≠ 1
      by_cases e3 : d = m
      · rw [e3, up_at]; omega
      · rw [up_ne _ _ e3]; exact h.full k hk e d hd
  · exact h
theorem ok.new {t : Plo} (h : ok t) (d : Int) : ok (t.new d) := by
  unfold Plo.new
  split
  · rename_i q
    have q1 : ¬ t.noD d := fun e => by unfold newE at q; rw [if_pos e] at q; omega
    obtain ⟨m, rfl, hm⟩ := disk_nat q1
    have q2 : t.st m = 2 := Decidable.byContradiction (fun e => by unfold newE at q; rw [if_neg q1, Int.toNat_natCast, if_neg e] at q; omega)
    have hsl : ∀ j, j < t.wk → t.sl j ≠ (m : Int) := fun j hj z => by
      rcases h.slot j hj with q | ⟨d, hd, e1, e2⟩
      · omega
      · have : d = m := by omega
        rw [this] at e2; omega
    rcases slotOf_ways t (-1) with ⟨e, h1⟩ | ⟨k, hk, e, h1, h2⟩
    · rw [if_neg (by omega), Int.toNat_natCast]
      refine ⟨h.lw, h.hw, h.ln, h.hn, fun d => ?_, fun k hk => ?_, h.one, fun d hd e => ?_, fun k hk e => absurd e (h1 k hk)⟩
      · show up t.st m 1 d ≤ 3
        by_cases e : d = m
        · rw [e, up_at]; omega
        · rw [up_ne _ _ e]; exact h.s3 d
      · rcases h.slot k hk with q | ⟨d, hd, e1, e2⟩
        · exact .inl q
        · refine .inr ⟨d, hd, e1, ?_⟩
          show up t.st m 1 d = 0 ∨ up t.st m 1 d = 3
          rw [up_ne _ _ (fun z => hsl k hk (by rw [e1, z]))]
          exact e2
      · have e' : up t.st m 1 d = 0 ∨ up t.st m 1 d = 3 := e
        by_cases z : d = m
        · rw [z, up_at] at e'; omega
        · rw [up_ne _ _ z] at e'; exact h.all d hd e'
    · rw [if_pos (by omega), e, Int.toNat_natCast]
      have hST : ∀ d, (if (0 : Int) ≤ (m : Int) then up t.st ((m : Int).toNat) 3 else t.st) d = if d = m then 3 else t.st d := fun d => by
        rw [if_pos (by omega), Int.toNat_natCast]
        by_cases y : d = m
        · rw [y, up_at, if_pos rfl]
        · rw [up_ne _ _ y, if_neg y]
      refine ⟨h.lw, h.hw, h.ln, h.hn, fun d => ?_, fun j hj => ?_, fun j j' hj hj' e1 e2 => ?_, fun d hd e1 => ?_, fun j hj e1 d hd => ?_⟩
      · show (if (0 : Int) ≤ (m : Int) then up t.st ((m : Int).toNat) 3 else t.st) d ≤ 3
        rw [hST]
        have := h.s3 d
        split <;> omega
      · by_cases z : j = k
        · refine .inr ⟨m, hm, ?_, .inr ?_⟩
          · show up t.sl k (m : Int) j = _
            rw [z, up_at]
          · show (if (0 : Int) ≤ (m : Int) then up t.st ((m : Int).toNat) 3 else t.st) m = 3
            rw [hST, if_pos rfl]
        · rcases h.slot j hj with q | ⟨d, hd, e1, e2⟩
          · refine .inl ?_
            show up t.sl k (m : Int) j = -1
            rw [up_ne _ _ z]; exact q
          · refine .inr ⟨d, hd, ?_, ?_⟩
            · show up t.sl k (m : Int) j = _
              rw [up_ne _ _ z]; exact e1
            · show (if (0 : Int) ≤ (m : Int) then up t.st ((m : Int).toNat) 3 else t.st) d = 0 ∨ (if (0 : Int) ≤ (m : Int) then up t.st ((m : Int).toNat) 3 else t.st) d = 3
              rw [hST, if_neg (fun y => hsl j hj (by rw [e1, y]))]
              exact e2
      · have e1' : up t.sl k (m : Int) j = up t.sl k (m : Int) j' := e1
        have e2' : up t.sl k (m : Int) j ≠ -1 := e2
        by_cases z : j = k
        · by_cases z' : j' = k
          · omega
          · rw [z, up_at, up_ne _ _ z'] at e1'
            exact absurd e1'.symm (hsl j' hj')
        · by_cases z' : j' = k
          · rw [z', up_at, up_ne _ _ z] at e1'
            exact absurd e1' (hsl j hj)
          · rw [up_ne _ _ z, up_ne _ _ z'] at e1'
            rw [up_ne _ _ z] at e2'
            exact h.one j j' hj hj' e1' e2'
      · have e1' : (if (0 : Int) ≤ (m : Int) then up t.st ((m : Int).toNat) 3 else t.st) d = 0 ∨ (if (0 : Int) ≤ (m : Int) then up t.st ((m : Int).toNat) 3 else t.st) d = 3 := e1
        rw [hST] at e1'
        by_cases y : d = m
        · refine ⟨k, hk, ?_⟩
          show up t.sl k (m : Int) k = _
          rw [up_at, y]
        · rw [if_neg y] at e1'
          obtain ⟨j, hj, ej⟩ := h.all d hd e1'
          refine ⟨j, hj, ?_⟩
          show up t.sl k (m : Int) j = _
          rw [up_ne _ _ (fun z => by rw [z, h1] at ej; omega)]
          exact ej
      · show (if (0 : Int) ≤ (m : Int) then up t.st ((m : Int).toNat) 3 else t.st) d ≠ 1
        rw [hST]
        split
        · omega
        · exact h.full k hk h1 d hd
  · exact h
end Plo
end Go.Proofs.Yticgapgggoklfaa
