/- Who may: a model, which the document's reserve and the program's both follow. -/
import Derived.Test.YtfeikmmojilmbaaDoorGen
namespace Go.Proofs.YtfeikmmojilmbaaDoor
/-- of each host its key (0: none), who holds the reservation, and its kind (0, 0: nobody does) -/
structure Rsv where
  key : Nat → Int
  host : Int
  kind : Int
namespace Rsv
def noH (h : Int) : Prop := h < 1 ∨ 9 < h
def noK (k : Int) : Prop := k < 1 ∨ 1000000 < k
def noD (d : Int) : Prop := d < 1 ∨ 4 < d
instance (h : Int) : Decidable (noH h) := inferInstanceAs (Decidable (_ ∨ _))
instance (k : Int) : Decidable (noK k) := inferInstanceAs (Decidable (_ ∨ _))
instance (d : Int) : Decidable (noD d) := inferInstanceAs (Decidable (_ ∨ _))
def fresh : Rsv := ⟨fun _ => 0, 0, 0⟩
def regE (h k : Int) : Nat := if noH h ∨ noK k then 1 else 0
def reg (t : Rsv) (h k : Int) : Rsv := if noH h ∨ noK k then t else ⟨up t.key h.toNat k, t.host, t.kind⟩
/-- a host leaves -/
def out (t : Rsv) (m : Nat) : Rsv := ⟨up t.key m 0, if t.host = m then 0 else t.host, if t.host = m then 0 else t.kind⟩
def leaveE (t : Rsv) (h : Int) : Nat := if noH h then 1 else if t.key h.toNat = 0 then 5 else 0
def leave (t : Rsv) (h : Int) : Rsv := if t.leaveE h = 0 then t.out h.toNat else t
/-- a key that is the host's -/
def mine (t : Rsv) (h k : Int) : Prop := k ≠ 0 ∧ t.key h.toNat = k
instance (t : Rsv) (h k : Int) : Decidable (t.mine h k) := inferInstanceAs (Decidable (_ ∧ _))
def useE (t : Rsv) (h k d : Int) : Nat := if noH h ∨ noD d then 1 else if t.mine h k then 0 else 9
def holdE (t : Rsv) (h k d : Int) : Nat := if t.useE h k d = 0 then (if t.host ≠ 0 ∧ (t.host ≠ h ∨ t.kind ≠ d) then 6 else 0) else t.useE h k d
def hold (t : Rsv) (h k d : Int) : Rsv := if t.holdE h k d = 0 then ⟨t.key, h, d⟩ else t
def freeE (t : Rsv) (h k d : Int) : Nat := if t.useE h k d = 0 then (if t.host ≠ h then 5 else if t.kind ≠ d then 3 else 0) else t.useE h k d
def free (t : Rsv) (h k d : Int) : Rsv := if t.freeE h k d = 0 then ⟨t.key, 0, 0⟩ else t
/-- of hosts 1 to i those with a key leave -/
def outs (t : Rsv) (o : Int) : Nat → Rsv
  | 0 => t
  | i + 1 => if (outs t o i).key (i + 1) = o then (outs t o i).out (i + 1) else outs t o i
/-- how many -/
def many (t : Rsv) (o : Int) : Nat → Nat
  | 0 => 0
  | i + 1 => if t.key (i + 1) = o then many t o i + 1 else many t o i
def preE (t : Rsv) (h k o : Int) : Nat := if noH h ∨ noK o then 1 else if t.mine h k then (if t.many o 9 = 0 then 5 else 0) else 9
def preN (t : Rsv) (h k o : Int) : Nat := if t.preE h k o = 0 then t.many o 9 else 0
/-- the reservation is taken over, where it was held, and nobody holds it now -/
def take (t u : Rsv) (h : Int) : Rsv := if t.host ≠ 0 ∧ u.host = 0 ∧ u.key h.toNat ≠ 0 then ⟨u.key, h, t.kind⟩ else u
def pre (t : Rsv) (h k o : Int) : Rsv := if t.preE h k o = 0 then t.take (t.outs o 9) h else t
def may (t : Rsv) (h : Int) (wr : Bool) : Bool :=
  if t.kind = 1 then !wr || decide (t.host = h) else if t.kind = 2 then decide (t.host = h) else if t.kind = 3 then !wr || decide (t.key h.toNat ≠ 0) else if t.kind = 4 then decide (t.key h.toNat ≠ 0) else true
def mayE (h : Int) : Nat := if noH h then 1 else 0
def mayB (t : Rsv) (h : Int) (wr : Bool) : Bool := if noH h then false else t.may h wr
/-- what there is is in order: keys are keys, or 0; who holds the reservation has one -/
structure ok (t : Rsv) : Prop where
  lo : ∀ m, 0 ≤ t.key m
  hi : ∀ m, t.key m ≤ 1000000
  z : t.key 0 = 0
  held : (t.host = 0 ∧ t.kind = 0) ∨ ∃ m : Nat, t.host = m ∧ 1 ≤ m ∧ m ≤ 9 ∧ t.key m ≠ 0 ∧ 1 ≤ t.kind ∧ t.kind ≤ 4
theorem host_nat {h : Int} (q : ¬ noH h) : ∃ m : Nat, h = (m : Int) ∧ 1 ≤ m ∧ m ≤ 9 := ⟨h.toNat, by unfold noH at q; omega, by unfold noH at q; omega, by unfold noH at q; omega⟩
theorem noH_nat {m : Nat} (h1 : 1 ≤ m) (h2 : m ≤ 9) : ¬ noH (m : Int) := fun q => by unfold noH at q; omega
theorem ok.fresh : ok fresh := ⟨fun _ => Int.le_refl _, fun _ => by show (0 : Int) ≤ _; omega, rfl, .inl ⟨rfl, rfl⟩⟩
variable {t : Rsv}
theorem ok.host_lo (h : ok t) : 0 ≤ t.host := by
  rcases h.held with ⟨e, _⟩ | ⟨m, e, _⟩
  · omega
  · omega
theorem ok.host_hi (h : ok t) : t.host ≤ 9 := by
  rcases h.held with ⟨e, _⟩ | ⟨m, e, _⟩
  · omega
  · omega
theorem ok.kind_lo (h : ok t) : 0 ≤ t.kind := by
  rcases h.held with ⟨_, e⟩ | ⟨m, _, _, _, _, e, _⟩
  · omega
  · omega
theorem ok.kind_hi (h : ok t) : t.kind ≤ 4 := by
  rcases h.held with ⟨_, e⟩ | ⟨m, _, _, _, _, _, e⟩
  · omega
  · omega
theorem ok.zero (h : ok t) : t.host = 0 ↔ t.kind = 0 := by
  rcases h.held with ⟨e, f⟩ | ⟨m, e, h1, _, _, f, _⟩
  · omega
  · omega
theorem ok.reg (h : ok t) (a k : Int) : ok (t.reg a k) := by
  unfold Rsv.reg
  split
  · exact h
  · rename_i q
    have q1 : ¬ noH a := fun e => q (.inl e)
    have q2 : ¬ noK k := fun e => q (.inr e)
    obtain ⟨m, rfl, h1, h2⟩ := host_nat q1
    rw [Int.toNat_natCast]
    unfold noK at q2
    refine ⟨fun i => ?_, fun i => ?_, ?_, ?_⟩
    · by_cases e : i = m
      · show 0 ≤ up t.key m k i
        rw [e, up_at]; omega
      · show 0 ≤ up t.key m k i
        rw [up_ne _ _ e]; exact h.lo i
    · by_cases e : i = m
      · show up t.key m k i ≤ _
        rw [e, up_at]; omega
      · show up t.key m k i ≤ _
        rw [up_ne _ _ e]; exact h.hi i
    · show up t.key m k 0 = 0
      rw [up_ne _ _ (by omega)]; exact h.z
    · rcases h.held with e | ⟨i, e1, e2, e3, e4, e5⟩
      · exact .inl e
      · refine .inr ⟨i, e1, e2, e3, ?_, e5⟩
        show up t.key m k i ≠ 0
        by_cases e : i = m
        · rw [e, up_at]; omega
        · rw [up_ne _ _ e]; exact e4
theorem ok.out (h : ok t) (m : Nat) (hm : 1 ≤ m) : ok (t.out m) := by
  refine ⟨fun i => ?_, fun i => ?_, ?_, ?_⟩
  · show 0 ≤ up t.key m 0 i
    by_cases e : i = m
    · rw [e, up_at]; omega
    · rw [up_ne _ _ e]; exact h.lo i
  · show up t.key m 0 i ≤ _
    by_cases e : i = m
    · rw [e, up_at]; omega
    · rw [up_ne _ _ e]; exact h.hi i
  · show up t.key m 0 0 = 0
    rw [up_ne _ _ (by omega)]; exact h.z
  · unfold Rsv.out
    by_cases q : t.host = m
    · rw [if_pos q, if_pos q]; exact .inl ⟨rfl, rfl⟩
    · rw [if_neg q, if_neg q]
      rcases h.held with e | ⟨i, e1, e2, e3, e4, e5⟩
      · exact .inl e
      · refine .inr ⟨i, e1, e2, e3, ?_, e5⟩
        show up t.key m 0 i ≠ 0
        rw [up_ne _ _ (by omega)]; exact e4
theorem ok.leave (h : ok t) (a : Int) : ok (t.leave a) := by
  unfold Rsv.leave
  split
  · rename_i q
    have q1 : ¬ noH a := fun e => by unfold leaveE at q; rw [if_pos e] at q; omega
    obtain ⟨m, rfl, h1, h2⟩ := host_nat q1
    exact h.out _ (by omega)
  · exact h
theorem use_ok {h k d : Int} (q : t.useE h k d = 0) : ¬ noH h ∧ ¬ noD d ∧ t.mine h k := by
  unfold useE at q
  split at q
  · omega
  · rename_i e
    split at q
    · rename_i e2
      exact ⟨fun z => e (.inl z), fun z => e (.inr z), e2⟩
    · omega
theorem hold_ok {h k d : Int} (q : t.holdE h k d = 0) : t.useE h k d = 0 ∧ ¬ (t.host ≠ 0 ∧ (t.host ≠ h ∨ t.kind ≠ d)) := by
  unfold holdE at q
  split at q
  · rename_i e
    split at q
    · omega
    · rename_i e2
      exact ⟨e, e2⟩
  · rename_i e
    exact absurd q e
theorem free_ok {h k d : Int} (q : t.freeE h k d = 0) : t.useE h k d = 0 ∧ t.host = h ∧ t.kind = d := by
  unfold freeE at q
  split at q
  · rename_i e
    split at q
    · omega
    · split at q
      · omega
      · rename_i e1 e2
        exact ⟨e, by omega, by omega⟩
  · rename_i e
    exact absurd q e
theorem ok.hold (h : ok t) (a k d : Int) : ok (t.hold a k d) := by
  unfold Rsv.hold
  split
  · rename_i q
    obtain ⟨q1, q2, q3⟩ := use_ok (hold_ok q).1
    obtain ⟨m, rfl, h1, h2⟩ := host_nat q1
    unfold mine at q3
    rw [Int.toNat_natCast] at q3
    unfold noD at q2
    exact ⟨h.lo, h.hi, h.z, .inr ⟨m, rfl, h1, h2, by show t.key m ≠ 0; omega, by show 1 ≤ d; omega, by show d ≤ 4; omega⟩⟩
  · exact h
theorem ok.free (h : ok t) (a k d : Int) : ok (t.free a k d) := by
  unfold Rsv.free
  split
  · exact ⟨h.lo, h.hi, h.z, .inl ⟨rfl, rfl⟩⟩
  · exact h
theorem ok.outs (h : ok t) (o : Int) : ∀ i, ok (t.outs o i)
  | 0 => h
  | i + 1 => by
    unfold Rsv.outs
    split
    · exact (ok.outs h o i).out _ (by omega)
    · exact ok.outs h o i
/-- a host behind those that left is as it was -/
theorem outs_behind (t : Rsv) (o : Int) : ∀ i j, i < j → (t.outs o i).key j = t.key j
  | 0, _, _ => rfl
  | i + 1, j, hj => by
    unfold Rsv.outs
    split
    · show up (t.outs o i).key (i + 1) 0 j = _
      rw [up_ne _ _ (by omega)]
      exact outs_behind t o i j (by omega)
    · exact outs_behind t o i j (by omega)
theorem outs_yes {o : Int} {i : Nat} (h : t.key (i + 1) = o) : t.outs o (i + 1) = (t.outs o i).out (i + 1) ∧ t.many o (i + 1) = t.many o i + 1 := by
  have e := outs_behind t o i (i + 1) (by omega)
  exact ⟨by rw [Rsv.outs, if_pos (by rw [e]; exact h)], by rw [many, if_pos h]⟩
theorem outs_no {o : Int} {i : Nat} (h : t.key (i + 1) ≠ o) : t.outs o (i + 1) = t.outs o i ∧ t.many o (i + 1) = t.many o i := by
  have e := outs_behind t o i (i + 1) (by omega)
  exact ⟨by rw [Rsv.outs, if_neg (by rw [e]; exact h)], by rw [many, if_neg h]⟩
theorem many_le (t : Rsv) (o : Int) : ∀ i, t.many o i ≤ i
  | 0 => Nat.le_refl _
  | i + 1 => by
    have := many_le t o i
    unfold many
    split <;> omega
/-- none left: all is as it was -/
theorem outs_none (t : Rsv) (o : Int) : ∀ i, t.many o i = 0 → t.outs o i = t
  | 0, _ => rfl
  | i + 1, h => by
    unfold many at h
    split at h
    · omega
    · rename_i q
      rw [(outs_no q).1]
      exact outs_none t o i h
/-- who holds it behind those that left: who held it, or nobody -/
theorem outs_held (t : Rsv) (o : Int) : ∀ i, ((t.outs o i).host = t.host ∧ (t.outs o i).kind = t.kind) ∨ ((t.outs o i).host = 0 ∧ (t.outs o i).kind = 0)
  | 0 => .inl ⟨rfl, rfl⟩
  | i + 1 => by
    unfold Rsv.outs
    split
    · unfold Rsv.out
      by_cases q : (t.outs o i).host = ((i + 1 : Nat) : Int)
      · rw [if_pos q, if_pos q]; exact .inr ⟨rfl, rfl⟩
      · rw [if_neg q, if_neg q]; exact outs_held t o i
    · exact outs_held t o i
/-- another one holds it just if it was held, and nobody does now -/
theorem outs_other (h : ok t) (o : Int) (i : Nat) : ((t.outs o i).host ≠ t.host ∨ (t.outs o i).kind ≠ t.kind) ↔ (t.host ≠ 0 ∧ (t.outs o i).host = 0) := by
  have hz := h.zero
  rcases outs_held t o i with ⟨e1, e2⟩ | ⟨e1, e2⟩
  · rw [e1, e2]; omega
  · rw [e1, e2]; omega
theorem pre_ok {h k o : Int} (q : t.preE h k o = 0) : ¬ noH h ∧ ¬ noK o ∧ t.mine h k ∧ t.many o 9 ≠ 0 := by
  unfold preE at q
  split at q
  · omega
  · rename_i e
    split at q
    · rename_i e2
      split at q
      · omega
      · rename_i e3
        exact ⟨fun z => e (.inl z), fun z => e (.inr z), e2, e3⟩
    · omega
theorem ok.take {u : Rsv} (h : ok t) (hu : ok u) {a : Int} (ha : ¬ noH a) : ok (t.take u a) := by
  unfold Rsv.take
  split
  · rename_i q
    obtain ⟨m, rfl, h1, h2⟩ := host_nat ha
    rw [Int.toNat_natCast] at q
    have h3 : 1 ≤ t.kind := by
      have := h.zero
      have := h.kind_lo
      omega
    exact ⟨hu.lo, hu.hi, hu.z, .inr ⟨m, rfl, h1, h2, q.2.2, h3, h.kind_hi⟩⟩
  · exact hu
theorem ok.pre (h : ok t) (a k o : Int) : ok (t.pre a k o) := by
  unfold Rsv.pre
  split
  · rename_i q
    exact h.take (h.outs o 9) (pre_ok q).1
  · exact h
theorem may_read {h : Int} (q : t.may h true = true) : t.may h false = true := by
  unfold may at q ⊢
  by_cases e1 : t.kind = 1
  · rw [if_pos e1]; rfl
  · rw [if_neg e1] at q ⊢
    by_cases e2 : t.kind = 2
    · rw [if_pos e2] at q ⊢; exact q
    · rw [if_neg e2] at q ⊢
      by_cases e3 : t.kind = 3
      · rw [if_pos e3]; rfl
      · rw [if_neg e3] at q ⊢
        exact q
end Rsv
end Go.Proofs.YtfeikmmojilmbaaDoor
