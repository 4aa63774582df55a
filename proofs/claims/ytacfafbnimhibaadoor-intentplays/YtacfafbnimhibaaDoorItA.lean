/- What may be torn: a model, which the document's intent and the program's both follow. -/
import Derived.Test.YtacfafbnimhibaaDoorGen
namespace Go.Proofs.YtacfafbnimhibaaDoor
/-- so wide regions of 40 cells: how often each is being written, which regions are dirty -/
structure Itn where
  wide : Nat
  many : Nat → Nat
  dirty : Nat → Bool
namespace Itn
def ok (t : Itn) : Prop := 1 ≤ t.wide ∧ t.wide ≤ 40
def fresh (wide : Nat) : Itn := ⟨wide, fun _ => 0, fun _ => false⟩
def noC (c : Int) : Prop := c < 0 ∨ 40 ≤ c
instance (c : Int) : Decidable (noC c) := inferInstanceAs (Decidable (_ ∨ _))
/-- a cell's region, and the last one -/
def reg (t : Itn) (c : Nat) : Nat := c / t.wide
def last (t : Itn) : Nat := 39 / t.wide
def noG (t : Itn) (r : Int) : Prop := r < 0 ∨ (t.last : Int) < r
instance (t : Itn) (r : Int) : Decidable (t.noG r) := inferInstanceAs (Decidable (_ ∨ _))
def beginE (c : Int) : Nat := if noC c then 1 else 0
def beginB (t : Itn) (c : Int) : Bool := if noC c then false else !t.dirty (t.reg c.toNat)
def begin' (t : Itn) (c : Int) : Itn := if noC c then t else ⟨t.wide, up t.many c.toNat (t.many c.toNat + 1), up t.dirty (t.reg c.toNat) true⟩
def endE (t : Itn) (c : Int) : Nat := if noC c then 1 else if t.many c.toNat = 0 then 6 else 0
def end' (t : Itn) (c : Int) : Itn := if t.endE c = 0 then ⟨t.wide, up t.many c.toNat (t.many c.toNat - 1), t.dirty⟩ else t
/-- one of a region's cells is being written -/
def busy (t : Itn) (r : Nat) : Bool := anyB (fun c => decide (t.reg c = r) && decide (0 < t.many c)) 40
def cleanE (t : Itn) (r : Int) : Nat := if t.noG r then 1 else 0
def cleanB (t : Itn) (r : Int) : Bool := if t.noG r then false else t.dirty r.toNat && !t.busy r.toNat
def clean (t : Itn) (r : Int) : Itn := if t.cleanB r = true then ⟨t.wide, t.many, up t.dirty r.toNat false⟩ else t
def crash (t : Itn) : Itn := ⟨t.wide, fun _ => 0, t.dirty⟩
/-- the dirty regions, rising -/
def list (t : Itn) : List Nat := (List.range 40).filter t.dirty
/-- what there is is in order: no region is dirty that there is not, and what is being written is dirty -/
structure Cov (t : Itn) : Prop where
  ok : t.ok
  low : ∀ r, t.dirty r = true → r ≤ t.last
  cov : ∀ c, c < 40 → 0 < t.many c → t.dirty (t.reg c) = true
theorem reg_le {t : Itn} {c : Nat} (hc : c < 40) : t.reg c ≤ t.last := Nat.div_le_div_right (by omega)
theorem Cov.fresh {wide : Nat} (h1 : 1 ≤ wide) (h2 : wide ≤ 40) : Cov (Itn.fresh wide) := ⟨⟨h1, h2⟩, fun _ h => absurd h Bool.false_ne_true, fun _ _ h => absurd h (Nat.lt_irrefl 0)⟩
theorem noC_nat {c : Int} (h : ¬ noC c) : ∃ k : Nat, c = k ∧ k < 40 := ⟨c.toNat, by unfold noC at h; omega, by unfold noC at h; omega⟩
theorem Cov.begin' {t : Itn} (h : Cov t) (c : Int) : Cov (t.begin' c) := by
  unfold Itn.begin'
  split
  · exact h
  · rename_i q
    obtain ⟨k, rfl, hk⟩ := noC_nat q
    rw [Int.toNat_natCast]
    refine ⟨h.ok, fun r hr => ?_, fun c hc hm => ?_⟩
    · by_cases e : r = t.reg k
      · rw [e]; exact reg_le hk
      · exact h.low r (by rw [← up_ne t.dirty true e]; exact hr)
    · show up t.dirty (t.reg k) true (t.reg c) = true
      by_cases e : t.reg c = t.reg k
      · rw [e, up_at]
      · rw [up_ne _ _ e]
        refine h.cov c hc ?_
        have e2 : c ≠ k := fun z => e (by rw [z])
        have hm' : 0 < up t.many k (t.many k + 1) c := hm
        rw [up_ne _ _ e2] at hm'
        exact hm'
theorem Cov.end' {t : Itn} (h : Cov t) (c : Int) : Cov (t.end' c) := by
  unfold Itn.end'
  split
  · refine ⟨h.ok, h.low, fun d hd hm => h.cov d hd ?_⟩
    have hm' : 0 < up t.many c.toNat (t.many c.toNat - 1) d := hm
    by_cases e : d = c.toNat
    · rw [e, up_at] at hm'; rw [e]; omega
    · rw [up_ne _ _ e] at hm'; exact hm'
  · exact h
theorem busy_not {t : Itn} {r : Nat} (h : t.busy r = false) {c : Nat} (hc : c < 40) (hr : t.reg c = r) : t.many c = 0 := by
  have := anyB_false.1 h c hc
  rw [decide_eq_true hr, Bool.true_and, decide_eq_false_iff_not] at this
  omega
theorem Cov.clean {t : Itn} (h : Cov t) (r : Int) : Cov (t.clean r) := by
  unfold Itn.clean
  split
  · rename_i q
    unfold cleanB at q
    split at q
    · exact absurd q Bool.false_ne_true
    · rw [Bool.and_eq_true, Bool.not_eq_true'] at q
      refine ⟨h.ok, fun s hs => ?_, fun c hc hm => ?_⟩
      · by_cases e : s = r.toNat
        · have hs' : up t.dirty r.toNat false s = true := hs
          rw [e, up_at] at hs'
          exact absurd hs' Bool.false_ne_true
        · exact h.low s (by rw [← up_ne t.dirty false e]; exact hs)
      · show up t.dirty r.toNat false (t.reg c) = true
        have hm' : 0 < t.many c := hm
        by_cases e : t.reg c = r.toNat
        · have := busy_not q.2 hc e
          omega
        · rw [up_ne _ _ e]
          exact h.cov c hc hm'
  · exact h
theorem Cov.crash {t : Itn} (h : Cov t) : Cov t.crash := ⟨h.ok, h.low, fun _ _ hm => absurd hm (Nat.lt_irrefl 0)⟩
theorem mem_list {t : Itn} {r : Nat} : r ∈ t.list ↔ r < 40 ∧ t.dirty r = true := by
  unfold list
  rw [List.mem_filter, List.mem_range]
theorem Cov.in_list {t : Itn} (h : Cov t) {c : Nat} (hc : c < 40) (hm : 0 < t.many c) : t.reg c ∈ t.list :=
  mem_list.2 ⟨Nat.lt_of_le_of_lt (Nat.div_le_self c t.wide) hc, h.cov c hc hm⟩
/-- what is begun and ended again is begun no more -/
theorem many_back (t : Itn) {k : Nat} (hk : k < 40) : ((t.begin' (k : Int)).end' (k : Int)).many = t.many ∧ ((t.begin' (k : Int))).endE (k : Int) = 0 := by
  have hn : ¬ noC (k : Int) := by unfold noC; omega
  have hb : t.begin' (k : Int) = ⟨t.wide, up t.many k (t.many k + 1), up t.dirty (t.reg k) true⟩ := by unfold Itn.begin'; rw [if_neg hn, Int.toNat_natCast]
  have he : (t.begin' (k : Int)).endE (k : Int) = 0 := by
    unfold endE
    rw [if_neg hn, hb, Int.toNat_natCast]
    show (if up t.many k (t.many k + 1) k = 0 then 6 else 0) = 0
    rw [up_at, if_neg (by omega)]
  refine ⟨?_, he⟩
  unfold Itn.end'
  rw [if_pos he, hb, Int.toNat_natCast]
  funext c
  show up (up t.many k (t.many k + 1)) k (up t.many k (t.many k + 1) k - 1) c = t.many c
  by_cases e : c = k
  · rw [e, up_at, up_at]; omega
  · rw [up_ne _ _ e, up_ne _ _ e]
end Itn
end Go.Proofs.YtacfafbnimhibaaDoor
