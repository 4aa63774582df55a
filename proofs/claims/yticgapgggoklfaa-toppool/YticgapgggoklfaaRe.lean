/- Texts of plain mathematics, of memory and of walks, in one. -/
import Derived.Test.YticgapgggoklfaaPa
/- A disk that failed, was replaced, and built has what it had: on the model. -/
namespace Go.Proofs.Yticgapgggoklfaa
open Go.RowKit El Pol Mx Lay
/-- nothing is lost -/
def Arr.full (a : Arr) : Prop := ∀ e, a.failed e = false ∧ a.built e = a.rows
namespace Arr
theorem full_fresh (n rows size : Nat) : (fresh n rows size).full := fun _ => ⟨rfl, rfl⟩
theorem full_write {a : Arr} (h : a.full) (b : Int) (t : List El) : (a.write b t).full := by
  unfold write
  split
  · exact h
  · exact h
theorem full_gone {a : Arr} (h : a.full) (e r : Nat) (hr : r < a.rows) : a.gone e r = false := by
  unfold gone
  rw [(h e).1, (h e).2]
  simp
  omega
theorem nl_zero {a : Arr} {r : Nat} (h : ∀ e, a.gone e r = false) : a.nl r = 0 := by
  unfold nl gn
  rw [List.length_eq_zero_iff, List.filter_eq_nil_iff]
  intro i _
  show ¬ a.gone i r = true
  rw [h i]
  exact Bool.false_ne_true
theorem rebuildE_zero {b : Arr} {d r : Nat} (hn : d < b.n) (hf : b.failed d = false) (hb : b.built d = r) (hr : r < b.rows) (h2 : b.nl r ≤ 2) : b.rebuildE (d : Int) = 0 := by
  rw [rebuildE_nat hn, hb, if_neg (fun z => z.elim (fun z => by rw [hf] at z; cases z) (fun z => by omega)), if_neg (by omega)]
end Arr
/-- failed, replaced, and r rows of it built -/
noncomputable def rb (a : Arr) (d : Nat) : Nat → Arr
  | 0 => (a.fail (d : Int)).replace (d : Int)
  | r + 1 => (rb a d r).rebuild (d : Int)
section
variable {a : Arr} {c : Nat → List El} {d : Nat}
theorem rb_fail (hd : d < a.n) (hF : a.full) : a.failE (d : Int) = 0 ∧ (a.fail (d : Int)).replaceE (d : Int) = 0 := by
  refine ⟨by rw [Arr.failE_nat hd, (hF d).1]; rfl, ?_⟩
  rw [Arr.replaceE_nat (by rw [Arr.fail_n]; exact hd), Arr.fail_failed hd, up_at, if_pos rfl]
theorem rb_keep (hK : Keep a c) (hF : a.full) : ∀ r, Keep (rb a d r) c
  | 0 => (hK.fail (d : Int) (fun r hr => by rw [Arr.nl_zero (fun e => Arr.full_gone hF e r hr)]; omega)).replace (d : Int)
  | r + 1 => (rb_keep hK hF r).rebuild (d : Int)
theorem rb_state (hK : Keep a c) (hF : a.full) (hd : d < a.n) : ∀ r, r ≤ a.rows → ((rb a d r).n = a.n ∧ (rb a d r).rows = a.rows ∧ (rb a d r).size = a.size) ∧ (∀ e, (rb a d r).failed e = false) ∧ ∀ e, (rb a d r).built e = if e = d then r else a.rows
  | 0, _ => by
    obtain ⟨s1, s2, s3, s4, s5⟩ := Arr.fail_same a (d : Int)
    have hf : (a.fail (d : Int)).failed d = true := by rw [Arr.fail_failed hd, up_at]
    have e := Arr.replace_yes (a := a.fail (d : Int)) (k := d) (by rw [s1]; exact hd) hf
    show ((((a.fail (d : Int)).replace (d : Int)).n = a.n ∧ _) ∧ (∀ e, ((a.fail (d : Int)).replace (d : Int)).failed e = false) ∧ ∀ e, ((a.fail (d : Int)).replace (d : Int)).built e = _)
    have e0 : rb a d 0 = (a.fail (d : Int)).replace (d : Int) := rfl
    rw [e0, e]
    refine ⟨⟨s1, s2, s3⟩, fun x => ?_, fun x => ?_⟩
    · show up (a.fail (d : Int)).failed d false x = false
      by_cases q : x = d
      · subst q; rw [up_at]
      · rw [up_ne _ _ q, Arr.fail_failed hd, up_ne _ _ q]; exact (hF x).1
    · show up (a.fail (d : Int)).built d 0 x = _
      by_cases q : x = d
      · subst q; rw [up_at, if_pos rfl]
      · rw [up_ne _ _ q, if_neg q, s5]; exact (hF x).2
  | r + 1, hr => by
    obtain ⟨⟨s1, s2, s3⟩, s4, s5⟩ := rb_state hK hF hd r (by omega)
    have hb : (rb a d r).built d = r := by rw [s5, if_pos rfl]
    have hk := rb_keep (d := d) hK hF r
    have hE : (rb a d r).rebuildE (d : Int) = 0 := Arr.rebuildE_zero (by rw [s1]; exact hd) (s4 d) hb (by rw [s2]; omega) (hk.few r (by rw [s2]; omega))
    have e := (Arr.rebuild_yes hE).1
    have e0 : rb a d (r + 1) = (rb a d r).rebuild (d : Int) := rfl
    rw [e0, e]
    refine ⟨⟨s1, s2, s3⟩, s4, fun x => ?_⟩
    show up (rb a d r).built d ((rb a d r).built d + 1) x = _
    by_cases q : x = d
    · subst q; rw [up_at, hb, if_pos rfl]
    · rw [up_ne _ _ q, s5, if_neg q, if_neg q]
theorem rb_E (hK : Keep a c) (hF : a.full) (hd : d < a.n) {r : Nat} (hr : r < a.rows) : (rb a d r).rebuildE (d : Int) = 0 ∧ (rb a d r).rebuildN (d : Int) = a.rows - (r + 1) := by
  obtain ⟨⟨s1, s2, s3⟩, s4, s5⟩ := rb_state hK hF hd r (by omega)
  have hb : (rb a d r).built d = r := by rw [s5, if_pos rfl]
  have hk := rb_keep (d := d) hK hF r
  have hE : (rb a d r).rebuildE (d : Int) = 0 := Arr.rebuildE_zero (by rw [s1]; exact hd) (s4 d) hb (by rw [s2]; omega) (hk.few r (by rw [s2]; omega))
  refine ⟨hE, ?_⟩
  rw [(Arr.rebuild_yes hE).2, s2, hb]
theorem rb_last (hK : Keep a c) (hF : a.full) (hd : d < a.n) : (rb a d a.rows).rebuildE (d : Int) = 6 := by
  obtain ⟨⟨s1, s2, s3⟩, s4, s5⟩ := rb_state hK hF hd a.rows (Nat.le_refl _)
  rw [Arr.rebuildE_nat (by rw [s1]; exact hd), if_pos (.inr (by rw [s5, if_pos rfl, s2]))]
theorem rb_part (hK : Keep a c) (hF : a.full) (hd : d < a.n) {r : Nat} (hr : r < a.rows) (i : Nat) (hi : i < a.n) : (rb a d (r + 1)).part r i = a.part r i := by
  obtain ⟨⟨s1, s2, s3⟩, s4, s5⟩ := rb_state hK hF hd (r + 1) (by omega)
  have hk := rb_keep (d := d) hK hF (r + 1)
  have h1 := hk.part_is (r := r) (i := i) (by rw [s2]; exact hr) (by rw [s1]; exact hi) (by
    unfold Arr.lo Arr.gone
    rw [s4, s5]
    split <;> simp <;> omega)
  have h2 := hK.part_is (r := r) (i := i) hr hi (Arr.full_gone hF _ _ hr)
  rw [h1, h2, s1, s3]
theorem rb_ok (hK : Keep a c) (hF : a.full) (r : Nat) : (rb a d r).ok := (rb_keep hK hF r).ok
end
end Go.Proofs.Yticgapgggoklfaa
