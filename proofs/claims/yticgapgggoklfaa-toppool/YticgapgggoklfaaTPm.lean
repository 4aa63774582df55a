/- TopPool: an array and a pool side by side, on the models: whoever fails, its place is filled. -/
import Derived.Test.YticgapgggoklfaaRe
import Derived.Test.YticgapgggoklfaaPoA
namespace Go.Proofs.Yticgapgggoklfaa
open Go.RowKit El Pol Mx Lay
theorem gn_put {p : Nat → Bool} {k : Nat} (hp : p k = false) : ∀ m, (gn (up p k true) m).length = (gn p m).length + if k < m then 1 else 0
  | 0 => rfl
  | m + 1 => by
    rw [gn_succ, gn_succ, gn_put hp m]
    by_cases e : m = k
    · rw [e, up_at, hp, if_neg (by omega), if_pos rfl, if_neg Bool.false_ne_true, if_pos (by omega)]
    · rw [up_ne _ _ e]
      by_cases e2 : k < m
      · rw [if_pos e2, if_pos (show k < m + 1 by omega)]; omega
      · rw [if_neg e2, if_neg (show ¬ k < m + 1 by omega)]; rfl
theorem gn_same {p q : Nat → Bool} {m : Nat} (h : ∀ i, i < m → p i = q i) : (gn p m).length = (gn q m).length :=
  Nat.le_antisymm (gn_mono (fun i hi e => by rw [← h i hi]; exact e)) (gn_mono (fun i hi e => by rw [h i hi]; exact e))
/-- slots are disks of the array: one that has none has failed, the others are whole; so many have none -/
structure TP (a : Arr) (t : Plo) (c : Nat → List El) (op : Nat) : Prop where
  keep : Keep a c
  wk : t.wk = a.n
  ok : t.ok
  none : ∀ k, k < a.n → t.sl k = -1 → a.failed k = true
  some : ∀ k, k < a.n → t.sl k ≠ -1 → a.failed k = false ∧ a.built k = a.rows
  works : ∀ k, k < a.n → ∀ m : Nat, t.sl k = (m : Int) → t.st m = 0
  lost : (gn a.failed a.n).length = op
section
variable {a : Arr} {t : Plo} {c : Nat → List El} {op k m : Nat}
theorem TP.nl (h : TP a t c op) {r : Nat} (hr : r < a.rows) : a.nl r = op := by
  rw [← h.lost]
  unfold Arr.nl
  refine gn_same (fun i hi => ?_)
  unfold Arr.gone
  by_cases e : t.sl i = -1
  · rw [h.none i hi e]; rfl
  · obtain ⟨e1, e2⟩ := h.some i hi e
    rw [e1, e2]
    simp
    omega
/-- what is there of a slot that has a disk -/
theorem TP.at (h : TP a t c op) (hk : k < a.n) (hs : 0 ≤ t.sl k) : ∃ m : Nat, t.sl k = (m : Int) ∧ m < t.n ∧ t.st m = 0 ∧ t.failE (m : Int) = 0 ∧ t.slotOf (m : Int) = (k : Int) ∧ a.failE (k : Int) = 0 := by
  rcases h.ok.slot k (by rw [h.wk]; exact hk) with q | ⟨m, hm, e, _⟩
  · omega
  · have hst := h.works k hk m e
    have hno : ¬ t.noD (m : Int) := fun q => by unfold Plo.noD at q; omega
    refine ⟨m, e, hm, hst, ?_, ?_, ?_⟩
    · unfold Plo.failE
      rw [if_neg hno, Int.toNat_natCast, if_neg (by omega)]
    · rcases Plo.slotOf_ways t (m : Int) with ⟨_, h1⟩ | ⟨j, hj, e1, e2, _⟩
      · exact absurd e (h1 k (by rw [h.wk]; exact hk))
      · rw [e1, h.ok.one j k hj (by rw [h.wk]; exact hk) (e2.trans e.symm) (by omega)]
    · rw [Arr.failE_nat hk, (h.some k hk (by omega)).1]; rfl
theorem Plo.fail_is (hE : t.failE (m : Int) = 0) (hS : t.slotOf (m : Int) = (k : Int)) : t.fail (m : Int) = (t.out m).into k (t.out m).spare ∧ t.failN (m : Int) = (t.out m).spare := by
  unfold Plo.fail Plo.failN
  rw [if_pos hE, if_pos hE, hS, if_neg (by omega), if_neg (by omega), Int.toNat_natCast, Int.toNat_natCast]
  exact ⟨rfl, rfl⟩
/-- no spare: one more is open -/
theorem TP.open (h : TP a t c op) (hk : k < a.n) (hm : t.sl k = (m : Int)) (hE : t.failE (m : Int) = 0) (hS : t.slotOf (m : Int) = (k : Int)) (h2 : op < 2) (hn : t.failN (m : Int) < 0) : TP (a.fail (k : Int)) (t.fail (m : Int)) c (op + 1) := by
  obtain ⟨e1, e2⟩ := Plo.fail_is hE hS
  have hw : k < t.wk := by rw [h.wk]; exact hk
  have es : (t.out m).spare = -1 := by
    rcases Plo.spare_ways (t.out m) with ⟨e, _⟩ | ⟨d, _, e, _⟩
    · exact e
    · rw [e2, e] at hn; omega
  obtain ⟨s1, s2, s3, s4, s5⟩ := Arr.fail_same a (k : Int)
  have hok := h.ok.fail (m : Int)
  have hf := (h.some k hk (by rw [hm]; omega)).1
  have hst : ∀ d, (t.fail (m : Int)).st d = up t.st m 2 d := fun d => by
    rw [e1, es]
    show (if (0 : Int) ≤ -1 then up (up t.st m 2) (-1 : Int).toNat 3 else up t.st m 2) d = _
    rw [if_neg (by omega)]
  have hsl : ∀ j, (t.fail (m : Int)).sl j = up t.sl k (-1) j := fun j => by rw [e1, es]; rfl
  refine ⟨h.keep.fail (k : Int) (fun r hr => by rw [h.nl hr]; omega), ?_, hok, fun j hj q => ?_, fun j hj q => ?_, fun j hj m' q => ?_, ?_⟩
  · rw [e1, s1]; exact h.wk
  · rw [hsl] at q
    rw [Arr.fail_failed hk]
    by_cases z : j = k
    · rw [z, up_at]
    · rw [up_ne _ _ z] at q ⊢
      exact h.none j (by rw [s1] at hj; exact hj) q
  · rw [hsl] at q
    rw [Arr.fail_failed hk, s5, s2]
    have z : j ≠ k := fun z => by rw [z, up_at] at q; exact q rfl
    rw [up_ne _ _ z] at q ⊢
    exact h.some j (by rw [s1] at hj; exact hj) q
  · rw [hsl] at q
    have z : j ≠ k := fun z => by rw [z, up_at] at q; omega
    rw [up_ne _ _ z] at q
    rw [hst]
    have hj' : j < a.n := by rw [s1] at hj; exact hj
    rw [up_ne _ _ (fun y => z (h.ok.one j k (by rw [h.wk]; exact hj') hw (by rw [q, hm, y]) (by omega)))]
    exact h.works j hj' m' q
  · rw [s1, gn_same (q := up a.failed k true) (fun i _ => Arr.fail_failed hk i), gn_put hf, if_pos hk, h.lost]
/-- failed, replaced, and r rows of it built, where others may be lost -/
theorem TP.anew (h : TP a t c op) (hk : k < a.n) (hs : 0 ≤ t.sl k) (h2 : op < 2) : ∀ r, r ≤ a.rows → Keep (rb a k r) c ∧ ((rb a k r).n = a.n ∧ (rb a k r).rows = a.rows ∧ (rb a k r).size = a.size) ∧ (∀ e, (rb a k r).failed e = a.failed e) ∧ ∀ e, (rb a k r).built e = if e = k then r else a.built e
  | 0, _ => by
    obtain ⟨s1, s2, s3, s4, s5⟩ := Arr.fail_same a (k : Int)
    have hf : (a.fail (k : Int)).failed k = true := by rw [Arr.fail_failed hk, up_at]
    have hf0 := (h.some k hk (by omega)).1
    have e := Arr.replace_yes (a := a.fail (k : Int)) (k := k) (by rw [s1]; exact hk) hf
    refine ⟨(h.keep.fail (k : Int) (fun r hr => by rw [h.nl hr]; omega)).replace (k : Int), ?_⟩
    have e0 : rb a k 0 = (a.fail (k : Int)).replace (k : Int) := rfl
    rw [e0, e]
    refine ⟨⟨s1, s2, s3⟩, fun x => ?_, fun x => ?_⟩
    · show up (a.fail (k : Int)).failed k false x = a.failed x
      by_cases q : x = k
      · subst q; rw [up_at, hf0]
      · rw [up_ne _ _ q, Arr.fail_failed hk, up_ne _ _ q]
    · show up (a.fail (k : Int)).built k 0 x = _
      by_cases q : x = k
      · subst q; rw [up_at, if_pos rfl]
      · rw [up_ne _ _ q, if_neg q, s5]
  | r + 1, hr => by
    obtain ⟨hK, ⟨s1, s2, s3⟩, s4, s5⟩ := TP.anew h hk hs h2 r (by omega)
    have hf0 := (h.some k hk (by omega)).1
    have hb : (rb a k r).built k = r := by rw [s5, if_pos rfl]
    have hE : (rb a k r).rebuildE (k : Int) = 0 := Arr.rebuildE_zero (by rw [s1]; exact hk) (by rw [s4]; exact hf0) hb (by rw [s2]; omega) (hK.few r (by rw [s2]; omega))
    have e := (Arr.rebuild_yes hE).1
    refine ⟨hK.rebuild (k : Int), ?_⟩
    have e0 : rb a k (r + 1) = (rb a k r).rebuild (k : Int) := rfl
    rw [e0, e]
    refine ⟨⟨s1, s2, s3⟩, s4, fun x => ?_⟩
    show up (rb a k r).built k ((rb a k r).built k + 1) x = _
    by_cases q : x = k
    · subst q; rw [up_at, hb, if_pos rfl]
    · rw [up_ne _ _ q, s5, if_neg q, if_neg q]
theorem TP.anewE (h : TP a t c op) (hk : k < a.n) (hs : 0 ≤ t.sl k) (h2 : op < 2) {r : Nat} (hr : r < a.rows) : (rb a k r).rebuildE (k : Int) = 0 ∧ (rb a k r).rebuildN (k : Int) = a.rows - (r + 1) := by
  obtain ⟨hK, ⟨s1, s2, s3⟩, s4, s5⟩ := h.anew hk hs h2 r (by omega)
  have hf0 := (h.some k hk (by omega)).1
  have hb : (rb a k r).built k = r := by rw [s5, if_pos rfl]
  have hE : (rb a k r).rebuildE (k : Int) = 0 := Arr.rebuildE_zero (by rw [s1]; exact hk) (by rw [s4]; exact hf0) hb (by rw [s2]; omega) (hK.few r (by rw [s2]; omega))
  exact ⟨hE, by rw [(Arr.rebuild_yes hE).2, s2, hb]⟩
theorem tp_replaceE (hk : k < a.n) : (a.fail (k : Int)).replaceE (k : Int) = 0 := by
  rw [Arr.replaceE_nat (by rw [Arr.fail_n]; exact hk), Arr.fail_failed hk, up_at, if_pos rfl]
/-- a spare takes its place, and is filled -/
theorem TP.filled (h : TP a t c op) (hk : k < a.n) (hm : t.sl k = (m : Int)) (hE : t.failE (m : Int) = 0) (hS : t.slotOf (m : Int) = (k : Int)) (h2 : op < 2) (hn : 0 ≤ t.failN (m : Int)) :
    (t.fail (m : Int)).fillE (t.failN (m : Int)) = 0 ∧ TP (rb a k a.rows) ((t.fail (m : Int)).fill (t.failN (m : Int))) c op := by
  obtain ⟨e1, e2⟩ := Plo.fail_is hE hS
  have hw : k < t.wk := by rw [h.wk]; exact hk
  obtain ⟨hK, ⟨s1, s2, s3⟩, s4, s5⟩ := h.anew hk (by rw [hm]; omega) h2 a.rows (Nat.le_refl _)
  rcases Plo.spare_ways (t.out m) with ⟨e, _⟩ | ⟨s, hs, es, hs1, _⟩
  · rw [e2, e] at hn; omega
  · have hs1' : up t.st m 2 s = 1 := hs1
    have hsm : s ≠ m := fun z => by rw [z, up_at] at hs1'; omega
    have hss : t.st s = 1 := by rw [up_ne _ _ hsm] at hs1'; exact hs1'
    have hsl0 : ∀ j, j < t.wk → t.sl j ≠ (s : Int) := fun j hj z => by
      rcases h.ok.slot j hj with q | ⟨d, hd, q1, q2⟩
      · omega
      · have : d = s := by omega
        rw [this] at q2; omega
    have hst : ∀ d, (t.fail (m : Int)).st d = if d = s then 3 else if d = m then 2 else t.st d := fun d => by
      rw [e1, es]
      show (if (0 : Int) ≤ (s : Int) then up (up t.st m 2) ((s : Int).toNat) 3 else up t.st m 2) d = _
      rw [if_pos (by omega), Int.toNat_natCast]
      by_cases y : d = s
      · rw [y, up_at, if_pos rfl]
      · rw [up_ne _ _ y, if_neg y]
        by_cases y2 : d = m
        · rw [y2, up_at, if_pos rfl]
        · rw [up_ne _ _ y2, if_neg y2]
    have hsl : ∀ j, (t.fail (m : Int)).sl j = up t.sl k (s : Int) j := fun j => by rw [e1, es]; rfl
    have hwk : (t.fail (m : Int)).wk = t.wk ∧ (t.fail (m : Int)).n = t.n := by rw [e1]; exact ⟨rfl, rfl⟩
    rw [e2, es]
    have hno : ¬ (t.fail (m : Int)).noD (s : Int) := fun q => by
      unfold Plo.noD at q
      rw [hwk.2] at q
      have : s < t.n := hs
      omega
    have hfE : (t.fail (m : Int)).fillE (s : Int) = 0 := by
      unfold Plo.fillE
      rw [if_neg hno, Int.toNat_natCast, hst, if_pos rfl, if_pos rfl]
    have hfi : (t.fail (m : Int)).fill (s : Int) = ⟨(t.fail (m : Int)).wk, (t.fail (m : Int)).n, up (t.fail (m : Int)).st s 0, (t.fail (m : Int)).sl⟩ := by
      unfold Plo.fill
      rw [if_pos hfE, Int.toNat_natCast]
    have hok := (h.ok.fail (m : Int)).fill (s : Int)
    refine ⟨hfE, ?_⟩
    rw [hfi] at hok ⊢
    refine ⟨hK, ?_, hok, fun j hj q => ?_, fun j hj q => ?_, fun j hj m' q => ?_, ?_⟩
    · show (t.fail (m : Int)).wk = _
      rw [hwk.1, s1]; exact h.wk
    · have q' : up t.sl k (s : Int) j = -1 := (hsl j).symm.trans q
      have z : j ≠ k := fun z => by rw [z, up_at] at q'; omega
      rw [up_ne _ _ z] at q'
      rw [s4]
      exact h.none j (by rw [s1] at hj; exact hj) q'
    · rw [s4, s5, s2]
      by_cases z : j = k
      · rw [z, if_pos rfl]
        exact ⟨(h.some k hk (by rw [hm]; omega)).1, rfl⟩
      · rw [if_neg z]
        have q' : up t.sl k (s : Int) j ≠ -1 := fun y => q ((hsl j).trans y)
        rw [up_ne _ _ z] at q'
        exact h.some j (by rw [s1] at hj; exact hj) q'
    · have hj' : j < a.n := by rw [s1] at hj; exact hj
      have q' : up t.sl k (s : Int) j = (m' : Int) := (hsl j).symm.trans q
      show up (t.fail (m : Int)).st s 0 m' = 0
      by_cases z : j = k
      · rw [z, up_at] at q'
        rw [show m' = s by omega, up_at]
      · rw [up_ne _ _ z] at q'
        have y1 : m' ≠ s := fun y => hsl0 j (by rw [h.wk]; exact hj') (by rw [q', y])
        rw [up_ne _ _ y1, hst, if_neg y1, if_neg (fun y => z (h.ok.one j k (by rw [h.wk]; exact hj') hw (by rw [q', hm, y]) (by rw [q']; omega)))]
        exact h.works j hj' m' q'
    · rw [s1, ← h.lost]
      exact gn_same (fun i _ => s4 i)
theorem TP.write (h : TP a t c op) {b : Int} (hb : ¬ a.noB b) {x : List El} (hx : x.length = a.size) : TP (a.write b x) t (up c b.toNat x) op := by
  have e : (a.write b x).n = a.n ∧ (a.write b x).rows = a.rows ∧ (a.write b x).failed = a.failed ∧ (a.write b x).built = a.built := by
    unfold Arr.write
    split <;> exact ⟨rfl, rfl, rfl, rfl⟩
  refine ⟨h.keep.write hb hx, ?_, h.ok, ?_, ?_, ?_, ?_⟩
  · rw [e.1]; exact h.wk
  · rw [e.1, e.2.2.1]; exact h.none
  · rw [e.1, e.2.1, e.2.2.1, e.2.2.2]; exact h.some
  · rw [e.1]; exact h.works
  · rw [e.1, e.2.2.1]; exact h.lost
theorem TP.fresh {n rows sp : Nat} (h1 : 3 ≤ n ∧ n ≤ 10) (h2 : 1 ≤ rows ∧ rows ≤ 20) (h3 : sp ≤ 10) : TP (Arr.fresh n rows 2) (Plo.fresh n sp) (fun _ => List.replicate 2 0) 0 := by
  refine ⟨Keep.fresh h1 h2 ⟨by omega, by omega⟩, rfl, Plo.ok.fresh (by omega) h1.2 h3, fun k _ e => ?_, fun k _ _ => ⟨rfl, rfl⟩, fun k hk m e => ?_, ?_⟩
  · have e' : (k : Int) = -1 := e
    omega
  · have e' : (k : Int) = (m : Int) := e
    have hk' : k < n := hk
    show (if m < n then 0 else 1) = 0
    rw [if_pos (by omega)]
  · show (gn (fun _ => false) n).length = 0
    unfold gn
    simp
end
end Go.Proofs.Yticgapgggoklfaa
