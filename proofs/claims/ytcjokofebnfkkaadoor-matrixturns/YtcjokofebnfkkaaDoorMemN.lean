/- Matrices in memory: rows that are stored, swapped, and changed one by one; one byte list copied over another. -/
import Derived.Test.YtcjokofebnfkkaaDoorMemM
import Derived.Test.YtcjokofebnfkkaaDoorMatB
import Derived.Laws.CopyOwn
namespace Go.Proofs.YtcjokofebnfkkaaDoor
open Go.RowKit El Pol
/-- p rows of q elements each -/
abbrev rws (A : Nat → Nat → El) (q : Nat) : Nat → List El := fun i => row (A i) q
theorem rws_up (A : Nat → Nat → El) (q i : Nat) (f : Nat → El) : up (rws A q) i (row f q) = rws (up A i f) q := by
  funext k
  by_cases h : k = i
  · subst h; rw [up_at]; show _ = row (up A k f k) q; rw [up_at]
  · rw [up_ne _ _ h]; show _ = row (up A i f k) q; rw [up_ne _ _ h]
theorem OwM.cell {B g n m cap : Nat} {w : World} {a : Nat → List El} {rv : Nat → Value} (h : OwM B w (.slice (some ⟨g, 0, none⟩) m cap) n a rv) (i : Nat) (hi : i < n) : w.cell? ⟨g, i, none⟩ = some (rv i) := by
  have h0 := h.out
  obtain ⟨_, h2⟩ := h0
  have hm : m = n := by
    rcases h2 with ⟨e, _⟩ | ⟨g', c', cur, e, _⟩
    · cases e
    · simp only [Value.slice.injEq] at e; exact e.2.1
  subst hm
  rw [World.ownsRow.cellAt h.out i (by omega)]
  exact range_map_at rv m i hi
theorem OwM.free {B g n m cap : Nat} {w : World} {a : Nat → List El} {rv : Nat → Value} (h : OwM B w (.slice (some ⟨g, 0, none⟩) m cap) n a rv) (i : Nat) : w.frozen? ⟨g, i, none⟩ = false := by
  obtain ⟨_, h2⟩ := h.out
  have hm : m = n := by
    rcases h2 with ⟨e, _⟩ | ⟨g', c', cur, e, _⟩
    · cases e
    · simp only [Value.slice.injEq] at e; exact e.2.1
  subst hm
  exact World.ownsRow.frozenAt h.out i
theorem OwM.lt {B g n m cap : Nat} {w : World} {a : Nat → List El} {rv : Nat → Value} (h : OwM B w (.slice (some ⟨g, 0, none⟩) m cap) n a rv) : B ≤ g ∧ g < w.heap.size := World.ownsRow.lt h.out g rfl
/-- a row changed -/
theorem OwM.turned {B : Nat} {w w' : World} {v : Value} {n : Nat} {a : Nat → List El} {rv : Nat → Value} {b : List El} (h : OwM B w v n a rv) (i : Nat) (hi : i < n) (hg : w.grownBy w' (rv i).ownBlock) (hr : Ow B w' (rv i) b) :
    OwM B w' v n (up a i b) rv := by
  refine ⟨?_, fun k hk => ?_, h.apart⟩
  · refine World.ownsRow.kept h.out hg ?_
    rcases own_types h.out (h.row i hi) with e | e
    · rw [e]; cases (rv i).ownBlock <;> simp
    · exact .inr e
  · by_cases e : k = i
    · subst e; rw [up_at]; exact hr
    · rw [up_ne _ _ e]
      refine World.ownsRow.kept (h.row k hk) hg ?_
      rcases h.apart k i hk hi e with q | q
      · rw [q]; cases (rv i).ownBlock <;> simp
      · exact .inr q
theorem OwM.below {B : Nat} {w w' : World} {v : Value} {n : Nat} {a : Nat → List El} {rv : Nat → Value} (h : OwM B w v n a rv) (hB : B ≤ w.heap.size) (i : Nat) (hi : i < n) (hg : w.grownBy w' (rv i).ownBlock) : Below B w w' :=
  below_of_grownR hg hB (fun g e => ((h.row i hi).lt g e).1)
/-- a row that stands elsewhere, stored -/
theorem OwM.put {B g n cap : Nat} {w : World} {a : Nat → List El} {rv : Nat → Value} {b : List El} (h : OwM B w (.slice (some ⟨g, 0, none⟩) n cap) n a rv) (i : Nat) (r : Value) (hr : Ow B w r b)
    (hne : ∀ k, k < n → k ≠ i → (rv k).ownBlock = none ∨ (rv k).ownBlock ≠ r.ownBlock) :
    OwM B (w.setCell ⟨g, i, none⟩ r) (.slice (some ⟨g, 0, none⟩) n cap) n (up a i b) (up rv i r) ∧ w.grownBy (w.setCell ⟨g, i, none⟩ r) (some g) := by
  have hs := World.ownsRow.stored h.out i r
  rw [set_map_up] at hs
  have kept : ∀ {u : Value} {ys : List El}, Ow B w u ys → Ow B (w.setCell ⟨g, i, none⟩ r) u ys := fun {u ys} k => World.ownsRow.kept k hs.2 (by
    rcases own_types h.out k with e | e
    · simp [Value.ownBlock] at e
    · exact .inr (fun q => e q.symm))
  refine ⟨⟨hs.1, fun k hk => ?_, fun k l hk hl hkl => ?_⟩, hs.2⟩
  · by_cases e : k = i
    · subst e; rw [up_at, up_at]; exact kept hr
    · rw [up_ne _ _ e, up_ne _ _ e]; exact kept (h.row k hk)
  · by_cases ek : k = i
    · subst ek
      rw [up_at, up_ne _ _ (Ne.symm hkl)]
      rcases hne l hl (Ne.symm hkl) with q | q
      · by_cases hr0 : r.ownBlock = none
        · exact .inl hr0
        · exact .inr (by rw [q]; exact hr0)
      · exact .inr (fun e => q e.symm)
    · rw [up_ne _ _ ek]
      by_cases el : l = i
      · subst el; rw [up_at]; exact hne k hk hkl
      · rw [up_ne _ _ el]; exact h.apart k l hk hl hkl
theorem up_up_sw {α : Type} (f : Nat → α) (i j : Nat) : up (up f i (f j)) j (f i) = fun k => f (Mx.sw i j k) := by
  funext k
  unfold up Mx.sw
  by_cases e : k = j
  · subst e
    rw [if_pos rfl]
    by_cases e2 : k = i
    · rw [if_pos e2, e2]
    · rw [if_neg e2, if_pos rfl]
  · rw [if_neg e]
    by_cases e2 : k = i
    · rw [if_pos e2, if_pos e2]
    · rw [if_neg e2, if_neg e2, if_neg e]
/-- two rows swapped -/
theorem OwM.swap {B g n cap : Nat} {w : World} {a : Nat → List El} {rv : Nat → Value} (h : OwM B w (.slice (some ⟨g, 0, none⟩) n cap) n a rv) (i j : Nat) (hi : i < n) (hj : j < n) :
    OwM B ((w.setCell ⟨g, i, none⟩ (rv j)).setCell ⟨g, j, none⟩ (rv i)) (.slice (some ⟨g, 0, none⟩) n cap) n (fun k => a (Mx.sw i j k)) (fun k => rv (Mx.sw i j k)) ∧ w.grownBy ((w.setCell ⟨g, i, none⟩ (rv j)).setCell ⟨g, j, none⟩ (rv i)) (some g) := by
  have h1 := World.ownsRow.stored h.out i (rv j)
  have h2 := World.ownsRow.stored h1.1 j (rv i)
  have hg := grownBy_trans h1.2 h2.2
  have e : (((List.range n).map rv).set i (rv j)).set j (rv i) = (List.range n).map (fun k => rv (Mx.sw i j k)) := by
    rw [set_map_up, set_map_up, up_up_sw]
  rw [e] at h2
  have kept : ∀ {u : Value} {ys : List El}, Ow B w u ys → Ow B ((w.setCell ⟨g, i, none⟩ (rv j)).setCell ⟨g, j, none⟩ (rv i)) u ys := fun {u ys} k => World.ownsRow.kept k hg (by
    rcases own_types h.out k with e | e
    · simp [Value.ownBlock] at e
    · exact .inr (fun q => e q.symm))
  exact ⟨⟨h2.1, fun k hk => kept (h.row _ (Mx.sw_lt hi hj hk)), fun k l hk hl hkl => h.apart _ _ (Mx.sw_lt hi hj hk) (Mx.sw_lt hi hj hl) (fun e => hkl (by
    have := congrArg (Mx.sw i j) e
    rwa [Mx.sw_sw, Mx.sw_sw] at this))⟩, hg⟩
theorem Rd.at {w : World} {ao : Option Addr} {n cap : Nat} {xs : List El} (h : Rd w (.slice ao n cap) xs) (i : Nat) (hi : i < xs.length) : ∃ ad, ao = .some ad ∧ w.cell? (ad.add i) = .some (.int .u8 (((co xs i).val : Nat) : Int)) := by
  rcases h with ⟨_, rfl⟩ | ⟨ad, cap', he, _, _, h3⟩
  · simp at hi
  · simp only [Value.slice.injEq] at he
    obtain ⟨rfl, rfl, rfl⟩ := he
    exact ⟨ad, rfl, h3 i hi⟩
/-- one list of bytes copied over the beginning of another -/
theorem run_copy_ow {P : Program} {w : World} (dT sT ty : TypeId) (hu : P.underlying dT = some (.slice 5)) (hsz : (P.info? 5).map (·.size) = some 1)
    (dv sv : Value) (B : Nat) (L xs : List El) (hO : Ow B w dv L) (hR : Rd w sv xs) (hl : xs.length ≤ L.length) :
    ∃ w', (Builtin.copy_ #[dT, sT] ty #[dv, sv]).run P w = .ok (.int .i64 ((xs.length : Nat) : Int)) w' ∧ Ow B w' dv (xs ++ L.drop xs.length) ∧ w.grownBy w' dv.ownBlock := by
  obtain ⟨da, dc, rfl, _, _⟩ := hO.rd.len
  obtain ⟨sa, sc, rfl, _, _⟩ := hR.len
  by_cases h0 : xs.length = 0
  · have hx0 : xs = [] := List.eq_nil_of_length_eq_zero h0
    subst hx0
    exact ⟨w, run_copy_none w dT sT ty _ _ _ _ _ _ _ hu hsz (by simp), by simpa using hO, grownBy_refl _ _⟩
  · have hO' := hO
    obtain ⟨h1, h2⟩ := hO'
    rcases h2 with ⟨_, hn⟩ | ⟨g, cap, cur, he, hB, hg, hc, hm, hcur, htk⟩
    · omega
    · simp only [Value.slice.injEq] at he
      obtain ⟨rfl, _, rfl⟩ := he
      obtain ⟨ad, rfl, _⟩ := hR.at 0 (by omega)
      have hsrc : ∀ j v, (xs.map eb)[j]? = some v → w.cell? (ad.add j) = some v := by
        intro j v hj
        have hjl : j < xs.length := by
          rcases Nat.lt_or_ge j xs.length with q | q
          · exact q
          · rw [List.getElem?_eq_none (by simpa using q)] at hj; cases hj
        obtain ⟨ad', e, hcell⟩ := hR.at j hjl
        cases e
        rw [hcell, ← hj, map_eb xs j hjl]
      have hcs : L.length ≤ cur.size := by omega
      have hrun := run_copy_row (P := P) w dT sT ty _ g 0 L.length dc ad xs.length sc cur _ (xs.map eb) hu hsz hg (by rw [List.length_map]; exact (Nat.min_eq_left hl).symm) hsrc (by rw [List.length_map]; omega) (by
        intro u hu; obtain ⟨x, _, rfl⟩ := List.mem_map.1 hu; rfl)
      rw [List.length_map] at hrun
      refine ⟨_, hrun, ?_, ?_⟩
      · have hlen : (xs ++ L.drop xs.length).length = L.length := by simp; omega
        refine ⟨by simp, .inr ⟨g, dc, (cur.toList.take 0 ++ xs.map eb ++ cur.toList.drop (0 + xs.length)).toArray, by rw [hlen], hB, by simpa using setRow_heap w g _ _ _ _ hg, by omega, hm, ?_, ?_⟩⟩
        · simp; omega
        · rw [hlen, List.map_append, List.map_drop, ← htk]
          simp only [List.take_zero, List.nil_append, Nat.zero_add]
          rw [List.drop_take, List.take_append, List.take_of_length_le (by simp; omega)]
          simp
      · exact ⟨rfl, rfl, rfl, by simp [World.setRow], fun k hk hn => setRow_other w g k _ (by simpa [Value.ownBlock, eq_comm] using hn)⟩
end Go.Proofs.YtcjokofebnfkkaaDoor
