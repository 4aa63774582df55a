/- Lists of lists of bytes in memory: a slice of slices that reads as rows, and one that the call itself made, row by row; what keeps them. -/
import Derived.Test.YtcjokofebnfkkaaDoorMem
namespace Go.Proofs.YtcjokofebnfkkaaDoor
open Go.RowKit El Pol
/-- the slice v reads as n rows -/
def RdM (w : World) (v : Value) (n : Nat) (a : Nat → List El) : Prop :=
  (v = .slice none 0 0 ∧ n = 0) ∨
  ∃ ad cap, ∃ rv : Nat → Value, v = .slice (some ad) n cap ∧ n ≤ cap ∧ cap ≤ 9223372036854775807 ∧ ∀ i, i < n → w.cell? (ad.add i) = some (rv i) ∧ Rd w (rv i) (a i)
theorem RdM.old {w w' : World} {v : Value} {n : Nat} {a : Nat → List El} (h : RdM w v n a) (hb : Below w.heap.size w w') : RdM w' v n a := by
  rcases h with h | ⟨ad, cap, rv, rfl, h1, h2, h3⟩
  · exact .inl h
  · refine .inr ⟨ad, cap, rv, rfl, h1, h2, fun i hi => ?_⟩
    have hc := h3 i hi
    exact ⟨by rw [hb.cell (World.block_lt_of_cell? w _ hc.1)]; exact hc.1, hc.2.old hb⟩
theorem RdM.len {w : World} {v : Value} {n : Nat} {a : Nat → List El} (h : RdM w v n a) : ∃ ao cap, v = .slice ao n cap ∧ n ≤ cap ∧ cap ≤ 9223372036854775807 := by
  rcases h with ⟨rfl, rfl⟩ | ⟨ad, cap, rv, rfl, h1, h2, _⟩
  · exact ⟨none, 0, rfl, Nat.le_refl _, by omega⟩
  · exact ⟨some ad, cap, rfl, h1, h2⟩
theorem RdM.some {w : World} {ao : Option Addr} {n cap : Nat} {a : Nat → List El} (h : RdM w (.slice ao n cap) n a) (i : Nat) (hi : i < n) :
    ∃ ad av cv, ao = .some ad ∧ w.cell? (ad.add i) = .some (.slice av (a i).length cv) ∧ Rd w (.slice av (a i).length cv) (a i) := by
  rcases h with ⟨_, rfl⟩ | ⟨ad, cap', rv, he, _, _, h3⟩
  · omega
  · simp only [Value.slice.injEq] at he
    obtain ⟨rfl, _, rfl⟩ := he
    obtain ⟨hc, hr⟩ := h3 i hi
    obtain ⟨av, cv, e, _, _⟩ := hr.len
    rw [e] at hc hr
    exact ⟨ad, av, cv, rfl, hc, hr⟩
theorem RdM.congr {w : World} {v : Value} {n : Nat} {a b : Nat → List El} (h : RdM w v n a) (e : ∀ i, i < n → a i = b i) : RdM w v n b := by
  rcases h with h | ⟨ad, cap, rv, rfl, h1, h2, h3⟩
  · exact .inl h
  · exact .inr ⟨ad, cap, rv, rfl, h1, h2, fun i hi => ⟨(h3 i hi).1, by rw [← e i hi]; exact (h3 i hi).2⟩⟩
/-- the slice of slices v is the call's own, its rows too, each another one -/
structure OwM (B : Nat) (w : World) (v : Value) (n : Nat) (a : Nat → List El) (rv : Nat → Value) : Prop where
  out : w.ownsRow B 23 1 v n ((List.range n).map rv)
  row : ∀ i, i < n → Ow B w (rv i) (a i)
  apart : ∀ i j, i < n → j < n → i ≠ j → (rv i).ownBlock = none ∨ (rv i).ownBlock ≠ (rv j).ownBlock
theorem OwM.nil (B : Nat) (w : World) (a : Nat → List El) (rv : Nat → Value) : OwM B w (.slice none 0 0) 0 a rv :=
  ⟨World.ownsRow_nil _ _ _ _, fun i hi => by omega, fun i j hi => by omega⟩
theorem ownsRow_mono {B B' : Nat} {w : World} {e : TypeId} {v : Value} {n : Nat} {xs : List Value} (h : w.ownsRow B e 1 v n xs) (hB : B' ≤ B) : w.ownsRow B' e 1 v n xs := by
  obtain ⟨h1, h2⟩ := h
  refine ⟨h1, ?_⟩
  rcases h2 with h2 | ⟨g, cap, cur, rfl, hb, rest⟩
  · exact .inl h2
  · exact .inr ⟨g, cap, cur, rfl, by omega, rest⟩
theorem OwM.old {B : Nat} {w w' : World} {v : Value} {n : Nat} {a : Nat → List El} {rv : Nat → Value} (h : OwM B w v n a rv) (hb : Below w.heap.size w w') : OwM B w' v n a rv :=
  ⟨ownsRow_old h.out hb, fun i hi => (h.row i hi).old hb, h.apart⟩
theorem OwM.mono {B B' : Nat} {w : World} {v : Value} {n : Nat} {a : Nat → List El} {rv : Nat → Value} (h : OwM B w v n a rv) (hB : B' ≤ B) : OwM B' w v n a rv :=
  ⟨ownsRow_mono h.out hB, fun i hi => (h.row i hi).mono hB, h.apart⟩
theorem OwM.congr {B : Nat} {w : World} {v : Value} {n : Nat} {a b : Nat → List El} {rv : Nat → Value} (h : OwM B w v n a rv) (e : ∀ i, i < n → a i = b i) : OwM B w v n b rv :=
  ⟨h.out, fun i hi => by rw [← e i hi]; exact h.row i hi, h.apart⟩
theorem OwM.rd {B : Nat} {w : World} {v : Value} {n : Nat} {a : Nat → List El} {rv : Nat → Value} (h : OwM B w v n a rv) : RdM w v n a := by
  have h0 := h.out
  rcases h.out.2 with ⟨rfl, hn⟩ | ⟨g, cap, cur, rfl, hb, hg, hc, hm, _⟩
  · exact .inl ⟨rfl, hn⟩
  · refine .inr ⟨⟨g, 0, none⟩, cap, rv, rfl, hc, by unfold maxLen at hm; omega, fun i hi => ⟨?_, (h.row i hi).rd⟩⟩
    have e : (⟨g, 0, none⟩ : Addr).add i = ⟨g, i, none⟩ := by unfold Addr.add; split <;> simp_all
    rw [e, World.ownsRow.cellAt h0 i (by omega)]
    exact range_map_at rv n i hi
/-- the outer row and a row of bytes are two blocks: their elements are of two types -/
theorem own_types {B B' : Nat} {w : World} {v u : Value} {n : Nat} {xs : List Value} {ys : List El} (h : w.ownsRow B 23 1 v n xs) (k : Ow B' w u ys) : v.ownBlock = none ∨ v.ownBlock ≠ u.ownBlock := by
  rcases h.2 with ⟨rfl, _⟩ | ⟨g, cap, cur, rfl, _, hg, _⟩
  · exact .inl rfl
  · right
    rcases k.2 with ⟨rfl, _⟩ | ⟨g', cap', cur', rfl, _, hg', _⟩
    · simp [Value.ownBlock]
    · simp only [Value.ownBlock]
      intro e
      have : g = g' := Option.some.inj e
      subst this
      rw [hg] at hg'
      simp at hg'
/-- a row more -/
theorem OwM.push {B : Nat} {w w' : World} {v v' r : Value} {n : Nat} {a : Nat → List El} {rv : Nat → Value} {b : List El} (h : OwM B w v n a rv) (hr : Ow B w r b)
    (hne : ∀ i, i < n → (rv i).ownBlock = none ∨ (rv i).ownBlock ≠ r.ownBlock) (hg : w.grownBy w' v.ownBlock) (ho : w'.ownsRow B 23 1 v' (n + 1) ((List.range n).map rv ++ [r])) :
    OwM B w' v' (n + 1) (fun i => if i = n then b else a i) (fun i => if i = n then r else rv i) := by
  have kept : ∀ {u : Value} {ys : List El}, Ow B w u ys → Ow B w' u ys := fun {u ys} k => World.ownsRow.kept k hg (by
    rcases own_types h.out k with e | e
    · rw [e]; cases u.ownBlock <;> simp
    · exact .inr (fun q => e q.symm))
  refine ⟨?_, fun i hi => ?_, fun i j hi hj hij => ?_⟩
  · have e : (List.range (n + 1)).map (fun i => if i = n then r else rv i) = (List.range n).map rv ++ [r] := by
      rw [List.range_succ, List.map_append]
      congr 1
      · exact List.map_congr_left (fun i hi => if_neg (by have := List.mem_range.1 hi; omega))
      · simp
    rw [e]; exact ho
  · by_cases e : i = n
    · rw [if_pos e, if_pos e]; exact kept hr
    · rw [if_neg e, if_neg e]; exact kept (h.row i (by omega))
  · by_cases ei : i = n
    · rw [if_pos ei, if_neg (by omega)]
      rcases hne j (by omega) with q | q
      · by_cases hr0 : r.ownBlock = none
        · exact .inl hr0
        · exact .inr (by rw [q]; exact hr0)
      · exact .inr (fun e => q e.symm)
    · rw [if_neg ei]
      by_cases ej : j = n
      · rw [if_pos ej]; exact hne i (by omega)
      · rw [if_neg ej]; exact h.apart i j (by omega) (by omega) hij
/-- a byte of a row, written -/
theorem OwM.stored {B g cap : Nat} {w : World} {v : Value} {n : Nat} {a : Nat → List El} {rv : Nat → Value} (h : OwM B w v n a rv) (i : Nat) (hi : i < n) (hrv : rv i = .slice (some ⟨g, 0, none⟩) (a i).length cap) (j : Nat) (x : El) :
    OwM B (w.setCell ⟨g, j, none⟩ (.int .u8 ((x.val : Nat) : Int))) v n (fun k => if k = i then (a i).set j x else a k) rv ∧ w.grownBy (w.setCell ⟨g, j, none⟩ (.int .u8 ((x.val : Nat) : Int))) (some g) := by
  have hr := h.row i hi
  rw [hrv] at hr
  have hs := hr.stored rfl j x
  refine ⟨⟨?_, fun k hk => ?_, h.apart⟩, hs.2⟩
  · refine World.ownsRow.kept h.out hs.2 ?_
    have := own_types h.out (h.row i hi)
    rw [hrv] at this
    simpa [Value.ownBlock] using this
  · by_cases e : k = i
    · rw [if_pos e, e, hrv]
      have := hs.1
      unfold Ow at this ⊢
      rw [List.length_set] at this ⊢
      exact this
    · rw [if_neg e]
      refine World.ownsRow.kept (h.row k hk) hs.2 ?_
      have := h.apart k i hk hi e
      rw [hrv] at this
      simpa [Value.ownBlock] using this
end Go.Proofs.YtcjokofebnfkkaaDoor
