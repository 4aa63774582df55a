/- RedoKeeps: what its text keeps beside the redo: the cells behind each record, and how many bytes there were. -/
import Derived.Test.YtacfafbnimhibaaDoorRoL
import Derived.Test.YtacfafbnimhibaaDoorRoS
import Derived.Test.YtacfafbnimhibaaDoorRfB
import Derived.Test.YtacfafbnimhibaaDoorTxX
import Derived.Test.YtacfafbnimhibaaDoorOwIs
import Derived.Test.YtacfafbnimhibaaDoorEr
import Derived.Test.YtacfafbnimhibaaDoorGe
namespace Go.Proofs.YtacfafbnimhibaaDoor
open Go.RowKit El Pol
/-- the blocks of what the law keeps -/
def KU (n : Nat) (vd vm : Value) (rv : Nat → Value) (r k : Nat) : Prop := vd.ownBlock = some k ∨ vm.ownBlock = some k ∨ (0 < n ∧ ∃ i, i ≤ r ∧ (rv i).ownBlock = some k)
/-- the redo t, the lists vd (cells behind each of the records ds, and ahead of them) and vm (how many bytes each of ms had) -/
structure KM (w : World) (p n : Nat) (f : Nat → List El) (ds ms : List (List Wr)) (t : Rdo) (vd vm : Value) (rv : Nat → Value) (wc : World) : Prop where
  rl : RL w (KU n vd vm rv ds.length) p t wc
  tn : t.n = n
  tf : t.first = f
  dn : wc.ownsRow w.heap.size 46 1 vd (ds.length + 1) ((List.range (ds.length + 1)).map rv)
  row : ∀ i, i ≤ ds.length → RdT wc (rv i) n (doL f (ds.take i))
  mks : OwI w.heap.size wc vm (ms.length + 1) (fun i => (((logOf (ms.take i)).length : Nat) : Int))
  apt : 0 < n → ∀ i, i ≤ ds.length → ∀ k, (rv i).ownBlock = some k → vd.ownBlock ≠ some k ∧ vm.ownBlock ≠ some k
theorem rdt_block {w : World} {v : Value} {n k : Nat} {f : Nat → List El} (h : RdT w v n f) (hn : 0 < n) (hk : v.ownBlock = some k) : k < w.heap.size := by
  rcases h with ⟨_, e⟩ | ⟨ad, cap, rfl, _, _, h3⟩
  · omega
  · have := World.block_lt_of_cell? w _ (h3 0 hn)
    rw [add_block] at this
    simp only [Value.ownBlock, Option.some.injEq] at hk
    omega
theorem rdt_kept {w w' : World} {v : Value} {n : Nat} {f : Nat → List El} (h : RdT w v n f) (hk : 0 < n → ∀ k, v.ownBlock = some k → w'.heap[k]? = w.heap[k]?) : RdT w' v n f := by
  rcases h with h | ⟨ad, cap, rfl, h1, h2, h3⟩
  · exact .inl h
  · refine .inr ⟨ad, cap, rfl, h1, h2, fun i hi => ?_⟩
    rw [World.cell?_of_block (w := w) (by rw [add_block]; exact hk (by omega) ad.block rfl)]
    exact h3 i hi
/-- cut at its end -/
theorem own_take {w : World} {B g n cap m : Nat} {T : TypeId} {rv : Nat → Value} (h : w.ownsRow B T 1 (.slice (some ⟨g, 0, none⟩) n cap) n ((List.range n).map rv)) (hm : m ≤ n) (rv' : Nat → Value) (he : rv' = rv := by rfl) : w.ownsRow B T 1 (.slice (some ⟨g, 0, none⟩) m cap) m ((List.range m).map rv') := by
  subst he
  obtain ⟨h1, h2⟩ := h
  rcases h2 with ⟨h2, _⟩ | ⟨g', cap', cur, he, hb, hg, hc, hmx, hs, ht⟩
  · cases h2
  · simp only [Value.slice.injEq, Option.some.injEq, Addr.mk.injEq, true_and, and_true] at he
    obtain ⟨rfl, rfl⟩ := he
    refine ⟨by simp, .inr ⟨g, cap, cur, rfl, hb, hg, by omega, hmx, hs, ?_⟩⟩
    have e : List.take (m * 1) cur.toList = List.take m (List.take (n * 1) cur.toList) := by rw [List.take_take]; congr 1; omega
    rw [e, ht, ← List.map_take, List.take_range]
    congr 2
    omega
variable {w wc w1 : World} {p n : Nat} {f : Nat → List El} {t t' : Rdo} {vd vm : Value} {rv : Nat → Value} {ds ms : List (List Wr)}
theorem KM.lt (h : KM w p n f ds ms t vd vm rv wc) : ∀ k, KU n vd vm rv ds.length k → k < wc.heap.size := by
  rintro k (hk | hk | ⟨hn, i, hi, hk⟩)
  · exact (World.ownsRow.lt h.dn k hk).2
  · exact (World.ownsRow.lt h.mks k hk).2
  · exact rdt_block (h.row i hi) hn hk
theorem KM.old (h : KM w p n f ds ms t vd vm rv wc) (hb : Below wc.heap.size wc w1) : KM w p n f ds ms t vd vm rv w1 :=
  ⟨h.rl.old hb, h.tn, h.tf, ownsRow_old h.dn hb, fun i hi => (h.row i hi).old hb, ownsRow_old h.mks hb, h.apt⟩
theorem KM.drewN (h : KM w p n f ds ms t vd vm rv wc) (q : Nat) : KM w p n f ds ms t vd vm rv (wc.drewN q) := h.old (below_drewN (Below.refl _ _) q)
theorem KM.low (h : KM w p n f ds ms t vd vm rv wc) : Below w.heap.size w wc := h.rl.low
set_option linter.unusedVariables false in
/-- a call of the redo -/
theorem KM.call (h : KM w p n f ds ms t vd vm rv wc) (hr : RL w (KU n vd vm rv ds.length) p t' w1) (hk : Kp (KU n vd vm rv ds.length) wc w1) (h1 : t'.n = t.n) (h2 : t'.first = t.first) : KM w p n f ds ms t' vd vm rv w1 :=
  ⟨hr, h1.trans h.tn, h2.trans h.tf, ownsRow_but h.dn hk (fun k hk' e => e (.inl hk')), fun i hi => rdt_kept (h.row i hi) (fun hn k hk' => hk.block k (h.lt k (.inr (.inr ⟨hn, i, hi, hk'⟩))) (fun e => e (.inr (.inr ⟨hn, i, hi, hk'⟩)))), ownsRow_but h.mks hk (fun k hk' e => e (.inr (.inl hk'))), h.apt⟩
theorem KM.at (h : KM w p n f ds ms t vd vm rv wc) (i : Nat) (hi : i ≤ ds.length) : ∃ g cap, vd = .slice (some ⟨g, 0, none⟩) (ds.length + 1) cap ∧ wc.cell? ⟨g, i, none⟩ = some (rv i) ∧ ds.length + 1 ≤ cap ∧ cap ≤ 9223372036854775807 := by
  have h0 := h.dn
  rcases h0.2 with ⟨_, e⟩ | ⟨g, cap, cur, rfl, hb, hg, hc, hm, _⟩
  · omega
  · refine ⟨g, cap, rfl, ?_, hc, by unfold maxLen at hm; omega⟩
    rw [World.ownsRow.cellAt h0 i (by omega)]
    exact range_map_at _ _ i (by omega)
theorem KM.mark (h : KM w p n f ds ms t vd vm rv wc) (i : Nat) (hi : i ≤ ms.length) : ∃ g cap, vm = .slice (some ⟨g, 0, none⟩) (ms.length + 1) cap ∧ wc.cell? ⟨g, i, none⟩ = some (.int .i64 (((logOf (ms.take i)).length : Nat) : Int)) ∧ ms.length + 1 ≤ cap ∧ cap ≤ 9223372036854775807 := by
  have h0 := h.mks
  rcases h0.2 with ⟨_, e⟩ | ⟨g, cap, cur, rfl, hb, hg, hc, hm, _⟩
  · omega
  · exact ⟨g, cap, rfl, OwI.cell h0 i (by omega), hc, by unfold maxLen at hm; omega⟩
theorem KM.cells (h : KM w p n f ds ms t vd vm rv wc) (hd : t.rs = ds) : t.cells = doL f ds := by unfold Rdo.cells; rw [h.tf, hd]
theorem KM.last (h : KM w p n f ds ms t vd vm rv wc) (hd : t.rs = ds) : RdT wc (rv ds.length) n t.cells := by
  have := h.row ds.length (Nat.le_refl _)
  rw [List.take_of_length_le (Nat.le_refl _), ← h.cells hd] at this
  exact this
/-- both lists cut, the redo as it is -/
theorem KM.cut (h : KM w p n f ds ds t vd vm rv wc) {r' : Nat} (hr' : t.rs = ds.take r') (hle : r' ≤ ds.length)
    {g c g' c' : Nat} (hd : vd = .slice (some ⟨g, 0, none⟩) (ds.length + 1) c) (hm : vm = .slice (some ⟨g', 0, none⟩) (ds.length + 1) c') :
    KM w p n f t.rs t.rs t (.slice (some ⟨g, 0, none⟩) (r' + 1) c) (.slice (some ⟨g', 0, none⟩) (r' + 1) c') rv wc := by
  have hlen : t.rs.length = r' := by rw [hr', List.length_take]; omega
  subst hd; subst hm
  refine ⟨?_, h.tn, h.tf, ?_, ?_, ?_, ?_⟩
  · rw [hlen]
    refine h.rl.more (fun k hk' => .inl ?_)
    rcases hk' with q | q | ⟨q1, i, q2, q3⟩
    · exact .inl q
    · exact .inr (.inl q)
    · exact .inr (.inr ⟨q1, i, by omega, q3⟩)
  · rw [hlen]; exact own_take h.dn (by omega) rv
  · rw [hlen]
    intro i hi
    rw [hr', List.take_take, Nat.min_eq_left hi]
    exact h.row i (by omega)
  · rw [hlen]
    have := own_take h.mks (show r' + 1 ≤ ds.length + 1 by omega) (fun i => vi (((logOf (ds.take i)).length : Nat) : Int))
    refine OwI.congr this (fun i hi => ?_)
    rw [hr', List.take_take, Nat.min_eq_left (by omega)]
  · rw [hlen]
    exact fun hn i hi k hk => h.apt hn i (by omega) k hk
theorem take_snoc_le {α : Type} (a : List α) (x : α) {i : Nat} (h : i ≤ a.length) : (a ++ [x]).take i = a.take i := List.take_append_of_le_length h
/-- one more row of cells, behind the list -/
theorem KM.growD (h : KM w p n f ds ms t vd vm rv wc) {l : List Wr} {u : Value} (hu : RdT wc u n (doR (doL f ds) l)) (hub : ∀ k, u.ownBlock = some k → vd.ownBlock ≠ some k ∧ vm.ownBlock ≠ some k) (hrl : RL w (fun k => KU n vd vm rv ds.length k ∨ u.ownBlock = some k) p t wc)
    {g c : Nat} (hO : w1.ownsRow w.heap.size 46 1 (.slice (some ⟨g, 0, none⟩) (ds.length + 1 + 1) c) (ds.length + 1 + 1) ((List.range (ds.length + 1)).map rv ++ [u])) (hg : wc.grownBy w1 vd.ownBlock) (ha : vd.ownBlock = some g ∨ g = wc.heap.size) :
    KM w p n f (ds ++ [l]) ms t (.slice (some ⟨g, 0, none⟩) (ds.length + 1 + 1) c) vm (up rv (ds.length + 1) u) w1 := by
  have hb : But (fun k => vd.ownBlock = some k) wc w1 := But.grown hg (fun k hk => hk)
  have hlen : (ds ++ [l]).length = ds.length + 1 := by simp
  have htd : ∀ k, vd.ownBlock = some k → ∃ c r, wc.heap[k]? = some (.cells c 46 r) := fun k hk => ownsRow_type h.dn hk
  refine ⟨?_, h.tn, h.tf, ?_, ?_, ?_, ?_⟩
  · have h2 : RL w (KU n vd vm rv ds.length) p t w1 := h.rl.but hb (fun k hk => ⟨.inl hk, (World.ownsRow.lt h.dn k hk).1⟩)
    obtain ⟨x, hx, hM, hU⟩ := hrl.is
    have hM1 : MR w.heap.size w1 x t := hM.but hb (fun k hk e => hU k (.inl (.inl e)) hk)
    refine ⟨h2.low, ⟨x, hx, hM1, fun k hk e => ?_⟩, h2.ok⟩
    rw [hlen] at hk
    rcases hk with q | q | ⟨q1, i, q2, q3⟩
    · simp only [Value.ownBlock, Option.some.injEq] at q
      subst q
      rcases ha with q | q
      · exact hU g (.inl (.inl q)) e
      · have := hM.lt g e
        omega
    · exact hU k (.inl (.inr (.inl q))) e
    · by_cases e2 : i = ds.length + 1
      · rw [e2, up_at] at q3
        exact hU k (.inr q3) e
      · rw [up_ne _ _ e2] at q3
        exact hU k (.inl (.inr (.inr ⟨q1, i, by omega, q3⟩))) e
  · rw [hlen]
    have e : (List.range (ds.length + 1 + 1)).map (up rv (ds.length + 1) u) = (List.range (ds.length + 1)).map rv ++ [u] := by
      rw [List.range_succ, List.map_append, List.map_cons, List.map_nil, up_at]
      congr 1
      exact List.map_congr_left (fun i hi => up_ne _ _ (by have := List.mem_range.1 hi; omega))
    rw [e]
    exact hO
  · rw [hlen]
    intro i hi
    by_cases e : i = ds.length + 1
    · rw [e, up_at, List.take_of_length_le (by simp)]
      have h3 := rdt_kept (w' := w1) hu (fun hn k hk => hb.block k (rdt_block hu hn hk) (hub k hk).1)
      have e2 : doL f (ds ++ [l]) = doR (doL f ds) l := by unfold doL; rw [List.foldl_append]; rfl
      rw [e2]
      exact h3
    · rw [up_ne _ _ e, take_snoc_le _ _ (by omega)]
      exact rdt_kept (h.row i (by omega)) (fun hn k hk => hb.block k (rdt_block (h.row i (by omega)) hn hk) (h.apt hn i (by omega) k hk).1)
  · exact ownsRow_but h.mks hb (fun k hk e => type_ne (ownsRow_type h.mks hk) (htd k e) (by decide))
  · rw [hlen]
    intro hn i hi k hk
    have hnew : ∀ k, k < wc.heap.size → vd.ownBlock ≠ some k → (Value.slice (some ⟨g, 0, none⟩) (ds.length + 1 + 1) c).ownBlock ≠ some k := fun k hlt hne e => by
      simp only [Value.ownBlock, Option.some.injEq] at e
      subst e
      rcases ha with q | q
      · exact hne q
      · omega
    by_cases e : i = ds.length + 1
    · rw [e, up_at] at hk
      exact ⟨hnew k (rdt_block hu hn hk) (hub k hk).1, (hub k hk).2⟩
    · rw [up_ne _ _ e] at hk
      have h5 := h.apt hn i (by omega) k hk
      exact ⟨hnew k (rdt_block (h.row i (by omega)) hn hk) h5.1, h5.2⟩
/-- one more mark, behind the list -/
theorem KM.growM (h : KM w p n f ds ms t vd vm rv wc) {l : List Wr} {z : Int} (hz : z = (((logOf (ms ++ [l])).length : Nat) : Int))
    {g c : Nat} (hO : w1.ownsRow w.heap.size 3 1 (.slice (some ⟨g, 0, none⟩) (ms.length + 1 + 1) c) (ms.length + 1 + 1) ((List.range (ms.length + 1)).map (fun i => vi (((logOf (ms.take i)).length : Nat) : Int)) ++ [vi z])) (hg : wc.grownBy w1 vm.ownBlock) (ha : vm.ownBlock = some g ∨ g = wc.heap.size) :
    KM w p n f ds (ms ++ [l]) t vd (.slice (some ⟨g, 0, none⟩) (ms.length + 1 + 1) c) rv w1 := by
  have hb : But (fun k => vm.ownBlock = some k) wc w1 := But.grown hg (fun k hk => hk)
  have hlen : (ms ++ [l]).length = ms.length + 1 := by simp
  have htm : ∀ k, vm.ownBlock = some k → ∃ c r, wc.heap[k]? = some (.cells c 3 r) := fun k hk => ownsRow_type h.mks hk
  refine ⟨?_, h.tn, h.tf, ?_, ?_, ?_, ?_⟩
  · have h2 : RL w (KU n vd vm rv ds.length) p t w1 := h.rl.but hb (fun k hk => ⟨.inr (.inl hk), (World.ownsRow.lt h.mks k hk).1⟩)
    obtain ⟨x, hx, hM, hU⟩ := h.rl.is
    have hM1 : MR w.heap.size w1 x t := hM.but hb (fun k hk e => hU k (.inr (.inl e)) hk)
    refine ⟨h2.low, ⟨x, hx, hM1, fun k hk e => ?_⟩, h2.ok⟩
    rcases hk with q | q | ⟨q1, i, q2, q3⟩
    · exact hU k (.inl q) e
    · simp only [Value.ownBlock, Option.some.injEq] at q
      subst q
      rcases ha with q | q
      · exact hU g (.inr (.inl q)) e
      · have := hM.lt g e
        omega
    · exact hU k (.inr (.inr ⟨q1, i, q2, q3⟩)) e
  · exact ownsRow_but h.dn hb (fun k hk e => type_ne (ownsRow_type h.dn hk) (htm k e) (by decide))
  · intro i hi
    exact rdt_kept (h.row i hi) (fun hn k hk => hb.block k (rdt_block (h.row i hi) hn hk) (h.apt hn i hi k hk).2)
  · rw [hlen]
    refine own_snocI (k := ms.length + 1) (f := fun i => (((logOf ((ms ++ [l]).take i)).length : Nat) : Int)) ?_ (s := z) (by rw [hz, List.take_of_length_le (by simp)])
    have e : (List.range (ms.length + 1)).map (fun i => vi (((logOf ((ms ++ [l]).take i)).length : Nat) : Int)) = (List.range (ms.length + 1)).map (fun i => vi (((logOf (ms.take i)).length : Nat) : Int)) := map_vi_congr (fun i hi => by rw [take_snoc_le _ _ (by omega)])
    rw [e]
    exact hO
  · intro hn i hi k hk
    have h5 := h.apt hn i hi k hk
    refine ⟨h5.1, fun e => ?_⟩
    simp only [Value.ownBlock, Option.some.injEq] at e
    subst e
    rcases ha with q | q
    · exact h5.2 q
    · have := rdt_block (h.row i hi) hn hk
      omega
theorem infoSS : (Tryd.prog.info? 46).map (fun i => (i.zero, i.size, i.bytes)) = some (some (.slice none 0 0), 1, 24) := by kernel_rfl
/-- what a put that is taken makes -/
theorem put_taken {t : Rdo} {l : List Wr} (ho : t.ok) (h : t.putE l = 0) : (t.put l).rs = t.rs ++ [l] ∧ (t.put l).hf = [] ∧ OkR t.n l ∧ (t.put l).log.length = (logOf (t.rs ++ [l])).length ∧ t.log.length + 2 ≤ (t.put l).log.length := by
  have hc : t.checkE l = 0 := Classical.byContradiction (fun q => by rw [(put_bad q).1] at h; exact q h)
  have hz : ¬ t.ahead = 0 := fun q => by rw [(put_stop hc q).1] at h; cases h
  obtain ⟨h1, h2⟩ := Rdo.check_ok hc
  have h3 := Rdo.half_none ho h1
  rw [(put_go hc hz).2]
  have e1 : Rdo.log ⟨t.n, t.first, t.rs ++ [l], t.hf, t.safe, t.step.ahead, false⟩ = logOf (t.rs ++ [l]) := by show logOf (t.rs ++ [l]) ++ t.hf = _; rw [h3, List.append_nil]
  refine ⟨rfl, h3, h2, by rw [e1], ?_⟩
  rw [e1]
  have e2 : t.log = logOf t.rs := by unfold Rdo.log; rw [h3, List.append_nil]
  have e3 : logOf [l] = recB l := by simp [logOf]
  rw [e2, logOf_append, List.length_append, e3, recB_length]
  omega
theorem put_refused {t : Rdo} {l : List Wr} (h : t.putE l ≠ 0) : (t.put l).rs = t.rs := by
  by_cases hc : t.checkE l = 0
  · by_cases hz : t.ahead = 0
    · rw [(put_stop hc hz).2]
    · exact absurd (put_go hc hz).1 h
  · rw [(put_bad hc).2]
/-- what a put tells is that it has stopped, or what is wrong with the writes -/
theorem put_tells (t : Rdo) (l : List Wr) : t.putE l = 6 ∨ t.putE l = writesE t.n l := by
  by_cases hc : t.checkE l = 0
  · by_cases hz : t.ahead = 0
    · exact .inl (put_stop hc hz).1
    · refine .inr ?_
      rw [(put_go hc hz).1]
      rw [check_writes] at hc
      split at hc
      · omega
      · exact hc.symm
  · rw [(put_bad hc).1, check_writes]
    split
    · exact .inl rfl
    · exact .inr rfl
/-- the state of the law, its lists of r + 1 each -/
def KN (w : World) (p n : Nat) (f : Nat → List El) (ds : List (List Wr)) (t : Rdo) (gd cd gm cm r : Nat) (rv : Nat → Value) (wc : World) : Prop :=
  KM w p n f ds ds t (.slice (some ⟨gd, 0, none⟩) (r + 1) cd) (.slice (some ⟨gm, 0, none⟩) (r + 1) cm) rv wc ∧ ds.length = r ∧ r ≤ 40
end Go.Proofs.YtacfafbnimhibaaDoor
