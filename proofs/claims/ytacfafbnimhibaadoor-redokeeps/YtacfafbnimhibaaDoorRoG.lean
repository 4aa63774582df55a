/- What a redo does: Put, Sync, Crash: walks over the program. -/
import Derived.Test.YtacfafbnimhibaaDoorRoC
import Derived.Test.YtacfafbnimhibaaDoorRoH
import Derived.Test.YtacfafbnimhibaaDoorRoD
import Derived.Test.YtacfafbnimhibaaDoorRoE
import Derived.Test.YtacfafbnimhibaaDoorDk
import Derived.Deep.AppendLies
import Derived.Deep.RegionLaw
namespace Go.Proofs.YtacfafbnimhibaaDoor
open Go.RowKit El Pol
set_option maxRecDepth 100000 in
set_option maxHeartbeats 1000000 in
theorem rcheck_any {B : Nat} {w : World} {x : RP} {t : Rdo} (h : MR B w x t) (v : Value) (l : List Wr) (hr : RdW w v l) :
    Calls Tryd.prog 36 #[.pointer (some ⟨x.p, 0, none⟩), v] w fun e w' => e = .returned (errV (t.checkE l)) ∧ Below w.heap.size w w' := by
  have hb := al_below w (.cells #[.pointer (some ⟨x.p, 0, none⟩)] 43)
  have hc := cell_new w (.pointer (some ⟨x.p, 0, none⟩)) 43
  have c5 := (h.old hb).c5
  have c1 := (h.old hb).c1
  obtain ⟨a1, k1, hv⟩ := OwT.len h.cls
  rw [hv] at c1
  obtain ⟨a2, k2, rfl, _, _⟩ := hr.len
  by_cases hs : t.stopped = true
  · have e1 : t.checkE l = 6 := if_pos hs
    rw [e1, errV, if_neg (by omega)]
    rw [hs] at c5
    have HB : Hid (Below w.heap.size w (w.alloc (.cells #[.pointer (some ⟨x.p, 0, none⟩)] 43))) := hb
    clear h hr hb e1 hs c1
    go_enter Tryd.func36, Tryd.ntmps36
    go_wp2
    go_ret
    exact ⟨rfl, HB.out⟩
  · have hs' : t.stopped = false := by simpa using hs
    rw [hs'] at c5
    by_cases hl : 40 < l.length
    · have e1 : t.checkE l = 4 := by unfold Rdo.checkE; rw [if_neg hs, if_pos hl]
      rw [e1, errV, if_neg (by omega)]
      have HB : Hid (Below w.heap.size w (w.alloc (.cells #[.pointer (some ⟨x.p, 0, none⟩)] 43))) := hb
      have hl' : (40 : Int) < (l.length : Int) := by omega
      clear h hr hb e1 hs hs' hl c1
      go_enter Tryd.func36, Tryd.ntmps36
      go_wp2
      go_ret
      exact ⟨rfl, HB.out⟩
    · have C := wcontains_any (.slice a2 l.length k2) l w.heap.size x.p t.n a1 k1 _ (by omega) (hr.old hb) hc c1
      have e1 : t.checkE l = if anyB (fun i => badW t.n (wat l i)) l.length = true then 1 else 0 := by unfold Rdo.checkE; rw [if_neg hs, if_neg hl]
      have hl' : ¬ (40 : Int) < (l.length : Int) := by omega
      have HB : Hid (Below w.heap.size w (w.alloc (.cells #[.pointer (some ⟨x.p, 0, none⟩)] 43))) := hb
      rw [e1]
      generalize anyB (fun i => badW t.n (wat l i)) l.length = b at *
      clear h hr hb e1 hs hs' hl c1
      generalize l.length = ll at *
      cases b with
      | true =>
        rw [if_pos rfl, errV, if_neg (by omega)]
        go_enter Tryd.func36, Tryd.ntmps36
        go_wp2_with fail
        refine C.mono ?_
        rintro e w1 ⟨rfl, hB1⟩
        have HB2 : Hid (Below w.heap.size w w1) := HB.out.trans (hB1.mono HB.out.size)
        clear C hB1
        go_wp2
        go_ret
        exact ⟨rfl, HB2.out⟩
      | false =>
        rw [if_neg (by simp), errV, if_pos rfl]
        go_enter Tryd.func36, Tryd.ntmps36
        go_wp2_with fail
        refine C.mono ?_
        rintro e w1 ⟨rfl, hB1⟩
        have HB2 : Hid (Below w.heap.size w w1) := HB.out.trans (hB1.mono HB.out.size)
        clear C hB1
        go_wp2
        go_ret
        exact ⟨rfl, HB2.out⟩
set_option maxRecDepth 100000 in
set_option maxHeartbeats 1000000 in
theorem rsync_any {B : Nat} {w : World} {x : RP} {t : Rdo} (h : MR B w x t) (ho : t.ok) :
    Calls Tryd.prog 20 #[.pointer (some ⟨x.p, 0, none⟩)] w fun e w' => e = .returned (errV t.syncE) ∧ MR B w' x t.sync ∧ But (· = x.p) w w' := by
  have c5 := h.c5
  by_cases hs : t.stopped = true
  · have e1 : t.syncE = 6 := if_pos (.inl hs)
    have e2 : t.sync = t := if_pos hs
    rw [e1, e2, errV, if_neg (by omega)]
    rw [hs] at c5
    have HM : Hid (MR B w x t) := h
    clear h ho e1 e2 hs
    go_enter Tryd.func20, Tryd.ntmps20
    go_wp2
    go_ret
    exact ⟨rfl, HM.out, But.refl _ _⟩
  · have hs' : t.stopped = false := by simpa using hs
    rw [hs'] at c5
    have C := stops_any h ho
    by_cases hz : t.ahead = 0
    · have e1 : t.syncE = 6 := if_pos (.inr hz)
      have e2 : t.sync = t.step := by unfold Rdo.sync; rw [if_neg hs, if_pos hz]
      rw [decide_eq_true hz] at C
      rw [e1, e2, errV, if_neg (by omega)]
      clear h ho e1 e2 hs hs' hz
      go_enter Tryd.func20, Tryd.ntmps20
      go_wp2_with fail
      refine C.mono ?_
      rintro e w1 ⟨rfl, hM, hB⟩
      have HM : Hid (MR B w1 x t.step ∧ But (· = x.p) w w1) := ⟨hM, hB⟩
      clear C hM hB
      go_wp2
      go_ret
      exact ⟨rfl, HM.out⟩
    · have e1 : t.syncE = 0 := if_neg (fun q => q.elim hs hz)
      have e2 : t.sync = ⟨t.n, t.first, t.rs, t.hf, t.log.length, t.step.ahead, false⟩ := by unfold Rdo.sync; rw [if_neg hs, if_neg hz]
      rw [decide_eq_false hz] at C
      rw [e1, e2, errV, if_pos rfl]
      have HST : Hid (t.step.stopped = false) := decide_eq_false hz
      clear h ho e1 e2 hs hs' hz
      go_enter Tryd.func20, Tryd.ntmps20
      go_wp2_with fail
      refine C.mono ?_
      rintro e w1 ⟨rfl, hM, hB⟩
      have d2 := hM.c2
      have d3 := hM.c3
      have g3 := hM.free 3
      obtain ⟨a1, k1, hv, _, _⟩ := hM.lg.rd.len
      rw [hv] at d2
      have T := hM.put3 t.log.length
      have HM : Hid (MR B _ x ⟨t.n, t.first, t.rs, t.hf, t.log.length, t.step.ahead, false⟩ ∧ But (· = x.p) w _) := ⟨by have := T.1; rw [HST.out] at this; exact this, hB.trans T.2 (Grows.refl _ _)⟩
      have hle : t.step.log.length = t.log.length := rfl
      rw [hle] at d2
      clear C hM hB T hv hle
      go_wp2
      go_ret
      exact ⟨rfl, HM.out⟩
/-- one of its own cells another one, where the row alone is known -/
theorem mr_put {B : Nat} {w : World} {x x' : RP} {t t' : Rdo} (hr : w.heap[x.p]? = some (.cells (roCells x t) 74 (0, 0))) (hp : B ≤ x.p) (i : Nat) (u : Value) (hx : x'.p = x.p) (hrow : (roCells x t).setIfInBounds i u = roCells x' t') (h1 : OwT B w x'.vf t'.n t'.first) (h2 : OwT B w x'.vc t'.n t'.cells) (h3 : Ow B w x'.vl t'.log) (h4 : ∀ k, x'.vf.ownBlock = some k → x'.vc.ownBlock ≠ some k) : MR B (w.setCell ⟨x.p, i, none⟩ u) x' t' ∧ But (· = x.p) w (w.setCell ⟨x.p, i, none⟩ u) := by
  have hb : But (· = x.p) w (w.setCell ⟨x.p, i, none⟩ u) := (But.refl (· = x.p) w).setCell (p := ⟨x.p, i, none⟩) rfl u
  have hpt : ∃ c r, w.heap[x.p]? = some (.cells c 74 r) := ⟨_, _, hr⟩
  refine ⟨⟨?_, ownsRow_but h1 hb (fun k hk e => by subst e; exact type_ne (ownsRow_type h1 hk) hpt (by decide)), ownsRow_but h2 hb (fun k hk e => by subst e; exact type_ne (ownsRow_type h2 hk) hpt (by decide)), ownsRow_but h3 hb (fun k hk e => by subst e; exact type_ne (ownsRow_type h3 hk) hpt (by decide)), h4, by rw [hx]; exact hp⟩, hb⟩
  rw [hx, heap_setCell_same _ _ _ _ _ _ hr, hrow]
/-- bytes behind the log -/
theorem mr_log {B : Nat} {w w1 : World} {x : RP} {t t' : Rdo} (h : MR B w x t) {g n cap : Nat} {xs : List El} (hO : Ow B w1 (.slice (some ⟨g, 0, none⟩) n cap) xs) (hg : w.grownBy w1 x.vl.ownBlock) (ha : x.vl.ownBlock = some g ∨ g = w.heap.size)
    (hn : t'.n = t.n) (hf : t'.first = t.first) (hc : t'.cells = t.cells) (hl : t'.log = xs) (hs : t'.safe = t.safe) (hh : t'.ahead = t.ahead) (hst : t'.stopped = t.stopped) :
    MR B (w1.setCell ⟨x.p, 2, none⟩ (.slice (some ⟨g, 0, none⟩) n cap)) ⟨x.p, x.vf, x.vc, .slice (some ⟨g, 0, none⟩) n cap⟩ t' ∧ But x.F w (w1.setCell ⟨x.p, 2, none⟩ (.slice (some ⟨g, 0, none⟩) n cap)) ∧ Grows x.F (RP.F ⟨x.p, x.vf, x.vc, .slice (some ⟨g, 0, none⟩) n cap⟩) w := by
  have hb : But (fun k => x.vl.ownBlock = some k) w w1 := But.grown hg (fun k hk => hk)
  have T := mr_put (B := B) (w := w1) (x := x) (x' := ⟨x.p, x.vf, x.vc, .slice (some ⟨g, 0, none⟩) n cap⟩) (t := t) (t' := t') ((hb.block x.p h.plt (fun e => h.lp e rfl)).trans h.row) h.hp 2 (.slice (some ⟨g, 0, none⟩) n cap) rfl
    (by unfold roCells; rw [hs, hh, hst]; rfl) (by rw [hn, hf]; exact ownsRow_but h.fst hb (fun k hk e => h.lf e hk)) (by rw [hn, hc]; exact ownsRow_but h.cls hb (fun k hk e => h.lc e hk)) (by rw [hl]; exact hO) h.fc
  refine ⟨T.1, (hb.mono (fun k hk => .inr (.inr (.inr hk)))).trans (T.2.mono (F_p x)) (Grows.refl _ _), ?_⟩
  rintro k (hk | hk | hk | hk)
  · exact .inl (.inl hk)
  · exact .inl (.inr (.inl hk))
  · exact .inl (.inr (.inr (.inl hk)))
  · simp only [Value.ownBlock, Option.some.injEq] at hk
    subst hk
    rcases ha with ha | ha
    · exact .inl (.inr (.inr (.inr ha)))
    · exact .inr (by omega)
/-- its cells others -/
theorem mr_cells {B : Nat} {w w1 : World} {x : RP} {t t' : Rdo} (h : MR B w x t) (hO : OwT B w1 x.vc t'.n t'.cells) (hb : But (fun k => x.vc.ownBlock = some k) w w1) (hn : t'.n = t.n) (hf : t'.first = t.first) (hl : t'.log = t.log) (hs : t'.safe = t.safe) (hh : t'.ahead = t.ahead) (hst : t'.stopped = t.stopped) : MR B w1 x t' := by
  refine ⟨?_, by rw [hn, hf]; exact ownsRow_but h.fst hb (fun k hk e => h.fc k hk e), hO, by rw [hl]; exact ownsRow_but h.lg hb (fun k hk e => h.lc hk e), h.fc, h.hp⟩
  rw [(hb.block x.p h.plt (fun e => h.cp e rfl)), h.row]
  unfold roCells
  rw [hs, hh, hst]
theorem ow_cells {B : Nat} {w : World} {u : Value} {xs : List El} (h : Ow B w u xs) (hx : 0 < xs.length) : ∃ g cap, u = .slice (some ⟨g, 0, none⟩) xs.length cap ∧ xs.length ≤ cap ∧ (∀ j y, (xs.map eb)[j]? = some y → w.cell? ((⟨g, 0, none⟩ : Addr).add j) = some y) := by
  obtain ⟨g, cap, rfl, _, _, hc, _⟩ := h.at (fun e => by rw [e] at hx; simp at hx)
  refine ⟨g, cap, rfl, hc, fun j y hj => ?_⟩
  have hl : j < xs.length := by
    have := (List.getElem?_eq_some_iff.1 hj).1
    simpa using this
  have e : (⟨g, 0, none⟩ : Addr).add j = ⟨g, j, none⟩ := by unfold Addr.add; split <;> simp_all
  rw [e, h.cell rfl j hl, ← hj]
  exact (map_eb xs j hl).symm
theorem map_take_cells {w : World} {g m : Nat} {xs : List El} (h : ∀ j y, (xs.map eb)[j]? = some y → w.cell? ((⟨g, 0, none⟩ : Addr).add j) = some y) : ∀ j y, ((xs.take m).map eb)[j]? = some y → w.cell? ((⟨g, 0, none⟩ : Addr).add j) = some y := fun j y hj => h j y (by
  rw [List.map_take, List.getElem?_take] at hj
  split at hj
  · exact hj
  · cases hj)
set_option linter.unusedVariables false in
set_option maxRecDepth 100000 in
set_option maxHeartbeats 2000000 in
theorem rput_any {B : Nat} {w : World} {x : RP} {t : Rdo} (h : MR B w x t) (ho : t.ok) (hN : t.rs.length ≤ 1000) (hBw : B ≤ w.heap.size) (v : Value) (l : List Wr) (hr : RdW w v l) :
    Calls Tryd.prog 19 #[.pointer (some ⟨x.p, 0, none⟩), v] w fun e w' => ∃ x' : RP, x'.p = x.p ∧ e = .returned (errV (t.putE l)) ∧ MR B w' x' (t.put l) ∧ But x.F w w' ∧ Grows x.F x'.F w := by
  have C := rcheck_any h v l hr
  have HR : Hid (RdW w v l) := hr
  obtain ⟨a2, k2, rfl, _, _⟩ := hr.len
  have HM : Hid (MR B w x t) := h
  by_cases hc : t.checkE l = 0
  · obtain ⟨hs, hok⟩ := Rdo.check_ok hc
    have hhf := Rdo.half_none ho hs
    have hlg := Rdo.log_le ho hN
    have hbd := hok.body
    have hrl := recB_length l
    rw [hc, errV, if_pos rfl] at C
    obtain ⟨i0, hi, hz0, hz1, hz2⟩ := info_parts infoU
    have HOK : Hid (OkR t.n l) := hok
    have HO : Hid t.ok := ho
    have HRB : Hid ((recB l).length = (bodyR l).length + 2) := hrl
    have hrb : 2 ≤ (recB l).length := by omega
    have hrc : (recB l).length ≤ 722 := by omega
    have HHF : Hid (t.hf = []) := hhf
    have hn40 := ho.n40
    by_cases hz : t.ahead = 0
    · have e1 : t.putE l = 6 := by unfold Rdo.putE; rw [if_neg (by rw [hc]; simp), if_pos hz]
      have e2 : t.put l = ⟨t.n, t.first, t.rs, (recB l).take ((recB l).length / 2), t.safe, t.step.ahead, true⟩ := by unfold Rdo.put; rw [if_neg (by rw [hc]; simp), if_pos hz]
      rw [e1, e2, errV, if_neg (by omega)]
      have HST : Hid (t.step.stopped = true) := decide_eq_true hz
      have HZ : Hid (decide (t.ahead = 0) = true) := decide_eq_true hz
      clear h hr hok ho hc hs hhf hbd e1 e2 hz hrl
      go_enter Tryd.func19, Tryd.ntmps19
      go_wp2_with fail
      refine C.mono ?_
      rintro e w1 ⟨rfl, hB1⟩
      have D := record_any t.n l _ w1 (HR.out.old hB1) HOK.out (by omega)
      have HM1 : Hid (MR B w1 x t) := HM.out.old hB1
      have HB1 : Hid (Below w.heap.size w w1) := hB1
      clear C hB1 HM
      go_wp2_with fail
      refine D.mono ?_
      rintro e w2 ⟨u, rfl, hO2, hB2⟩
      have HM2 : Hid (MR B w2 x t) := HM1.out.old hB2
      have HB2 : Hid (Below w.heap.size w w2) := HB1.out.trans (hB2.mono HB1.out.size)
      have S := stops_any HM2.out HO.out
      rw [HZ.out] at S
      have HO2 : Hid (Ow w1.heap.size w2 u (recB l)) := hO2
      have HLP : Hid (∀ k, u.ownBlock = some k → w1.heap.size ≤ k) := fun k hk => (hO2.lt k hk).1
      obtain ⟨ga, ka, hu, _⟩ := ow_cells hO2 (by omega)
      rw [hu] at HO2 HLP ⊢
      clear D hB2 HM1 HB1 hO2 hu
      go_wp2_with fail
      refine S.mono ?_
      rintro e w3 ⟨rfl, hM3, hB3⟩
      have hO3 : Ow w1.heap.size w3 (.slice (some ⟨ga, 0, none⟩) (recB l).length ka) (recB l) := ownsRow_but HO2.out hB3 (fun k hk e => by
        subst e
        exact type_ne (ownsRow_type HO2.out hk) HM2.out.pt (by decide))
      have HB3 : Hid (But x.F w w3) := (Below.but HB2.out x.F).trans (hB3.mono (F_p x)) (Grows.refl _ _)
      obtain ⟨ga', ka', he, hka, hcells⟩ := ow_cells hO3 (by omega)
      simp only [Value.slice.injEq, Option.some.injEq, Addr.mk.injEq, and_true, true_and] at he
      obtain ⟨rfl, rfl⟩ := he
      have c2 := hM3.c2
      have f2 := hM3.free 2
      have hown : w3.ownsRow B 5 1 x.vl t.log.length (t.log.map eb) := hM3.lg
      have HM3 : Hid (MR B w3 x t.step) := hM3
      obtain ⟨al, kl, hvl, _, _⟩ := hM3.lg.rd.len
      have hll : t.step.log.length = t.log.length := rfl
      rw [hll] at hvl
      have HVL : Hid (x.vl = .slice al t.log.length kl) := hvl
      rw [hvl] at c2 hown
      have hsz3 : B ≤ w3.heap.size := Nat.le_trans hBw HB3.out.size
      clear S hM3 hB3 hO3 HB2 HO2 hvl hll
      go_wp2
      have hcells' := map_take_cells (w := w3) (m := (recB l).length / 2) hcells
      have hnl : (((recB l).take ((recB l).length / 2)).map eb).length = (recB l).length / 2 * 1 := by rw [List.length_map, List.length_take]; omega
      have hm2 : 0 < (recB l).length / 2 := by omega
      have HNW : Hid (t.log.map eb ++ ((recB l).take ((recB l).length / 2)).map eb = (t.log ++ (recB l).take ((recB l).length / 2)).map eb ∧ (t.log ++ (recB l).take ((recB l).length / 2)).length = t.log.length + (recB l).length / 2) := ⟨by rw [List.map_append], by rw [List.length_append, List.length_take]; omega⟩
      have HLG : Hid (t.log = logOf t.rs) := by (show _ = _); unfold Rdo.log; rw [HHF.out, List.append_nil]
      obtain ⟨news, hnews⟩ : ∃ news, news = ((recB l).take ((recB l).length / 2)).map eb := ⟨_, rfl⟩
      rw [← hnews] at hcells' hnl HNW
      have h1c : ∀ u ∈ news, u.oneCell' = true := by rw [hnews]; exact eb_one _
      clear hnews hcells
      obtain ⟨m, hmm⟩ : ∃ m, m = (recB l).length / 2 := ⟨_, rfl⟩
      rw [← hmm] at hnl hm2 HNW
      have hq : ((recB l).length : Int) / 2 = (m : Int) := by omega
      have hmb : m ≤ (recB l).length := by omega
      have hmc : (m : Int) ≤ (ka : Int) := by omega
      clear hmm
      generalize hrlen : (recB l).length = rl at *
      have HRL : Hid ((recB l).length = rl) := hrlen
      clear hrlen
      have hm0 : (0 : Int) ≤ (m : Int) := by omega
      have hka0 : ¬ ka = 0 := by omega
      have hq2 : Int.tdiv (rl : Int) 2 = (m : Int) := by rw [Int.tdiv_eq_ediv_of_nonneg (by omega)]; exact hq
      have hq3 : IntKind.i64.wrap (m : Int) = (m : Int) := by rw [IntKind.wrap_i64]; omega
      have hlpp : ¬ ((Value.slice al t.log.length kl).ownBlock = some x.p) := fun e => HM3.out.lp (by rw [HVL.out]; exact e) rfl
      have hpl := HM3.out.plt
      have f2 := HM3.out.free 2
      have HF2 : Hid (∀ w4, w3.drew.grownBy w4 (Value.slice al t.log.length kl).ownBlock → w4.cell? ⟨x.p, 2, none⟩ = some (.slice al t.log.length kl) ∧ w4.frozen? ⟨x.p, 2, none⟩ = false) := fun w4 hg => ⟨(hg.cell_far ⟨x.p, 2, none⟩ hpl (fun e => hlpp e.symm)).trans c2, (hg.frozen_far ⟨x.p, 2, none⟩ hpl (fun e => hlpp e.symm)).trans f2⟩
      clear hlpp
      go_region_law ((refine step_append_lies _ (by rfl) _ _ _ (by rfl) B 5 i0 (.int .u8 0) 1 1 Tryd.underlying72 hi hz0 hz1 hz2 rfl (by decide) _ _ _ (by rfl) hown ⟨ga, 0, none⟩ m ka news (by rfl) hnl hcells' h1c hm2 (by unfold maxLen; omega) (by omega) hsz3 _ rfl ?_; intro g cap w4 hO4 hg4 ha4 hl4; have j2 := (HF2.out w4 hg4).1; have jf := (HF2.out w4 hg4).2))
      have hd3 : Below w3.heap.size w3 w3.drew := ⟨rfl, rfl, rfl, Nat.le_refl _, fun _ _ => rfl⟩
      have HM3' := HM3.out.old hd3
      have HB3' : But x.F w w3.drew := HB3.out.trans (Below.but hd3 _) (Grows.refl _ _)
      rw [← HVL.out] at hg4 ha4
      have hO4' : Ow B w4 (.slice (some ⟨g, 0, none⟩) (t.log.length + m) cap) (t.log ++ (recB l).take m) := by
        unfold Ow
        rw [HNW.out.2, ← HNW.out.1]
        exact hO4
      have T := mr_log (t' := ⟨t.n, t.first, t.rs, (recB l).take m, t.safe, t.step.ahead, true⟩) HM3' hO4' hg4 ha4 rfl rfl rfl (by (show logOf t.rs ++ _ = _); rw [HLG.out]) rfl rfl (by rw [HST.out])
      have HT : Hid (MR B (w4.setCell ⟨x.p, 2, none⟩ (.slice (some ⟨g, 0, none⟩) (t.log.length + m) cap)) ⟨x.p, x.vf, x.vc, .slice (some ⟨g, 0, none⟩) (t.log.length + m) cap⟩ ⟨t.n, t.first, t.rs, (recB l).take m, t.safe, t.step.ahead, true⟩ ∧ But x.F w (w4.setCell ⟨x.p, 2, none⟩ (.slice (some ⟨g, 0, none⟩) (t.log.length + m) cap)) ∧ Grows x.F (RP.F ⟨x.p, x.vf, x.vc, .slice (some ⟨g, 0, none⟩) (t.log.length + m) cap⟩) w) :=
        ⟨T.1, HB3'.trans T.2.1 (Grows.refl _ _), (Grows.refl x.F w).trans T.2.2 HB3'.size⟩
      clear T hO4 hO4' hg4 ha4 hown hcells' HM3' HB3' HM3 HB3 j2 jf c2 f2 hd3
      go_wp2
      go_ret
      have hrm : rl / 2 = m := by omega
      exact ⟨⟨x.p, x.vf, x.vc, .slice (some ⟨g, 0, none⟩) (t.log.length + m) cap⟩, rfl, rfl, by rw [HRL.out, hrm]; exact HT.out.1, HT.out.2.1, HT.out.2.2⟩
    · have e1 : t.putE l = 0 := by unfold Rdo.putE; rw [if_neg (by rw [hc]; simp), if_neg hz]
      have e2 : t.put l = ⟨t.n, t.first, t.rs ++ [l], t.hf, t.safe, t.step.ahead, false⟩ := by unfold Rdo.put; rw [if_neg (by rw [hc]; simp), if_neg hz]
      rw [e1, e2, errV, if_pos rfl]
      have HST : Hid (t.step.stopped = false) := decide_eq_false hz
      have HZ : Hid (decide (t.ahead = 0) = false) := decide_eq_false hz
      clear h hr hok ho hc hs hhf hbd e1 e2 hz hrl
      go_enter Tryd.func19, Tryd.ntmps19
      go_wp2_with fail
      refine C.mono ?_
      rintro e w1 ⟨rfl, hB1⟩
      have D := record_any t.n l _ w1 (HR.out.old hB1) HOK.out (by omega)
      have HM1 : Hid (MR B w1 x t) := HM.out.old hB1
      have HB1 : Hid (Below w.heap.size w w1) := hB1
      clear C hB1 HM
      go_wp2_with fail
      refine D.mono ?_
      rintro e w2 ⟨u, rfl, hO2, hB2⟩
      have HM2 : Hid (MR B w2 x t) := HM1.out.old hB2
      have HB2 : Hid (Below w.heap.size w w2) := HB1.out.trans (hB2.mono HB1.out.size)
      have S := stops_any HM2.out HO.out
      rw [HZ.out] at S
      have HO2 : Hid (Ow w1.heap.size w2 u (recB l)) := hO2
      obtain ⟨ga, ka, hu, _⟩ := ow_cells hO2 (by omega)
      rw [hu] at HO2 ⊢
      have HAP : Hid (∀ k, (Value.slice (some ⟨ga, 0, none⟩) (recB l).length ka).ownBlock = some k → x.vl.ownBlock ≠ some k) := fun k hk e => by
        have z1 := (HO2.out.lt k hk).1
        have z2 := HM1.out.lt k (.inr (.inr (.inr e)))
        omega
      clear D hB2 HM1 HB1 hO2 hu
      go_wp2_with fail
      refine S.mono ?_
      rintro e w3 ⟨rfl, hM3, hB3⟩
      have hO3 : Ow w1.heap.size w3 (.slice (some ⟨ga, 0, none⟩) (recB l).length ka) (recB l) := ownsRow_but HO2.out hB3 (fun k hk e => by
        subst e
        exact type_ne (ownsRow_type HO2.out hk) HM2.out.pt (by decide))
      have HB3 : Hid (But x.F w w3) := (Below.but HB2.out x.F).trans (hB3.mono (F_p x)) (Grows.refl _ _)
      obtain ⟨ga', ka', he, hka, hcells⟩ := ow_cells hO3 (by omega)
      simp only [Value.slice.injEq, Option.some.injEq, Addr.mk.injEq, and_true, true_and] at he
      obtain ⟨rfl, rfl⟩ := he
      have c2 := hM3.c2
      have hown : w3.ownsRow B 5 1 x.vl t.log.length (t.log.map eb) := hM3.lg
      have HM3 : Hid (MR B w3 x t.step) := hM3
      have HO3 : Hid (Ow w1.heap.size w3 (.slice (some ⟨ga, 0, none⟩) (recB l).length ka) (recB l)) := hO3
      obtain ⟨al, kl, hvl, _, _⟩ := hM3.lg.rd.len
      have hll : t.step.log.length = t.log.length := rfl
      rw [hll] at hvl
      have HVL : Hid (x.vl = .slice al t.log.length kl) := hvl
      rw [hvl] at c2 hown
      have hsz3 : B ≤ w3.heap.size := Nat.le_trans hBw HB3.out.size
      have hnl : ((recB l).map eb).length = (recB l).length * 1 := by rw [List.length_map]; omega
      have h1c : ∀ u ∈ (recB l).map eb, u.oneCell' = true := eb_one _
      have HNW : Hid (t.log.map eb ++ (recB l).map eb = (t.log ++ recB l).map eb ∧ (t.log ++ recB l).length = t.log.length + (recB l).length) := ⟨by rw [List.map_append], by rw [List.length_append]⟩
      have HLG : Hid (t.log = logOf t.rs) := by (show _ = _); unfold Rdo.log; rw [HHF.out, List.append_nil]
      clear S hM3 hB3 hO3 HB2 HO2 hvl hll
      generalize hrlen : (recB l).length = rl at *
      have HRL : Hid ((recB l).length = rl) := hrlen
      have hrl0 : 0 < rl := by omega
      clear hrlen
      obtain ⟨news, hnews⟩ : ∃ news, news = (recB l).map eb := ⟨_, rfl⟩
      rw [← hnews] at hcells hnl HNW h1c
      clear hnews
      go_wp2_with (first | (at_builtin; refine wpList_append_lies _ rfl _ _ 72 rfl B 5 i0 (.int .u8 0) 1 1 Tryd.underlying72 hi hz0 hz1 hz2 rfl (by decide) _ _ _ rfl hown ⟨ga, 0, none⟩ rl ka news rfl hnl hcells h1c hrl0 (by unfold maxLen; omega) (by omega) hsz3 _ rfl ?_))
      intro g cap w4 hO4 hg4 ha4 hl4
      rw [← HVL.out] at hg4 ha4
      have hO4' : Ow B w4 (.slice (some ⟨g, 0, none⟩) (t.log.length + rl) cap) (t.log ++ recB l) := by
        unfold Ow
        rw [HNW.out.2, ← HNW.out.1]
        exact hO4
      have T := mr_log (t' := ⟨t.n, t.first, t.rs, recB l, t.safe, t.step.ahead, false⟩) HM3.out hO4' hg4 ha4 rfl rfl rfl (by (show logOf t.rs ++ _ = _); rw [HLG.out]) rfl rfl (by rw [HST.out])
      have hbb : But (fun k => x.vl.ownBlock = some k) w3 w4 := But.grown hg4 (fun k hk => hk)
      have j2 := (hbb.cell (p := ⟨x.p, 2, none⟩) HM3.out.plt (fun e => HM3.out.lp e rfl)).trans HM3.out.c2
      have jf := (hbb.frozen (p := ⟨x.p, 2, none⟩) HM3.out.plt (fun e => HM3.out.lp e rfl)).trans (HM3.out.free 2)
      have hO5 : Ow w1.heap.size w4 (.slice (some ⟨ga, 0, none⟩) rl ka) (recB l) := ownsRow_but HO3.out hbb (fun k hk => HAP.out k hk)
      have hO6 : Ow w1.heap.size (w4.setCell ⟨x.p, 2, none⟩ (.slice (some ⟨g, 0, none⟩) (t.log.length + rl) cap)) (.slice (some ⟨ga, 0, none⟩) rl ka) (recB l) := ownsRow_but hO5 ((But.refl (· = x.p) w4).setCell (p := ⟨x.p, 2, none⟩) rfl _) (fun k hk e => by
        subst e
        have hq := hbb.block x.p HM3.out.plt (fun e => HM3.out.lp e rfl)
        exact type_ne (ownsRow_type hO5 hk) ⟨_, _, hq.trans HM3.out.row⟩ (by decide))
      have HT : Hid (MR B (w4.setCell ⟨x.p, 2, none⟩ (.slice (some ⟨g, 0, none⟩) (t.log.length + rl) cap)) ⟨x.p, x.vf, x.vc, .slice (some ⟨g, 0, none⟩) (t.log.length + rl) cap⟩ ⟨t.n, t.first, t.rs, recB l, t.safe, t.step.ahead, false⟩ ∧ But x.F w (w4.setCell ⟨x.p, 2, none⟩ (.slice (some ⟨g, 0, none⟩) (t.log.length + rl) cap)) ∧ Grows x.F (RP.F ⟨x.p, x.vf, x.vc, .slice (some ⟨g, 0, none⟩) (t.log.length + rl) cap⟩) w) :=
        ⟨T.1, HB3.out.trans T.2.1 (Grows.refl _ _), (Grows.refl x.F w).trans T.2.2 HB3.out.size⟩
      rw [HVL.out] at j2
      have HO6 : Hid (Ow w1.heap.size (w4.setCell ⟨x.p, 2, none⟩ (.slice (some ⟨g, 0, none⟩) (t.log.length + rl) cap)) (.slice (some ⟨ga, 0, none⟩) rl ka) (recB l)) := hO6
      clear T hbb hO4 hO4' hg4 ha4 hown hcells HM3 HB3 hO5 hO6 c2 hl4
      go_upto_region 9 with fail
      obtain ⟨w5, hw5⟩ : ∃ w5, w5 = w4.setCell ⟨x.p, 2, none⟩ (.slice (some ⟨g, 0, none⟩) (t.log.length + rl) cap) := ⟨_, rfl⟩
      rw [← hw5] at HT HO6 ⊢
      clear hw5 j2 jf
      have M5 := HT.out.1
      have c1 := M5.c1
      obtain ⟨a7, k7, hv7⟩ := OwT.len M5.cls
      dsimp only at c1 hv7
      have R := replay_any B t.n t.cells [l] rl x.vc (.slice (some ⟨ga, 0, none⟩) rl ka) w5 M5.cls (by rw [show logOf [l] = recB l by simp [logOf], List.take_of_length_le (by rw [HRL.out]; exact Nat.le_refl _)]; exact (Ow.rd (xs := recB l) HO6.out)) (OkL.one HOK.out) hn40 (by rw [show logOf [l] = recB l by simp [logOf], HRL.out]; omega) (fun k hk e => type_ne (ownsRow_type M5.cls hk) (ownsRow_type HO6.out e) (by decide))
      rw [show fit [l] rl = [l] by unfold fit; rw [if_pos (by rw [HRL.out]; exact Nat.le_refl _)]; rfl] at R
      have HCL : Hid (doL t.cells [l] = doL t.first (t.rs ++ [l])) := by (show _ = _); unfold Rdo.cells doL; rw [List.foldl_append]
      rw [HCL.out] at R
      rw [hv7] at c1 R
      have HV7 : Hid (x.vc = .slice a7 t.n k7) := hv7
      clear M5 hv7 HO6
      go_wp2_with fail
      refine R.mono ?_
      rintro e w6 ⟨rfl, hO7, hB7⟩
      rw [← HV7.out] at hO7 hB7
      have M6 : MR B w6 ⟨x.p, x.vf, x.vc, .slice (some ⟨g, 0, none⟩) (t.log.length + rl) cap⟩ ⟨t.n, t.first, t.rs ++ [l], t.hf, t.safe, t.step.ahead, false⟩ := mr_cells HT.out.1 hO7 hB7 rfl rfl (by (show logOf (t.rs ++ [l]) ++ t.hf = logOf t.rs ++ recB l); rw [HHF.out, logOf_append, List.append_nil]; simp [logOf]) rfl rfl rfl
      have HT6 : Hid (MR B w6 ⟨x.p, x.vf, x.vc, .slice (some ⟨g, 0, none⟩) (t.log.length + rl) cap⟩ ⟨t.n, t.first, t.rs ++ [l], t.hf, t.safe, t.step.ahead, false⟩ ∧ But x.F w w6 ∧ Grows x.F (RP.F ⟨x.p, x.vf, x.vc, .slice (some ⟨g, 0, none⟩) (t.log.length + rl) cap⟩) w) := ⟨M6, HT.out.2.1.trans (hB7.mono (fun k hk => .inr (.inr (.inl hk)))) (Grows.refl x.F _), HT.out.2.2⟩
      clear R hO7 hB7 M6 HT
      go_wp2
      go_ret
      exact ⟨⟨x.p, x.vf, x.vc, .slice (some ⟨g, 0, none⟩) (t.log.length + rl) cap⟩, rfl, rfl, HT6.out⟩
  · have e1 : t.putE l = t.checkE l := by unfold Rdo.putE; rw [if_pos hc]
    have e2 : t.put l = t := by unfold Rdo.put; rw [if_pos hc]
    rw [e1, e2]
    rw [errV, if_neg hc] at C
    rw [errV, if_neg hc]
    clear h hr ho e1 e2
    generalize t.checkE l = ke at *
    go_enter Tryd.func19, Tryd.ntmps19
    go_wp2_with fail
    refine C.mono ?_
    rintro e w1 ⟨rfl, hB1⟩
    have HT : Hid (MR B w1 x t ∧ But x.F w w1) := ⟨HM.out.old hB1, Below.but hB1 _⟩
    clear C hB1 HM
    go_wp2
    go_ret
    exact ⟨x, rfl, rfl, HT.out.1, HT.out.2, Grows.refl _ _⟩
theorem ow_cut {B : Nat} {w : World} {al : Option Addr} {n cap : Nat} {xs : List El} (h : Ow B w (.slice al n cap) xs) (m : Nat) (hm : m ≤ xs.length) : Ow B w (.slice al m cap) (xs.take m) := by
  by_cases hx : xs = []
  · subst hx
    have e : m = 0 := by simpa using hm
    subst e
    rcases h.2 with ⟨e, _⟩ | ⟨g, cap', cur, e, rest⟩
    · simp only [Value.slice.injEq] at e
      obtain ⟨rfl, rfl, rfl⟩ := e
      exact h
    · simp only [Value.slice.injEq] at e
      obtain ⟨rfl, rfl, rfl⟩ := e
      exact h
  · obtain ⟨g, cap', e, _⟩ := h.at hx
    simp only [Value.slice.injEq] at e
    obtain ⟨rfl, rfl, rfl⟩ := e
    exact h.cut rfl hm
set_option linter.unusedVariables false in
set_option maxRecDepth 100000 in
set_option maxHeartbeats 2000000 in
theorem rcrash_any {B : Nat} {w : World} {x : RP} {t : Rdo} (h : MR B w x t) (ho : t.ok) (hN : t.rs.length ≤ 1000) (hBw : B ≤ w.heap.size) (z : Int) (hzl : -9223372036854775808 ≤ z) (hzh : z ≤ 9223372036854775807) :
    Calls Tryd.prog 21 #[.pointer (some ⟨x.p, 0, none⟩), .int .i64 z] w fun e w' => ∃ x' : RP, x'.p = x.p ∧ e = .returned (.tuple #[]) ∧ MR B w' x' (t.crash z) ∧ But x.F w w' ∧ Grows x.F x'.F w := by
  have hsl := Rdo.safe_le ho
  have hlg := Rdo.log_le ho hN
  have hll := Rdo.left_le ho z
  have hn40 := ho.n40
  have c2 := h.c2
  have c3 := h.c3
  obtain ⟨af, kf, hvf⟩ := OwT.len h.fst
  have HVF : Hid (x.vf = .slice af t.n kf) := hvf
  obtain ⟨al, kl, hvl, _, _⟩ := h.lg.rd.len
  rw [hvl] at c2
  have HVL : Hid (x.vl = .slice al t.log.length kl) := hvl
  have HM : Hid (MR B w x t) := h
  have HO : Hid t.ok := ho
  obtain ⟨lf, hlf⟩ : ∃ lf, lf = t.left z := ⟨_, rfl⟩
  have hlv : (t.safe : Int) + (if (t.log.length : Int) - (t.safe : Int) < (if 0 > z then 0 else z) then (t.log.length : Int) - (t.safe : Int) else (if 0 > z then 0 else z)) = (lf : Int) := by
    rw [hlf]
    unfold Rdo.left
    split <;> split <;> omega
  have HLF : Hid (lf = t.left z) := hlf
  rw [← hlf] at hll
  clear h ho hvl hlf hvf
  go_enter Tryd.func21, Tryd.ntmps21
  go_wp2
  go_region
  generalize (if z < 0 then (0 : Int) else z) = z1
  generalize (if (t.log.length : Int) - (t.safe : Int) < z1 then (t.log.length : Int) - (t.safe : Int) else z1) = z2
  have hd0 : Below w.heap.size w w.drew := ⟨rfl, rfl, rfl, Nat.le_refl _, fun _ _ => rfl⟩
  have HM0 : Hid (MR B w.drew x t) := HM.out.old hd0
  have HB0 : Hid (But x.F w w.drew) := Below.but hd0 _
  have C := copied_any x.vf t.n t.first w.drew (OwT.rd HM0.out.fst) (by omega) (fun i hi => by have := HO.out.short i hi; omega)
  have c0 := HM0.out.c0
  rw [HVF.out] at c0 C
  have hBw0 : B ≤ w.drew.heap.size := hBw
  clear c2 c3 HM hd0 hlv
  obtain ⟨wd, hwd⟩ : ∃ wd, wd = w.drew := ⟨_, rfl⟩
  rw [← hwd] at HM0 HB0 C c0 hBw0 ⊢
  clear hwd
  go_wp2_with fail
  refine C.mono ?_
  rintro e w1 ⟨u, rfl, hO1, hB1⟩
  obtain ⟨au, ku, rfl⟩ := OwT.len hO1
  have M1 : MR B w1 x t := HM0.out.old hB1
  have T1 := mr_put (x' := ⟨x.p, x.vf, .slice au t.n ku, x.vl⟩) (t' := ⟨t.n, t.first, [], t.log, t.safe, t.ahead, t.stopped⟩) M1.row M1.hp 1 (.slice au t.n ku) rfl rfl M1.fst (OwT.base hO1 hBw0) M1.lg (fun k hk e => by
    have z1 := HM0.out.lt k (.inr (.inl hk))
    have z2 := (World.ownsRow.lt hO1 k e).1
    omega)
  have k1 := M1.c1
  have f1 := M1.free 1
  obtain ⟨ac, kc, hvc⟩ := OwT.len M1.cls
  rw [hvc] at k1
  have HU : Hid (∀ k, (Value.slice au t.n ku).ownBlock = some k → wd.heap.size ≤ k) := fun k hk => (World.ownsRow.lt hO1 k hk).1
  have HT1 : Hid (MR B (w1.setCell ⟨x.p, 1, none⟩ (.slice au t.n ku)) ⟨x.p, x.vf, .slice au t.n ku, x.vl⟩ ⟨t.n, t.first, [], t.log, t.safe, t.ahead, t.stopped⟩) := T1.1
  have HB1 : Hid (But x.F wd (w1.setCell ⟨x.p, 1, none⟩ (.slice au t.n ku))) := (Below.but hB1 x.F).trans (T1.2.mono (F_p x)) (Grows.refl _ _)
  clear C hO1 hB1 M1 T1 hvc
  go_upto_region 2 with fail
  obtain ⟨w2, hw2⟩ : ∃ w2, w2 = w1.setCell ⟨x.p, 1, none⟩ (.slice au t.n ku) := ⟨_, rfl⟩
  rw [← hw2] at HT1 HB1 ⊢
  clear hw2 k1 f1 c0
  have d1 := HT1.out.c1
  have d2 := HT1.out.c2
  dsimp only at d1 d2
  rw [HVL.out] at d2
  have hlz : (lf : Int) ≤ (t.log.length : Int) := by omega
  have hkl : t.log.length ≤ kl := by assumption
  have hlk : (lf : Int) ≤ (kl : Int) := by omega
  refine region_tail 10 (by kernel_rfl) (by kernel_rfl) ?_
  simp only [List.take_succ_cons, List.take_zero, List.drop_succ_cons, List.drop_zero]
  repeat (go_big_quiet_step (fail))
  refine wpQuiet_nil ?_
  intro w9 hw9
  obtain ⟨nq, rfl⟩ := hw9
  have HT9 : Hid (MR B (w2.drewN nq) ⟨x.p, x.vf, .slice au t.n ku, x.vl⟩ ⟨t.n, t.first, [], t.log, t.safe, t.ahead, t.stopped⟩) := HT1.out.drewN nq
  have HB9 : Hid (But x.F wd (w2.drewN nq)) := HB1.out.drewN nq
  clear d1 d2 HT1 HB1
  generalize w2.drewN nq = w9 at *
  obtain ⟨qs, hqo, hql, hqm⟩ := Rdo.log_is HO.out
  obtain ⟨q1, q2⟩ := hqm lf hll
  have hRl : Rd w9 (.slice al t.log.length kl) t.log := by
    have := HT9.out.lg.rd
    dsimp only at this
    rw [HVL.out] at this
    exact this
  have hcut := cut_h hRl lf hll
  have R := replay_any B t.n t.first qs lf (.slice au t.n ku) (.slice al lf kl) w9 HT9.out.cls (by rw [← q1]; exact hcut.2) hqo hn40 (by
      have z1 := OkL.log_le qs hqo
      have z2 : 722 * qs.length ≤ 722 * 1001 := Nat.mul_le_mul_left _ (by omega)
      omega) (fun k hk e => by
      have e2 : (x.vl).ownBlock = some k := by
        rw [HVL.out]
        cases al with
        | none => cases e
        | some a0 => exact e
      exact HT9.out.lc e2 hk)
  rw [q2] at R
  obtain ⟨fr, hfr⟩ : ∃ fr, fr = fit t.rs lf := ⟨_, rfl⟩
  have HFR : Hid (fr = fit t.rs (t.left z)) := by (show _ = _); rw [hfr, HLF.out]
  rw [← hfr] at R
  have hfl : (logOf fr).length ≤ lf := by rw [hfr]; exact fit_len _ _
  have HFT : Hid (t.log.take (logOf fr).length = logOf fr) := by
    (show _ = _)
    have h1 := fit_take t.rs lf
    rw [← hfr] at h1
    have e1 : t.rs = fr ++ t.rs.drop fr.length := (List.take_append_drop fr.length t.rs).symm.trans (by rw [← h1])
    unfold Rdo.log
    rw [e1, logOf_append, List.append_assoc, List.take_left]
  clear hqm q1 q2 hfr hcut hRl hqo hql
  obtain ⟨wl, hwl⟩ : ∃ wl, wl = (logOf fr).length := ⟨_, rfl⟩
  rw [← hwl] at R hfl HFT
  have HWL : Hid (wl = (logOf fr).length) := hwl
  clear hwl
  go_wp2_with fail
  refine R.mono ?_
  rintro e w3 ⟨rfl, hO3, hB3⟩
  have hwl : wl ≤ t.log.length := by omega
  have M3 : MR B w3 ⟨x.p, x.vf, .slice au t.n ku, x.vl⟩ ⟨t.n, t.first, fr, t.log.drop wl, t.safe, t.ahead, t.stopped⟩ := mr_cells HT9.out hO3 hB3 rfl rfl (by
    (show logOf fr ++ t.log.drop wl = logOf [] ++ t.log)
    rw [← HFT.out, List.take_append_drop]
    rfl) rfl rfl rfl
  have HB3 : Hid (But (fun k => x.F k ∨ (Value.slice au t.n ku).ownBlock = some k) wd w3) := (HB9.out.mono (fun k hk => .inl hk)).trans (hB3.mono (fun k hk => .inr hk)) (Grows.refl _ _)
  have hlog : Rdo.log ⟨t.n, t.first, fr, t.log.drop wl, t.safe, t.ahead, t.stopped⟩ = t.log := by
    (show logOf fr ++ t.log.drop wl = t.log)
    rw [← HFT.out, List.take_append_drop]
  have hOl : Ow B w3 (.slice al t.log.length kl) t.log := by
    have := M3.lg
    rw [hlog] at this
    dsimp only at this
    rw [HVL.out] at this
    exact this
  have hOc : Ow B w3 (.slice al wl kl) (logOf fr) := by
    have := ow_cut hOl wl hwl
    rw [HFT.out] at this
    exact this
  have s2 := (cut_h hOl.rd wl hwl).1 (wl : Int) rfl
  have T2 := mr_put (x' := ⟨x.p, x.vf, .slice au t.n ku, .slice al wl kl⟩) (t' := ⟨t.n, t.first, fr, [], t.safe, t.ahead, t.stopped⟩) M3.row M3.hp 2 (.slice al wl kl) rfl rfl M3.fst M3.cls (by (show Ow B w3 _ (logOf fr ++ [])); rw [List.append_nil]; exact hOc) M3.fc
  have T3 := T2.1.put3 wl
  have T4 := T3.1.put4 (-1)
  have T5 := T4.1.put5 false
  have d2 := M3.c2
  have d3 := M3.c3
  have d4 := M3.c4
  have d5 := M3.c5
  have f2 := M3.free 2
  have f3 := M3.free 3
  have f4 := M3.free 4
  have f5 := M3.free 5
  dsimp only at d2 d3 d4 d5 f2 f3 f4 f5 T2 T3 T4 T5
  rw [HVL.out] at d2
  have HT5 : Hid _ := T5.1
  have HBp : Hid (But (fun k => x.F k ∨ (Value.slice au t.n ku).ownBlock = some k) wd _) := HB3.out.trans ((((T2.2.trans T3.2 (Grows.refl _ _)).trans T4.2 (Grows.refl _ _)).trans T5.2 (Grows.refl _ _)).mono (fun k hk => .inl (.inl hk))) (Grows.refl _ _)
  have HCR : Hid (t.crash z = ⟨t.n, t.first, fr, [], wl, -1, false⟩) := by
    (show _ = _)
    unfold Rdo.crash
    rw [← HFR.out, ← HWL.out]
  clear R hO3 hB3 M3 HB3 hOl hOc T2 T3 T4 T5 HT9 HB9 hlog
  go_wp2_with (first | (refine wp_cut rfl _ _ _ _ _ rfl _ _ _ _ rfl rfl rfl rfl s2 ?_))
  go_end0
  refine ⟨⟨x.p, x.vf, .slice au t.n ku, .slice al wl kl⟩, rfl, rfl, ?_, ?_, ?_⟩
  · rw [HCR.out]; exact HT5.out
  · have z1 := HB0.out.trans HBp.out (F' := fun k => x.F k ∨ (Value.slice au t.n ku).ownBlock = some k) (fun k hk => by
      rcases hk with hk | hk
      · exact .inl hk
      · exact .inr (Nat.le_trans HB0.out.size (HU.out k hk)))
    exact z1
  · rintro k (hk | hk | hk | hk)
    · exact .inl (.inl hk)
    · exact .inl (.inr (.inl hk))
    · exact .inr (Nat.le_trans HB0.out.size (HU.out k hk))
    · refine .inl (.inr (.inr (.inr ?_)))
      rw [HVL.out]
      cases al with
      | none => cases hk
      | some a0 => exact hk
end Go.Proofs.YtacfafbnimhibaaDoor
