/- The document's Ask: walks over the program. -/
import Derived.Test.YtagindfgfamacaaDoorLdA
import Derived.Deep.RegionLawGrows
namespace Go.Proofs.YtagindfgfamacaaDoor
open Go.RowKit
set_option maxRecDepth 100000 in
set_option maxHeartbeats 4000000 in
theorem dask_ok {B : Nat} {w : World} {x : LP} {t : Lks} (h : IsK 50 B w x t) (hn : t.many ≤ 30) (hB : B ≤ w.heap.size) (y : Lk) (hbad : Lks.bad y = false) (hh : (hasW t.h y.who || hasW t.w y.who) = false) (hf : t.h.length + t.w.length < 30) :
    Calls Tryd.prog 23 #[.pointer (some ⟨x.p, 0, none⟩), alk y] w fun e w' => ∃ x' : LP, x'.p = x.p ∧ e = .returned (.tuple #[.bool (t.free' y), .int .i64 0]) ∧ IsK 50 B w' x' (t.add y) ∧ But x.F w w' ∧ Grows x.F x'.F w := by
  obtain ⟨j0, hj, hy0, hy1, hy2⟩ := info_parts infoLk
  have HH : Hid ((hasW t.h y.who || hasW t.w y.who) = false) := hh
  have HA : Hid (t.add y = if t.free' y = true then ⟨t.h ++ [y], t.w⟩ else ⟨t.h, t.w ++ [y]⟩) := rfl
  have HF : Hid (t.free' y = (!oddL t.h y && !oddL t.w y)) := rfl
  rw [HA.out, HF.out]
  clear hh HA HF
  obtain ⟨o1, ho1⟩ : ∃ b, (!oddL t.h y) = b := ⟨_, rfl⟩
  obtain ⟨o2, ho2⟩ : ∃ b, (!oddL t.w y) = b := ⟨_, rfl⟩
  have HO1 : Hid ((!oddL t.h y) = o1) := ho1
  have HO2 : Hid ((!oddL t.w y) = o2) := ho2
  rw [ho1, ho2]
  clear ho1 ho2
  have hb := al_below w (.cells #[.int .i64 y.who, .int .i64 y.fr, .int .i64 y.to, .bool y.al] 57)
  have HN0 := LkAt.new w y 57
  obtain ⟨wa, hwa⟩ : ∃ wa, wa = w.alloc (.cells #[.int .i64 y.who, .int .i64 y.fr, .int .i64 y.to, .bool y.al] 57) := ⟨_, rfl⟩
  rw [← hwa] at hb HN0
  have HN : Hid (LkAt wa ⟨w.heap.size, 0, none⟩ y) := HN0
  have HK : Hid (IsK 50 B wa x t) := h.old hb
  have HBA : Hid (Below w.heap.size w wa) := hb
  have HNs := HN0
  unfold LkAt at HNs
  rw [hwa] at HNs
  obtain ⟨s2, s3, s4, s5⟩ := HNs
  clear h hb HN0
  obtain ⟨k1, k2, k3, k4, k5⟩ : 1 ≤ y.who ∧ y.who ≤ 1000 ∧ 0 ≤ y.fr ∧ y.fr < y.to ∧ y.to ≤ 40 := by
    unfold Lks.bad at hbad
    simp at hbad
    omega
  have d1 : decide (y.who < 1) = false := decide_eq_false (by omega)
  have d2 : decide (1000 < y.who) = false := decide_eq_false (by omega)
  have d3 : decide (y.fr < 0) = false := decide_eq_false (by omega)
  have d4 : decide (y.to ≤ y.fr) = false := decide_eq_false (by omega)
  have d5 : decide (40 < y.to) = false := decide_eq_false (by omega)
  have HBAD : Hid (Lks.bad y = false) := hbad
  clear hbad
  have hmn : t.h.length + t.w.length ≤ 30 := hn
  obtain ⟨a1, l1, hv1⟩ := OwLk.len HK.out.hd
  obtain ⟨a2, l2, hv2⟩ := OwLk.len HK.out.wt
  have HV1 : Hid (x.vh = .slice a1 t.h.length l1) := hv1
  have HV2 : Hid (x.vw = .slice a2 t.w.length l2) := hv2
  have C1 : ∀ n, Calls Tryd.prog 41 #[.slice a1 t.h.length l1, .int .i64 y.who] (wa.drewN n) fun e w' => e = .returned (.bool (hasW t.h y.who)) ∧ w' = wa.drewN n := fun n => by
    have := dwhose_any x.vh t.h y.who (wa.drewN n) (by omega) ((OwLk.rd HK.out.hd).old (below_drewN (Below.refl _ _) n))
    rw [hv1] at this
    exact this
  have c0 := HK.out.c0
  have c1 := HK.out.c1
  rw [hv1] at c0
  rw [hv2] at c1
  clear hv1 hv2 hn
  go_enter Tryd.func23, Tryd.ntmps23
  go_wp2
  rw [← hwa]
  rw [← hwa] at s2 s3 s4 s5
  clear hwa k1 k2 k3 k4 k5 d1 d2 d3 d4 d5
  go_quiet ((go_at_call 41; exact Calls.quiet_of_same (C1 _)))
  have hd := below_drewN (Below.refl wa.heap.size wa) nq
  have HK2 : Hid (IsK 50 B (wa.drewN nq) x t) := HK.out.old hd
  have HN2 : Hid (LkAt (wa.drewN nq) ⟨w.heap.size, 0, none⟩ y) := HN.out.old hd
  have HB2 : Hid (Below w.heap.size w (wa.drewN nq)) := HBA.out.trans (hd.mono HBA.out.size)
  have C2 : ∀ n, Calls Tryd.prog 41 #[.slice a2 t.w.length l2, .int .i64 y.who] ((wa.drewN nq).drewN n) fun e w' => e = .returned (.bool (hasW t.w y.who)) ∧ w' = (wa.drewN nq).drewN n := fun n => by
    have := dwhose_any x.vw t.w y.who ((wa.drewN nq).drewN n) (by omega) ((OwLk.rd HK2.out.wt).old (below_drewN (Below.refl _ _) n))
    rw [HV2.out] at this
    exact this
  obtain ⟨w2, hw2⟩ : ∃ w2, wa.drewN nq = w2 := ⟨_, rfl⟩
  rw [hw2] at HK2 HN2 HB2 C2 ⊢
  clear hd C1 c0 c1 s2 s3 s4 s5 HK HN HBA hw2
  have c0 := HK2.out.c0
  have c1 := HK2.out.c1
  rw [HV1.out] at c0
  rw [HV2.out] at c1
  obtain ⟨s2, s3, s4, s5⟩ := HN2.out
  go_wp2
  go_quiet ((go_at_call 41; exact Calls.quiet_of_same (C2 _)))
  have hd := below_drewN (Below.refl w2.heap.size w2) nq
  have HK3 : Hid (IsK 50 B (w2.drewN nq) x t) := HK2.out.old hd
  have HN3 : Hid (LkAt (w2.drewN nq) ⟨w.heap.size, 0, none⟩ y) := HN2.out.old hd
  have HB3 : Hid (Below w.heap.size w (w2.drewN nq)) := HB2.out.trans (hd.mono HB2.out.size)
  obtain ⟨w3, hw3⟩ : ∃ w3, w2.drewN nq = w3 := ⟨_, rfl⟩
  rw [hw3] at HK3 HN3 HB3 ⊢
  clear hd C2 c0 c1 s2 s3 s4 s5 HK2 HN2 HB2 hw3
  have hh := HH.out
  have e1 : hasW t.h y.who = false := by
    cases q : hasW t.h y.who
    · rfl
    · rw [q] at hh; cases hh
  have e2 : hasW t.w y.who = false := by rw [e1] at hh; exact hh
  rw [e1, e2]
  clear e1 e2 hh HH
  have c0 := HK3.out.c0
  have c1 := HK3.out.c1
  rw [HV1.out] at c0
  rw [HV2.out] at c1
  have hwr : IntKind.i64.wrap ((t.h.length : Int) + (t.w.length : Int)) = (t.h.length : Int) + (t.w.length : Int) := by rw [IntKind.wrap_i64]; omega
  have hz : (t.h.length : Int) + (t.w.length : Int) < 30 := by omega
  go_wp2
  go_quiet (fail)
  have hd := below_drewN (Below.refl w3.heap.size w3) nq
  have HKw4 : Hid (IsK 50 B (w3.drewN nq) x t) := HK3.out.old hd
  have HNw4 : Hid (LkAt (w3.drewN nq) ⟨w.heap.size, 0, none⟩ y) := HN3.out.old hd
  have HBw4 : Hid (Below w.heap.size w (w3.drewN nq)) := HB3.out.trans (hd.mono HB3.out.size)
  obtain ⟨w4, hw4⟩ : ∃ w4, w3.drewN nq = w4 := ⟨_, rfl⟩
  rw [hw4] at HKw4 HNw4 HBw4 ⊢
  clear hd c0 c1 HK3 HN3 HB3 hw4 hwr hz
  have HS : Hid (∀ W, Below w4.heap.size w4 W → (W.cell? ⟨x.p, 0, none⟩ = some (.slice a1 t.h.length l1) ∧ W.cell? ⟨x.p, 1, none⟩ = some (.slice a2 t.w.length l2)) ∧ LkAt W ⟨w.heap.size, 0, none⟩ y) := fun W hW =>
    ⟨⟨by rw [(HKw4.out.old hW).c0, HV1.out], by rw [(HKw4.out.old hW).c1, HV2.out]⟩, HNw4.out.old hW⟩
  have H1 : Hid (∀ W, Below w4.heap.size w4 W → Calls Tryd.prog 43 #[.slice a1 t.h.length l1, .agg #[.int .i64 y.who, .int .i64 y.fr, .int .i64 y.to, .bool y.al]] W fun e w' => e = .returned (.bool (!oddL t.h y)) ∧ Below w4.heap.size w4 w') := fun W hW => by
    have := dclear_any x.vh t.h y W (by omega) (OwLk.rd (HKw4.out.old hW).hd)
    rw [HV1.out] at this
    refine this.mono ?_
    rintro e w' ⟨rfl, hB⟩
    exact ⟨rfl, hW.trans (hB.mono hW.size)⟩
  have hw0 : Below w4.heap.size w4 w4.drew := ⟨rfl, rfl, rfl, Nat.le_refl _, fun _ _ => rfl⟩
  have S0 := HS.out _ hw0
  unfold LkAt at S0 HS
  dsimp only at S0 HS
  go_wp2
  go_region_held3 (fun W => (W.cell? ⟨x.p, 0, none⟩ = some (.slice a1 t.h.length l1) ∧ W.cell? ⟨x.p, 1, none⟩ = some (.slice a2 t.w.length l2)) ∧ W.cell? ⟨w.heap.size, 0, none⟩ = some (.int .i64 y.who) ∧ W.cell? ⟨w.heap.size, 0 + 1, none⟩ = some (.int .i64 y.fr) ∧ W.cell? ⟨w.heap.size, 0 + 2, none⟩ = some (.int .i64 y.to) ∧ W.cell? ⟨w.heap.size, 0 + 3, none⟩ = some (.bool y.al)) (first | exact S2 | exact S0) ((first
    | (go_at_call 43; refine (H1.out _ hw0).mono ?_; rintro e w5 ⟨rfl, hB2⟩; have S2 := HS.out w5 hB2)))
  have HKw5 : Hid (IsK 50 B w5 x t) := HKw4.out.old hB2
  have HNw5 : Hid (LkAt w5 ⟨w.heap.size, 0, none⟩ y) := HNw4.out.old hB2
  have HBw5 : Hid (Below w.heap.size w w5) := HBw4.out.trans (hB2.mono HBw4.out.size)
  clear HS H1 hw0 S0 S2 hB2 HKw4 HNw4 HBw4
  rw [HO1.out]
  have HS : Hid (∀ W, Below w5.heap.size w5 W → (W.cell? ⟨x.p, 0, none⟩ = some (.slice a1 t.h.length l1) ∧ W.cell? ⟨x.p, 1, none⟩ = some (.slice a2 t.w.length l2)) ∧ LkAt W ⟨w.heap.size, 0, none⟩ y) := fun W hW =>
    ⟨⟨by rw [(HKw5.out.old hW).c0, HV1.out], by rw [(HKw5.out.old hW).c1, HV2.out]⟩, HNw5.out.old hW⟩
  have H1 : Hid (∀ W, Below w5.heap.size w5 W → Calls Tryd.prog 43 #[.slice a2 t.w.length l2, .agg #[.int .i64 y.who, .int .i64 y.fr, .int .i64 y.to, .bool y.al]] W fun e w' => e = .returned (.bool (!oddL t.w y)) ∧ Below w5.heap.size w5 w') := fun W hW => by
    have := dclear_any x.vw t.w y W (by omega) (OwLk.rd (HKw5.out.old hW).wt)
    rw [HV2.out] at this
    refine this.mono ?_
    rintro e w' ⟨rfl, hB⟩
    exact ⟨rfl, hW.trans (hB.mono hW.size)⟩
  have hw0 : Below w5.heap.size w5 w5.drew := ⟨rfl, rfl, rfl, Nat.le_refl _, fun _ _ => rfl⟩
  have S0 := HS.out _ hw0
  unfold LkAt at S0 HS
  dsimp only at S0 HS
  go_wp2
  go_region_held3 (fun W => (W.cell? ⟨x.p, 0, none⟩ = some (.slice a1 t.h.length l1) ∧ W.cell? ⟨x.p, 1, none⟩ = some (.slice a2 t.w.length l2)) ∧ W.cell? ⟨w.heap.size, 0, none⟩ = some (.int .i64 y.who) ∧ W.cell? ⟨w.heap.size, 0 + 1, none⟩ = some (.int .i64 y.fr) ∧ W.cell? ⟨w.heap.size, 0 + 2, none⟩ = some (.int .i64 y.to) ∧ W.cell? ⟨w.heap.size, 0 + 3, none⟩ = some (.bool y.al)) (first | exact S2 | exact S0) ((first
    | (go_at_call 43; refine (H1.out _ hw0).mono ?_; rintro e w6 ⟨rfl, hB2⟩; have S2 := HS.out w6 hB2)))
  have HKw6 : Hid (IsK 50 B w6 x t) := HKw5.out.old hB2
  have HNw6 : Hid (LkAt w6 ⟨w.heap.size, 0, none⟩ y) := HNw5.out.old hB2
  have HBw6 : Hid (Below w.heap.size w w6) := HBw5.out.trans (hB2.mono HBw5.out.size)
  clear HS H1 hw0 S0 S2 hB2 HKw5 HNw5 HBw5
  rw [HO2.out]
  have hBs : B ≤ w6.heap.size := Nat.le_trans hB HBw6.out.size
  cases o1
  · go_wp2
    have hd1 : Below w6.heap.size w6 w6.drew := ⟨rfl, rfl, rfl, Nat.le_refl _, fun _ _ => rfl⟩
    have hown : w6.drew.ownsRow B 57 4 (Value.slice a2 t.w.length l2) t.w.length (vlks t.w) := by
      have := OwLk.old HKw6.out.wt hd1
      rw [HV2.out] at this
      exact this
    have s6 : w6.cell? ⟨x.p, 1, none⟩ = some (Value.slice a2 t.w.length l2) := by rw [HKw6.out.c1, HV2.out]
    have s7 : (w6.alloc (.cells #[.int .i64 y.who, .int .i64 y.fr, .int .i64 y.to, .bool y.al] 57)).cell? ⟨x.p, 1, none⟩ = some (Value.slice a2 t.w.length l2) := by rw [(HKw6.out.old (al_below _ _)).c1, HV2.out]
    obtain ⟨s2, s3, s4, s5⟩ := HNw6.out
    have HL : Hid (∀ w4 b, (w6.drew.alloc b).grownBy w4 (Value.slice a2 t.w.length l2).ownBlock → (w4.cell? ⟨x.p, 1, none⟩ = some (Value.slice a2 t.w.length l2) ∧ w4.frozen? ⟨x.p, 1, none⟩ = false)) := fun w4 b hg => by
      have h5 := (HKw6.out.old hd1).old (al_below _ b)
      have hne : some x.p ≠ (Value.slice a2 t.w.length l2).ownBlock := fun e => by rw [← HV2.out] at e; exact HKw6.out.wtp e.symm rfl
      exact ⟨by rw [hg.cell_far ⟨x.p, 1, none⟩ h5.plt hne, h5.c1, HV2.out], by rw [hg.frozen_far ⟨x.p, 1, none⟩ h5.plt hne]; exact h5.free 1⟩
    go_region_law ((refine step_append_lies _ (by rfl) _ _ _ (by rfl) B 57 j0 (.agg #[.int .i64 0, .int .i64 0, .int .i64 0, .bool false]) 4 32 Tryd.underlying44 hj hy0 hy1 hy2 rfl (by decide) _ _ _ (by rfl) (World.ownsRow.alloc hown _) ⟨w6.heap.size, 0, none⟩ 1 1 (vlk y) (by rfl) rfl (row_news _ y _) (vlk_one y) (by omega) (by unfold maxLen; omega) (by omega) (by simp; omega) _ rfl ?_; intro g cap w4 hO4 hg4 ha4 hl4; have j2 := (HL.out w4 _ hg4).1; have jf := (HL.out w4 _ hg4).2))
    all_goals
      have M := ((HKw6.out.old hd1).old (al_below _ (.cells #[.int .i64 y.who, .int .i64 y.fr, .int .i64 y.to, .bool y.al] 57))).moreW (y := y) hO4 (by rw [HV2.out]; exact hg4) (by rw [HV2.out]; rcases ha4 with q | q; exact .inl q; exact .inr (by rw [q]; simp))
      have HM : Hid (IsK 50 B (w4.setCell ⟨x.p, 1, none⟩ (.slice (some ⟨g, 0, none⟩) (t.w.length + 1) cap)) ⟨x.p, x.vh, .slice (some ⟨g, 0, none⟩) (t.w.length + 1) cap⟩ ⟨t.h, t.w ++ [y]⟩ ∧ But x.F w6 (w4.setCell ⟨x.p, 1, none⟩ (.slice (some ⟨g, 0, none⟩) (t.w.length + 1) cap)) ∧ Grows x.F (LP.F ⟨x.p, x.vh, .slice (some ⟨g, 0, none⟩) (t.w.length + 1) cap⟩) w6) := by
        have hbA : Below w6.heap.size w6 (w6.drew.alloc (.cells #[.int .i64 y.who, .int .i64 y.fr, .int .i64 y.to, .bool y.al] 57)) := hd1.trans ((al_below _ _).mono hd1.size)
        exact ⟨M.1, ((Below.but hbA _).trans M.2.1 (Grows.refl _ _)), fun q hq => (M.2.2 q hq).imp id (fun z => Nat.le_trans hbA.size z)⟩
      obtain ⟨x', hx'⟩ : ∃ x' : LP, x' = ⟨x.p, x.vh, .slice (some ⟨g, 0, none⟩) (t.w.length + 1) cap⟩ := ⟨_, rfl⟩
      have HX : Hid (x'.p = x.p) := by rw [hx']; exact rfl
      rw [← hx'] at HM
      clear M hO4 hg4 ha4 hl4 hown HL hd1 hx' j2 jf s6 s7 s2 s3 s4 s5
      go_wp2
      go_ret2
      exact ⟨x', HX.out, rfl, HM.out.1, (Below.but HBw6.out _).trans HM.out.2.1 (Grows.refl _ _), fun q hq => (HM.out.2.2 q hq).imp id (fun z => Nat.le_trans HBw6.out.size z)⟩
  · cases o2
    · go_wp2
      have hd1 : Below w6.heap.size w6 w6.drew := ⟨rfl, rfl, rfl, Nat.le_refl _, fun _ _ => rfl⟩
      have hown : w6.drew.ownsRow B 57 4 (Value.slice a2 t.w.length l2) t.w.length (vlks t.w) := by
        have := OwLk.old HKw6.out.wt hd1
        rw [HV2.out] at this
        exact this
      have s6 : w6.cell? ⟨x.p, 1, none⟩ = some (Value.slice a2 t.w.length l2) := by rw [HKw6.out.c1, HV2.out]
      have s7 : (w6.alloc (.cells #[.int .i64 y.who, .int .i64 y.fr, .int .i64 y.to, .bool y.al] 57)).cell? ⟨x.p, 1, none⟩ = some (Value.slice a2 t.w.length l2) := by rw [(HKw6.out.old (al_below _ _)).c1, HV2.out]
      obtain ⟨s2, s3, s4, s5⟩ := HNw6.out
      have HL : Hid (∀ w4 b, (w6.drew.alloc b).grownBy w4 (Value.slice a2 t.w.length l2).ownBlock → (w4.cell? ⟨x.p, 1, none⟩ = some (Value.slice a2 t.w.length l2) ∧ w4.frozen? ⟨x.p, 1, none⟩ = false)) := fun w4 b hg => by
        have h5 := (HKw6.out.old hd1).old (al_below _ b)
        have hne : some x.p ≠ (Value.slice a2 t.w.length l2).ownBlock := fun e => by rw [← HV2.out] at e; exact HKw6.out.wtp e.symm rfl
        exact ⟨by rw [hg.cell_far ⟨x.p, 1, none⟩ h5.plt hne, h5.c1, HV2.out], by rw [hg.frozen_far ⟨x.p, 1, none⟩ h5.plt hne]; exact h5.free 1⟩
      go_region_law ((refine step_append_lies _ (by rfl) _ _ _ (by rfl) B 57 j0 (.agg #[.int .i64 0, .int .i64 0, .int .i64 0, .bool false]) 4 32 Tryd.underlying44 hj hy0 hy1 hy2 rfl (by decide) _ _ _ (by rfl) (World.ownsRow.alloc hown _) ⟨w6.heap.size, 0, none⟩ 1 1 (vlk y) (by rfl) rfl (row_news _ y _) (vlk_one y) (by omega) (by unfold maxLen; omega) (by omega) (by simp; omega) _ rfl ?_; intro g cap w4 hO4 hg4 ha4 hl4; have j2 := (HL.out w4 _ hg4).1; have jf := (HL.out w4 _ hg4).2))
      all_goals
        have M := ((HKw6.out.old hd1).old (al_below _ (.cells #[.int .i64 y.who, .int .i64 y.fr, .int .i64 y.to, .bool y.al] 57))).moreW (y := y) hO4 (by rw [HV2.out]; exact hg4) (by rw [HV2.out]; rcases ha4 with q | q; exact .inl q; exact .inr (by rw [q]; simp))
        have HM : Hid (IsK 50 B (w4.setCell ⟨x.p, 1, none⟩ (.slice (some ⟨g, 0, none⟩) (t.w.length + 1) cap)) ⟨x.p, x.vh, .slice (some ⟨g, 0, none⟩) (t.w.length + 1) cap⟩ ⟨t.h, t.w ++ [y]⟩ ∧ But x.F w6 (w4.setCell ⟨x.p, 1, none⟩ (.slice (some ⟨g, 0, none⟩) (t.w.length + 1) cap)) ∧ Grows x.F (LP.F ⟨x.p, x.vh, .slice (some ⟨g, 0, none⟩) (t.w.length + 1) cap⟩) w6) := by
          have hbA : Below w6.heap.size w6 (w6.drew.alloc (.cells #[.int .i64 y.who, .int .i64 y.fr, .int .i64 y.to, .bool y.al] 57)) := hd1.trans ((al_below _ _).mono hd1.size)
          exact ⟨M.1, ((Below.but hbA _).trans M.2.1 (Grows.refl _ _)), fun q hq => (M.2.2 q hq).imp id (fun z => Nat.le_trans hbA.size z)⟩
        obtain ⟨x', hx'⟩ : ∃ x' : LP, x' = ⟨x.p, x.vh, .slice (some ⟨g, 0, none⟩) (t.w.length + 1) cap⟩ := ⟨_, rfl⟩
        have HX : Hid (x'.p = x.p) := by rw [hx']; exact rfl
        rw [← hx'] at HM
        clear M hO4 hg4 ha4 hl4 hown HL hd1 hx' j2 jf s6 s7 s2 s3 s4 s5
        go_wp2
        go_ret2
        exact ⟨x', HX.out, rfl, HM.out.1, (Below.but HBw6.out _).trans HM.out.2.1 (Grows.refl _ _), fun q hq => (HM.out.2.2 q hq).imp id (fun z => Nat.le_trans HBw6.out.size z)⟩
    · go_wp2
      have hd1 : Below w6.heap.size w6 w6.drew := ⟨rfl, rfl, rfl, Nat.le_refl _, fun _ _ => rfl⟩
      have hown : w6.drew.ownsRow B 57 4 (Value.slice a1 t.h.length l1) t.h.length (vlks t.h) := by
        have := OwLk.old HKw6.out.hd hd1
        rw [HV1.out] at this
        exact this
      have s6 : w6.cell? ⟨x.p, 0, none⟩ = some (Value.slice a1 t.h.length l1) := by rw [HKw6.out.c0, HV1.out]
      have s7 : (w6.alloc (.cells #[.int .i64 y.who, .int .i64 y.fr, .int .i64 y.to, .bool y.al] 57)).cell? ⟨x.p, 0, none⟩ = some (Value.slice a1 t.h.length l1) := by rw [(HKw6.out.old (al_below _ _)).c0, HV1.out]
      obtain ⟨s2, s3, s4, s5⟩ := HNw6.out
      have HL : Hid (∀ w4 b, (w6.drew.alloc b).grownBy w4 (Value.slice a1 t.h.length l1).ownBlock → (w4.cell? ⟨x.p, 0, none⟩ = some (Value.slice a1 t.h.length l1) ∧ w4.frozen? ⟨x.p, 0, none⟩ = false)) := fun w4 b hg => by
        have h5 := (HKw6.out.old hd1).old (al_below _ b)
        have hne : some x.p ≠ (Value.slice a1 t.h.length l1).ownBlock := fun e => by rw [← HV1.out] at e; exact HKw6.out.hdp e.symm rfl
        exact ⟨by rw [hg.cell_far ⟨x.p, 0, none⟩ h5.plt hne, h5.c0, HV1.out], by rw [hg.frozen_far ⟨x.p, 0, none⟩ h5.plt hne]; exact h5.free 0⟩
      go_region_law ((refine step_append_lies _ (by rfl) _ _ _ (by rfl) B 57 j0 (.agg #[.int .i64 0, .int .i64 0, .int .i64 0, .bool false]) 4 32 Tryd.underlying44 hj hy0 hy1 hy2 rfl (by decide) _ _ _ (by rfl) (World.ownsRow.alloc hown _) ⟨w6.heap.size, 0, none⟩ 1 1 (vlk y) (by rfl) rfl (row_news _ y _) (vlk_one y) (by omega) (by unfold maxLen; omega) (by omega) (by simp; omega) _ rfl ?_; intro g cap w4 hO4 hg4 ha4 hl4; have j2 := (HL.out w4 _ hg4).1; have jf := (HL.out w4 _ hg4).2))
      all_goals
        have M := ((HKw6.out.old hd1).old (al_below _ (.cells #[.int .i64 y.who, .int .i64 y.fr, .int .i64 y.to, .bool y.al] 57))).moreH (y := y) hO4 (by rw [HV1.out]; exact hg4) (by rw [HV1.out]; rcases ha4 with q | q; exact .inl q; exact .inr (by rw [q]; simp))
        have HM : Hid (IsK 50 B (w4.setCell ⟨x.p, 0, none⟩ (.slice (some ⟨g, 0, none⟩) (t.h.length + 1) cap)) ⟨x.p, .slice (some ⟨g, 0, none⟩) (t.h.length + 1) cap, x.vw⟩ ⟨t.h ++ [y], t.w⟩ ∧ But x.F w6 (w4.setCell ⟨x.p, 0, none⟩ (.slice (some ⟨g, 0, none⟩) (t.h.length + 1) cap)) ∧ Grows x.F (LP.F ⟨x.p, .slice (some ⟨g, 0, none⟩) (t.h.length + 1) cap, x.vw⟩) w6) := by
          have hbA : Below w6.heap.size w6 (w6.drew.alloc (.cells #[.int .i64 y.who, .int .i64 y.fr, .int .i64 y.to, .bool y.al] 57)) := hd1.trans ((al_below _ _).mono hd1.size)
          exact ⟨M.1, ((Below.but hbA _).trans M.2.1 (Grows.refl _ _)), fun q hq => (M.2.2 q hq).imp id (fun z => Nat.le_trans hbA.size z)⟩
        obtain ⟨x', hx'⟩ : ∃ x' : LP, x' = ⟨x.p, .slice (some ⟨g, 0, none⟩) (t.h.length + 1) cap, x.vw⟩ := ⟨_, rfl⟩
        have HX : Hid (x'.p = x.p) := by rw [hx']; exact rfl
        rw [← hx'] at HM
        clear M hO4 hg4 ha4 hl4 hown HL hd1 hx' j2 jf s6 s7 s2 s3 s4 s5
        go_wp2
        go_ret2
        exact ⟨x', HX.out, rfl, HM.out.1, (Below.but HBw6.out _).trans HM.out.2.1 (Grows.refl _ _), fun q hq => (HM.out.2.2 q hq).imp id (fun z => Nat.le_trans HBw6.out.size z)⟩
theorem dask_any {B : Nat} {w : World} {x : LP} {t : Lks} (h : IsK 50 B w x t) (hn : t.many ≤ 30) (hB : B ≤ w.heap.size) (y : Lk) :
    Calls Tryd.prog 23 #[.pointer (some ⟨x.p, 0, none⟩), alk y] w fun e w' => ∃ x' : LP, x'.p = x.p ∧ e = .returned (.tuple #[.bool (t.askB y), .int .i64 ((t.askE y : Nat) : Int)]) ∧ IsK 50 B w' x' (t.ask y) ∧ But x.F w w' ∧ Grows x.F x'.F w := by
  have hE : t.askE y = if Lks.bad y = true then 1 else if (hasW t.h y.who || hasW t.w y.who) = true then 7 else if 30 ≤ t.h.length + t.w.length then 4 else 0 := rfl
  unfold Lks.askB Lks.ask
  cases q1 : Lks.bad y with
  | true =>
    rw [q1, if_pos rfl] at hE
    rw [hE]
    refine (dask_bad h y q1).mono ?_
    rintro e w' ⟨rfl, hb⟩
    exact ⟨x, rfl, rfl, h.old hb, Below.but hb _, Grows.refl _ _⟩
  | false =>
    rw [q1, if_neg Bool.false_ne_true] at hE
    cases q2 : (hasW t.h y.who || hasW t.w y.who) with
    | true =>
      rw [q2, if_pos rfl] at hE
      rw [hE]
      refine (dask_has h hn y q1 q2).mono ?_
      rintro e w' ⟨rfl, hb⟩
      exact ⟨x, rfl, rfl, h.old hb, Below.but hb _, Grows.refl _ _⟩
    | false =>
      rw [q2, if_neg Bool.false_ne_true] at hE
      by_cases q3 : 30 ≤ t.h.length + t.w.length
      · rw [if_pos q3] at hE
        rw [hE]
        refine (dask_full h hn y q1 q2 q3).mono ?_
        rintro e w' ⟨rfl, hb⟩
        exact ⟨x, rfl, rfl, h.old hb, Below.but hb _, Grows.refl _ _⟩
      · rw [if_neg q3] at hE
        rw [hE]
        exact dask_ok h hn hB y q1 q2 (by omega)
end Go.Proofs.YtagindfgfamacaaDoor
