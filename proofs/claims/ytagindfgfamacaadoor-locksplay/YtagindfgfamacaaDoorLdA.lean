/- The document's Ask, where it refuses: walks over the program. -/
import Derived.Test.YtagindfgfamacaaDoorLdC
import Derived.Test.YtagindfgfamacaaDoorLkP
namespace Go.Proofs.YtagindfgfamacaaDoor
open Go.RowKit
set_option maxRecDepth 100000 in
set_option maxHeartbeats 2000000 in
theorem dask_bad {B : Nat} {w : World} {x : LP} {t : Lks} (h : IsK 50 B w x t) (y : Lk) (hbad : Lks.bad y = true) :
    Calls Tryd.prog 23 #[.pointer (some ⟨x.p, 0, none⟩), alk y] w fun e w' => e = .returned (.tuple #[.bool false, .int .i64 1]) ∧ Below w.heap.size w w' := by
  have hb := al_below w (.cells #[.int .i64 y.who, .int .i64 y.fr, .int .i64 y.to, .bool y.al] 57)
  have HN0 := LkAt.new w y 57
  obtain ⟨wa, hwa⟩ : ∃ wa, wa = w.alloc (.cells #[.int .i64 y.who, .int .i64 y.fr, .int .i64 y.to, .bool y.al] 57) := ⟨_, rfl⟩
  rw [← hwa] at hb HN0
  have HN : Hid (LkAt wa ⟨w.heap.size, 0, none⟩ y) := HN0
  have HK : Hid (IsK 50 B wa x t) := h.old hb
  have HBA : Hid (Below w.heap.size w wa) := hb
  have HNs := HN0
  unfold LkAt at HNs
  rw [hwa] at HNs
  obtain ⟨s2, s3, s4, s5⟩ := HNs
  clear h hb HN0
  clear HN HK
  by_cases q1 : y.who < 1
  · have d1 : decide (y.who < 1) = true := decide_eq_true q1
    go_enter Tryd.func23, Tryd.ntmps23
    go_wp2
    go_ret2
    rw [← hwa]
    exact ⟨rfl, HBA.out⟩
  · have d1 : decide (y.who < 1) = false := decide_eq_false q1
    by_cases q2 : 1000 < y.who
    · have d2 : decide (1000 < y.who) = true := decide_eq_true q2
      go_enter Tryd.func23, Tryd.ntmps23
      go_wp2
      go_ret2
      rw [← hwa]
      exact ⟨rfl, HBA.out⟩
    · have d2 : decide (1000 < y.who) = false := decide_eq_false q2
      by_cases q3 : y.fr < 0
      · have d3 : decide (y.fr < 0) = true := decide_eq_true q3
        go_enter Tryd.func23, Tryd.ntmps23
        go_wp2
        go_ret2
        rw [← hwa]
        exact ⟨rfl, HBA.out⟩
      · have d3 : decide (y.fr < 0) = false := decide_eq_false q3
        by_cases q4 : y.to ≤ y.fr
        · have d4 : decide (y.to ≤ y.fr) = true := decide_eq_true q4
          go_enter Tryd.func23, Tryd.ntmps23
          go_wp2
          go_ret2
          rw [← hwa]
          exact ⟨rfl, HBA.out⟩
        · have d4 : decide (y.to ≤ y.fr) = false := decide_eq_false q4
          have q5 : 40 < y.to := by
            unfold Lks.bad at hbad
            simp at hbad
            omega
          have d5 : decide (40 < y.to) = true := decide_eq_true q5
          go_enter Tryd.func23, Tryd.ntmps23
          go_wp2
          go_ret2
          rw [← hwa]
          exact ⟨rfl, HBA.out⟩
set_option maxRecDepth 100000 in
set_option maxHeartbeats 2000000 in
theorem dask_has {B : Nat} {w : World} {x : LP} {t : Lks} (h : IsK 50 B w x t) (hn : t.many ≤ 30) (y : Lk) (hbad : Lks.bad y = false) (hh : (hasW t.h y.who || hasW t.w y.who) = true) :
    Calls Tryd.prog 23 #[.pointer (some ⟨x.p, 0, none⟩), alk y] w fun e w' => e = .returned (.tuple #[.bool false, .int .i64 7]) ∧ Below w.heap.size w w' := by
  have HH : Hid ((hasW t.h y.who || hasW t.w y.who) = true) := hh
  clear hh
  have hb := al_below w (.cells #[.int .i64 y.who, .int .i64 y.fr, .int .i64 y.to, .bool y.al] 57)
  have HN0 := LkAt.new w y 57
  obtain ⟨wa, hwa⟩ : ∃ wa, wa = w.alloc (.cells #[.int .i64 y.who, .int .i64 y.fr, .int .i64 y.to, .bool y.al] 57) := ⟨_, rfl⟩
  rw [← hwa] at hb HN0
  have HN : Hid (LkAt wa ⟨w.heap.size, 0, none⟩ y) := HN0
  have HK : Hid (IsK 50 B wa x t) := h.old hb
  have HBA : Hid (Below w.heap.size w wa) := hb
  have HNs := HN0
  unfold LkAt at HNs
  rw [hwa] at HNs
  obtain ⟨s2, s3, s4, s5⟩ := HNs
  clear h hb HN0
  obtain ⟨k1, k2, k3, k4, k5⟩ : 1 ≤ y.who ∧ y.who ≤ 1000 ∧ 0 ≤ y.fr ∧ y.fr < y.to ∧ y.to ≤ 40 := by
    unfold Lks.bad at hbad
    simp at hbad
    omega
  have d1 : decide (y.who < 1) = false := decide_eq_false (by omega)
  have d2 : decide (1000 < y.who) = false := decide_eq_false (by omega)
  have d3 : decide (y.fr < 0) = false := decide_eq_false (by omega)
  have d4 : decide (y.to ≤ y.fr) = false := decide_eq_false (by omega)
  have d5 : decide (40 < y.to) = false := decide_eq_false (by omega)
  have HBAD : Hid (Lks.bad y = false) := hbad
  clear hbad
  have hmn : t.h.length + t.w.length ≤ 30 := hn
  obtain ⟨a1, l1, hv1⟩ := OwLk.len HK.out.hd
  obtain ⟨a2, l2, hv2⟩ := OwLk.len HK.out.wt
  have HV1 : Hid (x.vh = .slice a1 t.h.length l1) := hv1
  have HV2 : Hid (x.vw = .slice a2 t.w.length l2) := hv2
  have C1 : ∀ n, Calls Tryd.prog 41 #[.slice a1 t.h.length l1, .int .i64 y.who] (wa.drewN n) fun e w' => e = .returned (.bool (hasW t.h y.who)) ∧ w' = wa.drewN n := fun n => by
    have := dwhose_any x.vh t.h y.who (wa.drewN n) (by omega) ((OwLk.rd HK.out.hd).old (below_drewN (Below.refl _ _) n))
    rw [hv1] at this
    exact this
  have c0 := HK.out.c0
  have c1 := HK.out.c1
  rw [hv1] at c0
  rw [hv2] at c1
  clear hv1 hv2 hn
  go_enter Tryd.func23, Tryd.ntmps23
  go_wp2
  rw [← hwa]
  rw [← hwa] at s2 s3 s4 s5
  clear hwa k1 k2 k3 k4 k5 d1 d2 d3 d4 d5
  go_quiet ((go_at_call 41; exact Calls.quiet_of_same (C1 _)))
  have hd := below_drewN (Below.refl wa.heap.size wa) nq
  have HK2 : Hid (IsK 50 B (wa.drewN nq) x t) := HK.out.old hd
  have HN2 : Hid (LkAt (wa.drewN nq) ⟨w.heap.size, 0, none⟩ y) := HN.out.old hd
  have HB2 : Hid (Below w.heap.size w (wa.drewN nq)) := HBA.out.trans (hd.mono HBA.out.size)
  have C2 : ∀ n, Calls Tryd.prog 41 #[.slice a2 t.w.length l2, .int .i64 y.who] ((wa.drewN nq).drewN n) fun e w' => e = .returned (.bool (hasW t.w y.who)) ∧ w' = (wa.drewN nq).drewN n := fun n => by
    have := dwhose_any x.vw t.w y.who ((wa.drewN nq).drewN n) (by omega) ((OwLk.rd HK2.out.wt).old (below_drewN (Below.refl _ _) n))
    rw [HV2.out] at this
    exact this
  obtain ⟨w2, hw2⟩ : ∃ w2, wa.drewN nq = w2 := ⟨_, rfl⟩
  rw [hw2] at HK2 HN2 HB2 C2 ⊢
  clear hd C1 c0 c1 s2 s3 s4 s5 HK HN HBA hw2
  have c0 := HK2.out.c0
  have c1 := HK2.out.c1
  rw [HV1.out] at c0
  rw [HV2.out] at c1
  obtain ⟨s2, s3, s4, s5⟩ := HN2.out
  go_wp2
  go_quiet ((go_at_call 41; exact Calls.quiet_of_same (C2 _)))
  have hd := below_drewN (Below.refl w2.heap.size w2) nq
  have HK3 : Hid (IsK 50 B (w2.drewN nq) x t) := HK2.out.old hd
  have HN3 : Hid (LkAt (w2.drewN nq) ⟨w.heap.size, 0, none⟩ y) := HN2.out.old hd
  have HB3 : Hid (Below w.heap.size w (w2.drewN nq)) := HB2.out.trans (hd.mono HB2.out.size)
  obtain ⟨w3, hw3⟩ : ∃ w3, w2.drewN nq = w3 := ⟨_, rfl⟩
  rw [hw3] at HK3 HN3 HB3 ⊢
  clear hd C2 c0 c1 s2 s3 s4 s5 HK2 HN2 HB2 hw3
  have hh := HH.out
  generalize hasW t.h y.who = b1 at *
  generalize hasW t.w y.who = b2 at *
  clear HH
  cases b1
  · cases b2
    · cases hh
    · go_wp2
      go_ret2
      exact ⟨rfl, HB3.out⟩
  · go_wp2
    go_ret2
    exact ⟨rfl, HB3.out⟩
set_option maxRecDepth 100000 in
set_option maxHeartbeats 2000000 in
theorem dask_full {B : Nat} {w : World} {x : LP} {t : Lks} (h : IsK 50 B w x t) (hn : t.many ≤ 30) (y : Lk) (hbad : Lks.bad y = false) (hh : (hasW t.h y.who || hasW t.w y.who) = false) (hf : 30 ≤ t.h.length + t.w.length) :
    Calls Tryd.prog 23 #[.pointer (some ⟨x.p, 0, none⟩), alk y] w fun e w' => e = .returned (.tuple #[.bool false, .int .i64 4]) ∧ Below w.heap.size w w' := by
  have HH : Hid ((hasW t.h y.who || hasW t.w y.who) = false) := hh
  clear hh
  have hb := al_below w (.cells #[.int .i64 y.who, .int .i64 y.fr, .int .i64 y.to, .bool y.al] 57)
  have HN0 := LkAt.new w y 57
  obtain ⟨wa, hwa⟩ : ∃ wa, wa = w.alloc (.cells #[.int .i64 y.who, .int .i64 y.fr, .int .i64 y.to, .bool y.al] 57) := ⟨_, rfl⟩
  rw [← hwa] at hb HN0
  have HN : Hid (LkAt wa ⟨w.heap.size, 0, none⟩ y) := HN0
  have HK : Hid (IsK 50 B wa x t) := h.old hb
  have HBA : Hid (Below w.heap.size w wa) := hb
  have HNs := HN0
  unfold LkAt at HNs
  rw [hwa] at HNs
  obtain ⟨s2, s3, s4, s5⟩ := HNs
  clear h hb HN0
  obtain ⟨k1, k2, k3, k4, k5⟩ : 1 ≤ y.who ∧ y.who ≤ 1000 ∧ 0 ≤ y.fr ∧ y.fr < y.to ∧ y.to ≤ 40 := by
    unfold Lks.bad at hbad
    simp at hbad
    omega
  have d1 : decide (y.who < 1) = false := decide_eq_false (by omega)
  have d2 : decide (1000 < y.who) = false := decide_eq_false (by omega)
  have d3 : decide (y.fr < 0) = false := decide_eq_false (by omega)
  have d4 : decide (y.to ≤ y.fr) = false := decide_eq_false (by omega)
  have d5 : decide (40 < y.to) = false := decide_eq_false (by omega)
  have HBAD : Hid (Lks.bad y = false) := hbad
  clear hbad
  have hmn : t.h.length + t.w.length ≤ 30 := hn
  obtain ⟨a1, l1, hv1⟩ := OwLk.len HK.out.hd
  obtain ⟨a2, l2, hv2⟩ := OwLk.len HK.out.wt
  have HV1 : Hid (x.vh = .slice a1 t.h.length l1) := hv1
  have HV2 : Hid (x.vw = .slice a2 t.w.length l2) := hv2
  have C1 : ∀ n, Calls Tryd.prog 41 #[.slice a1 t.h.length l1, .int .i64 y.who] (wa.drewN n) fun e w' => e = .returned (.bool (hasW t.h y.who)) ∧ w' = wa.drewN n := fun n => by
    have := dwhose_any x.vh t.h y.who (wa.drewN n) (by omega) ((OwLk.rd HK.out.hd).old (below_drewN (Below.refl _ _) n))
    rw [hv1] at this
    exact this
  have c0 := HK.out.c0
  have c1 := HK.out.c1
  rw [hv1] at c0
  rw [hv2] at c1
  clear hv1 hv2 hn
  go_enter Tryd.func23, Tryd.ntmps23
  go_wp2
  rw [← hwa]
  rw [← hwa] at s2 s3 s4 s5
  clear hwa k1 k2 k3 k4 k5 d1 d2 d3 d4 d5
  go_quiet ((go_at_call 41; exact Calls.quiet_of_same (C1 _)))
  have hd := below_drewN (Below.refl wa.heap.size wa) nq
  have HK2 : Hid (IsK 50 B (wa.drewN nq) x t) := HK.out.old hd
  have HN2 : Hid (LkAt (wa.drewN nq) ⟨w.heap.size, 0, none⟩ y) := HN.out.old hd
  have HB2 : Hid (Below w.heap.size w (wa.drewN nq)) := HBA.out.trans (hd.mono HBA.out.size)
  have C2 : ∀ n, Calls Tryd.prog 41 #[.slice a2 t.w.length l2, .int .i64 y.who] ((wa.drewN nq).drewN n) fun e w' => e = .returned (.bool (hasW t.w y.who)) ∧ w' = (wa.drewN nq).drewN n := fun n => by
    have := dwhose_any x.vw t.w y.who ((wa.drewN nq).drewN n) (by omega) ((OwLk.rd HK2.out.wt).old (below_drewN (Below.refl _ _) n))
    rw [HV2.out] at this
    exact this
  obtain ⟨w2, hw2⟩ : ∃ w2, wa.drewN nq = w2 := ⟨_, rfl⟩
  rw [hw2] at HK2 HN2 HB2 C2 ⊢
  clear hd C1 c0 c1 s2 s3 s4 s5 HK HN HBA hw2
  have c0 := HK2.out.c0
  have c1 := HK2.out.c1
  rw [HV1.out] at c0
  rw [HV2.out] at c1
  obtain ⟨s2, s3, s4, s5⟩ := HN2.out
  go_wp2
  go_quiet ((go_at_call 41; exact Calls.quiet_of_same (C2 _)))
  have hd := below_drewN (Below.refl w2.heap.size w2) nq
  have HK3 : Hid (IsK 50 B (w2.drewN nq) x t) := HK2.out.old hd
  have HN3 : Hid (LkAt (w2.drewN nq) ⟨w.heap.size, 0, none⟩ y) := HN2.out.old hd
  have HB3 : Hid (Below w.heap.size w (w2.drewN nq)) := HB2.out.trans (hd.mono HB2.out.size)
  obtain ⟨w3, hw3⟩ : ∃ w3, w2.drewN nq = w3 := ⟨_, rfl⟩
  rw [hw3] at HK3 HN3 HB3 ⊢
  clear hd C2 c0 c1 s2 s3 s4 s5 HK2 HN2 HB2 hw3
  have hh := HH.out
  have e1 : hasW t.h y.who = false := by
    cases q : hasW t.h y.who
    · rfl
    · rw [q] at hh; cases hh
  have e2 : hasW t.w y.who = false := by rw [e1] at hh; exact hh
  rw [e1, e2]
  clear e1 e2 hh HH
  have c0 := HK3.out.c0
  have c1 := HK3.out.c1
  rw [HV1.out] at c0
  rw [HV2.out] at c1
  have hwr : IntKind.i64.wrap ((t.h.length : Int) + (t.w.length : Int)) = (t.h.length : Int) + (t.w.length : Int) := by rw [IntKind.wrap_i64]; omega
  have hz : (30 : Int) ≤ (t.h.length : Int) + (t.w.length : Int) := by omega
  go_wp2
  go_quiet (fail)
  go_wp2
  go_ret2
  exact ⟨rfl, below_drewN HB3.out _⟩
end Go.Proofs.YtagindfgfamacaaDoor
