/- A lock is asked for: a walk over the program. -/
import Derived.Test.YtagindfgfamacaaDoorLkU
import Derived.Test.YtagindfgfamacaaDoorErrv
namespace Go.Proofs.YtagindfgfamacaaDoor
open Go.RowKit
set_option maxRecDepth 100000 in
set_option maxHeartbeats 2000000 in
theorem ask_any {B : Nat} {w : World} {x : LP} {t : Lks} (h : IsK 76 B w x t) (hn : t.many ≤ 30) (hB : B ≤ w.heap.size) (y : Lk) :
    Calls Tryd.prog 24 #[.pointer (some ⟨x.p, 0, none⟩), alk y] w fun e w' => ∃ x' : LP, x'.p = x.p ∧ e = .returned (.tuple #[.bool (t.askB y), errV (t.askE y)]) ∧ IsK 76 B w' x' (t.ask y) ∧ But x.F w w' ∧ Grows x.F x'.F w := by
  have S := LkAt.new w y 57
  have hb : Below w.heap.size w (w.alloc (.cells #[.int .i64 y.who, .int .i64 y.fr, .int .i64 y.to, .bool y.al] 57)) := al_below _ _
  have C := maybe_any y (w.alloc (.cells #[.int .i64 y.who, .int .i64 y.fr, .int .i64 y.to, .bool y.al] 57))
  have HB : Hid (Below w.heap.size w (w.alloc (.cells #[.int .i64 y.who, .int .i64 y.fr, .int .i64 y.to, .bool y.al] 57))) := hb
  have HS : Hid (LkAt (w.alloc (.cells #[.int .i64 y.who, .int .i64 y.fr, .int .i64 y.to, .bool y.al] 57)) ⟨w.heap.size, 0, none⟩ y) := S
  have HK : Hid (IsK 76 B (w.alloc (.cells #[.int .i64 y.who, .int .i64 y.fr, .int .i64 y.to, .bool y.al] 57)) x t) := h.old hb
  rw [okLk_bad] at C
  obtain ⟨S0, S1, S2, S3⟩ := S
  have HA : Hid (t.askB y = (decide (t.askE y = 0) && t.free' y) ∧ t.ask y = if t.askE y = 0 then t.add y else t) := ⟨rfl, rfl⟩
  have HE : Hid (t.askE y = if Lks.bad y = true then 1 else if (hasW t.h y.who || hasW t.w y.who) = true then 7 else if 30 ≤ t.h.length + t.w.length then 4 else 0) := rfl
  rw [HA.out.1, HA.out.2]
  by_cases q1 : Lks.bad y = true
  · have e0 : t.askE y = 1 := by rw [HE.out, if_pos q1]
    rw [e0, errV, if_neg (by omega), if_neg (by omega)]
    rw [q1] at C
    clear h hb HE HA e0 q1
    go_enter Tryd.func24, Tryd.ntmps24
    go_wp2_with fail
    refine C.mono ?_
    rintro e w1 ⟨rfl, hB1⟩
    have HB1 : Hid (Below w.heap.size w w1) := HB.out.trans (hB1.mono HB.out.size)
    have HK1 : Hid (IsK 76 B w1 x t) := HK.out.old hB1
    have HS1 : Hid (LkAt w1 ⟨w.heap.size, 0, none⟩ y) := HS.out.old hB1
    clear C HB HK HS hB1 S0 S1 S2 S3
    go_wp2
    go_ret2
    exact ⟨x, rfl, rfl, HK1.out, Below.but HB1.out _, Grows.refl _ _⟩
  · have q1 : Lks.bad y = false := by simpa using q1
    rw [q1] at C
    by_cases q2 : (hasW t.h y.who || hasW t.w y.who) = true
    · have e0 : t.askE y = 7 := by rw [HE.out, if_neg (by rw [q1]; exact Bool.false_ne_true), if_pos q2]
      rw [e0, errV, if_neg (by omega), if_neg (by omega)]
      have HQ : Hid ((hasW t.h y.who || hasW t.w y.who) = true) := q2
      clear h hb HE HA e0 q1 q2
      go_enter Tryd.func24, Tryd.ntmps24
      go_wp2_with fail
      refine C.mono ?_
      rintro e w1 ⟨rfl, hB1⟩
      have HB1 : Hid (Below w.heap.size w w1) := HB.out.trans (hB1.mono HB.out.size)
      have HK1 : Hid (IsK 76 B w1 x t) := HK.out.old hB1
      have HS1 : Hid (LkAt w1 ⟨w.heap.size, 0, none⟩ y) := HS.out.old hB1
      clear C HB HK HS hB1 S0 S1 S2 S3
      have := HQ.out
      obtain ⟨S0, S1, S2, S3⟩ := HS1.out
      have D := knows_any HK1.out (by omega) y.who
      rw [this] at D
      clear this
      go_wp2_with fail
      refine D.mono ?_
      rintro e w2 ⟨rfl, hB2⟩
      have HB2 : Hid (Below w.heap.size w w2) := HB1.out.trans (hB2.mono HB1.out.size)
      have HK2 : Hid (IsK 76 B w2 x t) := HK1.out.old hB2
      clear D HB1 HK1 HS1 hB2 S0 S1 S2 S3
      go_wp2
      go_ret2
      exact ⟨x, rfl, rfl, HK2.out, Below.but HB2.out _, Grows.refl _ _⟩
    · have q2 : (hasW t.h y.who || hasW t.w y.who) = false := by simpa using q2
      have HQ : Hid ((hasW t.h y.who || hasW t.w y.who) = false) := q2
      by_cases q3 : 30 ≤ t.h.length + t.w.length
      · have e0 : t.askE y = 4 := by rw [HE.out, if_neg (by rw [q1]; exact Bool.false_ne_true), if_neg (by rw [q2]; exact Bool.false_ne_true), if_pos q3]
        rw [e0, errV, if_neg (by omega), if_neg (by omega)]
        clear h hb HE HA e0 q1 q2
        go_enter Tryd.func24, Tryd.ntmps24
        go_wp2_with fail
        refine C.mono ?_
        rintro e w1 ⟨rfl, hB1⟩
        have HB1 : Hid (Below w.heap.size w w1) := HB.out.trans (hB1.mono HB.out.size)
        have HK1 : Hid (IsK 76 B w1 x t) := HK.out.old hB1
        have HS1 : Hid (LkAt w1 ⟨w.heap.size, 0, none⟩ y) := HS.out.old hB1
        clear C HB HK HS hB1 S0 S1 S2 S3
        have := HQ.out
        obtain ⟨S0, S1, S2, S3⟩ := HS1.out
        have D := knows_any HK1.out (by omega) y.who
        rw [this] at D
        clear this
        go_wp2_with fail
        refine D.mono ?_
        rintro e w2 ⟨rfl, hB2⟩
        have HB2 : Hid (Below w.heap.size w w2) := HB1.out.trans (hB2.mono HB1.out.size)
        have HK2 : Hid (IsK 76 B w2 x t) := HK1.out.old hB2
        have c0 := HK2.out.c0
        have c1 := HK2.out.c1
        obtain ⟨a1, k1, hv1⟩ := OwLk.len HK2.out.hd
        obtain ⟨a2, k2, hv2⟩ := OwLk.len HK2.out.wt
        rw [hv1] at c0
        rw [hv2] at c1
        have hs : ((t.h.length + t.w.length : Nat) : Int) = (t.h.length : Int) + (t.w.length : Int) := Int.natCast_add _ _
        unfold Lks.many at hn
        have hwr : IntKind.i64.wrap ((t.h.length : Int) + (t.w.length : Int)) = (t.h.length : Int) + (t.w.length : Int) := by rw [IntKind.wrap_i64]; omega
        have q4 : (30 : Int) ≤ (t.h.length : Int) + (t.w.length : Int) := by omega
        clear D HB1 HK1 HS1 hB2 S0 S1 S2 S3 hv1 hv2 hs
        go_wp2
        go_quiet (fail)
        go_wp2
        go_ret2
        exact ⟨x, rfl, rfl, HK2.out.old (below_drewN (Below.refl _ _) _), (Below.but (below_drewN HB2.out _) _), Grows.refl _ _⟩
      · have e0 : t.askE y = 0 := by rw [HE.out, if_neg (by rw [q1]; exact Bool.false_ne_true), if_neg (by rw [q2]; exact Bool.false_ne_true), if_neg q3]
        rw [e0, errV, if_pos rfl, if_pos rfl, decide_eq_true rfl, Bool.true_and]
        clear h hb HE HA e0 q1 q2
        go_enter Tryd.func24, Tryd.ntmps24
        go_wp2_with fail
        refine C.mono ?_
        rintro e w1 ⟨rfl, hB1⟩
        have HB1 : Hid (Below w.heap.size w w1) := HB.out.trans (hB1.mono HB.out.size)
        have HK1 : Hid (IsK 76 B w1 x t) := HK.out.old hB1
        have HS1 : Hid (LkAt w1 ⟨w.heap.size, 0, none⟩ y) := HS.out.old hB1
        clear C HB HK HS hB1 S0 S1 S2 S3
        have := HQ.out
        obtain ⟨S0, S1, S2, S3⟩ := HS1.out
        have D := knows_any HK1.out (by omega) y.who
        rw [this] at D
        clear this
        go_wp2_with fail
        refine D.mono ?_
        rintro e w2 ⟨rfl, hB2⟩
        have HB2 : Hid (Below w.heap.size w w2) := HB1.out.trans (hB2.mono HB1.out.size)
        have HK2 : Hid (IsK 76 B w2 x t) := HK1.out.old hB2
        have HS2 : Hid (LkAt w2 ⟨w.heap.size, 0, none⟩ y) := HS1.out.old hB2
        have c0 := HK2.out.c0
        have c1 := HK2.out.c1
        obtain ⟨a1, k1, hv1⟩ := OwLk.len HK2.out.hd
        obtain ⟨a2, k2, hv2⟩ := OwLk.len HK2.out.wt
        rw [hv1] at c0
        rw [hv2] at c1
        unfold Lks.many at hn
        have hwr : IntKind.i64.wrap ((t.h.length : Int) + (t.w.length : Int)) = (t.h.length : Int) + (t.w.length : Int) := by rw [IntKind.wrap_i64]; omega
        have q4 : (t.h.length : Int) + (t.w.length : Int) < 30 := by omega
        have hBs : B ≤ w2.heap.size := Nat.le_trans hB HB2.out.size
        clear D HB1 HK1 HS1 hB2 S0 S1 S2 S3 hv1 hv2 q3
        go_wp2
        go_quiet (fail)
        have hd := below_drewN (Below.refl w2.heap.size w2) nq
        obtain ⟨S0, S1, S2, S3⟩ := HS2.out.old hd
        have E := put_any (HK2.out.old hd) (by unfold Lks.many; omega) (by exact hBs) y
        have HB3 : Hid (Below w.heap.size w (w2.drewN nq)) := below_drewN HB2.out nq
        clear c0 c1 hd HB2 HK2 HS2
        go_wp2_with fail
        refine E.mono ?_
        rintro e w3 ⟨x', hx', rfl, hI, hb3, hg⟩
        have HI : Hid (IsK 76 B w3 x' (t.add y)) := hI
        have HBt : Hid (But x.F w w3) := (Below.but HB3.out _).trans hb3 (Grows.refl _ _)
        have HG : Hid (Grows x.F x'.F w) := fun k hk => (hg k hk).imp id (fun q => Nat.le_trans HB3.out.size q)
        have HX : Hid (x'.p = x.p) := hx'
        clear E hI hb3 hg hx' S0 S1 S2 S3
        go_wp2
        go_ret2
        exact ⟨x', HX.out, rfl, HI.out, HBt.out, HG.out⟩
end Go.Proofs.YtagindfgfamacaaDoor
