/- What slices.SortStableFunc makes of ten numbers or fewer, of which each stands at its place, by how much each has: walks over the program. -/
import Derived.Test.YtdbanimlnjhhlaaDoorSrsA
import Derived.Test.YtdbanimlnjhhlaaDoorOwIs
import Derived.Test.YtdbanimlnjhhlaaDoorFoot
import Derived.BigRegion
import Derived.Deep.RegionHeld3
namespace Go.Proofs.YtdbanimlnjhhlaaDoor
open Go.RowKit
theorem isnan_any (x : Int) (w : World) : Calls Tryd.prog 65 #[.int .i64 x] w fun e w' => e = .returned (.bool false) ∧ w' = w := by
  go_enter Tryd.func65, Tryd.ntmps65
  go_wp2
  go_ret
  exact ⟨by simp, rfl⟩
theorem compare_any (a b : Nat) (w : World) : Calls Tryd.prog 48 #[.int .i64 (a : Int), .int .i64 (b : Int)] w fun e w' => e = .returned (.int .i64 (cmpN a b)) ∧ w' = w := by
  have N1 := isnan_any (a : Int) w
  have N2 := isnan_any (b : Int) w
  have arm : True := trivial
  by_cases h1 : a < b
  · have e : cmpN a b = -1 := if_pos h1
    have z1 : (a : Int) < (b : Int) := by omega
    rw [e]
    clear e h1 arm
    go_enter Tryd.func48, Tryd.ntmps48
    go_wp2_with fail
    refine N1.mono ?_
    rintro e w1 ⟨rfl, hw⟩
    obtain rfl := hw.symm
    clear N1 hw
    go_wp2_with fail
    refine N2.mono ?_
    rintro e w1 ⟨rfl, hw⟩
    obtain rfl := hw.symm
    clear N2 hw
    go_wp2
    go_ret
    exact ⟨rfl, rfl⟩
  · by_cases h2 : b < a
    · have e : cmpN a b = 1 := by unfold cmpN; rw [if_neg h1, if_pos h2]
      have z1 : ¬ (a : Int) < (b : Int) := by omega
      have z2 : (b : Int) < (a : Int) := by omega
      rw [e]
      clear e h1 h2 arm
      go_enter Tryd.func48, Tryd.ntmps48
      go_wp2_with fail
      refine N1.mono ?_
      rintro e w1 ⟨rfl, hw⟩
      obtain rfl := hw.symm
      clear N1 hw
      go_wp2_with fail
      refine N2.mono ?_
      rintro e w1 ⟨rfl, hw⟩
      obtain rfl := hw.symm
      clear N2 hw
      go_wp2
      go_ret
      exact ⟨rfl, rfl⟩
    · have e : cmpN a b = 0 := by unfold cmpN; rw [if_neg h1, if_neg h2]
      have z1 : ¬ (a : Int) < (b : Int) := by omega
      have z2 : ¬ (b : Int) < (a : Int) := by omega
      rw [e]
      clear e h1 h2 arm
      go_enter Tryd.func48, Tryd.ntmps48
      go_wp2_with fail
      refine N1.mono ?_
      rintro e w1 ⟨rfl, hw⟩
      obtain rfl := hw.symm
      clear N1 hw
      go_wp2_with fail
      refine N2.mono ?_
      rintro e w1 ⟨rfl, hw⟩
      obtain rfl := hw.symm
      clear N2 hw
      go_wp2
      go_ret
      exact ⟨rfl, rfl⟩
/-- what compares (the closure of emptiest, bound to a box): by the loads F, where KP holds -/
def CmpF (KP : World → Prop) (q1 N : Nat) (F : Nat → Nat) : Prop := ∀ (W : World) (x y : Nat), x < N → y < N → KP W → Calls Tryd.prog 47 #[.int .i64 (x : Int), .int .i64 (y : Int), .pointer (some ⟨q1, 0, none⟩)] W fun e w' => e = .returned (.int .i64 (cmpN (F x) (F y))) ∧ Below W.heap.size W w'
/-- that closure -/
abbrev cmpV (q1 : Nat) : Value := .func (.func 47) #[] #[.pointer (some ⟨q1, 0, none⟩)]
/-- numbers of the call's own, by their places -/
abbrev OwF (B : Nat) (w : World) (v : Value) (n : Nat) (f : Nat → Nat) : Prop := OwI B w v n (fun i => ((f i : Nat) : Int))
theorem owf_swp {B b n cap j : Nat} {w : World} {f : Nat → Nat} (h : OwF B w (.slice (some ⟨b, 0, none⟩) n cap) n f) :
    OwF B ((w.setCell ⟨b, j + 1, none⟩ (vi ((f j : Nat) : Int))).setCell ⟨b, j, none⟩ (vi ((f (j + 1) : Nat) : Int))) (.slice (some ⟨b, 0, none⟩) n cap) n (swp f j) ∧ w.grownBy ((w.setCell ⟨b, j + 1, none⟩ (vi ((f j : Nat) : Int))).setCell ⟨b, j, none⟩ (vi ((f (j + 1) : Nat) : Int))) (some b) := by
  have h1 := OwI.stored h (j + 1) ((f j : Nat) : Int)
  have h2 := OwI.stored h1.1 j ((f (j + 1) : Nat) : Int)
  refine ⟨OwI.congr h2.1 (fun i _ => ?_), grownBy_trans h1.2 h2.2⟩
  unfold swp up
  split
  · rfl
  · split <;> rfl
/-- how it stands while they are sorted -/
structure SrW (KP : World → Prop) (F : Nat → Nat) (N B b n cap : Nat) (f0 : Nat → Nat) (w : World) (f : Nat → Nat) (wr : World) : Prop where
  own : OwF B wr (.slice (some ⟨b, 0, none⟩) n cap) n f
  kp : KP wr
  but : But (· = b) w wr
  same : SameN n f0 f
  inj : InjN F n f
  lt : ∀ i, i < n → f i < N
theorem SrW.old {KP : World → Prop} {F f0 f : Nat → Nat} {N B b n cap : Nat} {w wr w1 : World} (hK : ∀ W W', KP W → But (· = b) W W' → KP W') (h : SrW KP F N B b n cap f0 w f wr) (hb : Below wr.heap.size wr w1) : SrW KP F N B b n cap f0 w f w1 :=
  ⟨ownsRow_old h.own hb, hK _ _ h.kp (Below.but hb _), h.but.trans (Below.but hb (· = b)) (Grows.refl _ _), h.same, h.inj, h.lt⟩
theorem SrW.swp {KP : World → Prop} {F f0 f : Nat → Nat} {N B b n cap j : Nat} {w wr : World} (hK : ∀ W W', KP W → But (· = b) W W' → KP W') (h : SrW KP F N B b n cap f0 w f wr) (hj : j + 1 < n) :
    SrW KP F N B b n cap f0 w (swp f j) ((wr.setCell ⟨b, j + 1, none⟩ (vi ((f j : Nat) : Int))).setCell ⟨b, j, none⟩ (vi ((f (j + 1) : Nat) : Int))) := by
  have h1 := owf_swp (j := j) h.own
  have hb : But (· = b) wr _ := But.grown h1.2 (fun k e => by injection e with e; exact e.symm)
  refine ⟨h1.1, hK _ _ h.kp hb, h.but.trans hb (Grows.refl _ _), h.same.trans (SameN.swp hj f), h.inj.swp hj, fun i hi => ?_⟩
  rw [swp_sg]
  refine h.lt _ ?_
  unfold sg
  split
  · exact hj
  · split <;> omega
set_option maxRecDepth 100000 in
set_option maxHeartbeats 4000000 in
theorem insert_any {KP : World → Prop} {F : Nat → Nat} {B b n cap q1 : Nat} {w : World} (hK : ∀ W W', KP W → But (· = b) W W' → KP W') (hC : CmpF KP q1 n F) (hn : n ≤ 12) (h : SrW KP (gk F) n B b n cap (fun i => i) w (fun i => i) w) :
    Calls Tryd.prog 78 #[.slice (some ⟨b, 0, none⟩) n cap, .int .i64 0, .int .i64 (n : Int), cmpV q1] w fun e w' => e = .returned (.tuple #[]) ∧ ∃ f, SrtN (gk F) n f ∧ SrW KP (gk F) n B b n cap (fun i => i) w f w' := by
  have HK : Hid (∀ W W', KP W → But (· = b) W W' → KP W') := hK
  have HC : Hid (CmpF KP q1 n F) := hC
  have H0 : Hid (SrW KP (gk F) n B b n cap (fun i => i) w (fun i => i) w) := h
  clear hK hC h
  go_enter Tryd.func78, Tryd.ntmps78
  go_wp2
  go_loopw [8] (fun vi0 wr => ∃ (i : Nat) (f : Nat → Nat), vi0 = .int .i64 i ∧ 1 ≤ i ∧ i ≤ 13 ∧ (i ≤ n ∨ n ≤ 1) ∧ Hid (SrtN (gk F) (min i n) f) ∧ Hid (StO n (min i n) f) ∧ Hid (SrW KP (gk F) n B b n cap (fun i => i) w f wr)) (fun c _ => n - (intOf c).toNat)
  case atStart => exact ⟨1, fun i => i, rfl, by omega, by omega, by omega, fun p q h1 h2 => by omega, ⟨fun p hp => hp, fun _ _ _ => rfl⟩, H0.out⟩
  case round =>
    clear H0
    obtain ⟨i, f, rfl, hi1, hi13, hin, HS, HO, HW⟩ := hrel
    by_cases hlt : i < n
    · have hltz : (i : Int) < (n : Int) := by omega
      have HI : Hid (InsN (gk F) i i f) := InsN.start (by have := HS.out; rw [Nat.min_eq_left (by omega)] at this; exact this)
      have HJ : Hid (StI n i i f) := StO.start (by have := HO.out; rw [Nat.min_eq_left (by omega)] at this; exact this) hlt
      clear HS HO hin
      obtain ⟨w0, rfl⟩ : ∃ w0, w0 = wr := ⟨_, rfl⟩
      go_wp2
      go_loopw [9] (fun vj wq => ∃ (j : Nat) (fj : Nat → Nat), vj = .int .i64 j ∧ j ≤ i ∧ Hid (InsN (gk F) i j fj) ∧ Hid (StI n i j fj) ∧ Hid (SrW KP (gk F) n B b n cap (fun i => i) w fj wq)) (fun c _ => (intOf c).toNat)
      case atStart => exact ⟨i, f, rfl, Nat.le_refl _, HI.out, HJ.out, HW.out⟩
      case round =>
        clear HI HJ HW
        obtain ⟨j, fj, rfl, hji, HI, HJ, HW⟩ := hrel
        have HD0 : Hid (StO n (min (i + 1) n) fj) := by
          rw [Nat.min_eq_left (by omega)]
          exact HJ.out.done
        by_cases hj0 : j = 0
        · have HD : Hid (SrtN (gk F) (min (i + 1) n) fj) := by
            rw [Nat.min_eq_left (by omega)]
            exact HI.out.done (fun k hk => by omega)
          have hjz : decide (0 < j) = false := decide_eq_false (by omega)
          clear HI HJ hj0
          go_wp2_with fail
          go_quiet (fail)
          go_wp2
          go_roundw
          case rel => exact ⟨i + 1, fj, by go_num, by omega, by omega, by omega, HD.out, HD0.out, HW.out.old HK.out (below_drewN (Below.refl _ _) nq)⟩
          case measure => simp [intOf]; omega
        · obtain ⟨k, rfl⟩ : ∃ k, j = k + 1 := ⟨j - 1, by omega⟩
          have hc1 := OwI.cell HW.out.own (k + 1) (by omega)
          have hc0 := OwI.cell HW.out.own k (by omega)
          have C := HC.out wr.drew (fj (k + 1)) (fj k) (HW.out.lt _ (by omega)) (HW.out.lt _ (by omega)) (HK.out _ _ HW.out.kp (But.refl _ _).drew)
          have hjz : decide ((0 : Int) < (k : Int) + 1) = true := decide_eq_true (by omega)
          have hz2 : (k : Int) + 1 < (n : Int) := by omega
          have hz3 : (k : Int) < (n : Int) := by omega
          have hwp : IntKind.i64.wrap (k : Int) = (k : Int) := by rw [IntKind.wrap_i64]; omega
          have hp0 : (0 : Int) ≤ (k : Int) + 1 := by omega
          have ht : ((k : Int) + 1).toNat = k + 1 := by omega
          have hcast : (((k + 1 : Nat)) : Int) = (k : Int) + 1 := by omega
          obtain ⟨x1, hx1⟩ : ∃ x1, x1 = fj (k + 1) := ⟨_, rfl⟩
          obtain ⟨x0, hx0⟩ : ∃ x0, x0 = fj k := ⟨_, rfl⟩
          have HX1 : Hid (x1 = fj (k + 1)) := hx1
          have HX0 : Hid (x0 = fj k) := hx0
          rw [← hx1] at hc1 C
          rw [← hx0] at hc0 C
          clear hx1 hx0
          obtain ⟨z, hz⟩ : ∃ z, z = cmpN (F x1) (F x0) := ⟨_, rfl⟩
          have HZ : Hid (z = cmpN (F x1) (F x0)) := hz
          rw [← hz] at C
          clear hz
          rw [hcast]
          have HLS : Hid (gk F x1 < gk F x0 ↔ F x1 < F x0) := by rw [HX1.out, HX0.out]; exact HJ.out.less (by omega) (by omega)
          by_cases hl : F x1 < F x0
          · have hneg : z < 0 := by
              have := cmpN_lt (F x1) (F x0)
              rw [← HZ.out, decide_eq_true hl, decide_eq_true_eq] at this
              exact this
            clear HZ
            go_wp2_with fail
            go_region_held3 (fun w' => w'.cell? ⟨b, k + 1, none⟩ = some (vi (x1 : Int)) ∧ w'.cell? ⟨b, k, none⟩ = some (vi (x0 : Int))) (first | go_keep | exact ⟨d1, d0⟩) ((first | (go_at_call 47; refine C.mono ?_; rintro e w2 ⟨rfl, hB2⟩; have d1 := (hB2.cell (World.block_lt_of_cell? wr.drew _ hc1)).trans hc1; have d0 := (hB2.cell (World.block_lt_of_cell? wr.drew _ hc0)).trans hc0)))
            have HW2 : Hid (SrW KP (gk F) n B b n cap (fun i => i) w fj w2) := HW.out.old HK.out (below_drewN (Below.refl _ wr) 1 |>.trans hB2)
            have e1 := OwI.free HW2.out.own (k + 1)
            have e0 := OwI.free HW2.out.own k
            have HT : Hid (SrW KP (gk F) n B b n cap (fun i => i) w (swp fj k) ((w2.setCell ⟨b, k + 1, none⟩ (vi (x0 : Int))).setCell ⟨b, k, none⟩ (vi (x1 : Int)))) := by
              rw [HX0.out, HX1.out]
              exact HW2.out.swp HK.out (by omega)
            have HN : Hid (InsN (gk F) i k (swp fj k)) := HI.out.step (by omega) (by rw [← HX0.out, ← HX1.out]; exact HLS.out.2 hl)
            have HN2 : Hid (StI n i k (swp fj k)) := HJ.out.step (by omega)
            have d3 : (w2.setCell ⟨b, k + 1, none⟩ (vi (x0 : Int))).cell? ⟨b, k, none⟩ = some (vi (x0 : Int)) := by
              rw [World.cell?_setCell_other _ _ _ _ (by simp)]; exact d0
            clear HI HJ HD0 HLS HW HW2 HX1 HX0 hl hneg C hc1 hc0 hB2
            go_wp2_with fail
            go_region
            have HD : Hid (SrW KP (gk F) n B b n cap (fun i => i) w (swp fj k) ((w2.setCell ⟨b, k + 1, none⟩ (vi (x0 : Int))).setCell ⟨b, k, none⟩ (vi (x1 : Int))).drew) := HT.out.old HK.out (below_drewN (Below.refl _ _) 1)
            clear HT d3 d1 d0 e1 e0
            generalize ((w2.setCell ⟨b, k + 1, none⟩ (vi (x0 : Int))).setCell ⟨b, k, none⟩ (vi (x1 : Int))).drew = w4 at *
            go_wp2
            go_roundw
            case rel => exact ⟨k, swp fj k, by go_num, by omega, HN.out, HN2.out, HD.out⟩
            case measure => simp [intOf]
          · have hneg : ¬ z < 0 := by
              have := cmpN_lt (F x1) (F x0)
              rw [← HZ.out, decide_eq_false hl, decide_eq_false_iff_not] at this
              exact this
            have hneg2 : decide (z < 0) = false := decide_eq_false hneg
            have HD : Hid (SrtN (gk F) (min (i + 1) n) fj) := by
              rw [Nat.min_eq_left (by omega)]
              refine HI.out.done (fun m hm => ?_)
              obtain rfl : m = k := by omega
              have := HW.out.inj (m + 1) m (by omega) (by omega) (by omega)
              rw [← HX0.out, ← HX1.out] at *
              have h3 : ¬ gk F x1 < gk F x0 := fun q => hl (HLS.out.1 q)
              omega
            clear HZ HI HJ
            go_wp2_with fail
            go_region_held3 (fun w' => w'.cell? ⟨b, k + 1, none⟩ = some (vi (x1 : Int)) ∧ w'.cell? ⟨b, k, none⟩ = some (vi (x0 : Int))) (first | go_keep | exact ⟨d1, d0⟩) ((first | (go_at_call 47; refine C.mono ?_; rintro e w2 ⟨rfl, hB2⟩; have d1 := (hB2.cell (World.block_lt_of_cell? wr.drew _ hc1)).trans hc1; have d0 := (hB2.cell (World.block_lt_of_cell? wr.drew _ hc0)).trans hc0)))
            have HW2 : Hid (SrW KP (gk F) n B b n cap (fun i => i) w fj w2) := HW.out.old HK.out (below_drewN (Below.refl _ wr) 1 |>.trans hB2)
            clear HW HLS HX1 HX0 hl C hc1 hc0 hB2 d1 d0
            go_wp2
            go_roundw
            case rel => exact ⟨i + 1, fj, by go_num, by omega, by omega, by omega, HD.out, HD0.out, HW2.out⟩
            case measure => simp [intOf]; omega
    · have hltz : ¬ (i : Int) < (n : Int) := by omega
      have HD : Hid (SrtN (gk F) n f) := by have := HS.out; rw [Nat.min_eq_right (by omega)] at this; exact this
      clear HS HO
      go_wp2
      go_end0
      exact ⟨rfl, f, HD.out, HW.out⟩
set_option maxRecDepth 100000 in
set_option maxHeartbeats 2000000 in
theorem stable_any {KP : World → Prop} {F : Nat → Nat} {B b n cap q1 : Nat} {w : World} (hK : ∀ W W', KP W → But (· = b) W W' → KP W') (hC : CmpF KP q1 n F) (hn : n ≤ 12) (h : SrW KP (gk F) n B b n cap (fun i => i) w (fun i => i) w) :
    Calls Tryd.prog 64 #[.slice (some ⟨b, 0, none⟩) n cap, .int .i64 (n : Int), cmpV q1] w fun e w' => e = .returned (.tuple #[]) ∧ ∃ f, SrtN (gk F) n f ∧ SrW KP (gk F) n B b n cap (fun i => i) w f w' := by
  have C := insert_any hK hC hn h
  have hz : (n : Int) ≤ 12 := by omega
  have hz1 : ¬ (20 : Int) ≤ (n : Int) := by omega
  have hz2 : ¬ (20 : Int) < (n : Int) := by omega
  clear h hC hK
  go_enter Tryd.func64, Tryd.ntmps64
  go_wp2
  refine wp_loop_rounds 1 ?_
  rw [rounds_succ]
  go_wp2_with fail
  refine C.mono ?_
  rintro e w1 ⟨rfl, f, hS, hW⟩
  have HS : Hid (SrtN (gk F) n f) := hS
  have HW : Hid (SrW KP (gk F) n B b n cap (fun i => i) w f w1) := hW
  clear C hS hW
  go_wp2
  refine wp_loop_rounds 1 ?_
  rw [rounds_succ]
  go_wp2
  go_end0
  exact ⟨rfl, f, HS.out, HW.out⟩
set_option maxRecDepth 100000 in
set_option maxHeartbeats 2000000 in
theorem sortStable_any {KP : World → Prop} {F : Nat → Nat} {B b n cap q1 : Nat} {w : World} (hK : ∀ W W', KP W → But (· = b) W W' → KP W') (hC : CmpF KP q1 n F) (hn : n ≤ 12) (h : SrW KP (gk F) n B b n cap (fun i => i) w (fun i => i) w) :
    Calls Tryd.prog 46 #[.slice (some ⟨b, 0, none⟩) n cap, cmpV q1] w fun e w' => e = .returned (.tuple #[]) ∧ ∃ f, SrtN (gk F) n f ∧ SrW KP (gk F) n B b n cap (fun i => i) w f w' := by
  have C := stable_any hK hC hn h
  clear h hC hK
  go_enter Tryd.func46, Tryd.ntmps46
  go_wp2_with fail
  refine C.mono ?_
  rintro e w1 ⟨rfl, f, hS, hW⟩
  have HS : Hid (SrtN (gk F) n f) := hS
  have HW : Hid (SrW KP (gk F) n B b n cap (fun i => i) w f w1) := hW
  clear C hS hW
  go_wp2
  go_end0
  exact ⟨rfl, f, HS.out, HW.out⟩
end Go.Proofs.YtdbanimlnjhhlaaDoor
