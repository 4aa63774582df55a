/- Texts of plain mathematics, of memory and of walks, in one. -/
import Derived.Test.YtfeikmmojilmbaaDoorGe
import Derived.Test.YtfeikmmojilmbaaDoorOwIs
import Derived.BigRegion
import Derived.Deep.RegionHeld3
/- Sorting by exchanges of neighbours, plainly: what stands at each place, and that it is in order at last. -/
namespace Go.Proofs.YtfeikmmojilmbaaDoor
/-- neighbours exchanged -/
def swp (f : Nat → Nat) (j : Nat) : Nat → Nat := up (up f (j + 1) (f j)) j (f (j + 1))
theorem swp_lo (f : Nat → Nat) (j : Nat) : swp f j j = f (j + 1) := up_at _ _ _
theorem swp_hi (f : Nat → Nat) (j : Nat) : swp f j (j + 1) = f j := by unfold swp; rw [up_ne _ _ (by omega), up_at]
theorem swp_ne (f : Nat → Nat) {j k : Nat} (h1 : k ≠ j) (h2 : k ≠ j + 1) : swp f j k = f k := by unfold swp; rw [up_ne _ _ h1, up_ne _ _ h2]
/-- the same numbers, at other places -/
def SameN (n : Nat) (f g : Nat → Nat) : Prop := ∀ k, (∃ i, i < n ∧ f i = k) ↔ ∃ i, i < n ∧ g i = k
theorem SameN.refl (n : Nat) (f : Nat → Nat) : SameN n f f := fun _ => Iff.rfl
theorem SameN.trans {n : Nat} {f g h : Nat → Nat} (a : SameN n f g) (b : SameN n g h) : SameN n f h := fun k => (a k).trans (b k)
theorem SameN.swp {n j : Nat} (hj : j + 1 < n) (f : Nat → Nat) : SameN n f (swp f j) := fun k => by
  constructor
  · rintro ⟨i, hi, e⟩
    by_cases e1 : i = j
    · exact ⟨j + 1, hj, by rw [swp_hi, ← e1]; exact e⟩
    · by_cases e2 : i = j + 1
      · exact ⟨j, by omega, by rw [swp_lo, ← e2]; exact e⟩
      · exact ⟨i, hi, by rw [swp_ne f e1 e2]; exact e⟩
  · rintro ⟨i, hi, e⟩
    by_cases e1 : i = j
    · rw [e1, swp_lo] at e; exact ⟨j + 1, hj, e⟩
    · by_cases e2 : i = j + 1
      · rw [e2, swp_hi] at e; exact ⟨j, by omega, e⟩
      · rw [swp_ne f e1 e2] at e; exact ⟨i, hi, e⟩
/-- no two of one turn -/
def InjN (F : Nat → Nat) (n : Nat) (f : Nat → Nat) : Prop := ∀ p q, p < n → q < n → p ≠ q → F (f p) ≠ F (f q)
def sg (j i : Nat) : Nat := if i = j then j + 1 else if i = j + 1 then j else i
theorem swp_sg (f : Nat → Nat) (j i : Nat) : swp f j i = f (sg j i) := by
  unfold sg
  by_cases e1 : i = j
  · rw [if_pos e1, e1, swp_lo]
  · by_cases e2 : i = j + 1
    · rw [if_neg e1, if_pos e2, e2, swp_hi]
    · rw [if_neg e1, if_neg e2, swp_ne f e1 e2]
theorem InjN.swp {F : Nat → Nat} {n : Nat} {f : Nat → Nat} (h : InjN F n f) {j : Nat} (hj : j + 1 < n) : InjN F n (swp f j) := fun p q hp hq hne => by
  rw [swp_sg, swp_sg]
  refine h _ _ ?_ ?_ ?_
  · unfold sg; split
    · exact hj
    · split <;> omega
  · unfold sg; split
    · exact hj
    · split <;> omega
  · unfold sg
    repeat' split
    all_goals omega
/-- the first i are in order -/
def SrtN (F : Nat → Nat) (i : Nat) (f : Nat → Nat) : Prop := ∀ p q, p < q → q < i → F (f p) < F (f q)
/-- the first i + 1, but for what stands at j -/
def InsN (F : Nat → Nat) (i j : Nat) (f : Nat → Nat) : Prop := (∀ p q, p < q → q ≤ i → p ≠ j → q ≠ j → F (f p) < F (f q)) ∧ ∀ q, j < q → q ≤ i → F (f j) < F (f q)
theorem InsN.start {F : Nat → Nat} {i : Nat} {f : Nat → Nat} (h : SrtN F i f) : InsN F i i f := ⟨fun p q h1 h2 _ h4 => h p q h1 (by omega), fun q h1 h2 => by omega⟩
theorem InsN.step {F : Nat → Nat} {i j : Nat} {f : Nat → Nat} (h : InsN F i (j + 1) f) (hj : j + 1 ≤ i) (hl : F (f (j + 1)) < F (f j)) : InsN F i j (swp f j) := by
  obtain ⟨h1, h2⟩ := h
  refine ⟨fun p q hpq hq hp hq' => ?_, fun q hq hqi => ?_⟩
  · by_cases e1 : p = j + 1
    · rw [e1, swp_hi, swp_ne f hq' (by omega)]
      exact h1 j q (by omega) hq (by omega) (by omega)
    · by_cases e2 : q = j + 1
      · rw [e2, swp_hi, swp_ne f hp e1]
        exact h1 p j (by omega) (by omega) e1 (by omega)
      · rw [swp_ne f hp e1, swp_ne f hq' e2]
        exact h1 p q hpq hq e1 e2
  · rw [swp_lo]
    by_cases e : q = j + 1
    · rw [e, swp_hi]; exact hl
    · rw [swp_ne f (by omega) e]
      exact h2 q (by omega) hqi
theorem InsN.done {F : Nat → Nat} {i j : Nat} {f : Nat → Nat} (h : InsN F i j f) (hl : ∀ k, j = k + 1 → F (f k) < F (f j)) : SrtN F (i + 1) f := by
  obtain ⟨h1, h2⟩ := h
  intro p q hpq hq
  by_cases e1 : p = j
  · rw [e1]; exact h2 q (by omega) (by omega)
  · by_cases e2 : q = j
    · rw [e2]
      obtain ⟨k, hk⟩ : ∃ k, j = k + 1 := ⟨j - 1, by omega⟩
      have h3 := hl k hk
      by_cases e3 : p = k
      · rw [e3]; exact h3
      · have := h1 p k (by omega) (by omega) e1 (by omega)
        omega
    · exact h1 p q hpq (by omega) e1 e2
/-- cmp.Compare -/
def cmpN (a b : Nat) : Int := if a < b then -1 else if b < a then 1 else 0
theorem cmpN_lt (a b : Nat) : decide (cmpN a b < 0) = decide (a < b) := by
  unfold cmpN
  by_cases h : a < b
  · simp [h]
  · rw [if_neg h]
    split <;> simp [h]
end Go.Proofs.YtfeikmmojilmbaaDoor

/- What cmp.Compare answers, and what slices.SortFunc makes of twelve numbers or fewer, by whatever compares them by their turns: walks over the program. -/
namespace Go.Proofs.YtfeikmmojilmbaaDoor
open Go.RowKit
theorem isnan_any (x : Int) (w : World) : Calls Tryd.prog 81 #[.int .i64 x] w fun e w' => e = .returned (.bool false) ∧ w' = w := by
  go_enter Tryd.func81, Tryd.ntmps81
  go_wp2
  go_ret
  exact ⟨by simp, rfl⟩
theorem compare_any (a b : Nat) (w : World) : Calls Tryd.prog 72 #[.int .i64 (a : Int), .int .i64 (b : Int)] w fun e w' => e = .returned (.int .i64 (cmpN a b)) ∧ w' = w := by
  have N1 := isnan_any (a : Int) w
  have N2 := isnan_any (b : Int) w
  have arm : True := trivial
  by_cases h1 : a < b
  · have e : cmpN a b = -1 := if_pos h1
    have z1 : (a : Int) < (b : Int) := by omega
    rw [e]
    clear e h1 arm
    go_enter Tryd.func72, Tryd.ntmps72
    go_wp2_with fail
    refine N1.mono ?_
    rintro e w1 ⟨rfl, hw⟩
    obtain rfl := hw.symm
    clear N1 hw
    go_wp2_with fail
    refine N2.mono ?_
    rintro e w1 ⟨rfl, hw⟩
    obtain rfl := hw.symm
    clear N2 hw
    go_wp2
    go_ret
    exact ⟨rfl, rfl⟩
  · by_cases h2 : b < a
    · have e : cmpN a b = 1 := by unfold cmpN; rw [if_neg h1, if_pos h2]
      have z1 : ¬ (a : Int) < (b : Int) := by omega
      have z2 : (b : Int) < (a : Int) := by omega
      rw [e]
      clear e h1 h2 arm
      go_enter Tryd.func72, Tryd.ntmps72
      go_wp2_with fail
      refine N1.mono ?_
      rintro e w1 ⟨rfl, hw⟩
      obtain rfl := hw.symm
      clear N1 hw
      go_wp2_with fail
      refine N2.mono ?_
      rintro e w1 ⟨rfl, hw⟩
      obtain rfl := hw.symm
      clear N2 hw
      go_wp2
      go_ret
      exact ⟨rfl, rfl⟩
    · have e : cmpN a b = 0 := by unfold cmpN; rw [if_neg h1, if_neg h2]
      have z1 : ¬ (a : Int) < (b : Int) := by omega
      have z2 : ¬ (b : Int) < (a : Int) := by omega
      rw [e]
      clear e h1 h2 arm
      go_enter Tryd.func72, Tryd.ntmps72
      go_wp2_with fail
      refine N1.mono ?_
      rintro e w1 ⟨rfl, hw⟩
      obtain rfl := hw.symm
      clear N1 hw
      go_wp2_with fail
      refine N2.mono ?_
      rintro e w1 ⟨rfl, hw⟩
      obtain rfl := hw.symm
      clear N2 hw
      go_wp2
      go_ret
      exact ⟨rfl, rfl⟩
/-- what compares (the closure of inTurn, bound to two boxes): by the turns F, where KP holds -/
def CmpF (KP : World → Prop) (q1 q2 : Nat) (F : Nat → Nat) : Prop := ∀ (W : World) (x y : Nat), x < 1000 → y < 1000 → KP W → Calls Tryd.prog 71 #[.int .i64 (x : Int), .int .i64 (y : Int), .pointer (some ⟨q1, 0, none⟩), .pointer (some ⟨q2, 0, none⟩)] W fun e w' => e = .returned (.int .i64 (cmpN (F x) (F y))) ∧ Below W.heap.size W w'
/-- that closure -/
abbrev cmpV (q1 q2 : Nat) : Value := .func (.func 71) #[] #[.pointer (some ⟨q1, 0, none⟩), .pointer (some ⟨q2, 0, none⟩)]
/-- numbers of the call's own, by their places -/
abbrev OwF (B : Nat) (w : World) (v : Value) (n : Nat) (f : Nat → Nat) : Prop := OwI B w v n (fun i => ((f i : Nat) : Int))
theorem owf_swp {B b n cap j : Nat} {w : World} {f : Nat → Nat} (h : OwF B w (.slice (some ⟨b, 0, none⟩) n cap) n f) :
    OwF B ((w.setCell ⟨b, j + 1, none⟩ (vi ((f j : Nat) : Int))).setCell ⟨b, j, none⟩ (vi ((f (j + 1) : Nat) : Int))) (.slice (some ⟨b, 0, none⟩) n cap) n (swp f j) ∧ w.grownBy ((w.setCell ⟨b, j + 1, none⟩ (vi ((f j : Nat) : Int))).setCell ⟨b, j, none⟩ (vi ((f (j + 1) : Nat) : Int))) (some b) := by
  have h1 := OwI.stored h (j + 1) ((f j : Nat) : Int)
  have h2 := OwI.stored h1.1 j ((f (j + 1) : Nat) : Int)
  refine ⟨OwI.congr h2.1 (fun i _ => ?_), grownBy_trans h1.2 h2.2⟩
  unfold swp up
  split
  · rfl
  · split <;> rfl
/-- how it stands while they are sorted -/
structure SrW (KP : World → Prop) (F : Nat → Nat) (B b n cap : Nat) (f0 : Nat → Nat) (w : World) (f : Nat → Nat) (wr : World) : Prop where
  own : OwF B wr (.slice (some ⟨b, 0, none⟩) n cap) n f
  kp : KP wr
  but : But (· = b) w wr
  same : SameN n f0 f
  inj : InjN F n f
  lt : ∀ i, i < n → f i < 1000
theorem SrW.old {KP : World → Prop} {F f0 f : Nat → Nat} {B b n cap : Nat} {w wr w1 : World} (hK : ∀ W W', KP W → But (· = b) W W' → KP W') (h : SrW KP F B b n cap f0 w f wr) (hb : Below wr.heap.size wr w1) : SrW KP F B b n cap f0 w f w1 :=
  ⟨ownsRow_old h.own hb, hK _ _ h.kp (Below.but hb _), h.but.trans (Below.but hb (· = b)) (Grows.refl _ _), h.same, h.inj, h.lt⟩
theorem SrW.swp {KP : World → Prop} {F f0 f : Nat → Nat} {B b n cap j : Nat} {w wr : World} (hK : ∀ W W', KP W → But (· = b) W W' → KP W') (h : SrW KP F B b n cap f0 w f wr) (hj : j + 1 < n) :
    SrW KP F B b n cap f0 w (swp f j) ((wr.setCell ⟨b, j + 1, none⟩ (vi ((f j : Nat) : Int))).setCell ⟨b, j, none⟩ (vi ((f (j + 1) : Nat) : Int))) := by
  have h1 := owf_swp (j := j) h.own
  have hb : But (· = b) wr _ := But.grown h1.2 (fun k e => by injection e with e; exact e.symm)
  refine ⟨h1.1, hK _ _ h.kp hb, h.but.trans hb (Grows.refl _ _), h.same.trans (SameN.swp hj f), h.inj.swp hj, fun i hi => ?_⟩
  rw [swp_sg]
  refine h.lt _ ?_
  unfold sg
  split
  · exact hj
  · split <;> omega
set_option maxRecDepth 100000 in
set_option maxHeartbeats 4000000 in
theorem insert_any {KP : World → Prop} {F : Nat → Nat} {B b n cap q1 q2 : Nat} {f0 : Nat → Nat} {w : World} (hK : ∀ W W', KP W → But (· = b) W W' → KP W') (hC : CmpF KP q1 q2 F) (hn : n ≤ 12) (h : SrW KP F B b n cap f0 w f0 w) :
    Calls Tryd.prog 85 #[.slice (some ⟨b, 0, none⟩) n cap, .int .i64 0, .int .i64 (n : Int), cmpV q1 q2] w fun e w' => e = .returned (.tuple #[]) ∧ ∃ f, SrtN F n f ∧ SrW KP F B b n cap f0 w f w' := by
  have HK : Hid (∀ W W', KP W → But (· = b) W W' → KP W') := hK
  have HC : Hid (CmpF KP q1 q2 F) := hC
  have H0 : Hid (SrW KP F B b n cap f0 w f0 w) := h
  clear hK hC h
  go_enter Tryd.func85, Tryd.ntmps85
  go_wp2
  go_loopw [8] (fun vi0 wr => ∃ (i : Nat) (f : Nat → Nat), vi0 = .int .i64 i ∧ 1 ≤ i ∧ i ≤ 13 ∧ (i ≤ n ∨ n ≤ 1) ∧ Hid (SrtN F (min i n) f) ∧ Hid (SrW KP F B b n cap f0 w f wr)) (fun c _ => n - (intOf c).toNat)
  case atStart => exact ⟨1, f0, rfl, by omega, by omega, by omega, fun p q h1 h2 => by omega, H0.out⟩
  case round =>
    clear H0
    obtain ⟨i, f, rfl, hi1, hi13, hin, HS, HW⟩ := hrel
    by_cases hlt : i < n
    · have hltz : (i : Int) < (n : Int) := by omega
      have HI : Hid (InsN F i i f) := InsN.start (by have := HS.out; rw [Nat.min_eq_left (by omega)] at this; exact this)
      clear HS hin
      obtain ⟨w0, rfl⟩ : ∃ w0, w0 = wr := ⟨_, rfl⟩
      go_wp2
      go_loopw [9] (fun vj wq => ∃ (j : Nat) (fj : Nat → Nat), vj = .int .i64 j ∧ j ≤ i ∧ Hid (InsN F i j fj) ∧ Hid (SrW KP F B b n cap f0 w fj wq)) (fun c _ => (intOf c).toNat)
      case atStart => exact ⟨i, f, rfl, Nat.le_refl _, HI.out, HW.out⟩
      case round =>
        clear HI HW
        obtain ⟨j, fj, rfl, hji, HI, HW⟩ := hrel
        by_cases hj0 : j = 0
        · have HD : Hid (SrtN F (min (i + 1) n) fj) := by
            rw [Nat.min_eq_left (by omega)]
            exact HI.out.done (fun k hk => by omega)
          have hjz : decide (0 < j) = false := decide_eq_false (by omega)
          clear HI hj0
          go_wp2_with fail
          go_quiet (fail)
          go_wp2
          go_roundw
          case rel => exact ⟨i + 1, fj, by go_num, by omega, by omega, by omega, HD.out, HW.out.old HK.out (below_drewN (Below.refl _ _) nq)⟩
          case measure => simp [intOf]; omega
        · obtain ⟨k, rfl⟩ : ∃ k, j = k + 1 := ⟨j - 1, by omega⟩
          have hc1 := OwI.cell HW.out.own (k + 1) (by omega)
          have hc0 := OwI.cell HW.out.own k (by omega)
          have C := HC.out wr.drew (fj (k + 1)) (fj k) (HW.out.lt _ (by omega)) (HW.out.lt _ (by omega)) (HK.out _ _ HW.out.kp (But.refl _ _).drew)
          have hjz : decide ((0 : Int) < (k : Int) + 1) = true := decide_eq_true (by omega)
          have hz2 : (k : Int) + 1 < (n : Int) := by omega
          have hz3 : (k : Int) < (n : Int) := by omega
          have hwp : IntKind.i64.wrap (k : Int) = (k : Int) := by rw [IntKind.wrap_i64]; omega
          have hp0 : (0 : Int) ≤ (k : Int) + 1 := by omega
          have ht : ((k : Int) + 1).toNat = k + 1 := by omega
          have hcast : (((k + 1 : Nat)) : Int) = (k : Int) + 1 := by omega
          obtain ⟨x1, hx1⟩ : ∃ x1, x1 = fj (k + 1) := ⟨_, rfl⟩
          obtain ⟨x0, hx0⟩ : ∃ x0, x0 = fj k := ⟨_, rfl⟩
          have HX1 : Hid (x1 = fj (k + 1)) := hx1
          have HX0 : Hid (x0 = fj k) := hx0
          rw [← hx1] at hc1 C
          rw [← hx0] at hc0 C
          clear hx1 hx0
          obtain ⟨z, hz⟩ : ∃ z, z = cmpN (F x1) (F x0) := ⟨_, rfl⟩
          have HZ : Hid (z = cmpN (F x1) (F x0)) := hz
          rw [← hz] at C
          clear hz
          rw [hcast]
          by_cases hl : F x1 < F x0
          · have hneg : z < 0 := by
              have := cmpN_lt (F x1) (F x0)
              rw [← HZ.out, decide_eq_true hl, decide_eq_true_eq] at this
              exact this
            clear HZ
            go_wp2_with fail
            go_region_held3 (fun w' => w'.cell? ⟨b, k + 1, none⟩ = some (vi (x1 : Int)) ∧ w'.cell? ⟨b, k, none⟩ = some (vi (x0 : Int))) (first | go_keep | exact ⟨d1, d0⟩) ((first | (go_at_call 71; refine C.mono ?_; rintro e w2 ⟨rfl, hB2⟩; have d1 := (hB2.cell (World.block_lt_of_cell? wr.drew _ hc1)).trans hc1; have d0 := (hB2.cell (World.block_lt_of_cell? wr.drew _ hc0)).trans hc0)))
            have HW2 : Hid (SrW KP F B b n cap f0 w fj w2) := HW.out.old HK.out (below_drewN (Below.refl _ wr) 1 |>.trans hB2)
            have e1 := OwI.free HW2.out.own (k + 1)
            have e0 := OwI.free HW2.out.own k
            have HT : Hid (SrW KP F B b n cap f0 w (swp fj k) ((w2.setCell ⟨b, k + 1, none⟩ (vi (x0 : Int))).setCell ⟨b, k, none⟩ (vi (x1 : Int)))) := by
              rw [HX0.out, HX1.out]
              exact HW2.out.swp HK.out (by omega)
            have HN : Hid (InsN F i k (swp fj k)) := HI.out.step (by omega) (by rw [← HX0.out, ← HX1.out]; exact hl)
            have d3 : (w2.setCell ⟨b, k + 1, none⟩ (vi (x0 : Int))).cell? ⟨b, k, none⟩ = some (vi (x0 : Int)) := by
              rw [World.cell?_setCell_other _ _ _ _ (by simp)]; exact d0
            clear HI HW HW2 HX1 HX0 hl hneg C hc1 hc0 hB2
            go_wp2_with fail
            go_region
            have HD : Hid (SrW KP F B b n cap f0 w (swp fj k) ((w2.setCell ⟨b, k + 1, none⟩ (vi (x0 : Int))).setCell ⟨b, k, none⟩ (vi (x1 : Int))).drew) := HT.out.old HK.out (below_drewN (Below.refl _ _) 1)
            clear HT d3 d1 d0 e1 e0
            generalize ((w2.setCell ⟨b, k + 1, none⟩ (vi (x0 : Int))).setCell ⟨b, k, none⟩ (vi (x1 : Int))).drew = w4 at *
            go_wp2
            go_roundw
            case rel => exact ⟨k, swp fj k, by go_num, by omega, HN.out, HD.out⟩
            case measure => simp [intOf]
          · have hneg : ¬ z < 0 := by
              have := cmpN_lt (F x1) (F x0)
              rw [← HZ.out, decide_eq_false hl, decide_eq_false_iff_not] at this
              exact this
            have hneg2 : decide (z < 0) = false := decide_eq_false hneg
            have HD : Hid (SrtN F (min (i + 1) n) fj) := by
              rw [Nat.min_eq_left (by omega)]
              refine HI.out.done (fun m hm => ?_)
              obtain rfl : m = k := by omega
              have := HW.out.inj (m + 1) m (by omega) (by omega) (by omega)
              rw [← HX0.out, ← HX1.out] at *
              omega
            clear HZ HI
            go_wp2_with fail
            go_region_held3 (fun w' => w'.cell? ⟨b, k + 1, none⟩ = some (vi (x1 : Int)) ∧ w'.cell? ⟨b, k, none⟩ = some (vi (x0 : Int))) (first | go_keep | exact ⟨d1, d0⟩) ((first | (go_at_call 71; refine C.mono ?_; rintro e w2 ⟨rfl, hB2⟩; have d1 := (hB2.cell (World.block_lt_of_cell? wr.drew _ hc1)).trans hc1; have d0 := (hB2.cell (World.block_lt_of_cell? wr.drew _ hc0)).trans hc0)))
            have HW2 : Hid (SrW KP F B b n cap f0 w fj w2) := HW.out.old HK.out (below_drewN (Below.refl _ wr) 1 |>.trans hB2)
            clear HW HX1 HX0 hl C hc1 hc0 hB2 d1 d0
            go_wp2
            go_roundw
            case rel => exact ⟨i + 1, fj, by go_num, by omega, by omega, by omega, HD.out, HW2.out⟩
            case measure => simp [intOf]; omega
    · have hltz : ¬ (i : Int) < (n : Int) := by omega
      have HD : Hid (SrtN F n f) := by have := HS.out; rw [Nat.min_eq_right (by omega)] at this; exact this
      clear HS
      go_wp2
      go_end0
      exact ⟨rfl, f, HD.out, HW.out⟩
end Go.Proofs.YtfeikmmojilmbaaDoor

/- What slices.SortFunc makes of twelve numbers or fewer: walks over the program. -/
namespace Go.Proofs.YtfeikmmojilmbaaDoor
open Go.RowKit
set_option maxRecDepth 100000 in
set_option maxHeartbeats 2000000 in
theorem len64_any (n : Nat) (hn : n ≤ 12) (w : World) : Calls Tryd.prog 94 #[.int .u64 (n : Int)] w fun e w' => (∃ l : Int, e = .returned (.int .i64 l)) ∧ w' = w := by
  have h : n = 0 ∨ n = 1 ∨ n = 2 ∨ n = 3 ∨ n = 4 ∨ n = 5 ∨ n = 6 ∨ n = 7 ∨ n = 8 ∨ n = 9 ∨ n = 10 ∨ n = 11 ∨ n = 12 := by omega
  rcases h with rfl | rfl | rfl | rfl | rfl | rfl | rfl | rfl | rfl | rfl | rfl | rfl | rfl
  all_goals
    clear hn
    go_enter Tryd.func94, Tryd.ntmps94
    go_wp2
    go_ret
    exact ⟨⟨_, rfl⟩, rfl⟩
theorem len_any (n : Nat) (hn : n ≤ 12) (w : World) : Calls Tryd.prog 80 #[.int .u64 (n : Int)] w fun e w' => (∃ l : Int, e = .returned (.int .i64 l)) ∧ w' = w := by
  have C := len64_any n hn w
  go_enter Tryd.func80, Tryd.ntmps80
  go_wp2_with fail
  refine C.mono ?_
  rintro e w1 ⟨⟨l, rfl⟩, hw⟩
  obtain rfl := hw.symm
  clear C hw
  go_wp2
  go_ret
  exact ⟨⟨_, rfl⟩, rfl⟩
set_option maxRecDepth 100000 in
set_option maxHeartbeats 2000000 in
theorem pdq_any {KP : World → Prop} {F : Nat → Nat} {B b n cap q1 q2 : Nat} {f0 : Nat → Nat} {w : World} (hK : ∀ W W', KP W → But (· = b) W W' → KP W') (hC : CmpF KP q1 q2 F) (hn : n ≤ 12) (h : SrW KP F B b n cap f0 w f0 w) (l : Int) :
    Calls Tryd.prog 79 #[.slice (some ⟨b, 0, none⟩) n cap, .int .i64 0, .int .i64 (n : Int), .int .i64 l, cmpV q1 q2] w fun e w' => e = .returned (.tuple #[]) ∧ ∃ f, SrtN F n f ∧ SrW KP F B b n cap f0 w f w' := by
  have C := insert_any hK hC hn h
  have hz : (n : Int) ≤ 12 := by omega
  clear h hC hK
  go_enter Tryd.func79, Tryd.ntmps79
  go_wp2
  refine wp_loop_rounds 1 ?_
  rw [rounds_succ]
  go_wp2_with fail
  refine C.mono ?_
  rintro e w1 ⟨rfl, f, hS, hW⟩
  have HS : Hid (SrtN F n f) := hS
  have HW : Hid (SrW KP F B b n cap f0 w f w1) := hW
  clear C hS hW
  go_wp2
  (try simp only [Exit.inBlock, Exit.then])
  refine bodyPost_ret (results_none rfl _ _ _) rfl ?_
  exact ⟨rfl, f, HS.out, HW.out⟩
set_option maxRecDepth 100000 in
set_option maxHeartbeats 2000000 in
theorem sort_any {KP : World → Prop} {F : Nat → Nat} {B b n cap q1 q2 : Nat} {f0 : Nat → Nat} {w : World} (hK : ∀ W W', KP W → But (· = b) W W' → KP W') (hC : CmpF KP q1 q2 F) (hn : n ≤ 12) (h : SrW KP F B b n cap f0 w f0 w) :
    Calls Tryd.prog 70 #[.slice (some ⟨b, 0, none⟩) n cap, cmpV q1 q2] w fun e w' => e = .returned (.tuple #[]) ∧ ∃ f, SrtN F n f ∧ SrW KP F B b n cap f0 w f w' := by
  have C := fun l => pdq_any hK hC hn h l
  have N := len_any n hn w
  have hz : (n : Int) ≤ 12 := by omega
  clear h hC hK
  go_enter Tryd.func70, Tryd.ntmps70
  go_wp2_with fail
  refine N.mono ?_
  rintro e w1 ⟨⟨l, rfl⟩, hw⟩
  obtain rfl := hw.symm
  clear N hw
  go_wp2_with fail
  refine (C l).mono ?_
  rintro e w1 ⟨rfl, f, hS, hW⟩
  have HS : Hid (SrtN F n f) := hS
  have HW : Hid (SrW KP F B b n cap f0 w f w1) := hW
  clear C hS hW
  go_wp2
  go_end0
  exact ⟨rfl, f, HS.out, HW.out⟩
/-- of none -/
theorem insert_none (q1 q2 : Nat) (w : World) : Calls Tryd.prog 85 #[.slice none 0 0, .int .i64 0, .int .i64 0, cmpV q1 q2] w fun e w' => e = .returned (.tuple #[]) ∧ w' = w := by
  go_enter Tryd.func85, Tryd.ntmps85
  go_wp2
  refine wp_loop_rounds 1 ?_
  rw [rounds_succ]
  go_wp2
  go_end0
  exact ⟨rfl, rfl⟩
set_option maxRecDepth 100000 in
set_option maxHeartbeats 2000000 in
theorem pdq_none (q1 q2 : Nat) (w : World) (l : Int) : Calls Tryd.prog 79 #[.slice none 0 0, .int .i64 0, .int .i64 0, .int .i64 l, cmpV q1 q2] w fun e w' => e = .returned (.tuple #[]) ∧ w' = w := by
  have C := insert_none q1 q2 w
  go_enter Tryd.func79, Tryd.ntmps79
  go_wp2
  refine wp_loop_rounds 1 ?_
  rw [rounds_succ]
  go_wp2_with fail
  refine C.mono ?_
  rintro e w1 ⟨rfl, hw⟩
  obtain rfl := hw.symm
  clear C hw
  go_wp2
  (try simp only [Exit.inBlock, Exit.then])
  refine bodyPost_ret (results_none rfl _ _ _) rfl ?_
  exact ⟨rfl, rfl⟩
theorem sort_none (q1 q2 : Nat) (w : World) : Calls Tryd.prog 70 #[.slice none 0 0, cmpV q1 q2] w fun e w' => e = .returned (.tuple #[]) ∧ w' = w := by
  have C := fun l => pdq_none q1 q2 w l
  have N := len_any 0 (Nat.zero_le _) w
  go_enter Tryd.func70, Tryd.ntmps70
  go_wp2_with fail
  refine N.mono ?_
  rintro e w1 ⟨⟨l, rfl⟩, hw⟩
  obtain rfl := hw.symm
  clear N hw
  go_wp2_with fail
  refine (C l).mono ?_
  rintro e w1 ⟨rfl, hw⟩
  obtain rfl := hw.symm
  clear C hw
  go_wp2
  go_end0
  exact ⟨rfl, rfl⟩
end Go.Proofs.YtfeikmmojilmbaaDoor
