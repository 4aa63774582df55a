/- Texts of plain mathematics, of memory and of walks, in one. -/
import Derived.Test.YtagindfgfamacaaGe
import Derived.Test.YtagindfgfamacaaPc
import Derived.Test.YtagindfgfamacaaOwIs
import Derived.BigRegion
import Derived.Deep.RegionHeld3
import Derived.BigQuiet
import Derived.Lib.SliceRun
import Derived.Test.YtagindfgfamacaaPp
import Derived.Deep.Cut
import Derived.Deep.CutRange
import Derived.BigCall
import Derived.BigGuard
/- Sorting by exchanges of neighbours, plainly: what stands at each place, and that it is in order at last. -/
namespace Go.Proofs.Ytagindfgfamacaa
/-- neighbours exchanged -/
def swp (f : Nat → Nat) (j : Nat) : Nat → Nat := up (up f (j + 1) (f j)) j (f (j + 1))
theorem swp_lo (f : Nat → Nat) (j : Nat) : swp f j j = f (j + 1) := up_at _ _ _
theorem swp_hi (f : Nat → Nat) (j : Nat) : swp f j (j + 1) = f j := by unfold swp; rw [up_ne _ _ (by omega), up_at]
theorem swp_ne (f : Nat → Nat) {j k : Nat} (h1 : k ≠ j) (h2 : k ≠ j + 1) : swp f j k = f k := by unfold swp; rw [up_ne _ _ h1, up_ne _ _ h2]
/-- the same numbers, at other places -/
def SameN (n : Nat) (f g : Nat → Nat) : Prop := ∀ k, (∃ i, i < n ∧ f i = k) ↔ ∃ i, i < n ∧ g i = k
theorem SameN.refl (n : Nat) (f : Nat → Nat) : SameN n f f := fun _ => Iff.rfl
theorem SameN.trans {n : Nat} {f g h : Nat → Nat} (a : SameN n f g) (b : SameN n g h) : SameN n f h := fun k => (a k).trans (b k)
theorem SameN.swp {n j : Nat} (hj : j + 1 < n) (f : Nat → Nat) : SameN n f (swp f j) := fun k => by
  constructor
  · rintro ⟨i, hi, e⟩
    by_cases e1 : i = j
    · exact ⟨j + 1, hj, by rw [swp_hi, ← e1]; exact e⟩
    · by_cases e2 : i = j + 1
      · exact ⟨j, by omega, by rw [swp_lo, ← e2]; exact e⟩
      · exact ⟨i, hi, by rw [swp_ne f e1 e2]; exact e⟩
  · rintro ⟨i, hi, e⟩
    by_cases e1 : i = j
    · rw [e1, swp_lo] at e; exact ⟨j + 1, hj, e⟩
    · by_cases e2 : i = j + 1
      · rw [e2, swp_hi] at e; exact ⟨j, by omega, e⟩
      · rw [swp_ne f e1 e2] at e; exact ⟨i, hi, e⟩
/-- no two of one turn -/
def InjN (F : Nat → Nat) (n : Nat) (f : Nat → Nat) : Prop := ∀ p q, p < n → q < n → p ≠ q → F (f p) ≠ F (f q)
def sg (j i : Nat) : Nat := if i = j then j + 1 else if i = j + 1 then j else i
theorem swp_sg (f : Nat → Nat) (j i : Nat) : swp f j i = f (sg j i) := by
  unfold sg
  by_cases e1 : i = j
  · rw [if_pos e1, e1, swp_lo]
  · by_cases e2 : i = j + 1
    · rw [if_neg e1, if_pos e2, e2, swp_hi]
    · rw [if_neg e1, if_neg e2, swp_ne f e1 e2]
theorem InjN.swp {F : Nat → Nat} {n : Nat} {f : Nat → Nat} (h : InjN F n f) {j : Nat} (hj : j + 1 < n) : InjN F n (swp f j) := fun p q hp hq hne => by
  rw [swp_sg, swp_sg]
  refine h _ _ ?_ ?_ ?_
  · unfold sg; split
    · exact hj
    · split <;> omega
  · unfold sg; split
    · exact hj
    · split <;> omega
  · unfold sg
    repeat' split
    all_goals omega
/-- the first i are in order -/
def SrtN (F : Nat → Nat) (i : Nat) (f : Nat → Nat) : Prop := ∀ p q, p < q → q < i → F (f p) < F (f q)
/-- the first i + 1, but for what stands at j -/
def InsN (F : Nat → Nat) (i j : Nat) (f : Nat → Nat) : Prop := (∀ p q, p < q → q ≤ i → p ≠ j → q ≠ j → F (f p) < F (f q)) ∧ ∀ q, j < q → q ≤ i → F (f j) < F (f q)
theorem InsN.start {F : Nat → Nat} {i : Nat} {f : Nat → Nat} (h : SrtN F i f) : InsN F i i f := ⟨fun p q h1 h2 _ h4 => h p q h1 (by omega), fun q h1 h2 => by omega⟩
theorem InsN.step {F : Nat → Nat} {i j : Nat} {f : Nat → Nat} (h : InsN F i (j + 1) f) (hj : j + 1 ≤ i) (hl : F (f (j + 1)) < F (f j)) : InsN F i j (swp f j) := by
  obtain ⟨h1, h2⟩ := h
  refine ⟨fun p q hpq hq hp hq' => ?_, fun q hq hqi => ?_⟩
  · by_cases e1 : p = j + 1
    · rw [e1, swp_hi, swp_ne f hq' (by omega)]
      exact h1 j q (by omega) hq (by omega) (by omega)
    · by_cases e2 : q = j + 1
      · rw [e2, swp_hi, swp_ne f hp e1]
        exact h1 p j (by omega) (by omega) e1 (by omega)
      · rw [swp_ne f hp e1, swp_ne f hq' e2]
        exact h1 p q hpq hq e1 e2
  · rw [swp_lo]
    by_cases e : q = j + 1
    · rw [e, swp_hi]; exact hl
    · rw [swp_ne f (by omega) e]
      exact h2 q (by omega) hqi
theorem InsN.done {F : Nat → Nat} {i j : Nat} {f : Nat → Nat} (h : InsN F i j f) (hl : ∀ k, j = k + 1 → F (f k) < F (f j)) : SrtN F (i + 1) f := by
  obtain ⟨h1, h2⟩ := h
  intro p q hpq hq
  by_cases e1 : p = j
  · rw [e1]; exact h2 q (by omega) (by omega)
  · by_cases e2 : q = j
    · rw [e2]
      obtain ⟨k, hk⟩ : ∃ k, j = k + 1 := ⟨j - 1, by omega⟩
      have h3 := hl k hk
      by_cases e3 : p = k
      · rw [e3]; exact h3
      · have := h1 p k (by omega) (by omega) e1 (by omega)
        omega
    · exact h1 p q hpq (by omega) e1 e2
/-- cmp.Compare -/
def cmpN (a b : Nat) : Int := if a < b then -1 else if b < a then 1 else 0
theorem cmpN_lt (a b : Nat) : decide (cmpN a b < 0) = decide (a < b) := by
  unfold cmpN
  by_cases h : a < b
  · simp [h]
  · rw [if_neg h]
    split <;> simp [h]
end Go.Proofs.Ytagindfgfamacaa

/- Sorting by exchanges of neighbours of which some have as many: what stood first stays first: plain. -/
namespace Go.Proofs.Ytagindfgfamacaa
/-- the turn of one: its load, then its number -/
def gk (F : Nat → Nat) (x : Nat) : Nat := F x * 1000 + x
theorem gk_lt {F : Nat → Nat} {x y : Nat} (hx : x < 1000) (hy : y < 1000) : gk F x < gk F y ↔ ls F x y := by
  unfold gk ls
  omega
theorem gk_inj (F : Nat → Nat) {n : Nat} (hn : n ≤ 1000) : InjN (gk F) n (fun i => i) := fun p q hp hq hne => by
  show F p * 1000 + p ≠ F q * 1000 + q
  omega
/-- the first i are those below i; the others stand where they stood -/
def StO (n i : Nat) (f : Nat → Nat) : Prop := (∀ p, p < i → f p < i) ∧ ∀ p, i ≤ p → p < n → f p = p
/-- the same, with i at j -/
def StI (n i j : Nat) (f : Nat → Nat) : Prop := f j = i ∧ (∀ p, p ≤ i → p ≠ j → f p < i) ∧ ∀ p, i < p → p < n → f p = p
theorem StO.start {n i : Nat} {f : Nat → Nat} (h : StO n i f) (hi : i < n) : StI n i i f := ⟨h.2 i (Nat.le_refl _) hi, fun p hp hne => h.1 p (by omega), fun p hp hq => h.2 p (by omega) hq⟩
theorem StI.step {n i j : Nat} {f : Nat → Nat} (h : StI n i (j + 1) f) (hj : j + 1 ≤ i) : StI n i j (swp f j) := by
  obtain ⟨h1, h2, h3⟩ := h
  refine ⟨by rw [swp_lo]; exact h1, fun p hp hne => ?_, fun p hp hq => ?_⟩
  · by_cases e : p = j + 1
    · rw [e, swp_hi]; exact h2 j (by omega) (by omega)
    · rw [swp_ne f hne e]; exact h2 p hp e
  · rw [swp_ne f (by omega) (by omega)]; exact h3 p hp hq
theorem StI.done {n i j : Nat} {f : Nat → Nat} (h : StI n i j f) : StO n (i + 1) f := by
  obtain ⟨h1, h2, h3⟩ := h
  refine ⟨fun p hp => ?_, fun p hp hq => h3 p (by omega) hq⟩
  by_cases e : p = j
  · rw [e]; omega
  · have := h2 p (by omega) e
    omega
/-- in that turn is what the loads tell alone -/
theorem StI.less {n i j : Nat} {f F : Nat → Nat} (h : StI n i (j + 1) f) (hj : j + 1 ≤ i) (hi : i < 1000) : gk F (f (j + 1)) < gk F (f j) ↔ F (f (j + 1)) < F (f j) := by
  obtain ⟨h1, h2, _⟩ := h
  have := h2 j (by omega) (by omega)
  rw [gk_lt (by omega) (by omega)]
  unfold ls
  omega
/-- who comes first, by sorting all and then those that were taken -/
theorem taken_is {F s g : Nat → Nat} {n w : Nat} (hn : n ≤ 10) (hw : w ≤ n) (h1 : SrtN (gk F) n s) (h2 : SameN n (fun i => i) s) (h3 : SrtN (fun x => x) w g) (h4 : SameN w s g) : (List.range w).map g = (List.range n).filter (tkn F n w) := by
  have hs : ∀ i, i < n → s i < n := fun i hi => by
    obtain ⟨k, hk, e⟩ := (h2 (s i)).2 ⟨i, hi, rfl⟩
    have e : k = s i := e
    omega
  have hl : ∀ i j, i < j → j < n → ls F (s i) (s j) := fun i j hij hj => by
    have a := hs i (by omega)
    have b := hs j hj
    exact (gk_lt (by omega) (by omega)).1 (h1 i j hij hj)
  refine rise_same (rise_map w h3) ((rise_range n).filter _) (fun x => ?_)
  rw [List.mem_map, List.mem_filter, List.mem_range]
  constructor
  · rintro ⟨i, hi, rfl⟩
    have hi := List.mem_range.1 hi
    obtain ⟨k, hk, e⟩ := (h4 (g i)).2 ⟨i, hi, rfl⟩
    have hx : g i < n := by rw [← e]; exact hs k (by omega)
    exact ⟨hx, (tkn_sorted hs hl hw hx).2 ⟨k, hk, e⟩⟩
  · rintro ⟨hx, ht⟩
    obtain ⟨k, hk, e⟩ := (tkn_sorted hs hl hw hx).1 ht
    obtain ⟨i, hi, e2⟩ := (h4 x).1 ⟨k, hk, e⟩
    exact ⟨i, List.mem_range.2 hi, e2⟩
end Go.Proofs.Ytagindfgfamacaa

/- What slices.SortStableFunc makes of ten numbers or fewer, of which each stands at its place, by how much each has: walks over the program. -/
namespace Go.Proofs.Ytagindfgfamacaa
open Go.RowKit
theorem isnan_any (x : Int) (w : World) : Calls Try.prog 65 #[.int .i64 x] w fun e w' => e = .returned (.bool false) ∧ w' = w := by
  go_enter Try.func65, Try.ntmps65
  go_wp2
  go_ret
  exact ⟨by simp, rfl⟩
theorem compare_any (a b : Nat) (w : World) : Calls Try.prog 44 #[.int .i64 (a : Int), .int .i64 (b : Int)] w fun e w' => e = .returned (.int .i64 (cmpN a b)) ∧ w' = w := by
  have N1 := isnan_any (a : Int) w
  have N2 := isnan_any (b : Int) w
  have arm : True := trivial
  by_cases h1 : a < b
  · have e : cmpN a b = -1 := if_pos h1
    have z1 : (a : Int) < (b : Int) := by omega
    rw [e]
    clear e h1 arm
    go_enter Try.func44, Try.ntmps44
    go_wp2_with fail
    refine N1.mono ?_
    rintro e w1 ⟨rfl, hw⟩
    obtain rfl := hw.symm
    clear N1 hw
    go_wp2_with fail
    refine N2.mono ?_
    rintro e w1 ⟨rfl, hw⟩
    obtain rfl := hw.symm
    clear N2 hw
    go_wp2
    go_ret
    exact ⟨rfl, rfl⟩
  · by_cases h2 : b < a
    · have e : cmpN a b = 1 := by unfold cmpN; rw [if_neg h1, if_pos h2]
      have z1 : ¬ (a : Int) < (b : Int) := by omega
      have z2 : (b : Int) < (a : Int) := by omega
      rw [e]
      clear e h1 h2 arm
      go_enter Try.func44, Try.ntmps44
      go_wp2_with fail
      refine N1.mono ?_
      rintro e w1 ⟨rfl, hw⟩
      obtain rfl := hw.symm
      clear N1 hw
      go_wp2_with fail
      refine N2.mono ?_
      rintro e w1 ⟨rfl, hw⟩
      obtain rfl := hw.symm
      clear N2 hw
      go_wp2
      go_ret
      exact ⟨rfl, rfl⟩
    · have e : cmpN a b = 0 := by unfold cmpN; rw [if_neg h1, if_neg h2]
      have z1 : ¬ (a : Int) < (b : Int) := by omega
      have z2 : ¬ (b : Int) < (a : Int) := by omega
      rw [e]
      clear e h1 h2 arm
      go_enter Try.func44, Try.ntmps44
      go_wp2_with fail
      refine N1.mono ?_
      rintro e w1 ⟨rfl, hw⟩
      obtain rfl := hw.symm
      clear N1 hw
      go_wp2_with fail
      refine N2.mono ?_
      rintro e w1 ⟨rfl, hw⟩
      obtain rfl := hw.symm
      clear N2 hw
      go_wp2
      go_ret
      exact ⟨rfl, rfl⟩
/-- what compares (the closure of emptiest, bound to a box): by the loads F, where KP holds -/
def CmpF (KP : World → Prop) (q1 N : Nat) (F : Nat → Nat) : Prop := ∀ (W : World) (x y : Nat), x < N → y < N → KP W → Calls Try.prog 43 #[.int .i64 (x : Int), .int .i64 (y : Int), .pointer (some ⟨q1, 0, none⟩)] W fun e w' => e = .returned (.int .i64 (cmpN (F x) (F y))) ∧ Below W.heap.size W w'
/-- that closure -/
abbrev cmpV (q1 : Nat) : Value := .func (.func 43) #[] #[.pointer (some ⟨q1, 0, none⟩)]
/-- numbers of the call's own, by their places -/
abbrev OwF (B : Nat) (w : World) (v : Value) (n : Nat) (f : Nat → Nat) : Prop := OwI B w v n (fun i => ((f i : Nat) : Int))
theorem owf_swp {B b n cap j : Nat} {w : World} {f : Nat → Nat} (h : OwF B w (.slice (some ⟨b, 0, none⟩) n cap) n f) :
    OwF B ((w.setCell ⟨b, j + 1, none⟩ (vi ((f j : Nat) : Int))).setCell ⟨b, j, none⟩ (vi ((f (j + 1) : Nat) : Int))) (.slice (some ⟨b, 0, none⟩) n cap) n (swp f j) ∧ w.grownBy ((w.setCell ⟨b, j + 1, none⟩ (vi ((f j : Nat) : Int))).setCell ⟨b, j, none⟩ (vi ((f (j + 1) : Nat) : Int))) (some b) := by
  have h1 := OwI.stored h (j + 1) ((f j : Nat) : Int)
  have h2 := OwI.stored h1.1 j ((f (j + 1) : Nat) : Int)
  refine ⟨OwI.congr h2.1 (fun i _ => ?_), grownBy_trans h1.2 h2.2⟩
  unfold swp up
  split
  · rfl
  · split <;> rfl
/-- how it stands while they are sorted -/
structure SrW (KP : World → Prop) (F : Nat → Nat) (N B b n cap : Nat) (f0 : Nat → Nat) (w : World) (f : Nat → Nat) (wr : World) : Prop where
  own : OwF B wr (.slice (some ⟨b, 0, none⟩) n cap) n f
  kp : KP wr
  but : But (· = b) w wr
  same : SameN n f0 f
  inj : InjN F n f
  lt : ∀ i, i < n → f i < N
theorem SrW.old {KP : World → Prop} {F f0 f : Nat → Nat} {N B b n cap : Nat} {w wr w1 : World} (hK : ∀ W W', KP W → But (· = b) W W' → KP W') (h : SrW KP F N B b n cap f0 w f wr) (hb : Below wr.heap.size wr w1) : SrW KP F N B b n cap f0 w f w1 :=
  ⟨ownsRow_old h.own hb, hK _ _ h.kp (Below.but hb _), h.but.trans (Below.but hb (· = b)) (Grows.refl _ _), h.same, h.inj, h.lt⟩
theorem SrW.swp {KP : World → Prop} {F f0 f : Nat → Nat} {N B b n cap j : Nat} {w wr : World} (hK : ∀ W W', KP W → But (· = b) W W' → KP W') (h : SrW KP F N B b n cap f0 w f wr) (hj : j + 1 < n) :
    SrW KP F N B b n cap f0 w (swp f j) ((wr.setCell ⟨b, j + 1, none⟩ (vi ((f j : Nat) : Int))).setCell ⟨b, j, none⟩ (vi ((f (j + 1) : Nat) : Int))) := by
  have h1 := owf_swp (j := j) h.own
  have hb : But (· = b) wr _ := But.grown h1.2 (fun k e => by injection e with e; exact e.symm)
  refine ⟨h1.1, hK _ _ h.kp hb, h.but.trans hb (Grows.refl _ _), h.same.trans (SameN.swp hj f), h.inj.swp hj, fun i hi => ?_⟩
  rw [swp_sg]
  refine h.lt _ ?_
  unfold sg
  split
  · exact hj
  · split <;> omega
set_option maxRecDepth 100000 in
set_option maxHeartbeats 4000000 in
theorem insert_any {KP : World → Prop} {F : Nat → Nat} {B b n cap q1 : Nat} {w : World} (hK : ∀ W W', KP W → But (· = b) W W' → KP W') (hC : CmpF KP q1 n F) (hn : n ≤ 12) (h : SrW KP (gk F) n B b n cap (fun i => i) w (fun i => i) w) :
    Calls Try.prog 76 #[.slice (some ⟨b, 0, none⟩) n cap, .int .i64 0, .int .i64 (n : Int), cmpV q1] w fun e w' => e = .returned (.tuple #[]) ∧ ∃ f, SrtN (gk F) n f ∧ SrW KP (gk F) n B b n cap (fun i => i) w f w' := by
  have HK : Hid (∀ W W', KP W → But (· = b) W W' → KP W') := hK
  have HC : Hid (CmpF KP q1 n F) := hC
  have H0 : Hid (SrW KP (gk F) n B b n cap (fun i => i) w (fun i => i) w) := h
  clear hK hC h
  go_enter Try.func76, Try.ntmps76
  go_wp2
  go_loopw [8] (fun vi0 wr => ∃ (i : Nat) (f : Nat → Nat), vi0 = .int .i64 i ∧ 1 ≤ i ∧ i ≤ 13 ∧ (i ≤ n ∨ n ≤ 1) ∧ Hid (SrtN (gk F) (min i n) f) ∧ Hid (StO n (min i n) f) ∧ Hid (SrW KP (gk F) n B b n cap (fun i => i) w f wr)) (fun c _ => n - (intOf c).toNat)
  case atStart => exact ⟨1, fun i => i, rfl, by omega, by omega, by omega, fun p q h1 h2 => by omega, ⟨fun p hp => hp, fun _ _ _ => rfl⟩, H0.out⟩
  case round =>
    clear H0
    obtain ⟨i, f, rfl, hi1, hi13, hin, HS, HO, HW⟩ := hrel
    by_cases hlt : i < n
    · have hltz : (i : Int) < (n : Int) := by omega
      have HI : Hid (InsN (gk F) i i f) := InsN.start (by have := HS.out; rw [Nat.min_eq_left (by omega)] at this; exact this)
      have HJ : Hid (StI n i i f) := StO.start (by have := HO.out; rw [Nat.min_eq_left (by omega)] at this; exact this) hlt
      clear HS HO hin
      obtain ⟨w0, rfl⟩ : ∃ w0, w0 = wr := ⟨_, rfl⟩
      go_wp2
      go_loopw [9] (fun vj wq => ∃ (j : Nat) (fj : Nat → Nat), vj = .int .i64 j ∧ j ≤ i ∧ Hid (InsN (gk F) i j fj) ∧ Hid (StI n i j fj) ∧ Hid (SrW KP (gk F) n B b n cap (fun i => i) w fj wq)) (fun c _ => (intOf c).toNat)
      case atStart => exact ⟨i, f, rfl, Nat.le_refl _, HI.out, HJ.out, HW.out⟩
      case round =>
        clear HI HJ HW
        obtain ⟨j, fj, rfl, hji, HI, HJ, HW⟩ := hrel
        have HD0 : Hid (StO n (min (i + 1) n) fj) := by
          rw [Nat.min_eq_left (by omega)]
          exact HJ.out.done
        by_cases hj0 : j = 0
        · have HD : Hid (SrtN (gk F) (min (i + 1) n) fj) := by
            rw [Nat.min_eq_left (by omega)]
            exact HI.out.done (fun k hk => by omega)
          have hjz : decide (0 < j) = false := decide_eq_false (by omega)
          clear HI HJ hj0
          go_wp2_with fail
          go_quiet (fail)
          go_wp2
          go_roundw
          case rel => exact ⟨i + 1, fj, by go_num, by omega, by omega, by omega, HD.out, HD0.out, HW.out.old HK.out (below_drewN (Below.refl _ _) nq)⟩
          case measure => simp [intOf]; omega
        · obtain ⟨k, rfl⟩ : ∃ k, j = k + 1 := ⟨j - 1, by omega⟩
          have hc1 := OwI.cell HW.out.own (k + 1) (by omega)
          have hc0 := OwI.cell HW.out.own k (by omega)
          have C := HC.out wr.drew (fj (k + 1)) (fj k) (HW.out.lt _ (by omega)) (HW.out.lt _ (by omega)) (HK.out _ _ HW.out.kp (But.refl _ _).drew)
          have hjz : decide ((0 : Int) < (k : Int) + 1) = true := decide_eq_true (by omega)
          have hz2 : (k : Int) + 1 < (n : Int) := by omega
          have hz3 : (k : Int) < (n : Int) := by omega
          have hwp : IntKind.i64.wrap (k : Int) = (k : Int) := by rw [IntKind.wrap_i64]; omega
          have hp0 : (0 : Int) ≤ (k : Int) + 1 := by omega
          have ht : ((k : Int) + 1).toNat = k + 1 := by omega
          have hcast : (((k + 1 : Nat)) : Int) = (k : Int) + 1 := by omega
          obtain ⟨x1, hx1⟩ : ∃ x1, x1 = fj (k + 1) := ⟨_, rfl⟩
          obtain ⟨x0, hx0⟩ : ∃ x0, x0 = fj k := ⟨_, rfl⟩
          have HX1 : Hid (x1 = fj (k + 1)) := hx1
          have HX0 : Hid (x0 = fj k) := hx0
          rw [← hx1] at hc1 C
          rw [← hx0] at hc0 C
          clear hx1 hx0
          obtain ⟨z, hz⟩ : ∃ z, z = cmpN (F x1) (F x0) := ⟨_, rfl⟩
          have HZ : Hid (z = cmpN (F x1) (F x0)) := hz
          rw [← hz] at C
          clear hz
          rw [hcast]
          have HLS : Hid (gk F x1 < gk F x0 ↔ F x1 < F x0) := by rw [HX1.out, HX0.out]; exact HJ.out.less (by omega) (by omega)
          by_cases hl : F x1 < F x0
          · have hneg : z < 0 := by
              have := cmpN_lt (F x1) (F x0)
              rw [← HZ.out, decide_eq_true hl, decide_eq_true_eq] at this
              exact this
            clear HZ
            go_wp2_with fail
            go_region_held3 (fun w' => w'.cell? ⟨b, k + 1, none⟩ = some (vi (x1 : Int)) ∧ w'.cell? ⟨b, k, none⟩ = some (vi (x0 : Int))) (first | go_keep | exact ⟨d1, d0⟩) ((first | (go_at_call 43; refine C.mono ?_; rintro e w2 ⟨rfl, hB2⟩; have d1 := (hB2.cell (World.block_lt_of_cell? wr.drew _ hc1)).trans hc1; have d0 := (hB2.cell (World.block_lt_of_cell? wr.drew _ hc0)).trans hc0)))
            have HW2 : Hid (SrW KP (gk F) n B b n cap (fun i => i) w fj w2) := HW.out.old HK.out (below_drewN (Below.refl _ wr) 1 |>.trans hB2)
            have e1 := OwI.free HW2.out.own (k + 1)
            have e0 := OwI.free HW2.out.own k
            have HT : Hid (SrW KP (gk F) n B b n cap (fun i => i) w (swp fj k) ((w2.setCell ⟨b, k + 1, none⟩ (vi (x0 : Int))).setCell ⟨b, k, none⟩ (vi (x1 : Int)))) := by
              rw [HX0.out, HX1.out]
              exact HW2.out.swp HK.out (by omega)
            have HN : Hid (InsN (gk F) i k (swp fj k)) := HI.out.step (by omega) (by rw [← HX0.out, ← HX1.out]; exact HLS.out.2 hl)
            have HN2 : Hid (StI n i k (swp fj k)) := HJ.out.step (by omega)
            have d3 : (w2.setCell ⟨b, k + 1, none⟩ (vi (x0 : Int))).cell? ⟨b, k, none⟩ = some (vi (x0 : Int)) := by
              rw [World.cell?_setCell_other _ _ _ _ (by simp)]; exact d0
            clear HI HJ HD0 HLS HW HW2 HX1 HX0 hl hneg C hc1 hc0 hB2
            go_wp2_with fail
            go_region
            have HD : Hid (SrW KP (gk F) n B b n cap (fun i => i) w (swp fj k) ((w2.setCell ⟨b, k + 1, none⟩ (vi (x0 : Int))).setCell ⟨b, k, none⟩ (vi (x1 : Int))).drew) := HT.out.old HK.out (below_drewN (Below.refl _ _) 1)
            clear HT d3 d1 d0 e1 e0
            generalize ((w2.setCell ⟨b, k + 1, none⟩ (vi (x0 : Int))).setCell ⟨b, k, none⟩ (vi (x1 : Int))).drew = w4 at *
            go_wp2
            go_roundw
            case rel => exact ⟨k, swp fj k, by go_num, by omega, HN.out, HN2.out, HD.out⟩
            case measure => simp [intOf]
          · have hneg : ¬ z < 0 := by
              have := cmpN_lt (F x1) (F x0)
              rw [← HZ.out, decide_eq_false hl, decide_eq_false_iff_not] at this
              exact this
            have hneg2 : decide (z < 0) = false := decide_eq_false hneg
            have HD : Hid (SrtN (gk F) (min (i + 1) n) fj) := by
              rw [Nat.min_eq_left (by omega)]
              refine HI.out.done (fun m hm => ?_)
              obtain rfl : m = k := by omega
              have := HW.out.inj (m + 1) m (by omega) (by omega) (by omega)
              rw [← HX0.out, ← HX1.out] at *
              have h3 : ¬ gk F x1 < gk F x0 := fun q => hl (HLS.out.1 q)
              omega
            clear HZ HI HJ
            go_wp2_with fail
            go_region_held3 (fun w' => w'.cell? ⟨b, k + 1, none⟩ = some (vi (x1 : Int)) ∧ w'.cell? ⟨b, k, none⟩ = some (vi (x0 : Int))) (first | go_keep | exact ⟨d1, d0⟩) ((first | (go_at_call 43; refine C.mono ?_; rintro e w2 ⟨rfl, hB2⟩; have d1 := (hB2.cell (World.block_lt_of_cell? wr.drew _ hc1)).trans hc1; have d0 := (hB2.cell (World.block_lt_of_cell? wr.drew _ hc0)).trans hc0)))
            have HW2 : Hid (SrW KP (gk F) n B b n cap (fun i => i) w fj w2) := HW.out.old HK.out (below_drewN (Below.refl _ wr) 1 |>.trans hB2)
            clear HW HLS HX1 HX0 hl C hc1 hc0 hB2 d1 d0
            go_wp2
            go_roundw
            case rel => exact ⟨i + 1, fj, by go_num, by omega, by omega, by omega, HD.out, HD0.out, HW2.out⟩
            case measure => simp [intOf]; omega
    · have hltz : ¬ (i : Int) < (n : Int) := by omega
      have HD : Hid (SrtN (gk F) n f) := by have := HS.out; rw [Nat.min_eq_right (by omega)] at this; exact this
      clear HS HO
      go_wp2
      go_end0
      exact ⟨rfl, f, HD.out, HW.out⟩
set_option maxRecDepth 100000 in
set_option maxHeartbeats 2000000 in
theorem stable_any {KP : World → Prop} {F : Nat → Nat} {B b n cap q1 : Nat} {w : World} (hK : ∀ W W', KP W → But (· = b) W W' → KP W') (hC : CmpF KP q1 n F) (hn : n ≤ 12) (h : SrW KP (gk F) n B b n cap (fun i => i) w (fun i => i) w) :
    Calls Try.prog 64 #[.slice (some ⟨b, 0, none⟩) n cap, .int .i64 (n : Int), cmpV q1] w fun e w' => e = .returned (.tuple #[]) ∧ ∃ f, SrtN (gk F) n f ∧ SrW KP (gk F) n B b n cap (fun i => i) w f w' := by
  have C := insert_any hK hC hn h
  have hz : (n : Int) ≤ 12 := by omega
  have hz1 : ¬ (20 : Int) ≤ (n : Int) := by omega
  have hz2 : ¬ (20 : Int) < (n : Int) := by omega
  clear h hC hK
  go_enter Try.func64, Try.ntmps64
  go_wp2
  refine wp_loop_rounds 1 ?_
  rw [rounds_succ]
  go_wp2_with fail
  refine C.mono ?_
  rintro e w1 ⟨rfl, f, hS, hW⟩
  have HS : Hid (SrtN (gk F) n f) := hS
  have HW : Hid (SrW KP (gk F) n B b n cap (fun i => i) w f w1) := hW
  clear C hS hW
  go_wp2
  refine wp_loop_rounds 1 ?_
  rw [rounds_succ]
  go_wp2
  go_end0
  exact ⟨rfl, f, HS.out, HW.out⟩
set_option maxRecDepth 100000 in
set_option maxHeartbeats 2000000 in
theorem sortStable_any {KP : World → Prop} {F : Nat → Nat} {B b n cap q1 : Nat} {w : World} (hK : ∀ W W', KP W → But (· = b) W W' → KP W') (hC : CmpF KP q1 n F) (hn : n ≤ 12) (h : SrW KP (gk F) n B b n cap (fun i => i) w (fun i => i) w) :
    Calls Try.prog 42 #[.slice (some ⟨b, 0, none⟩) n cap, cmpV q1] w fun e w' => e = .returned (.tuple #[]) ∧ ∃ f, SrtN (gk F) n f ∧ SrW KP (gk F) n B b n cap (fun i => i) w f w' := by
  have C := stable_any hK hC hn h
  clear h hC hK
  go_enter Try.func42, Try.ntmps42
  go_wp2_with fail
  refine C.mono ?_
  rintro e w1 ⟨rfl, f, hS, hW⟩
  have HS : Hid (SrtN (gk F) n f) := hS
  have HW : Hid (SrW KP (gk F) n B b n cap (fun i => i) w f w1) := hW
  clear C hS hW
  go_wp2
  go_end0
  exact ⟨rfl, f, HS.out, HW.out⟩
end Go.Proofs.Ytagindfgfamacaa

/- What slices.Sort makes of twelve numbers or fewer, no two of which are one: walks over the program. -/
namespace Go.Proofs.Ytagindfgfamacaa
open Go.RowKit
theorem less_any (a b : Nat) (w : World) : Calls Try.prog 84 #[.int .i64 (a : Int), .int .i64 (b : Int)] w fun e w' => e = .returned (.bool (decide (a < b))) ∧ w' = w := by
  have N1 := isnan_any (a : Int) w
  have HZ : Hid (decide ((a : Int) < (b : Int)) = decide (a < b)) := decide_eq_decide.2 (by omega)
  go_enter Try.func84, Try.ntmps84
  go_wp2_with fail
  refine N1.mono ?_
  rintro e w1 ⟨rfl, hw⟩
  obtain rfl := hw.symm
  clear N1 hw
  go_wp2
  go_ret
  exact ⟨by rw [← HZ.out]; rfl, rfl⟩
set_option maxRecDepth 100000 in
set_option maxHeartbeats 4000000 in
theorem insertO_any {N B b n cap : Nat} {f0 : Nat → Nat} {w : World} (hn : n ≤ 12) (h : SrW (fun _ => True) (fun x => x) N B b n cap f0 w f0 w) :
    Calls Try.prog 78 #[.slice (some ⟨b, 0, none⟩) n cap, .int .i64 0, .int .i64 (n : Int)] w fun e w' => e = .returned (.tuple #[]) ∧ ∃ f, SrtN (fun x => x) n f ∧ SrW (fun _ => True) (fun x => x) N B b n cap f0 w f w' := by
  have H0 : Hid (SrW (fun _ => True) (fun x => x) N B b n cap f0 w f0 w) := h
  clear h
  have HK : Hid (∀ W W' : World, True → But (· = b) W W' → True) := fun _ _ _ _ => trivial
  go_enter Try.func78, Try.ntmps78
  go_wp2
  go_loopw [6] (fun vi0 wr => ∃ (i : Nat) (f : Nat → Nat), vi0 = .int .i64 i ∧ 1 ≤ i ∧ i ≤ 13 ∧ (i ≤ n ∨ n ≤ 1) ∧ Hid (SrtN (fun x => x) (min i n) f) ∧ Hid (SrW (fun _ => True) (fun x => x) N B b n cap f0 w f wr)) (fun c _ => n - (intOf c).toNat)
  case atStart => exact ⟨1, f0, rfl, by omega, by omega, by omega, fun p q h1 h2 => by omega, H0.out⟩
  case round =>
    clear H0
    obtain ⟨i, f, rfl, hi1, hi13, hin, HS, HW⟩ := hrel
    by_cases hlt : i < n
    · have hltz : (i : Int) < (n : Int) := by omega
      have HI : Hid (InsN (fun x => x) i i f) := InsN.start (by have := HS.out; rw [Nat.min_eq_left (by omega)] at this; exact this)
      clear HS hin
      obtain ⟨w0, rfl⟩ : ∃ w0, w0 = wr := ⟨_, rfl⟩
      go_wp2
      go_loopw [7] (fun vj wq => ∃ (j : Nat) (fj : Nat → Nat), vj = .int .i64 j ∧ j ≤ i ∧ Hid (InsN (fun x => x) i j fj) ∧ Hid (SrW (fun _ => True) (fun x => x) N B b n cap f0 w fj wq)) (fun c _ => (intOf c).toNat)
      case atStart => exact ⟨i, f, rfl, Nat.le_refl _, HI.out, HW.out⟩
      case round =>
        clear HI HW
        obtain ⟨j, fj, rfl, hji, HI, HW⟩ := hrel
        by_cases hj0 : j = 0
        · have HD : Hid (SrtN (fun x => x) (min (i + 1) n) fj) := by
            rw [Nat.min_eq_left (by omega)]
            exact HI.out.done (fun k hk => by omega)
          have hjz : decide (0 < j) = false := decide_eq_false (by omega)
          clear HI hj0
          go_wp2_with fail
          go_quiet (fail)
          go_wp2
          go_roundw
          case rel => exact ⟨i + 1, fj, by go_num, by omega, by omega, by omega, HD.out, HW.out.old HK.out (below_drewN (Below.refl _ _) nq)⟩
          case measure => simp [intOf]; omega
        · obtain ⟨k, rfl⟩ : ∃ k, j = k + 1 := ⟨j - 1, by omega⟩
          have hc1 := OwI.cell HW.out.own (k + 1) (by omega)
          have hc0 := OwI.cell HW.out.own k (by omega)
          have hjz : decide ((0 : Int) < (k : Int) + 1) = true := decide_eq_true (by omega)
          have hz2 : (k : Int) + 1 < (n : Int) := by omega
          have hz3 : (k : Int) < (n : Int) := by omega
          have hwp : IntKind.i64.wrap (k : Int) = (k : Int) := by rw [IntKind.wrap_i64]; omega
          have hp0 : (0 : Int) ≤ (k : Int) + 1 := by omega
          have ht : ((k : Int) + 1).toNat = k + 1 := by omega
          have hcast : (((k + 1 : Nat)) : Int) = (k : Int) + 1 := by omega
          obtain ⟨x1, hx1⟩ : ∃ x1, x1 = fj (k + 1) := ⟨_, rfl⟩
          obtain ⟨x0, hx0⟩ : ∃ x0, x0 = fj k := ⟨_, rfl⟩
          have HX1 : Hid (x1 = fj (k + 1)) := hx1
          have HX0 : Hid (x0 = fj k) := hx0
          rw [← hx1] at hc1
          rw [← hx0] at hc0
          clear hx1 hx0
          have L := less_any x1 x0
          rw [hcast]
          by_cases hl : x1 < x0
          · rw [decide_eq_true hl] at L
            go_wp2_with fail
            go_quiet ((go_at_call 84; exact Calls.quiet_of_same (L _)))
            have HW2 : Hid (SrW (fun _ => True) (fun x => x) N B b n cap f0 w fj (wr.drewN nq)) := HW.out.old HK.out (below_drewN (Below.refl _ _) nq)
            have d1 : (wr.drewN nq).cell? ⟨b, k + 1, none⟩ = some (vi (x1 : Int)) := hc1
            have d0 : (wr.drewN nq).cell? ⟨b, k, none⟩ = some (vi (x0 : Int)) := hc0
            generalize wr.drewN nq = w2 at *
            have e1 := OwI.free HW2.out.own (k + 1)
            have e0 := OwI.free HW2.out.own k
            have HT : Hid (SrW (fun _ => True) (fun x => x) N B b n cap f0 w (swp fj k) ((w2.setCell ⟨b, k + 1, none⟩ (vi (x0 : Int))).setCell ⟨b, k, none⟩ (vi (x1 : Int)))) := by
              rw [HX0.out, HX1.out]
              exact HW2.out.swp HK.out (by omega)
            have HN : Hid (InsN (fun x => x) i k (swp fj k)) := HI.out.step (by omega) (by rw [← HX0.out, ← HX1.out]; exact hl)
            have d3 : (w2.setCell ⟨b, k + 1, none⟩ (vi (x0 : Int))).cell? ⟨b, k, none⟩ = some (vi (x0 : Int)) := by
              rw [World.cell?_setCell_other _ _ _ _ (by simp)]; exact d0
            clear HI HW HW2 HX1 HX0 hl L hc1 hc0
            go_wp2_with fail
            go_region
            have HD : Hid (SrW (fun _ => True) (fun x => x) N B b n cap f0 w (swp fj k) ((w2.setCell ⟨b, k + 1, none⟩ (vi (x0 : Int))).setCell ⟨b, k, none⟩ (vi (x1 : Int))).drew) := HT.out.old HK.out (below_drewN (Below.refl _ _) 1)
            clear HT d3 d1 d0 e1 e0
            generalize ((w2.setCell ⟨b, k + 1, none⟩ (vi (x0 : Int))).setCell ⟨b, k, none⟩ (vi (x1 : Int))).drew = w4 at *
            go_wp2
            go_roundw
            case rel => exact ⟨k, swp fj k, by go_num, by omega, HN.out, HD.out⟩
            case measure => simp [intOf]
          · rw [decide_eq_false hl] at L
            have HD : Hid (SrtN (fun x => x) (min (i + 1) n) fj) := by
              rw [Nat.min_eq_left (by omega)]
              refine HI.out.done (fun m hm => ?_)
              obtain rfl : m = k := by omega
              have := HW.out.inj (m + 1) m (by omega) (by omega) (by omega)
              rw [← HX0.out, ← HX1.out] at *
              omega
            clear HI
            go_wp2_with fail
            go_quiet ((go_at_call 84; exact Calls.quiet_of_same (L _)))
            have HW2 : Hid (SrW (fun _ => True) (fun x => x) N B b n cap f0 w fj (wr.drewN nq)) := HW.out.old HK.out (below_drewN (Below.refl _ _) nq)
            clear HW HX1 HX0 hl L hc1 hc0
            go_wp2
            go_roundw
            case rel => exact ⟨i + 1, fj, by go_num, by omega, by omega, by omega, HD.out, HW2.out⟩
            case measure => simp [intOf]; omega
    · have hltz : ¬ (i : Int) < (n : Int) := by omega
      have HD : Hid (SrtN (fun x => x) n f) := by have := HS.out; rw [Nat.min_eq_right (by omega)] at this; exact this
      clear HS
      go_wp2
      go_end0
      exact ⟨rfl, f, HD.out, HW.out⟩
set_option maxRecDepth 100000 in
set_option maxHeartbeats 2000000 in
theorem len64_any (n : Nat) (hn : n ≤ 12) (w : World) : Calls Try.prog 88 #[.int .u64 (n : Int)] w fun e w' => (∃ l : Int, e = .returned (.int .i64 l)) ∧ w' = w := by
  have h : n = 0 ∨ n = 1 ∨ n = 2 ∨ n = 3 ∨ n = 4 ∨ n = 5 ∨ n = 6 ∨ n = 7 ∨ n = 8 ∨ n = 9 ∨ n = 10 ∨ n = 11 ∨ n = 12 := by omega
  rcases h with rfl | rfl | rfl | rfl | rfl | rfl | rfl | rfl | rfl | rfl | rfl | rfl | rfl
  all_goals
    clear hn
    go_enter Try.func88, Try.ntmps88
    go_wp2
    go_ret
    exact ⟨⟨_, rfl⟩, rfl⟩
theorem len_any (n : Nat) (hn : n ≤ 12) (w : World) : Calls Try.prog 67 #[.int .u64 (n : Int)] w fun e w' => (∃ l : Int, e = .returned (.int .i64 l)) ∧ w' = w := by
  have C := len64_any n hn w
  go_enter Try.func67, Try.ntmps67
  go_wp2_with fail
  refine C.mono ?_
  rintro e w1 ⟨⟨l, rfl⟩, hw⟩
  obtain rfl := hw.symm
  clear C hw
  go_wp2
  go_ret
  exact ⟨⟨_, rfl⟩, rfl⟩
set_option maxRecDepth 100000 in
set_option maxHeartbeats 2000000 in
theorem pdqO_any {N B b n cap : Nat} {f0 : Nat → Nat} {w : World} (hn : n ≤ 12) (h : SrW (fun _ => True) (fun x => x) N B b n cap f0 w f0 w) (l : Int) :
    Calls Try.prog 66 #[.slice (some ⟨b, 0, none⟩) n cap, .int .i64 0, .int .i64 (n : Int), .int .i64 l] w fun e w' => e = .returned (.tuple #[]) ∧ ∃ f, SrtN (fun x => x) n f ∧ SrW (fun _ => True) (fun x => x) N B b n cap f0 w f w' := by
  have C := insertO_any hn h
  have hz : (n : Int) ≤ 12 := by omega
  clear h
  go_enter Try.func66, Try.ntmps66
  go_wp2
  refine wp_loop_rounds 1 ?_
  rw [rounds_succ]
  go_wp2_with fail
  refine C.mono ?_
  rintro e w1 ⟨rfl, f, hS, hW⟩
  have HS : Hid (SrtN (fun x => x) n f) := hS
  have HW : Hid (SrW (fun _ => True) (fun x => x) N B b n cap f0 w f w1) := hW
  clear C hS hW
  go_wp2
  (try simp only [Exit.inBlock, Exit.then])
  refine bodyPost_ret (results_none rfl _ _ _) rfl ?_
  exact ⟨rfl, f, HS.out, HW.out⟩
set_option maxRecDepth 100000 in
set_option maxHeartbeats 2000000 in
theorem sortO_any {N B b n cap : Nat} {f0 : Nat → Nat} {w : World} (hn : n ≤ 12) (h : SrW (fun _ => True) (fun x => x) N B b n cap f0 w f0 w) :
    Calls Try.prog 46 #[.slice (some ⟨b, 0, none⟩) n cap] w fun e w' => e = .returned (.tuple #[]) ∧ ∃ f, SrtN (fun x => x) n f ∧ SrW (fun _ => True) (fun x => x) N B b n cap f0 w f w' := by
  have C := fun l => pdqO_any hn h l
  have M := len_any n hn w
  have hz : (n : Int) ≤ 12 := by omega
  clear h
  go_enter Try.func46, Try.ntmps46
  go_wp2_with fail
  refine M.mono ?_
  rintro e w1 ⟨⟨l, rfl⟩, hw⟩
  obtain rfl := hw.symm
  clear M hw
  go_wp2_with fail
  refine (C l).mono ?_
  rintro e w1 ⟨rfl, f, hS, hW⟩
  have HS : Hid (SrtN (fun x => x) n f) := hS
  have HW : Hid (SrW (fun _ => True) (fun x => x) N B b n cap f0 w f w1) := hW
  clear C hS hW
  go_wp2
  go_end0
  exact ⟨rfl, f, HS.out, HW.out⟩
end Go.Proofs.Ytagindfgfamacaa

/- slices.Clone of whole numbers: a walk over the program. -/
namespace Go.Proofs.Ytagindfgfamacaa
open Go.RowKit
theorem rd_cells {w : World} {ad : Addr} {n cap : Nat} {f : Nat → Int} (h : RdF w (.slice (some ad) n cap) n (fun i => vi (f i))) (o : Obj) : ∀ j u, ((List.range n).map (fun i => vi (f i)))[j]? = some u → (w.alloc o).cell? (ad.add j) = some u := by
  intro j u hj
  have hl : j < n := by
    have := (List.getElem?_eq_some_iff.1 hj).1
    simpa using this
  rw [range_map_at _ n j hl] at hj
  obtain ⟨ad', e, hc⟩ := h.at j hl
  obtain rfl := Option.some.inj e
  rw [(al_below w o).cell (World.block_lt_of_cell? w _ hc), hc]
  exact hj
set_option maxRecDepth 100000 in
theorem clone_ints {w : World} {ad : Addr} {n cap : Nat} {f : Nat → Int} (h : RdF w (.slice (some ad) n cap) n (fun i => vi (f i))) (hn : n ≤ 1000) :
    Calls Try.prog 45 #[.slice (some ad) n cap] w fun e w' => ∃ v, e = .returned v ∧ OwI w.heap.size w' v n f ∧ Below w.heap.size w w' := by
  obtain ⟨j0, hj, hy0, hy1, hy2⟩ := info_parts infoI
  have HR : Hid (∀ o j u, ((List.range n).map (fun i => vi (f i)))[j]? = some u → (w.alloc o).cell? (ad.add j) = some u) := fun o => rd_cells h o
  have hnl : ∀ W : World, (binOp .eql 30 (.slice (some ad) n cap) (.slice none 0 0)).run Try.prog W = .ok (.bool false) W := fun W => Lib.run_eql_slice_nil W 30 3 (some ad) n cap 0 0 Try.underlying30
  clear h
  go_enter Try.func45, Try.ntmps45
  go_wp2_with (first | (at_builtin; refine wpList_append_own _ rfl _ _ 30 rfl w.heap.size 3 j0 (.int .i64 0) 1 8 Try.underlying30 hj hy0 hy1 hy2 rfl (by decide) _ _ _ rfl (own_lit (w := w) [] (Nat.le_refl _) (by simp)) ad n cap ((List.range n).map (fun i => vi (f i))) rfl (by simp) (HR.out _) (by intro u hu; obtain ⟨i, _, rfl⟩ := List.mem_map.1 hu; rfl) (by unfold maxLen; simp; omega) (by simp; omega) (by simp) ?_))
  intro v' w3 hown hgrow _
  have hO : OwI w.heap.size w3 v' n f := by
    have := hown
    simpa using this
  have hB : Below w.heap.size w w3 := (al_below w _).grown hgrow (by simp) (fun g hg => by simp [Value.ownBlock] at hg; omega)
  have HO : Hid (OwI w.heap.size w3 v' n f) := hO
  have HB : Hid (Below w.heap.size w w3) := hB
  clear hown hgrow hO hB HR
  go_wp2
  go_ret
  exact ⟨_, rfl, HO.out, HB.out⟩
end Go.Proofs.Ytagindfgfamacaa

/- Which disks have the fewest blocks: walks over the program. -/
namespace Go.Proofs.Ytagindfgfamacaa
open Go.RowKit
theorem ownsRow_low {A B n : Nat} {w : World} {e : TypeId} {v : Value} {xs : List Value} (h : w.ownsRow B e 1 v n xs) (hA : A ≤ B) : w.ownsRow A e 1 v n xs := by
  obtain ⟨h1, h2⟩ := h
  refine ⟨h1, ?_⟩
  rcases h2 with h2 | ⟨g, cap, cur, rfl, hB, rest⟩
  · exact .inl h2
  · exact .inr ⟨g, cap, cur, rfl, by omega, rest⟩
/-- what the closure needs: its box, and the loads behind it -/
def KpE (q1 : Nat) (ad : Addr) (n cap : Nat) (F : Nat → Nat) (W : World) : Prop := W.cell? ⟨q1, 0, none⟩ = some (.slice (some ad) n cap) ∧ ∀ i, i < n → W.cell? (ad.add i) = some (.int .i64 ((F i : Nat) : Int))
theorem KpE.but {q1 n cap b : Nat} {ad : Addr} {F : Nat → Nat} {W W' : World} (h1 : q1 ≠ b) (h2 : ad.block ≠ b) (h : KpE q1 ad n cap F W) (hb : But (· = b) W W') : KpE q1 ad n cap F W' :=
  ⟨(hb.cell (World.block_lt_of_cell? W _ h.1) h1).trans h.1, fun i hi => (hb.cell (World.block_lt_of_cell? W _ (h.2 i hi)) (by rw [add_block]; exact h2)).trans (h.2 i hi)⟩
theorem cmpE (q1 : Nat) (ad : Addr) (n cap : Nat) (F : Nat → Nat) : CmpF (KpE q1 ad n cap F) q1 n F := by
  intro W x y hx hy hk
  have hq := hk.1
  have hcx := hk.2 x hx
  have hcy := hk.2 y hy
  have hxz : (x : Int) < (n : Int) := by omega
  have hyz : (y : Int) < (n : Int) := by omega
  clear hk
  have L := compare_any (F x) (F y)
  generalize cmpN (F x) (F y) = z at *
  generalize F x = a at *
  generalize F y = b at *
  go_enter Try.func43, Try.ntmps43
  go_wp2_with fail
  go_quiet ((go_at_call 44; exact Calls.quiet_of_same (L _)))
  go_wp2
  go_ret
  exact ⟨rfl, below_drewN (Below.refl _ _) _⟩
/-- the disks that have the fewest blocks -/
def tkL (F : Nat → Nat) (n w : Nat) : List Nat := (List.range n).filter (tkn F n w)
theorem tkL_len {F : Nat → Nat} {n w : Nat} (hw : w ≤ n) : (tkL F n w).length = w := by
  unfold tkL
  rw [cn_filter, tkn_cn hw]
set_option maxRecDepth 100000 in
set_option maxHeartbeats 2000000 in
theorem emptiest_any {w : World} {ad : Addr} {n cap wd : Nat} {F : Nat → Nat} (h : RdF w (.slice (some ad) n cap) n (fun i => vi ((F i : Nat) : Int))) (hn : n ≤ 10) (h1 : 1 ≤ wd) (h2 : wd ≤ n) :
    Calls Try.prog 20 #[.slice (some ad) n cap, .int .i64 (wd : Int)] w fun e w' => ∃ g cap', e = .returned (.slice (some ⟨g, 0, none⟩) wd cap') ∧ OwC w.heap.size w' g wd cap' (fun j => (tkL F n wd).getD j 0) ∧ Below w.heap.size w w' := by
  obtain ⟨j0, hj, hy0, hy1, hy2⟩ := info_parts infoI
  have hz1 : (wd : Int) ≤ (n : Int) := by omega
  have hcap : n ≤ cap ∧ cap ≤ 9223372036854775807 := by obtain ⟨_, _, e, q1, q2⟩ := h.len; cases e; exact ⟨q1, q2⟩
  have hbl : ad.block < w.heap.size := by
    obtain ⟨ad', e, hc⟩ := h.at 0 (by omega)
    cases e
    have := World.block_lt_of_cell? w _ hc
    rw [add_block] at this
    exact this
  have HB0 : Hid (Below w.heap.size w (w.alloc (.cells #[.slice (some ad) n cap] 30))) := al_below _ _
  have hq := cell_new w (.slice (some ad) n cap) 30
  have HK0 : Hid (KpE w.heap.size ad n cap F (w.alloc (.cells #[.slice (some ad) n cap] 30))) := ⟨hq, fun i hi => by
    obtain ⟨ad', e, hc⟩ := h.at i hi
    cases e
    exact (HB0.out.cell (World.block_lt_of_cell? w _ hc)).trans hc⟩
  have hs0 : (w.alloc (.cells #[.slice (some ad) n cap] 30)).heap.size = w.heap.size + 1 := by simp
  clear h
  go_enter Try.func20, Try.ntmps20
  go_upto_region 1 with fail
  generalize hw0 : w.alloc (.cells #[.slice (some ad) n cap] 30) = w0 at *
  clear hw0
  go_wp2_with (first | (at_make; refine wpList_make_full _ rfl _ _ 30 rfl w.heap.size 3 j0 (.int .i64 0) 1 Try.underlying30 hj hy0 hy1 _ _ _ _ n rfl rfl rfl rfl (by rw [hy2]; omega) (by unfold maxLen; omega) (by omega) ?_))
  intro w1 hown hgrow
  obtain ⟨b, hb⟩ : ∃ b, b = w.heap.size + 1 := ⟨_, rfl⟩
  rw [← hb] at hown ⊢
  have hqb : w.heap.size ≠ b := by omega
  have hab : ad.block ≠ b := by omega
  have HO1 : Hid (OwI w.heap.size w1 (.slice (some ⟨b, 0, none⟩) n n) n (fun i => if i < 0 then (i : Int) else 0)) := (OwI.made hown).congr (fun i _ => by rw [if_neg (Nat.not_lt_zero _)])
  have HB1 : Hid (But (· = b) w0 w1) := Below.but (below_of_grown hgrow) _
  have hwb : w.heap.size ≤ b := by omega
  clear hown hgrow hb hq hs0
  go_wp2
  go_loopw [13] (fun t wr => ∃ k : Nat, k ≤ n ∧ t = .int .i64 k ∧ OwI w.heap.size wr (.slice (some ⟨b, 0, none⟩) n n) n (fun i => if i < k then (i : Int) else 0) ∧ But (· = b) w0 wr) (fun t _ => n - (intOf t).toNat)
  case atStart => exact ⟨0, Nat.zero_le _, rfl, HO1.out, HB1.out⟩
  case round =>
    clear HO1 HB1
    obtain ⟨k, hk, rfl, hO, hB⟩ := hrel
    by_cases hlt : k < n
    · have hc := OwI.cell hO k hlt
      have hf := OwI.free hO k
      have S := OwI.stored hO k (k : Int)
      have HS : Hid (OwI w.heap.size (wr.setCell ⟨b, k, none⟩ (.int .i64 (k : Int))) (.slice (some ⟨b, 0, none⟩) n n) n (fun i => if i < k + 1 then (i : Int) else 0)) := S.1.congr (fun i _ => by
        unfold up
        by_cases e : i = k
        · rw [if_pos e, if_pos (by omega), e]
        · rw [if_neg e]
          show (if i < k then (i : Int) else 0) = _
          by_cases e2 : i < k
          · rw [if_pos e2, if_pos (by omega)]
          · rw [if_neg e2, if_neg (by omega)])
      have HB : Hid (But (· = b) w0 (wr.setCell ⟨b, k, none⟩ (.int .i64 (k : Int)))) := hB.setCell (p := ⟨b, k, none⟩) rfl _
      generalize (if k < k then (k : Int) else 0) = y at hc
      clear S hO hB
      have hkz : (k : Int) < (n : Int) := by omega
      go_wp2
      generalize wr.setCell ⟨b, k, none⟩ (.int .i64 (k : Int)) = w2 at *
      go_roundw
      case rel => exact ⟨k + 1, by omega, by go_num, HS.out, HB.out⟩
      case measure => simp [intOf]; omega
    · have HW : SrW (KpE w.heap.size ad n cap F) (gk F) n w.heap.size b n n (fun i => i) wr (fun i => i) wr :=
        ⟨OwI.congr hO (fun i hi => by rw [if_pos (by omega)]), HK0.out.but hqb hab hB, But.refl _ _, SameN.refl _ _, gk_inj F (by omega), fun i hi => hi⟩
      have C := sortStable_any (fun W W' => KpE.but hqb hab) (cmpE w.heap.size ad n cap F) (by omega) HW
      have HB : Hid (Below w.heap.size w wr) := HB0.out.trans (hB.below HB0.out.size (fun q hq => by rw [hq]; exact hwb))
      have hsz := HB.out.size
      have hkz : ¬ (k : Int) < (n : Int) := by omega
      clear HW hO hB HK0 HB0
      go_wp2_with fail
      refine C.mono ?_
      rintro e w2 ⟨rfl, s, hS, hW⟩
      have HS : Hid (SrtN (gk F) n s) := hS
      have HN : Hid (SameN n (fun i => i) s) := hW.same
      have HI : Hid (InjN (gk F) n s) := hW.inj
      have HB2 : Hid (Below w.heap.size w w2) := HB.out.trans (hW.but.below hsz (fun q hq => by rw [hq]; exact hwb))
      have K := clone_ints (n := wd) (f := fun i => ((s i : Nat) : Int)) (RdF.cut (OwI.rd hW.own) h2) (by omega)
      have hsz2 := HB2.out.size
      have HL : Hid (∀ i, i < n → s i < n) := hW.lt
      clear C hS hW HB
      go_wp2_with fail
      refine K.mono ?_
      rintro e w3 ⟨v3, rfl, hO3, hB3⟩
      have HB3 : Hid (Below w.heap.size w w3) := HB2.out.trans (hB3.mono hsz2)
      obtain ⟨g, cap3, rfl, hg⟩ := OwI.hd hO3 h1
      have W3 : SrW (fun _ => True) (fun x => x) n w2.heap.size g wd cap3 s w3 s w3 :=
        ⟨hO3, trivial, But.refl _ _, SameN.refl _ _, fun p q hp hq hne e => HI.out p q (by omega) (by omega) hne (by show gk F (s p) = gk F (s q); rw [show s p = s q from e]), fun i hi => HL.out i (by omega)⟩
      have T := sortO_any (by omega) W3
      have hsz3 := HB3.out.size
      clear K hO3 hB3 W3 HB2 HI
      go_wp2_with fail
      refine T.mono ?_
      rintro e w4 ⟨rfl, f, hS4, hW4⟩
      have HB4 : Hid (Below w.heap.size w w4) := HB3.out.trans (hW4.but.below hsz3 (fun q hq => by rw [hq]; omega))
      have HE : Hid ((List.range wd).map f = tkL F n wd) := taken_is hn h2 HS.out HN.out hS4 hW4.same
      have HO4 : Hid (OwC w.heap.size w4 g wd cap3 (fun j => (tkL F n wd).getD j 0)) := by
        have q : OwC w2.heap.size w4 g wd cap3 (fun j => (tkL F n wd).getD j 0) := OwI.congr hW4.own (fun i hi => by
          show ((f i : Nat) : Int) = (((tkL F n wd).getD i 0 : Nat) : Int)
          rw [← HE.out, List.getD_eq_getElem?_getD, List.getElem?_map, List.getElem?_range hi]
          rfl)
        exact ownsRow_low q hsz2
      clear T hS4 hW4 HB3 HS HN HL HE
      go_wp2
      go_ret
      exact ⟨g, cap3, rfl, HO4.out, HB4.out⟩
end Go.Proofs.Ytagindfgfamacaa

/- Stripes that are placed: walks over the program. -/
namespace Go.Proofs.Ytagindfgfamacaa
open Go.RowKit
theorem infoSI : (Try.prog.info? 30).map (fun i => (i.zero, i.size, i.bytes)) = some (some (.slice none 0 0), 1, 24) := by kernel_rfl
/-- there can be no such stripes -/
def plBad (n wd m : Int) : Prop := n < 1 ∨ 10 < n ∨ wd < 1 ∨ n < wd ∨ m < 0 ∨ 40 < m
instance (n wd m : Int) : Decidable (plBad n wd m) := inferInstanceAs (Decidable (_ ∨ _))
set_option maxRecDepth 100000 in
theorem place_no {n wd m : Int} (h : plBad n wd m) (w : World) :
    Calls Try.prog 7 #[.int .i64 n, .int .i64 wd, .int .i64 m] w fun e w' => e = .returned (.tuple #[.slice none 0 0, errV 1]) ∧ w' = w := by
  have A := noarray_any n w
  rw [errV, if_neg (by omega)]
  by_cases h1 : n < 1 ∨ 10 < n
  · rw [noAr_true.2 h1] at A
    clear h h1
    go_enter Try.func7, Try.ntmps7
    go_wp2_with fail
    refine A.mono ?_
    rintro e w1 ⟨rfl, hw⟩
    obtain rfl := hw.symm
    clear A hw
    go_wp2
    go_ret2
    exact ⟨rfl, rfl⟩
  · rw [noAr_false.2 (by omega)] at A
    by_cases h2 : wd < 1
    · have d2 : decide (wd < 1) = true := decide_eq_true h2
      clear h h1
      go_enter Try.func7, Try.ntmps7
      go_wp2_with fail
      refine A.mono ?_
      rintro e w1 ⟨rfl, hw⟩
      obtain rfl := hw.symm
      clear A hw
      go_wp2
      go_ret2
      exact ⟨rfl, rfl⟩
    · have d2 : decide (wd < 1) = false := decide_eq_false h2
      by_cases h3 : n < wd
      · have d3 : decide (n < wd) = true := decide_eq_true h3
        clear h h1
        go_enter Try.func7, Try.ntmps7
        go_wp2_with fail
        refine A.mono ?_
        rintro e w1 ⟨rfl, hw⟩
        obtain rfl := hw.symm
        clear A hw
        go_wp2
        go_ret2
        exact ⟨rfl, rfl⟩
      · have d3 : decide (n < wd) = false := decide_eq_false h3
        by_cases h4 : m < 0
        · have d4 : decide (m < 0) = true := decide_eq_true h4
          clear h h1
          go_enter Try.func7, Try.ntmps7
          go_wp2_with fail
          refine A.mono ?_
          rintro e w1 ⟨rfl, hw⟩
          obtain rfl := hw.symm
          clear A hw
          go_wp2
          go_ret2
          exact ⟨rfl, rfl⟩
        · have d4 : decide (m < 0) = false := decide_eq_false h4
          have h5 : 40 < m := by unfold plBad at h; omega
          have d5 : decide (40 < m) = true := decide_eq_true h5
          clear h h1
          go_enter Try.func7, Try.ntmps7
          go_wp2_with fail
          refine A.mono ?_
          rintro e w1 ⟨rfl, hw⟩
          obtain rfl := hw.symm
          clear A hw
          go_wp2
          go_ret2
          exact ⟨rfl, rfl⟩
/-- lists of numbers of the call's own in a row of the call's own -/
def OwII (B : Nat) (w : World) (v : Value) (m k : Nat) (rv : Nat → Value) (l : Nat → Nat) (R : Nat → Nat → Nat) : Prop :=
  w.ownsRow B 30 1 v m ((List.range m).map rv) ∧ ∀ i, i < k → OwI B w (rv i) (l i) (fun j => ((R i j : Nat) : Int))
theorem ownsRow_blk {B A n m : Nat} {w : World} {t u : TypeId} {v v' : Value} {xs ys : List Value} (h1 : w.ownsRow B t 1 v n xs) (h2 : w.ownsRow A u 1 v' m ys) (hne : t ≠ u) : ∀ k, v.ownBlock = some k → v'.ownBlock ≠ some k := by
  intro k e1 e2
  rcases h1.2 with ⟨rfl, _⟩ | ⟨g, cap, cur, rfl, _, hg, _⟩
  · simp [Value.ownBlock] at e1
  · rcases h2.2 with ⟨rfl, _⟩ | ⟨g2, cap2, cur2, rfl, _, hg2, _⟩
    · simp [Value.ownBlock] at e2
    · simp only [Value.ownBlock, Option.some.injEq] at e1 e2
      subst e1
      subst e2
      rw [hg] at hg2
      simp only [Option.some.injEq, Obj.cells.injEq] at hg2
      exact hne hg2.2.1
theorem OwII.rd {B m : Nat} {w : World} {v : Value} {rv : Nat → Value} {l : Nat → Nat} {R : Nat → Nat → Nat} (h : OwII B w v m m rv l R) : RdII w v m l (fun i j => ((R i j : Nat) : Int)) :=
  ⟨rv, OwL.rdM h.1, fun i hi => OwI.rd (h.2 i hi)⟩
set_option maxRecDepth 100000 in
set_option maxHeartbeats 2000000 in
theorem place_ok {n wd m : Nat} (h1 : 1 ≤ n) (h2 : n ≤ 10) (h3 : 1 ≤ wd) (h4 : wd ≤ n) (h5 : m ≤ 40) (w : World) :
    Calls Try.prog 7 #[.int .i64 (n : Int), .int .i64 (wd : Int), .int .i64 (m : Int)] w fun e w' => ∃ g cap, e = .returned (.tuple #[.slice (some ⟨g, 0, none⟩) m cap, .nilIface]) ∧ RdII w' (.slice (some ⟨g, 0, none⟩) m cap) m (fun _ => wd) (plF n wd) ∧ Below w.heap.size w w' := by
  obtain ⟨j0, hj, hy0, hy1, hy2⟩ := info_parts infoI
  obtain ⟨i0, hi, hz0, hz1, hz2⟩ := info_parts infoSI
  have A := noarray_any (n : Int) w
  rw [noAr_false.2 (by omega)] at A
  have d2 : decide ((wd : Int) < 1) = false := decide_eq_false (by omega)
  have d3 : decide ((n : Int) < (wd : Int)) = false := decide_eq_false (by omega)
  have d4 : decide ((m : Int) < 0) = false := decide_eq_false (by omega)
  have d5 : decide (40 < (m : Int)) = false := decide_eq_false (by omega)
  go_enter Try.func7, Try.ntmps7
  go_wp2_with fail
  refine A.mono ?_
  rintro e w1 ⟨rfl, hw⟩
  obtain rfl := hw.symm
  clear A hw
  go_wp2_with (first | (at_make; refine wpList_make_full _ rfl _ _ 30 rfl w.heap.size 3 j0 (.int .i64 0) 1 Try.underlying30 hj hy0 hy1 _ _ _ _ n rfl rfl rfl rfl (by rw [hy2]; omega) (by unfold maxLen; omega) (Nat.le_refl _) ?_))
  intro w1 hown hgrow
  have HL1 : Hid (OwC w.heap.size w1 w.heap.size n n (ld n wd 0)) := OwI.made hown
  have HB1 : Hid (Below w.heap.size w w1) := below_of_grown hgrow
  have hs1 : w.heap.size < w1.heap.size := (World.ownsRow.lt hown _ rfl).2
  obtain ⟨lb, hlb⟩ : ∃ lb, lb = w.heap.size := ⟨_, rfl⟩
  have HL1 : Hid (OwC w.heap.size w1 lb n n (ld n wd 0)) := by rw [hlb]; exact HL1.out
  have hlw : w.heap.size ≤ lb := by omega
  have hlt1 : lb < w1.heap.size := by omega
  rw [← hlb]
  have hsz1 := HB1.out.size
  clear hown hgrow hlb hs1
  go_wp2_with (first | (at_make; refine wpList_make_full _ rfl _ _ 23 rfl w.heap.size 30 i0 (.slice none 0 0) 1 Try.underlying23 hi hz0 hz1 _ _ _ _ m rfl rfl rfl rfl (by rw [hz2]; omega) (by unfold maxLen; omega) hsz1 ?_))
  intro w2 hown hgrow
  obtain ⟨g, hg⟩ : ∃ g, g = w1.heap.size := ⟨_, rfl⟩
  rw [← hg] at hown ⊢
  have hBn : Below w1.heap.size w1 w2 := below_of_grown hgrow
  have HL2 : Hid (OwC w.heap.size w2 lb n n (ld n wd 0)) := ownsRow_old HL1.out hBn
  have HG2 : Hid (OwII w.heap.size w2 (.slice (some ⟨g, 0, none⟩) m m) m 0 (fun _ => .slice none 0 0) (fun _ => wd) (fun i j => (strp n wd i).getD j 0)) := by
    refine ⟨?_, fun i hi => absurd hi (Nat.not_lt_zero _)⟩
    rw [toList_madeCells_one] at hown
    rw [show (List.range m).map (fun _ => Value.slice none 0 0) = List.replicate m (Value.slice none 0 0) by simp [List.map_const']]
    exact hown
  have HB2 : Hid (Below w.heap.size w w2) := HB1.out.trans (hBn.mono hsz1)
  have hgw : w.heap.size ≤ g := by omega
  have hgl : lb ≠ g := by omega
  clear hown hgrow hBn HL1 HB1 hg hsz1 hlt1
  go_wp2
  go_loopw [37] (fun t wr => ∃ k : Nat, k ≤ m ∧ t = .int .i64 k ∧ OwC w.heap.size wr lb n n (ld n wd k) ∧ (∃ rv, OwII w.heap.size wr (.slice (some ⟨g, 0, none⟩) m m) m k rv (fun _ => wd) (fun i j => (strp n wd i).getD j 0) ∧ ∀ i, i < k → (rv i).ownBlock ≠ some lb) ∧ Below w.heap.size w wr) (fun t _ => m - (intOf t).toNat)
  case atStart => exact ⟨0, Nat.zero_le _, rfl, HL2.out, ⟨_, HG2.out, fun i hi => absurd hi (Nat.not_lt_zero _)⟩, HB2.out⟩
  case round =>
    clear HL2 HG2 HB2
    obtain ⟨k, hk, rfl, hL, ⟨rv, hG, hap⟩, hB⟩ := hrel
    by_cases hlt : k < m
    · have E := emptiest_any (wd := wd) (OwI.rd hL) h2 h3 h4
      have hsz := hB.size
      have HL : Hid (OwC w.heap.size wr lb n n (ld n wd k)) := hL
      have HG : Hid (OwII w.heap.size wr (.slice (some ⟨g, 0, none⟩) m m) m k rv (fun _ => wd) (fun i j => (strp n wd i).getD j 0)) := hG
      have HA : Hid (∀ i, i < k → (rv i).ownBlock ≠ some lb) := hap
      have HB : Hid (Below w.heap.size w wr) := hB
      have hkz : (k : Int) < (m : Int) := by omega
      clear hL hG hap hB
      go_wp2_with fail
      refine E.mono ?_
      rintro e w3 ⟨gr, cr, rfl, hO3, hB3⟩
      have hgr : wr.heap.size ≤ gr := (World.ownsRow.lt hO3 _ rfl).1
      have hll : lb < wr.heap.size := (World.ownsRow.lt HL.out _ rfl).2
      have hL3 := ownsRow_old HL.out hB3
      have hG3 : w3.ownsRow w.heap.size 30 1 (.slice (some ⟨g, 0, none⟩) m m) m ((List.range m).map rv) := ownsRow_old HG.out.1 hB3
      have hc3 : w3.cell? ⟨g, k, none⟩ = some (rv k) := by
        rw [World.ownsRow.cellAt hG3 k (by omega)]
        exact range_map_at _ m k hlt
      have hf3 := World.ownsRow.frozenAt hG3 k
      have S := World.ownsRow.stored hG3 k (.slice (some ⟨gr, 0, none⟩) wd cr)
      rw [set_map_up] at S
      have hgb : g < wr.heap.size := (World.ownsRow.lt HG.out.1 _ rfl).2
      have HG4 : Hid (OwII w.heap.size (w3.setCell ⟨g, k, none⟩ (.slice (some ⟨gr, 0, none⟩) wd cr)) (.slice (some ⟨g, 0, none⟩) m m) m (k + 1) (up rv k (.slice (some ⟨gr, 0, none⟩) wd cr)) (fun _ => wd) (fun i j => (strp n wd i).getD j 0)) := by
        refine ⟨S.1, fun i hi => ?_⟩
        by_cases e : i = k
        · rw [e, up_at]
          have q : OwI w.heap.size w3 (.slice (some ⟨gr, 0, none⟩) wd cr) wd (fun j => (((strp n wd k).getD j 0 : Nat) : Int)) := ownsRow_low hO3 hsz
          exact World.ownsRow.kept q S.2 (.inr (by simp [Value.ownBlock]; omega))
        · rw [up_ne _ _ e]
          have q := ownsRow_old (HG.out.2 i (by omega)) hB3
          refine World.ownsRow.kept q S.2 ?_
          rcases hq : (rv i).ownBlock with _ | b
          · exact .inl rfl
          · refine .inr ?_
            intro z
            exact ownsRow_blk (HG.out.2 i (by omega)) HG.out.1 (by decide) b hq z.symm
      have HL4 : Hid (OwC w.heap.size (w3.setCell ⟨g, k, none⟩ (.slice (some ⟨gr, 0, none⟩) wd cr)) lb n n (ld n wd k)) := World.ownsRow.kept hL3 S.2 (.inr (by simp [Value.ownBlock]; omega))
      have HO4 : Hid (OwC wr.heap.size (w3.setCell ⟨g, k, none⟩ (.slice (some ⟨gr, 0, none⟩) wd cr)) gr wd cr (fun j => (strp n wd k).getD j 0)) := World.ownsRow.kept hO3 S.2 (.inr (by simp [Value.ownBlock]; omega))
      have HB4 : Hid (Below w.heap.size w (w3.setCell ⟨g, k, none⟩ (.slice (some ⟨gr, 0, none⟩) wd cr))) := (HB.out.trans (hB3.mono hsz)).trans (below_of_grownAt S.2 (Nat.le_trans hsz hB3.size) hgw)
      have d3 : (w3.setCell ⟨g, k, none⟩ (.slice (some ⟨gr, 0, none⟩) wd cr)).cell? ⟨g, k, none⟩ = some (.slice (some ⟨gr, 0, none⟩) wd cr) := World.cell?_setCell_same _ _ _ hc3
      generalize rv k = old at hc3
      have T := addTo_any (B := w.heap.size) HL4.out (OwI.rd HO4.out) (fun _ => by simp [Value.ownBlock]; omega) (placed_row (n := n) (i := k) h4 (Int.le_refl _)) (fun i => by rw [ld_cn]; have := cn_le (fun s => tkn (ld n wd s) n wd i) k; omega)
      have hsz4 := HB4.out.size
      have HT : Hid (∀ i, i < n → ctd (ld n wd k) wd (plF n wd k) i = ld n wd (k + 1) i) := fun i hi => by
        have e := placed_has h4 k i
        rw [decide_eq_true hi, Bool.true_and] at e
        show ld n wd k i + (if hsI (fun _ => wd) (plF n wd) k i = true then 1 else 0) = _
        rw [e]
        rfl
      clear E HL HG HB hL3 hG3 S HL4 HO4 hO3 hB3
      go_wp2_with fail
      generalize w3.setCell ⟨g, k, none⟩ (.slice (some ⟨gr, 0, none⟩) wd cr) = w4 at *
      refine T.mono ?_
      rintro e w5 ⟨rfl, hO5, hB5⟩
      have HL5 : Hid (OwC w.heap.size w5 lb n n (ld n wd (k + 1))) := OwI.congr hO5 (fun i hi => by show ((ctd (ld n wd k) wd (plF n wd k) i : Nat) : Int) = _; rw [HT.out i hi])
      have HA5 : Hid (∀ i, i < k + 1 → (up rv k (.slice (some ⟨gr, 0, none⟩) wd cr) i).ownBlock ≠ some lb) := fun i hi => by
        by_cases e : i = k
        · rw [e, up_at]
          simp [Value.ownBlock]
          omega
        · rw [up_ne _ _ e]
          exact HA.out i (by omega)
      have HG5 : Hid (OwII w.heap.size w5 (.slice (some ⟨g, 0, none⟩) m m) m (k + 1) (up rv k (.slice (some ⟨gr, 0, none⟩) wd cr)) (fun _ => wd) (fun i j => (strp n wd i).getD j 0)) :=
        ⟨ownsRow_but HG4.out.1 hB5 (fun q hq => by simp [Value.ownBlock] at hq; omega), fun i hi => ownsRow_but (HG4.out.2 i hi) hB5 (fun q hq z => HA5.out i hi (by rw [hq, z]))⟩
      have HB5 : Hid (Below w.heap.size w w5) := HB4.out.trans (hB5.below hsz4 (fun q hq => by rw [hq]; exact hlw))
      clear T hO5 hB5 HG4 HB4 HA d3 hc3 hf3 HT
      go_wp2
      go_roundw
      case rel => exact ⟨k + 1, by omega, by go_num, HL5.out, ⟨_, HG5.out, HA5.out⟩, HB5.out⟩
      case measure => simp [intOf]; omega
    · obtain rfl : k = m := by omega
      have HR : Hid (RdII wr (.slice (some ⟨g, 0, none⟩) k k) k (fun _ => wd) (plF n wd)) := OwII.rd hG
      clear hL hG hap
      go_wp2
      go_ret2
      exact ⟨g, k, rfl, HR.out, hB⟩
end Go.Proofs.Ytagindfgfamacaa
