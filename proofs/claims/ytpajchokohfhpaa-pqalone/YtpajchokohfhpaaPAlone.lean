/- WITHOUT DATA THERE IS ENOUGH: all data of two blocks come back by P and Q alone: by walks over the program. -/
import Derived.Test.YtpajchokohfhpaaPw
import Derived.Test.YtpajchokohfhpaaCd
import Derived.BigCall
import Derived.BigGuard
namespace Go.Proofs.Ytpajchokohfhpaa
open Go.ChangeShapes Go.WideShapes Go.ChangeAt Go.RowKit El Pol Mx
def two (xs ys : List El) : Nat → List El := fun i => if i = 0 then xs else ys
theorem two_rd (w : World) (xs ys : List El) : RdF (w.alloc (.cells #[st xs, st ys] 9)) (.slice (some ⟨w.heap.size, 0, none⟩) 2 2) 2 (fun i => st (two xs ys i)) :=
  OwL.rdF (own_lit (B := w.heap.size) [st xs, st ys] (Nat.le_refl _) (by simp)) (fun i hi => by
    match i, hi with
    | 0, _ => rfl
    | 1, _ => rfl)
theorem two_bad {xs ys : List El} (h : pqf 2 (two xs ys) ≠ 0) : xs.length ≠ ys.length ∨ (xs.length = ys.length ∧ 16 < xs.length) := by
  unfold pqf at h
  rw [if_neg (by omega)] at h
  by_cases q : xs.length = ys.length
  · right
    refine ⟨q, ?_⟩
    rcases Nat.lt_or_ge 16 xs.length with q2 | q2
    · exact q2
    · exact absurd (bbad_of (a := two xs ys) (fun i hi => by
        match i, hi with
        | 0, _ => rfl
        | 1, _ => exact q.symm) q2) h
  · exact .inl q
theorem two_ok {xs ys : List El} (h : pqf 2 (two xs ys) = 0) : xs.length = ys.length ∧ xs.length ≤ 16 := by
  have := bbad_ok (pqf_ok h).2.2
  exact ⟨(this.1 1 (by omega)).symm, this.2⟩
set_option maxRecDepth 100000 in
set_option maxHeartbeats 1000000 in
theorem alone_bad (xs ys : List El) (w : World) (hb : pqf 2 (two xs ys) ≠ 0) :
    Calls Try.prog 4 #[st xs, st ys] w fun e w' => e = .returned (.bool true) ∧ Below w.heap.size w w' := by
  have C := pencode_bad _ 2 _ (two xs ys) _ (two_rd w xs ys) (by omega) rfl hb
  have hal : Below w.heap.size w (w.alloc (.cells #[st xs, st ys] 9)) := (Below.refl _ _).alloc (Nat.le_refl _) _
  have hs := sb_size xs
  have ht := sb_size ys
  have hD := two_bad hb
  unfold st at *
  generalize pqf 2 (two xs ys) = c at *
  generalize sb xs = s at *
  generalize sb ys = t at *
  generalize xs.length = l at *
  generalize ys.length = m at *
  rcases hD with hD | ⟨hD, h16⟩
  · have hne : ((l : Int) != (m : Int)) = true := by rw [bne_iff_ne]; omega
    clear hD
    go_enter Try.func4, Try.ntmps4
    go_wp2_with fail
    refine C.mono ?_
    rintro e w1 ⟨rfl, hB⟩
    have hB1 := hal.trans (hB.mono hal.size)
    clear C hB hal
    go_wp2
    go_ret
    exact ⟨rfl, hB1⟩
  · subst hD
    have hne : ((l : Int) != (l : Int)) = false := by simp
    have HD : Hid (decide ((16 : Int) < (l : Int)) = true) := decide_eq_true (by omega)
    clear h16
    go_enter Try.func4, Try.ntmps4
    go_wp2_with fail
    refine C.mono ?_
    rintro e w1 ⟨rfl, hB⟩
    have hB1 := hal.trans (hB.mono hal.size)
    clear C hB hal
    go_wp2
    go_ret
    exact ⟨congrArg (fun b => Ending.returned (.bool b)) HD.out, hB1⟩
/-- data lost, P and Q there -/
def alo (p q : List El) : Nat → List El := fun i => if i = 0 then [] else if i = 1 then [] else if i = 2 then p else q
def alob : Nat → Bool := fun i => decide (i < 2)
theorem alo_rd (w : World) (p q : List El) : RdF (w.alloc (.cells #[.string ⟨#[]⟩, .string ⟨#[]⟩, st p, st q] 9)) (.slice (some ⟨w.heap.size, 0, none⟩) 4 4) 4 (fun i => st (alo p q i)) :=
  OwL.rdF (own_lit (B := w.heap.size) [.string ⟨#[]⟩, .string ⟨#[]⟩, st p, st q] (Nat.le_refl _) (by simp)) (fun i hi => by
    match i, hi with
    | 0, _ => rfl
    | 1, _ => rfl
    | 2, _ => rfl
    | 3, _ => rfl)
theorem alob_rd (w : World) : RdF (w.alloc (.cells #[.bool true, .bool true, .bool false, .bool false] 4)) (.slice (some ⟨w.heap.size, 0, none⟩) 4 4) 4 (fun i => .bool (alob i)) :=
  OwL.rdF (own_lit (B := w.heap.size) [.bool true, .bool true, .bool false, .bool false] (Nat.le_refl _) (by simp)) (fun i hi => by
    match i, hi with
    | 0, _ => rfl
    | 1, _ => rfl
    | 2, _ => rfl
    | 3, _ => rfl)
theorem alob_ix : ix alob 4 = [2, 3] := by decide
theorem alo_back {L : Nat} {D E : M} (h : Healed 2 L (mx (alo (row (pp 2 D) L) (row (qq 2 D) L))) alob E) : Eqm 2 L E D :=
  healed_back (by omega) (by rw [alob_ix]; decide) (fun i hi hl l hlL => by
    match i, hi with
    | 0, _ => simp [alob] at hl
    | 1, _ => simp [alob] at hl
    | 2, _ =>
      show co (row (pp 2 D) L) l = _
      rw [co_row_lt _ hlL]
      rfl
    | 3, _ =>
      show co (row (qq 2 D) L) l = _
      rw [co_row_lt _ hlL]
      rfl) h
set_option maxRecDepth 100000 in
set_option maxHeartbeats 1000000 in
theorem alone_ok (xs ys : List El) (w : World) (h1 : xs.length = ys.length) (h2 : xs.length ≤ 16) :
    Calls Try.prog 4 #[st xs, st ys] w fun e w' => e = .returned (.bool true) ∧ Below w.heap.size w w' := by
  obtain ⟨L, hL⟩ : ∃ L, L = xs.length := ⟨_, rfl⟩
  have C := pencode_ok 2 L (by omega) (by omega) _ (two xs ys) _ (two_rd w xs ys) (fun i hi => by
    match i, hi with
    | 0, _ => exact hL.symm
    | 1, _ => exact (h1.symm.trans hL.symm)) (by omega)
  have hal : Below w.heap.size w (w.alloc (.cells #[st xs, st ys] 9)) := (Below.refl _ _).alloc (Nat.le_refl _) _
  obtain ⟨s, hs⟩ : ∃ s, s = sb xs := ⟨_, rfl⟩
  obtain ⟨t, ht⟩ : ∃ t, t = sb ys := ⟨_, rfl⟩
  obtain ⟨p, hp⟩ : ∃ p, p = sb (row (pp 2 (mx (two xs ys))) L) := ⟨_, rfl⟩
  obtain ⟨q, hq⟩ : ∃ q, q = sb (row (qq 2 (mx (two xs ys))) L) := ⟨_, rfl⟩
  have HR : Hid (∀ (W : World) (v : Value) (E : M), Healed 2 L (mx (alo (row (pp 2 (mx (two xs ys))) L) (row (qq 2 (mx (two xs ys))) L))) alob E → RdF W v 4 (fun i => st (row (pqp 2 E i) L)) →
      ∃ ad c, v = .slice (some ad) 4 c ∧ W.cell? ad = some (.string s) ∧ W.cell? (ad.add 1) = some (.string t) ∧ W.cell? (ad.add 2) = some (.string p) ∧ W.cell? (ad.add 3) = some (.string q)) := by
    intro W v E hE hv
    have e := alo_back hE
    obtain ⟨ao, c, rfl, _, _⟩ := hv.len
    obtain ⟨ad, rfl, c0⟩ := hv.at 0 (by omega)
    obtain ⟨_, e1, c1⟩ := hv.at 1 (by omega)
    obtain ⟨_, e2, c2⟩ := hv.at 2 (by omega)
    obtain ⟨_, e3, c3⟩ := hv.at 3 (by omega)
    cases e1
    cases e2
    cases e3
    have hr : ∀ i, row (pqp 2 E i) L = row (pqp 2 (mx (two xs ys)) i) L := fun i => row_congr (fun l hl => pqp_congr e i l hl)
    rw [hr] at c0 c1 c2 c3
    rw [add_zero] at c0
    refine ⟨ad, c, rfl, ?_, ?_, ?_, ?_⟩
    · rw [c0, hs, show row (pqp 2 (mx (two xs ys)) 0) L = row (co xs) L from rfl, hL, row_co]
    · rw [c1, ht, show row (pqp 2 (mx (two xs ys)) 1) L = row (co ys) L from rfl, hL, h1, row_co]
    · rw [c2, hp]; rfl
    · rw [c3, hq]; rfl
  have HP : Hid (p = sb (row (pp 2 (mx (two xs ys))) L)) := hp
  have HQ : Hid (q = sb (row (qq 2 (mx (two xs ys))) L)) := hq
  have HB : Hid (∀ W : World, Calls Try.prog 6 #[.slice (some ⟨W.heap.size, 0, none⟩) 4 4, .slice (some ⟨W.heap.size + 1, 0, none⟩) 4 4] ((W.alloc (.cells #[.string ⟨#[]⟩, .string ⟨#[]⟩, .string p, .string q] 9)).alloc (.cells #[.bool true, .bool true, .bool false, .bool false] 4)) fun e w' =>
      ∃ ad c, e = .returned (.tuple #[.slice (some ad) 4 c, .nilIface]) ∧ w'.cell? ad = some (.string s) ∧ w'.cell? (ad.add 1) = some (.string t) ∧ w'.cell? (ad.add 2) = some (.string p) ∧ w'.cell? (ad.add 3) = some (.string q) ∧ Below W.heap.size W w') := by
    intro W
    have r1 := alo_rd W (row (pp 2 (mx (two xs ys))) L) (row (qq 2 (mx (two xs ys))) L)
    unfold st at r1
    rw [← hp, ← hq] at r1
    have al1 : Below W.heap.size W (W.alloc (.cells #[.string ⟨#[]⟩, .string ⟨#[]⟩, .string p, .string q] 9)) := (Below.refl _ _).alloc (Nat.le_refl _) _
    have al2 : Below (W.alloc (.cells #[.string ⟨#[]⟩, .string ⟨#[]⟩, .string p, .string q] 9)).heap.size (W.alloc (.cells #[.string ⟨#[]⟩, .string ⟨#[]⟩, .string p, .string q] 9)) ((W.alloc (.cells #[.string ⟨#[]⟩, .string ⟨#[]⟩, .string p, .string q] 9)).alloc (.cells #[.bool true, .bool true, .bool false, .bool false] 4)) := (Below.refl _ _).alloc (Nat.le_refl _) _
    have r2 := alob_rd (W.alloc (.cells #[.string ⟨#[]⟩, .string ⟨#[]⟩, .string p, .string q] 9))
    have al3 := al1.trans (al2.mono al1.size)
    rw [show (W.alloc (.cells #[.string ⟨#[]⟩, .string ⟨#[]⟩, .string p, .string q] 9)).heap.size = W.heap.size + 1 by simp] at r2
    refine (pheal_ok 2 L (by omega) (by omega) _ _ (alo (row (pp 2 (mx (two xs ys))) L) (row (qq 2 (mx (two xs ys))) L)) alob _ (r1.old al2) r2 (by rw [alob_ix]; decide) (fun i hi => ?_) (by omega)).mono ?_
    · rw [alob_ix] at hi
      unfold at'
      rw [alob_ix]
      match i, hi with
      | 0, _ => exact row_length _ _
      | 1, _ => exact row_length _ _
    · rintro e w' ⟨v', E, rfl, hH, hO, hB⟩
      obtain ⟨ad, c, rfl, c0, c1, c2, c3⟩ := HR.out w' v' E hH (OwL.rdM hO)
      exact ⟨ad, c, rfl, c0, c1, c2, c3, al3.trans (hB.mono al3.size)⟩
  unfold st at C hal
  unfold st
  rw [← hs, ← ht] at C hal ⊢
  rw [← hp, ← hq] at C
  clear hs ht hp hq HR h1 h2 hL
  go_enter Try.func4, Try.ntmps4
  go_wp2_with fail
  refine C.mono ?_
  rintro e w1 ⟨rfl, hB⟩
  have hB1 := hal.trans (hB.mono hal.size)
  have H := HB.out w1
  clear C hB hal HB
  go_wp2_with fail
  refine H.mono ?_
  rintro e w2 ⟨ad, c, rfl, c0, c1, c2, c3, hB2⟩
  have c1' : w2.cell? ⟨ad.block, ad.off + 1, none⟩ = some (.string t) := c1
  have c2' : w2.cell? ⟨ad.block, ad.off + 2, none⟩ = some (.string p) := c2
  have c3' : w2.cell? ⟨ad.block, ad.off + 3, none⟩ = some (.string q) := c3
  have hB3 := hB1.trans (hB2.mono hB1.size)
  clear H hB1 hB2
  go_wp2
  go_ret
  exact ⟨rfl, hB3⟩
end Go.Proofs.Ytpajchokohfhpaa
