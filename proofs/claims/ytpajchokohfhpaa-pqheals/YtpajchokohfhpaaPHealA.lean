/- Any two may be lost: what is right of parts, of parts with one another one. -/
import Derived.Test.YtpajchokohfhpaaPl
import Derived.Test.YtpajchokohfhpaaPqW8
import Derived.Test.YtpajchokohfhpaaPHealP
namespace Go.Proofs.Ytpajchokohfhpaa
open Go.ChangeShapes Go.WideShapes Go.ChangeAt Go.RowKit El Pol Mx
/-- five and six alone -/
def ff : Nat → List El := fun i => if i = 0 then [5] else [6]
theorem ff_rd (w : World) : RdF (w.alloc (.cells #[.string ⟨#[5]⟩, .string ⟨#[6]⟩] 9)) (.slice (some ⟨w.heap.size, 0, none⟩) 2 2) 2 (fun i => st (ff i)) :=
  OwL.rdF (own_lit (B := w.heap.size) [.string ⟨#[5]⟩, .string ⟨#[6]⟩] (Nat.le_refl _) (by simp)) (fun i hi => by
    match i, hi with
    | 0, _ => rfl
    | 1, _ => rfl)
theorem ff_p : row (pp 2 (mx ff)) 1 = [3] := by decide +kernel
theorem ff_q : row (qq 2 (mx ff)) 1 = [9] := by decide +kernel
theorem fact56 (w : World) : Calls Try.prog 5 #[.slice (some ⟨w.heap.size, 0, none⟩) 2 2] (w.alloc (.cells #[.string ⟨#[5]⟩, .string ⟨#[6]⟩] 9)) fun e w' => e = .returned (.tuple #[.string ⟨#[3]⟩, .string ⟨#[9]⟩, .nilIface]) ∧ Below w.heap.size w w' := by
  refine (pencode_ok 2 1 (by omega) (by omega) _ ff _ (ff_rd w) (fun i hi => by
    match i, hi with
    | 0, _ => rfl
    | 1, _ => rfl) (by omega)).mono ?_
  rintro e w' ⟨rfl, hB⟩
  rw [ff_p, ff_q]
  exact ⟨rfl, (al_below w _).trans (hB.mono (al_below w _).size)⟩
theorem prts_at {d L : Nat} {D : M} {x l : Nat} (hl : l < L) : mx (prts d L D) x l = pqp d D x l := co_row_lt _ hl
theorem prts_low {d L : Nat} {D : M} : Eqm d L (mx (prts d L D)) D := fun x l hx hl => by rw [prts_at hl, pqp_data hx]
theorem prts_right (d L : Nat) (D : M) : Rgt d L (mx (prts d L D)) (mx (prts d L D) d) (mx (prts d L D) (d + 1)) := fun l hl => by
  rw [pp_congr prts_low hl, qq_congr prts_low hl, prts_at hl, prts_at hl, pqp_p, pqp_q]
  exact ⟨rfl, rfl⟩
theorem lct_parts {d L : Nat} (hd : d ≤ 10) {D : M} {z : Int} {f : Nat} (h : Lct d L (mx (prts d L D)) z f) : z = -1 ∧ f = 0 := h.same hd (loc_right (prts_right d L D))
theorem mx_up (P : Nat → List El) (i : Nat) (x : List El) : mx (up P i x) = upd (mx P) i (co x) := by
  funext j l
  show co (up P i x j) l = (if j = i then co x else mx P j) l
  by_cases h : j = i
  · rw [h, up_at, if_pos rfl]
  · rw [up_ne _ _ h, if_neg h]
theorem lct_moved {d L : Nat} (hd : d ≤ 10) {D : M} {i : Nat} (hi : i < d + 2) {x : List El} (hx : x.length = L) {z : Int} {f : Nat} (h : Lct d L (mx (up (prts d L D) i x)) z f) : z = (if x = prts d L D i then -1 else (i : Int)) ∧ f = 0 := by
  by_cases e : x = prts d L D i
  · rw [if_pos e]
    have : up (prts d L D) i x = prts d L D := by
      funext j
      by_cases h : j = i
      · rw [h, up_at, e]
      · rw [up_ne _ _ h]
    rw [this] at h
    exact lct_parts hd h
  · rw [if_neg e]
    rw [mx_up] at h
    refine h.same hd (loc_moved hd (prts_right d L D) hi ?_)
    rcases Classical.em (∃ l, l < L ∧ co x l ≠ mx (prts d L D) i l) with q | q
    · exact q
    · exfalso
      apply e
      rw [← row_co x, hx]
      exact row_congr (fun l hl => by
        rcases Classical.em (co x l = pqp d D i l) with q2 | q2
        · exact q2
        · exact absurd ⟨l, hl, by rw [prts_at hl]; exact q2⟩ q)
/-- mended: one of them another one -/
theorem trn_up {d L : Nat} {D : M} {i k : Nat} {junk x : List El} : up (up (trn d L D i k junk) k (prts d L D k)) i x = up (prts d L D) i x := by
  funext j
  by_cases h1 : j = i
  · rw [h1, up_at, up_at]
  · rw [up_ne _ _ h1, up_ne _ _ h1]
    by_cases h2 : j = k
    · rw [h2, up_at]
    · rw [up_ne _ _ h2]; unfold trn; rw [up_ne _ _ h2, up_ne _ _ h1]
/-- P and Q with one block another one -/
theorem delta_p {d i : Nat} (hi : i < d) (a : Nat → List El) (x : List El) (L : Nat) : row (pp d (mx (up a i x))) L = row (fun l => pl (pl (co (a i) l) (co x l)) (co (row (pp d (mx a)) L) l)) L := row_congr (fun l hl => by
  rw [mx_up, pp_up hi, co_row_lt _ hl]
  show pl (pl (pp d (mx a) l) (co (a i) l)) (co x l) = _
  rw [pl_assoc, pl_comm])
theorem delta_q {d i : Nat} (hi : i < d) (a : Nat → List El) (x : List El) (L : Nat) : row (qq d (mx (up a i x))) L = row (fun l => pl (pl (ti (g2 i) (co (a i) l)) (ti (g2 i) (co x l))) (co (row (qq d (mx a)) L) l)) L := row_congr (fun l hl => by
  rw [mx_up, qq_up hi, co_row_lt _ hl]
  show pl (pl (qq d (mx a) l) (ti (g2 i) (co (a i) l))) (ti (g2 i) (co x l)) = _
  rw [pl_assoc, pl_comm])
end Go.Proofs.Ytpajchokohfhpaa
