/- What pq.Delta answers, of anything at all: by walks over the program. -/
import Derived.Test.YthgbcpejdkhlgaaDoorPw
import Derived.Test.YthgbcpejdkhlgaaDoorCd
namespace Go.Proofs.YthgbcpejdkhlgaaDoor
open Go.ChangeShapes Go.WideShapes Go.ChangeAt Go.RowKit El Pol Mx
/-- the fault of Delta -/
def pdf (i : Int) (a : Nat → List El) : Nat := if i < 0 ∨ 9 < i then 1 else bbad 4 a
theorem pdf_ok {i : Int} {a : Nat → List El} (h : pdf i a = 0) : 0 ≤ i ∧ i ≤ 9 ∧ bbad 4 a = 0 := by
  unfold pdf at h
  by_cases q : i < 0 ∨ 9 < i
  · rw [if_pos q] at h; omega
  · rw [if_neg q] at h; exact ⟨by omega, by omega, h⟩
set_option maxRecDepth 100000 in
set_option maxHeartbeats 400000 in
theorem pdelta_bad (i : Int) (x0 x1 x2 x3 : List El) (c : Nat) (w : World) (hc : pdf i (four x0 x1 x2 x3) = c) (h0 : c ≠ 0) :
    Calls Tryd.prog 24 #[.int .i64 i, st x0, st x1, st x2, st x3] w fun e w' => e = .returned (.tuple #[.string ⟨#[]⟩, .string ⟨#[]⟩, .iface 56 (.int .i64 c)]) ∧ Below w.heap.size w w' := by
  have hal : Below w.heap.size w (w.alloc (.cells #[st x0, st x1, st x2, st x3] 9)) := al_below _ _
  unfold pdf at hc
  by_cases q : i < 0
  · rw [if_pos (.inl q)] at hc
    subst hc
    unfold st
    generalize sb x0 = s0
    generalize sb x1 = s1
    generalize sb x2 = s2
    generalize sb x3 = s3
    clear hal
    go_enter Tryd.func24, Tryd.ntmps24
    go_wp2
    go_ret3
    exact ⟨rfl, Below.refl _ _⟩
  · by_cases q2 : 9 < i
    · rw [if_pos (.inr q2)] at hc
      subst hc
      unfold st
      generalize sb x0 = s0
      generalize sb x1 = s1
      generalize sb x2 = s2
      generalize sb x3 = s3
      have q3 : 10 ≤ i := by omega
      clear hal
      go_enter Tryd.func24, Tryd.ntmps24
      go_wp2
      go_ret3
      exact ⟨rfl, Below.refl _ _⟩
    · rw [if_neg (by omega)] at hc
      have D := blocks_bad _ 4 c (four x0 x1 x2 x3) _ (four_rd w x0 x1 x2 x3) (by omega) (by omega) hc h0
      unfold st at D hal ⊢
      generalize sb x0 = s0 at *
      generalize sb x1 = s1 at *
      generalize sb x2 = s2 at *
      generalize sb x3 = s3 at *
      have q3 : ¬ 10 ≤ i := by omega
      clear hc
      go_enter Tryd.func24, Tryd.ntmps24
      go_wp2_with fail
      refine D.mono ?_
      rintro e w2 ⟨rfl, hB⟩
      have hB2 := hal.trans (hB.mono hal.size)
      clear D hal hB
      go_wp2
      go_ret3
      exact ⟨rfl, hB2⟩
/-- the two rows of Delta, laid out -/
theorem dl_rows (w : World) (x : El) : RdM (((w.alloc (.cells #[.int .u8 1, .int .u8 1, .int .u8 1, .int .u8 0] 5)).alloc (.cells #[.int .u8 ((x.val : Nat) : Int), .int .u8 ((x.val : Nat) : Int), .int .u8 0, .int .u8 1] 5)).alloc (.cells #[.slice (some ⟨w.heap.size, 0, none⟩) 4 4, .slice (some ⟨w.heap.size + 1, 0, none⟩) 4 4] 40)) (.slice (some ⟨w.heap.size + 1 + 1, 0, none⟩) 2 2) 2 (rws (dlr x) 4) := by
  have o1 : Ow w.heap.size (w.alloc (.cells #[.int .u8 1, .int .u8 1, .int .u8 1, .int .u8 0] 5)) (.slice (some ⟨w.heap.size, 0, none⟩) 4 4) [1, 1, 1, 0] := own_bytes (B := w.heap.size) (w := w) [1, 1, 1, 0] (Nat.le_refl _) (by simp)
  have o2 : Ow w.heap.size ((w.alloc (.cells #[.int .u8 1, .int .u8 1, .int .u8 1, .int .u8 0] 5)).alloc (.cells #[.int .u8 ((x.val : Nat) : Int), .int .u8 ((x.val : Nat) : Int), .int .u8 0, .int .u8 1] 5)) (.slice (some ⟨w.heap.size + 1, 0, none⟩) 4 4) [x, x, 0, 1] := by
    have := own_bytes (B := w.heap.size) (w := w.alloc (.cells #[.int .u8 1, .int .u8 1, .int .u8 1, .int .u8 0] 5)) [x, x, 0, 1] (by simp) (by simp)
    simp only [World.size_alloc] at this
    exact this
  have o3 := own_two (B := w.heap.size) (w := (w.alloc (.cells #[.int .u8 1, .int .u8 1, .int .u8 1, .int .u8 0] 5)).alloc (.cells #[.int .u8 ((x.val : Nat) : Int), .int .u8 ((x.val : Nat) : Int), .int .u8 0, .int .u8 1] 5)) (e := 40) (.slice (some ⟨w.heap.size, 0, none⟩) 4 4) (.slice (some ⟨w.heap.size + 1, 0, none⟩) 4 4) (by simp; omega)
  have q1 := ((o1.old (al_below _ _)).old (al_below _ (.cells #[.slice (some ⟨w.heap.size, 0, none⟩) 4 4, .slice (some ⟨w.heap.size + 1, 0, none⟩) 4 4] 40))).rd (w := ((w.alloc (.cells #[.int .u8 1, .int .u8 1, .int .u8 1, .int .u8 0] 5)).alloc (.cells #[.int .u8 ((x.val : Nat) : Int), .int .u8 ((x.val : Nat) : Int), .int .u8 0, .int .u8 1] 5)).alloc (.cells #[.slice (some ⟨w.heap.size, 0, none⟩) 4 4, .slice (some ⟨w.heap.size + 1, 0, none⟩) 4 4] 40))
  have q2 := (o2.old (al_below _ (.cells #[.slice (some ⟨w.heap.size, 0, none⟩) 4 4, .slice (some ⟨w.heap.size + 1, 0, none⟩) 4 4] 40))).rd
  simp only [World.size_alloc] at o3
  refine RdF.rdM (rv := fun i => if i = 0 then .slice (some ⟨w.heap.size, 0, none⟩) 4 4 else .slice (some ⟨w.heap.size + 1, 0, none⟩) 4 4) (OwL.rdF o3 (fun i hi => ?_)) (fun i hi => ?_)
  · match i, hi with
    | 0, _ => rfl
    | 1, _ => rfl
  · match i, hi with
    | 0, _ => exact q1
    | 1, _ => exact q2
theorem four_rows {L : Nat} {x0 x1 x2 x3 : List El} (h0 : x0.length = L) (h1 : x1.length = L) (h2 : x2.length = L) (h3 : x3.length = L) : ∀ i, i < 4 → (four x0 x1 x2 x3 i).length = L := fun i hi => by
  match i, hi with
  | 0, _ => exact h0
  | 1, _ => exact h1
  | 2, _ => exact h2
  | 3, _ => exact h3
set_option maxRecDepth 100000 in
set_option maxHeartbeats 400000 in
theorem pdelta_ok (i : Nat) (hi : i ≤ 9) (L : Nat) (x0 x1 x2 x3 : List El) (w : World) (h0 : x0.length = L) (h1 : x1.length = L) (h2 : x2.length = L) (h3 : x3.length = L) (hL : L ≤ 16) :
    Calls Tryd.prog 24 #[.int .i64 i, st x0, st x1, st x2, st x3] w fun e w' => e = .returned (.tuple #[st (row (fun l => pl (pl (co x0 l) (co x1 l)) (co x2 l)) L), st (row (fun l => pl (pl (ti (g2 i) (co x0 l)) (ti (g2 i) (co x1 l))) (co x3 l)) L), .nilIface]) ∧ Below w.heap.size w w' := by
  have hal : Below w.heap.size w (w.alloc (.cells #[st x0, st x1, st x2, st x3] 9)) := al_below _ _
  have hfr := four_rows h0 h1 h2 h3
  have D := blocks_ok _ 4 (four x0 x1 x2 x3) _ (four_rd w x0 x1 x2 x3) (by omega) (by omega) (bbad_of (fun j hj => by rw [hfr j hj, hfr 0 (by omega)]) (by rw [hfr 0 (by omega)]; exact hL))
  have HR : Hid (RdF (w.alloc (.cells #[st x0, st x1, st x2, st x3] 9)) (.slice (some ⟨w.heap.size, 0, none⟩) 4 4) 4 (fun i => st (row (mx (four x0 x1 x2 x3) i) L))) := blocks_rows (four_rd w x0 x1 x2 x3) hfr
  have HT : Hid (∀ (W : World) (x : El), Below (w.alloc (.cells #[st x0, st x1, st x2, st x3] 9)).heap.size (w.alloc (.cells #[st x0, st x1, st x2, st x3] 9)) W → Calls Tryd.prog 35 #[.slice (some ⟨W.heap.size + 1 + 1, 0, none⟩) 2 2, .slice (some ⟨w.heap.size, 0, none⟩) 4 4]
      (((W.alloc (.cells #[.int .u8 1, .int .u8 1, .int .u8 1, .int .u8 0] 5)).alloc (.cells #[.int .u8 ((x.val : Nat) : Int), .int .u8 ((x.val : Nat) : Int), .int .u8 0, .int .u8 1] 5)).alloc (.cells #[.slice (some ⟨W.heap.size, 0, none⟩) 4 4, .slice (some ⟨W.heap.size + 1, 0, none⟩) 4 4] 40)) fun e w' =>
      e = .returned (.tuple #[st (row (fun l => pl (pl (co x0 l) (co x1 l)) (co x2 l)) L), st (row (fun l => pl (pl (ti x (co x0 l)) (ti x (co x1 l))) (co x3 l)) L)]) ∧ Below W.heap.size W w') := fun W x hW => by
    have b3 : Below W.heap.size W (((W.alloc (.cells #[.int .u8 1, .int .u8 1, .int .u8 1, .int .u8 0] 5)).alloc (.cells #[.int .u8 ((x.val : Nat) : Int), .int .u8 ((x.val : Nat) : Int), .int .u8 0, .int .u8 1] 5)).alloc (.cells #[.slice (some ⟨W.heap.size, 0, none⟩) 4 4, .slice (some ⟨W.heap.size + 1, 0, none⟩) 4 4] 40)) :=
      (((Below.refl _ _).alloc (Nat.le_refl _) _).alloc (by simp) _).alloc (by simp; omega) _
    have := sums_any _ _ 4 4 L (dlr x) (mx (four x0 x1 x2 x3)) _ (dl_rows W x) ((HR.out.old hW).old b3) (Nat.le_refl _) (by omega) hL
    rw [row_congr (g := fun l => pl (pl (co x0 l) (co x1 l)) (co x2 l)) (fun l _ => dlr_p x (mx (four x0 x1 x2 x3)) l), row_congr (f := mm 4 (dlr x) (mx (four x0 x1 x2 x3)) 1) (g := fun l => pl (pl (ti x (co x0 l)) (ti x (co x1 l))) (co x3 l)) (fun l _ => dlr_q x (mx (four x0 x1 x2 x3)) l)] at this
    exact this.mono fun e w' ⟨he, hb⟩ => ⟨he, b3.trans (hb.mono b3.size)⟩
  obtain ⟨sp, hsp⟩ : ∃ s, s = st (row (fun l => pl (pl (co x0 l) (co x1 l)) (co x2 l)) L) := ⟨_, rfl⟩
  obtain ⟨sq, hsq⟩ : ∃ s, s = st (row (fun l => pl (pl (ti (g2 i) (co x0 l)) (ti (g2 i) (co x1 l))) (co x3 l)) L) := ⟨_, rfl⟩
  have HSP : Hid (sp = st (row (fun l => pl (pl (co x0 l) (co x1 l)) (co x2 l)) L)) := hsp
  have HSQ : Hid (sq = st (row (fun l => pl (pl (ti (g2 i) (co x0 l)) (ti (g2 i) (co x1 l))) (co x3 l)) L)) := hsq
  have HT2 : Hid (∀ (W : World), Below (w.alloc (.cells #[st x0, st x1, st x2, st x3] 9)).heap.size (w.alloc (.cells #[st x0, st x1, st x2, st x3] 9)) W → Calls Tryd.prog 35 #[.slice (some ⟨W.heap.size + 1 + 1, 0, none⟩) 2 2, .slice (some ⟨w.heap.size, 0, none⟩) 4 4]
      (((W.alloc (.cells #[.int .u8 1, .int .u8 1, .int .u8 1, .int .u8 0] 5)).alloc (.cells #[.int .u8 (((g2 i).val : Nat) : Int), .int .u8 (((g2 i).val : Nat) : Int), .int .u8 0, .int .u8 1] 5)).alloc (.cells #[.slice (some ⟨W.heap.size, 0, none⟩) 4 4, .slice (some ⟨W.heap.size + 1, 0, none⟩) 4 4] 40)) fun e w' => e = .returned (.tuple #[sp, sq]) ∧ Below W.heap.size W w') := fun W hW => by
    have := HT.out W (g2 i) hW
    rw [← hsp, ← hsq] at this
    exact this
  have I := fun W => inq_any i (by omega) W
  clear hsp hsq hfr HT HR h0 h1 h2 h3
  have hw1 : (w.alloc (.cells #[st x0, st x1, st x2, st x3] 9)).heap.size = w.heap.size + 1 := by simp
  unfold st at D hal HT2 hw1 ⊢
  generalize sb x0 = s0 at *
  generalize sb x1 = s1 at *
  generalize sb x2 = s2 at *
  generalize sb x3 = s3 at *
  generalize g2 i = y at *
  go_enter Tryd.func24, Tryd.ntmps24
  go_wp2_with fail
  refine D.mono ?_
  rintro e w2 ⟨rfl, hB⟩
  have hB2 := hal.trans (hB.mono hal.size)
  have T := HT2.out w2 hB
  clear D hal hB HT2
  go_wp2_with fail
  refine (I _).mono ?_
  rintro e w3 ⟨rfl, hw⟩
  obtain rfl := hw.symm
  clear I
  go_wp2_with fail
  refine T.mono ?_
  rintro e w4 ⟨rfl, hB4⟩
  have hB5 := hB2.trans (hB4.mono hB2.size)
  clear T hB4 hB2
  go_wp2
  go_ret3
  exact ⟨by rw [HSP.out, HSQ.out]; rfl, hB5⟩
end Go.Proofs.YthgbcpejdkhlgaaDoor
