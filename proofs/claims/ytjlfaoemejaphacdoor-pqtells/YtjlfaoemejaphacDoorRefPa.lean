/- What the document's own PQ answers: by a walk over the program. -/
import Derived.Test.YtjlfaoemejaphacDoorRefW
import Derived.Test.YtjlfaoemejaphacDoorMa
import Derived.Test.YtjlfaoemejaphacDoorMemT
namespace Go.Proofs.YtjlfaoemejaphacDoor
open Go.ChangeShapes Go.WideShapes Go.ChangeAt Go.RowKit El Pol Mx
theorem twoQ (x : El) (w : World) : Calls Tryd.prog 35 #[.int .u8 ((x.val : Nat) : Int), .int .u8 2] w fun e w' => e = .returned (.int .u8 (((ti x 2).val : Nat) : Int)) ∧ ∃ q, w' = w.drewN q := timesQ2 x 2 w
set_option maxRecDepth 100000 in
set_option maxHeartbeats 2000000 in
theorem rpq_any (v : Value) (n L : Nat) (D : M) (w : World) (h : RdF w v n (fun i => st (row (D i) L))) (hn : 1 ≤ n) (hn2 : n ≤ 10) (hL : L ≤ 16) :
    Calls Tryd.prog 12 #[v] w fun e w' => e = .returned (.tuple #[st (row (pp n D) L), st (row (qq n D) L)]) ∧ Below w.heap.size w w' := by
  obtain ⟨i0, hi0, hz0, hz1, hz2⟩ := info_parts info8
  have HH : Hid (RdF w v n (fun i => st (row (D i) L))) := h
  obtain ⟨ao, cap, rfl, _, _⟩ := h.len
  clear h
  go_enter Tryd.func12, Tryd.ntmps12
  go_wp2
  go_loopw [4, 5, 6, 7] (fun o q x t wr => ∃ i : Nat, i ≤ n ∧ x = .int .u8 (((g2 i).val : Nat) : Int) ∧ t = .int .i64 i ∧ Ow w.heap.size wr o (row (fun _ => 1) i) ∧ Ow w.heap.size wr q (row g2 i) ∧ (o.ownBlock = none ∨ o.ownBlock ≠ q.ownBlock) ∧ Below w.heap.size w wr) (fun _ _ _ t _ => n - (intOf t).toNat)
  case atStart => exact ⟨0, Nat.zero_le _, by rw [g2_zero]; rfl, rfl, World.ownsRow_nil _ _ _ _, World.ownsRow_nil _ _ _ _, .inl rfl, Below.refl _ _⟩
  case round =>
    obtain ⟨i, hi, rfl, rfl, hO, hQ, hne, hB⟩ := hrel
    obtain ⟨a1, c1, e1, _, _⟩ := hO.rd.len
    obtain ⟨a2, c2, e2, _, _⟩ := hQ.rd.len
    rw [row_length] at e1 e2
    subst e1
    subst e2
    by_cases hlt : i < n
    · have hsz := hB.size
      have HQ : Hid (Ow w.heap.size wr (.slice a2 i c2) (row g2 i)) := hQ
      have HNE : Hid ((Value.slice a1 i c1).ownBlock = none ∨ (Value.slice a1 i c1).ownBlock ≠ (Value.slice a2 i c2).ownBlock) := hne
      have HG : Hid (ti (g2 i) 2 = g2 (i + 1)) := g2_succ i (by omega)
      have HX : Hid (g2 i = g2 i) := rfl
      have hlt' : (i : Int) < (n : Int) := by omega
      clear hQ hne
      go_wp2_with (first | (at_builtin; refine wpList_append_two rfl _ _ 30 rfl w.heap.size 5 i0 (.int .u8 0) 1 Tryd.underlying30 hi0 hz0 hz1 hz2 rfl _ _ _ rfl (World.ownsRow.alloc hO _) ⟨wr.heap.size, 0, none⟩ 1 1 [.int .u8 1] rfl rfl (one_cell _) (by intro u hu; simp at hu; subst hu; rfl) (by rw [row_length]; unfold maxLen; omega) (by rw [row_length]; omega) (by simp; omega) ?_))
      intro v3 w3 hown3 hgrow3 hsn3
      have hal : Below wr.heap.size wr (wr.alloc (.cells #[.int .u8 1] 5)) := (Below.refl _ _).alloc (Nat.le_refl _) _
      have hO3 : Ow w.heap.size w3 v3 (row (fun _ => (1 : El)) (i + 1)) := own_snoc (s := 1) hown3 rfl
      have hQa := HQ.out.old hal
      have hQ3 : Ow w.heap.size w3 (.slice a2 i c2) (row g2 i) := World.ownsRow.kept hQa hgrow3 (by
        rcases HNE.out with e | e
        · rw [e]; cases (Value.slice a2 i c2).ownBlock <;> simp
        · exact .inr (fun q => e q.symm))
      have hne3 : v3.ownBlock = none ∨ v3.ownBlock ≠ (Value.slice a2 i c2).ownBlock := hsn3.ne (fun k hk => (World.ownsRow.lt hQa k hk).2) HNE.out
      have hB3 : Below w.heap.size w w3 := (hB.alloc hsz _).grown hgrow3 (by simp; omega) (fun g hg => (World.ownsRow.lt hO g hg).1)
      have hsz3 := hB3.size
      obtain ⟨a3, c3, e3, _, _⟩ := hO3.rd.len
      rw [row_length] at e3
      subst e3
      have HO3 : Hid (Ow w.heap.size w3 (.slice a3 (i + 1) c3) (row (fun _ => (1 : El)) (i + 1))) := hO3
      have HNE3 : Hid ((Value.slice a3 (i + 1) c3).ownBlock = none ∨ (Value.slice a3 (i + 1) c3).ownBlock ≠ (Value.slice a2 i c2).ownBlock) := hne3
      clear hown3 hgrow3 hsn3 hQa hO3 hne3 hB hO HQ HNE hal
      obtain ⟨x, hx⟩ : ∃ x, x = g2 i := ⟨_, rfl⟩
      have HXX : Hid (x = g2 i) := hx
      rw [← hx]
      have HG2 : Hid (ti x 2 = g2 (i + 1)) := by (show _ = _); rw [hx]; exact HG.out
      clear hx HG HX
      go_wp2_with (first | (at_builtin; refine wpList_append_two rfl _ _ 30 rfl w.heap.size 5 i0 (.int .u8 0) 1 Tryd.underlying30 hi0 hz0 hz1 hz2 rfl _ _ _ rfl (World.ownsRow.alloc hQ3 _) ⟨w3.heap.size, 0, none⟩ 1 1 [.int .u8 ((x.val : Nat) : Int)] rfl rfl (one_cell _) (one_one _) (by rw [row_length]; unfold maxLen; omega) (by rw [row_length]; omega) (by simp; omega) ?_))
      intro v4 w4 hown4 hgrow4 hsn4
      have hal : Below w3.heap.size w3 (w3.alloc (.cells #[.int .u8 ((x.val : Nat) : Int)] 5)) := (Below.refl _ _).alloc (Nat.le_refl _) _
      have hQ4 : Ow w.heap.size w4 v4 (row g2 (i + 1)) := own_snoc (s := x) hown4 HXX.out
      have hOa := HO3.out.old hal
      have hO4 : Ow w.heap.size w4 (.slice a3 (i + 1) c3) (row (fun _ => (1 : El)) (i + 1)) := World.ownsRow.kept hOa hgrow4 (by
        rcases HNE3.out with e | e
        · exact .inl e
        · exact .inr e)
      have hne4 : (Value.slice a3 (i + 1) c3).ownBlock = none ∨ (Value.slice a3 (i + 1) c3).ownBlock ≠ v4.ownBlock := by
        have := hsn4.ne (u := .slice a3 (i + 1) c3) (fun k hk => (World.ownsRow.lt hOa k hk).2) (by
          rcases HNE3.out with e | e
          · cases h2 : (Value.slice a2 i c2).ownBlock with
            | none => exact .inl rfl
            | some b => rw [e]; exact .inr (by simp)
          · exact .inr (fun q => e q.symm))
        rcases this with e | e
        · cases h3 : (Value.slice a3 (i + 1) c3).ownBlock with
          | none => exact .inl rfl
          | some b => rw [e]; exact .inr (by simp)
        · exact .inr (fun q => e q.symm)
      have hB4 : Below w.heap.size w w4 := (hB3.alloc hsz3 _).grown hgrow4 (by simp; omega) (fun g hg => (World.ownsRow.lt hQ3 g hg).1)
      obtain ⟨a4, c4, e4, _, _⟩ := hQ4.rd.len
      rw [row_length] at e4
      subst e4
      clear hown4 hgrow4 hsn4 hOa hal hB3 hQ3 HO3 HNE3
      go_wp2_with fail
      refine (twoQ x _).mono ?_
      rintro e w5 ⟨rfl, q5, rfl⟩
      have hB5 := below_drewN hB4 q5
      have hO5 := hO4.old (below_drewN (Below.refl _ _) q5)
      have hQ5 := hQ4.old (below_drewN (Below.refl _ _) q5)
      clear hO4 hQ4 hB4
      rw [HG2.out]
      go_wp2
      go_roundw
      case rel => exact ⟨i + 1, by omega, rfl, by go_num, hO5, hQ5, hne4, hB5⟩
      case measure => simp [intOf]; omega
    · obtain rfl : i = n := by omega
      have C1 := rmix_any (.slice ao i cap) (.slice a1 i c1) i L D (fun _ => 1) wr (HH.out.old hB) hO.rd hn (by omega) hL
      rw [row_congr (g := pp i D) (fun l _ => sm_congr i (fun j _ => one_ti _))] at C1
      have HQ : Hid (Ow w.heap.size wr (.slice a2 i c2) (row g2 i)) := hQ
      obtain ⟨s0, hs0⟩ : ∃ s, s = st (row (pp i D) L) := ⟨_, rfl⟩
      have HS0 : Hid (s0 = st (row (pp i D) L)) := hs0
      rw [← hs0] at C1
      clear hO hQ hs0 hne
      go_wp2_with fail
      refine C1.mono ?_
      rintro e w3 ⟨rfl, hB3⟩
      have hB03 := hB.trans (hB3.mono hB.size)
      have C2 := rmix_any (.slice ao i cap) (.slice a2 i c2) i L D g2 w3 (HH.out.old hB03) (HQ.out.old hB3).rd hn (by omega) hL
      obtain ⟨s1, hs1⟩ : ∃ s, s = st (row (qq i D) L) := ⟨_, rfl⟩
      have HS1 : Hid (s1 = st (row (qq i D) L)) := hs1
      rw [show (fun l => sm i (fun j => ti (g2 j) (D j l))) = qq i D from rfl, ← hs1] at C2
      clear C1 hB3 hB hs1
      go_wp2_with fail
      refine C2.mono ?_
      rintro e w4 ⟨rfl, hB4⟩
      have hB04 := hB03.trans (hB4.mono hB03.size)
      clear C2 hB4 hB03
      go_wp2
      go_ret2
      exact ⟨by rw [HS0.out, HS1.out]; rfl, hB04⟩
end Go.Proofs.YtjlfaoemejaphacDoor
