/- Texts of plain mathematics, of memory and of walks, in one. -/
import Derived.Test.YteafakgjfmbhoaaGreatDoorRr
import Derived.Test.YteafakgjfmbhoaaGreatDoorPa
import Derived.Test.YteafakgjfmbhoaaGreatDoorRg
/- A block of the document's array is read: a walk over the program. -/
namespace Go.Proofs.YteafakgjfmbhoaaGreatDoor
open Go.RowKit El Pol Mx Lay
set_option maxRecDepth 100000 in
set_option maxHeartbeats 4000000 in
theorem ra_read {w : World} {x : RAd} {a : Arr} (h : RA w x a) (ho : a.ok) (b : Int) :
    Calls Tryz.prog 26 #[.pointer (some ⟨x.p, 0, none⟩), .int .i64 b] w fun e w' => e = .returned (.tuple #[st (a.readT b), .int .i64 (a.readE b)]) ∧ Below w.heap.size w w' := by
  have HP : Hid (RA w x a) := h
  have c0 := h.c0
  have c1 := h.c1
  have hn1 := ho.1.1
  have hn2 := ho.1.2
  have hr2 := ho.2.1.2
  by_cases q : a.noB b
  · obtain ⟨e1, e2⟩ := Arr.read_no q
    rw [e1, e2]
    obtain ⟨c, m, ⟨hs, hm, hm160⟩, hq⟩ := noB_facts ho q
    clear h ho q e1 e2
    by_cases q1 : b < 0
    · clear hq
      go_enter Tryz.func26, Tryz.ntmps26
      go_wp2
      go_ret2
      exact ⟨rfl, Below.refl _ _⟩
    · have hq2 : (m : Int) ≤ b := hq.resolve_left q1
      clear hq
      go_enter Tryz.func26, Tryz.ntmps26
      go_wp2
      go_ret2
      exact ⟨rfl, Below.refl _ _⟩
  · obtain ⟨k, c, m, rfl, ⟨hs, hm, hm160, hkm⟩, ⟨hc0, hc1⟩, hdiv, hmod, hrw, hix, hcn⟩ := block_facts ho q
    have R := ra_raw h ho _ hrw
    have hdiv0 : (0 : Int) ≤ (k : Int) / (c : Int) := by rw [hdiv]; omega
    have hdiv1 : (k : Int) / (c : Int) ≤ (k : Int) := Int.ediv_le_self _ (by omega)
    have hmod0 : (0 : Int) ≤ (k : Int) % (c : Int) := by rw [hmod]; omega
    have hmod1 : (k : Int) % (c : Int) < (c : Int) := by rw [hmod]; omega
    have hixn : ((a.ix' (k : Int) : Nat) : Int) < (a.n : Int) := by omega
    cases hl : a.lo (a.rw' (k : Int)) (a.ix' (k : Int)) with
    | false =>
      obtain ⟨e1, e2⟩ := Arr.read_left q hl
      rw [e1, e2]
      have HPt : Hid (a.part (a.rw' (k : Int)) (a.ix' (k : Int)) = a.cell (ord a.n (a.rw' (k : Int)) (a.ix' (k : Int))) (a.rw' (k : Int))) := by (show _ = _); unfold Arr.part; rw [hl, if_neg Bool.false_ne_true]
      have HLo : Hid (a.lo (a.rw' (k : Int)) (a.ix' (k : Int)) = false) := hl
      clear h ho q e1 e2 hl hcn
      generalize a.cell (ord a.n (a.rw' (k : Int)) (a.ix' (k : Int))) (a.rw' (k : Int)) = t at *
      generalize a.ix' (k : Int) = i at *
      generalize a.rw' (k : Int) = r at *
      go_enter Tryz.func26, Tryz.ntmps26
      go_wp2_with fail
      refine R.mono ?_
      rintro e w1 ⟨g1, cc1, g2, cc2, rfl, ⟨p1, p2, p3, p4⟩, h1, h2, _, hB⟩
      have k1 := (h1.2 i (by omega)).1
      have k2 := (h2.2 i (by omega)).1
      dsimp only at k1 k2
      rw [HPt.out] at k1
      rw [HLo.out] at k2
      clear R h1 h2
      go_wp2
      go_ret2
      exact ⟨rfl, hB⟩
    | true =>
      have HLo : Hid (a.lo (a.rw' (k : Int)) (a.ix' (k : Int)) = true) := hl
      have HL : Hid (∀ w', RA w' x a → Calls Tryz.prog 32 #[.pointer (some ⟨x.p, 0, none⟩), .int .i64 (a.rw' (k : Int))] w' fun e w'' => e = .returned (.int .i64 (a.nl (a.rw' (k : Int)))) ∧ w'' = w') := fun w' h' => ra_lost h' ho _
      by_cases h2 : 2 < a.nl (a.rw' (k : Int))
      · obtain ⟨e1, e2⟩ := Arr.read_lost q hl h2
        rw [e1, e2]
        have h2' : (2 : Int) < ((a.nl (a.rw' (k : Int)) : Nat) : Int) := by omega
        clear h ho q e1 e2 hl hcn h2
        generalize a.nl (a.rw' (k : Int)) = z at *
        generalize a.ix' (k : Int) = i at *
        generalize a.rw' (k : Int) = r at *
        go_enter Tryz.func26, Tryz.ntmps26
        go_wp2_with fail
        refine R.mono ?_
        rintro e w1 ⟨g1, cc1, g2, cc2, rfl, ⟨p1, p2, p3, p4⟩, h1, h2, _, hB⟩
        have k2 := (h2.2 i (by omega)).1
        dsimp only at k2
        rw [HLo.out] at k2
        have L := HL.out w1 (HP.out.old hB)
        clear R h1 h2
        go_wp2_with fail
        refine L.mono ?_
        rintro e w2 ⟨rfl, hw⟩
        obtain rfl := hw.symm
        clear L
        go_wp2
        go_ret2
        exact ⟨rfl, hB⟩
      · obtain ⟨e1, e2⟩ := Arr.read_heal q hl h2
        rw [e1, e2]
        have h2' : ¬ (2 : Int) < ((a.nl (a.rw' (k : Int)) : Nat) : Int) := by omega
        have HH : Hid (∀ (w' : World) (g1 g2 c1 c2 : Nat), RowAt w' g1 a.n (fun i => st (a.part (a.rw' (k : Int)) i)) → RowAt w' g2 a.n (fun i => .bool (a.lo (a.rw' (k : Int)) i)) → (a.n ≤ c1 ∧ c1 ≤ 9223372036854775807 ∧ a.n ≤ c2 ∧ c2 ≤ 9223372036854775807) → Calls Tryz.prog 47 #[.slice (some ⟨g1, 0, none⟩) a.n c1, .slice (some ⟨g2, 0, none⟩) a.n c2] w' fun e w'' => ∃ (g c : Nat), e = .returned (.slice (some ⟨g, 0, none⟩) a.n c) ∧ (w''.cell? ⟨g, a.ix' (k : Int), none⟩ = some (st (a.heal (a.rw' (k : Int)) (a.ix' (k : Int))))) ∧ Below w'.heap.size w' w'') := fun w' g1 g2 c1 c2 u1 u2 u3 =>
          (ra_heal ho _ hrw (by omega) u1 u2 u3).mono fun e w'' ⟨g, cc, he, _, k3, _, k5⟩ => ⟨g, cc, he, (k3.2 _ (by omega)).1, k5⟩
        obtain ⟨t, ht⟩ : ∃ t, t = a.heal (a.rw' (k : Int)) (a.ix' (k : Int)) := ⟨_, rfl⟩
        rw [← ht]
        rw [← ht] at HH
        clear h ho q e1 e2 hl hcn h2 ht
        generalize a.nl (a.rw' (k : Int)) = z at *
        generalize a.ix' (k : Int) = i at *
        generalize a.rw' (k : Int) = r at *
        go_enter Tryz.func26, Tryz.ntmps26
        go_wp2_with fail
        refine R.mono ?_
        rintro e w1 ⟨g1, cc1, g2, cc2, rfl, hcc, h1, h2, _, hB⟩
        have k2 := (h2.2 i (by omega)).1
        dsimp only at k2
        rw [HLo.out] at k2
        have L := HL.out w1 (HP.out.old hB)
        have H := HH.out (w1.drew) g1 g2 cc1 cc2 (h1.old (Below.refl _ _).drew) (h2.old (Below.refl _ _).drew) hcc
        obtain ⟨p1, p2, p3, p4⟩ := hcc
        have HB : Hid (Below w.heap.size w w1) := hB
        clear R h1 h2 HH hB
        go_wp2_with fail
        refine L.mono ?_
        rintro e w2 ⟨rfl, hw⟩
        obtain rfl := hw.symm
        clear L
        go_wp2
        go_region_with (first | (go_at_call 47; refine H.mono ?_; rintro e w3 ⟨g, cc, rfl, hcell, hB3⟩))
        all_goals
          go_wp2
          go_ret2
          exact ⟨rfl, (HB.out.drew).trans (hB3.mono HB.out.size)⟩
end Go.Proofs.YteafakgjfmbhoaaGreatDoor

/- The next row of a disk of the document's array is built: a walk over the program. -/
namespace Go.Proofs.YteafakgjfmbhoaaGreatDoor
open Go.RowKit El Pol Mx Lay
/-- a cell of a row is another one, once its turn has been -/
def bx (a : Arr) (d r : Nat) (t : List El) (i : Nat) : Arr := if pos a.n r d < i then { a with cell := fun e s => if e = d ∧ s = r then t else a.cell e s } else a
theorem bx_same (a : Arr) (d r : Nat) (t : List El) (i : Nat) : (bx a d r t i).n = a.n ∧ (bx a d r t i).rows = a.rows ∧ (bx a d r t i).built = a.built := by unfold bx; split <;> exact ⟨rfl, rfl, rfl⟩
theorem bx_next {a : Arr} {d r : Nat} {t : List El} {i : Nat} (h : pos a.n r d ≠ i) : bx a d r t (i + 1) = bx a d r t i := by
  unfold bx
  by_cases q : pos a.n r d < i
  · rw [if_pos q, if_pos (by omega)]
  · rw [if_neg q, if_neg (by omega)]
theorem bx_at (a : Arr) (d r : Nat) (t : List El) : bx a d r t (pos a.n r d) = a ∧ bx a d r t (pos a.n r d + 1) = { a with cell := fun e s => if e = d ∧ s = r then t else a.cell e s } := by
  unfold bx
  exact ⟨if_neg (by omega), if_pos (by omega)⟩
structure RbS (w : World) (x : RAd) (a : Arr) (d r : Nat) (t : List El) (g0 gl i : Nat) (wr : World) : Prop where
  but : But (x.F a.n) w wr
  ra : RA wr x (bx a d r t i)
  ord : RowAt wr g0 a.n (fun i => vi ((ord a.n r i : Nat) : Int))
  hl : RowAt wr gl a.n (fun i => st (a.heal r i))
  out : ∀ k, x.F a.n k → k ≠ g0 ∧ k ≠ gl
namespace RbS
variable {w wr : World} {x : RAd} {a : Arr} {d r : Nat} {t : List El} {g0 gl i : Nat}
theorem skip (s : RbS w x a d r t g0 gl i wr) (h : pos a.n r d ≠ i) : RbS w x a d r t g0 gl (i + 1) wr := ⟨s.but, by rw [bx_next h]; exact s.ra, s.ord, s.hl, s.out⟩
theorem put (s : RbS w x a d r t g0 gl i wr) (h : i = pos a.n r d) (hd : d < a.n) (m : Nat) : RbS w x a d r t g0 gl (i + 1) ((wr.drewN m).setCell ⟨x.h d, r, none⟩ (st t)) := by
  have hra := s.ra
  subst h
  rw [(bx_at a d r t).1] at hra
  have hb : But (x.F a.n) wr ((wr.drewN m).setCell ⟨x.h d, r, none⟩ (st t)) := ((But.refl _ _).drewN m).trans (RAd.buth hd (but_cell _ _ _ _)) (Grows.refl _ _)
  refine ⟨s.but.trans hb (Grows.refl _ _), ?_, s.ord.but hb (fun q => (s.out _ q).1 rfl), s.hl.but hb (fun q => (s.out _ q).2 rfl), s.out⟩
  rw [(bx_at a d r t).2]
  exact (hra.drewN m).putCell d r hd t
end RbS
set_option maxRecDepth 100000 in
set_option maxHeartbeats 4000000 in
theorem ra_rebuild {w : World} {x : RAd} {a : Arr} (h : RA w x a) (ho : a.ok) (d : Int) :
    Calls Tryz.prog 30 #[.pointer (some ⟨x.p, 0, none⟩), .int .i64 d] w fun e w' => e = .returned (.tuple #[.int .i64 (a.rebuildN d), .int .i64 (a.rebuildE d)]) ∧ RA w' x (a.rebuild d) ∧ But (x.F a.n) w w' := by
  have HP : Hid (RA w x a) := h
  have c0 := h.c0
  by_cases q : a.noD d
  · have e1 : a.rebuildE d = 1 := if_pos q
    obtain ⟨e2, e3⟩ := Arr.rebuild_no (a := a) (d := d) (by omega)
    rw [e1, e2, e3]
    clear h e1 e2 e3
    by_cases q1 : d < 0
    · clear q
      go_enter Tryz.func30, Tryz.ntmps30
      go_wp2
      go_ret2
      exact ⟨rfl, HP.out, But.refl _ _⟩
    · have q2 : (a.n : Int) ≤ d := q.resolve_left q1
      clear q
      go_enter Tryz.func30, Tryz.ntmps30
      go_wp2
      go_ret2
      exact ⟨rfl, HP.out, But.refl _ _⟩
  · obtain ⟨k, rfl, hk⟩ := Arr.noD_nat q
    have c1 := h.c1
    have c4 := h.c4
    have c5 := h.c5
    obtain ⟨f, fz⟩ := h.fl k hk
    obtain ⟨b, bz⟩ := h.bt k hk
    have hkn : (k : Int) < (a.n : Int) := by omega
    have hE := Arr.rebuildE_nat hk
    have hbr := ho.2.2.2.2 k hk
    cases hf : a.failed k with
    | true =>
      rw [if_pos (.inl hf)] at hE
      obtain ⟨e2, e3⟩ := Arr.rebuild_no (a := a) (d := (k : Int)) (by omega)
      rw [hE, e2, e3]
      rw [hf] at f
      clear h q e2 e3 hE hf
      go_enter Tryz.func30, Tryz.ntmps30
      go_wp2
      go_quiet (fail)
      go_wp2
      go_ret2
      exact ⟨rfl, HP.out.drewN _, (But.refl _ _).drewN _⟩
    | false =>
      rw [hf] at f
      by_cases hb : a.built k = a.rows
      · rw [if_pos (.inr hb)] at hE
        obtain ⟨e2, e3⟩ := Arr.rebuild_no (a := a) (d := (k : Int)) (by omega)
        rw [hE, e2, e3]
        rw [hb] at b
        clear h q e2 e3 hE hf hb
        go_enter Tryz.func30, Tryz.ntmps30
        go_wp2
        go_quiet (fail)
        go_wp2
        go_ret2
        exact ⟨rfl, HP.out.drewN _, (But.refl _ _).drewN _⟩
      · rw [if_neg (by rw [hf]; rintro (z | z); · cases z
                       · exact hb z)] at hE
        have hbn : ¬ ((a.built k : Nat) : Int) = ((a.rows : Nat) : Int) := by omega
        have hrb : a.built k < a.rows := by omega
        have HLo : Hid (∀ w', RA w' x a → Calls Tryz.prog 32 #[.pointer (some ⟨x.p, 0, none⟩), .int .i64 (a.built k)] w' fun e w'' => e = .returned (.int .i64 (a.nl (a.built k))) ∧ w'' = w') := fun w' h' => ra_lost h' ho _
        by_cases h3 : 2 < a.nl (a.built k)
        · rw [if_pos h3] at hE
          obtain ⟨e2, e3⟩ := Arr.rebuild_no (a := a) (d := (k : Int)) (by omega)
          rw [hE, e2, e3]
          have h3' : (2 : Int) < ((a.nl (a.built k) : Nat) : Int) := by omega
          clear h q e2 e3 hE hf hb h3
          generalize a.nl (a.built k) = z at *
          generalize a.built k = r at *
          go_enter Tryz.func30, Tryz.ntmps30
          go_wp2
          go_quiet (fail)
          have L := HLo.out _ (HP.out.drewN nq)
          go_wp2_with fail
          refine L.mono ?_
          rintro e w2 ⟨rfl, hw⟩
          subst hw
          clear L
          go_wp2
          go_ret2
          exact ⟨rfl, HP.out.drewN _, (But.refl _ _).drewN _⟩
        · rw [if_neg h3] at hE
          obtain ⟨e2, e3⟩ := Arr.rebuild_yes hE
          rw [hE, e2, e3]
          have h3' : ¬ (2 : Int) < ((a.nl (a.built k) : Nat) : Int) := by omega
          have HRw : Hid (∀ w', RA w' x a → _) := fun w' h' => ra_raw h' ho _ hrb
          have HHl : Hid (∀ (w' : World) (g1 g2 c1 c2 : Nat), RowAt w' g1 a.n (fun i => st (a.part (a.built k) i)) → RowAt w' g2 a.n (fun i => .bool (a.lo (a.built k) i)) → (a.n ≤ c1 ∧ c1 ≤ 9223372036854775807 ∧ a.n ≤ c2 ∧ c2 ≤ 9223372036854775807) → _) := fun w' g1 g2 c1 c2 u1 u2 u3 => ra_heal ho _ hrb (by omega) (w := w') (g1 := g1) (g2 := g2) (c1 := c1) (c2 := c2) u1 u2 u3
          obtain ⟨hn1, hn2⟩ := ho.1
          have hr20 := ho.2.1.2
          have HOr : Hid (∀ w', _) := fun w' => rlayout_any a.n (a.built k) hn1 hn2 (by omega) w'
          have hpos : pos a.n (a.built k) k < a.n := pos_lt hn1
          have HI : Hid (∀ i, i < a.n → ((((ord a.n (a.built k) i : Nat) : Int) == (k : Int)) = true ∧ i = pos a.n (a.built k) k) ∨ ((((ord a.n (a.built k) i : Nat) : Int) == (k : Int)) = false ∧ pos a.n (a.built k) k ≠ i)) := fun i hi => by
            by_cases z : i = pos a.n (a.built k) k
            · refine .inl ⟨?_, z⟩
              rw [beq_iff_eq, z, ord_pos hn1 hn2 hk]
            · refine .inr ⟨?_, fun z2 => z z2.symm⟩
              rw [beq_eq_false_iff_ne]
              intro z2
              have z3 : ord a.n (a.built k) i = k := by omega
              have z4 := pos_ord (r := a.built k) hn1 hn2 hi
              rw [z3] at z4
              exact z z4.symm
          have HFin : Hid (∀ W wr, RA wr x (bx a k (a.built k) (a.heal (a.built k) (pos a.n (a.built k) k)) a.n) → But (x.F a.n) W wr → (wr.cell? ⟨x.g2, k, none⟩ = some (.int .i64 (a.built k)) ∧ wr.frozen? ⟨x.g2, k, none⟩ = false ∧ wr.cell? ⟨x.p, 5, none⟩ = some (.slice (some ⟨x.g2, 0, none⟩) a.n x.c2)) ∧ ((wr.setCell ⟨x.g2, k, none⟩ (.int .i64 ((a.built k : Nat) + 1 : Int))).cell? ⟨x.p, 1, none⟩ = some (.int .i64 a.rows) ∧ (wr.setCell ⟨x.g2, k, none⟩ (.int .i64 ((a.built k : Nat) + 1 : Int))).cell? ⟨x.p, 5, none⟩ = some (.slice (some ⟨x.g2, 0, none⟩) a.n x.c2)) ∧
              RA (wr.setCell ⟨x.g2, k, none⟩ (.int .i64 ((a.built k : Nat) + 1 : Int))) x { a with cell := fun e r => if e = k ∧ r = a.built e then a.heal r (pos a.n r e) else a.cell e r, built := up a.built k (a.built k + 1) } ∧ But (x.F a.n) W (wr.setCell ⟨x.g2, k, none⟩ (.int .i64 ((a.built k : Nat) + 1 : Int)))) := fun W wr hra hbut => by
            rw [bx, if_pos hpos] at hra
            obtain ⟨b1, b2⟩ := hra.bt k hk
            have := hra.putBuilt k (a.built k + 1)
            rw [Int.natCast_add] at this
            refine ⟨⟨b1, b2, hra.c5⟩, ⟨this.c1, this.c5⟩, ?_, hbut.trans (RAd.but2 (but_cell _ _ _ _)) (Grows.refl _ _)⟩
            refine RA.congr this rfl rfl rfl (fun e s he hs => ?_) (fun _ _ => rfl) (fun _ _ => rfl)
            show (if e = k ∧ s = a.built e then a.heal s (pos a.n s e) else a.cell e s) = if e = k ∧ s = a.built k then a.heal (a.built k) (pos a.n (a.built k) k) else a.cell e s
            by_cases z : e = k
            · subst z
              by_cases z2 : s = a.built e
              · rw [if_pos ⟨rfl, z2⟩, if_pos ⟨rfl, z2⟩, z2]
              · rw [if_neg (fun y => z2 y.2), if_neg (fun y => z2 y.2)]
            · rw [if_neg (fun y => z y.1), if_neg (fun y => z y.1)]
          have HLT : Hid (∀ y, x.F a.n y → y < w.heap.size) := h.lt
          have hrows := ho.2.1.2
          clear h q hE hf hb h3 e2 e3 ho
          generalize ({ a with cell := fun e r => if e = k ∧ r = a.built e then a.heal r (pos a.n r e) else a.cell e r, built := up a.built k (a.built k + 1) } : Arr) = a' at *
          generalize a.nl (a.built k) = z at *
          obtain ⟨t, ht⟩ : ∃ t, t = a.heal (a.built k) (pos a.n (a.built k) k) := ⟨_, rfl⟩
          have HT : Hid (t = a.heal (a.built k) (pos a.n (a.built k) k)) := ht
          rw [← ht] at HFin
          clear ht
          generalize a.built k = r at *
          have hrb' : (r : Int) < (a.rows : Int) := by omega
          go_enter Tryz.func30, Tryz.ntmps30
          go_wp2
          go_quiet (fail)
          have L := HLo.out _ (HP.out.drewN nq)
          have R := HRw.out _ (HP.out.drewN nq)
          go_wp2_with fail
          refine L.mono ?_
          rintro e w2 ⟨rfl, hw⟩
          subst hw
          clear L HLo HRw
          go_wp2_with fail
          refine R.mono ?_
          rintro e w2 ⟨g1, cc1, g2, cc2, rfl, hcc, u1, u2, _, hB2⟩
          have H := HHl.out w2 g1 g2 cc1 cc2 u1 u2 hcc
          have hB2' : Below w.heap.size w w2 := (below_drewN (Below.refl w.heap.size w) nq).trans hB2
          clear R HHl u1 u2 hB2 hcc
          go_wp2_with fail
          refine H.mono ?_
          rintro e w3 ⟨gl, cl', rfl, ⟨ql1, ql2⟩, hl, hgl, hB3⟩
          have hB3' := hB2'.trans (hB3.mono hB2'.size)
          have c0' := (HP.out.old hB3').c0
          have O := HOr.out w3
          have hgl' := Nat.le_trans hB2'.size hgl
          have Hl : Hid (RowAt w3 gl a.n (fun i => st (a.heal r i))) := hl
          clear H HOr hl hgl hB3 hB2' c0
          go_wp2_with fail
          refine O.mono ?_
          rintro e w4 ⟨v4, rfl, hO, hB4⟩
          obtain ⟨g0, cap, rfl, hc1, hc2, hg0, hR0⟩ := rowAt_own hO (by omega)
          have hB4' := hB3'.trans (hB4.mono hB3'.size)
          have HS0 : Hid (RbS w x a k r t g0 gl 0 w4) := ⟨Below.but hB4' _, by rw [bx, if_neg (by omega)]; exact HP.out.old hB4', hR0, Hl.out.old hB4, fun y hy => by
            have h1 := HLT.out y hy
            have h2 := hB3'.size
            exact ⟨by omega, by omega⟩⟩
          clear O hO hR0 hB4 hB4' hB3' Hl c0' hg0 hgl' HP HLT
          go_wp2
          go_loopw [11] (fun tt wr => ∃ i : Nat, i ≤ a.n ∧ tt = .int .i64 i ∧ RbS w x a k r t g0 gl i wr) (fun tt _ => a.n - (intOf tt).toNat)
          case atStart => exact ⟨0, Nat.zero_le _, rfl, HS0.out⟩
          case round =>
            clear HS0
            obtain ⟨i, hi, rfl, hS⟩ := hrel
            by_cases hlt : i < a.n
            · have k0 := (hS.ord.2 i hlt).1
              have hlt' : (i : Int) < (a.n : Int) := by omega
              dsimp only at k0
              rcases HI.out i hlt with ⟨e1, e2⟩ | ⟨e1, e2⟩
              · have hra := hS.ra
                rw [e2, (bx_at a k r t).1] at hra
                have c3 := hra.c3
                have dk := hra.dk k hk
                obtain ⟨cl, cf⟩ := hra.cl k r hk hrb
                have k1 := (hS.hl.2 i hlt).1
                dsimp only at k1
                rw [e2, ← HT.out, ← e2] at k1
                have HN : Hid (∀ m, RbS w x a k r t g0 gl (i + 1) ((wr.drewN m).setCell ⟨x.h k, r, none⟩ (st t))) := fun m => hS.put e2 hk m
                generalize ((ord a.n r i : Nat) : Int) = y at *
                clear hra hS e2
                go_upto_region 15 with fail
                refine region_tail 13 (by kernel_rfl) (by kernel_rfl) ?_
                simp only [List.take_succ_cons, List.take_zero, List.drop_succ_cons, List.drop_zero]
                repeat (go_big_quiet_step (fail))
                refine wpQuiet_nil ?_
                intro w9 hw9
                obtain ⟨nr, rfl⟩ := hw9
                have HN2 : Hid (RbS w x a k r t g0 gl (i + 1) ((wr.drewN nr).setCell ⟨x.h k, r, none⟩ (st t))) := HN.out nr
                clear HN
                go_wp2
                go_roundw
                case rel => exact ⟨i + 1, by omega, by go_num, HN2.out⟩
                case measure => simp [intOf]; omega
              · have HN : Hid (RbS w x a k r t g0 gl (i + 1) wr) := hS.skip e2
                generalize ((ord a.n r i : Nat) : Int) = y at *
                clear hS e2
                go_wp2
                go_roundw
                case rel => exact ⟨i + 1, by omega, by go_num, HN.out⟩
                case measure => simp [intOf]; omega
            · have e : a.n = i := by omega
              have hge : ¬ (i : Int) < (a.n : Int) := by omega
              rw [← e] at hS
              obtain ⟨⟨b1, b2, b3⟩, ⟨b4, b5⟩, r1, r2⟩ := HFin.out w wr hS.ra hS.but
              have HF : Hid (RA (wr.setCell ⟨x.g2, k, none⟩ (.int .i64 ((r : Nat) + 1 : Int))) x a' ∧ But (x.F a.n) w (wr.setCell ⟨x.g2, k, none⟩ (.int .i64 ((r : Nat) + 1 : Int)))) := ⟨r1, r2⟩
              have hrows' : (a.rows : Int) ≤ 20 := by omega
              clear hS r1 r2 HFin HI e HT
              go_wp2
              go_quiet (fail)
              go_wp2
              go_ret2
              exact ⟨ret_int2 (by omega), HF.out.1.drewN _, HF.out.2.drewN _⟩
end Go.Proofs.YteafakgjfmbhoaaGreatDoor

/- A block of the document's array is written: a walk over the program. -/
namespace Go.Proofs.YteafakgjfmbhoaaGreatDoor
open Go.RowKit El Pol Mx Lay
/-- the first i parts of a row are written, as far as they are not lost -/
noncomputable def wx (a : Arr) (r ix : Nat) (t : List El) (i : Nat) : Arr := { a with cell := fun e s => if s = r ∧ e < a.n ∧ a.gone e s = false ∧ pos a.n s e < i then a.newP r ix t (pos a.n s e) else a.cell e s }
structure WxS (w : World) (x : RAd) (a : Arr) (r ix : Nat) (t : List El) (g0 gl g2 i : Nat) (wr : World) : Prop where
  but : But (x.F a.n) w wr
  ra : RA wr x (wx a r ix t i)
  ord : RowAt wr g0 a.n (fun j => vi ((ord a.n r j : Nat) : Int))
  hl : RowAt wr gl a.n (fun j => st (a.newP r ix t j))
  lo : RowAt wr g2 a.n (fun j => .bool (a.lo r j))
  out : ∀ k, x.F a.n k → k ≠ g0 ∧ k ≠ gl ∧ k ≠ g2
namespace WxS
variable {w wr : World} {x : RAd} {a : Arr} {r ix : Nat} {t : List El} {g0 gl g2 i : Nat}
theorem skip (s : WxS w x a r ix t g0 gl g2 i wr) (ho : a.ok) (hl : a.lo r i = true) : WxS w x a r ix t g0 gl g2 (i + 1) wr := by
  refine ⟨s.but, s.ra.congr rfl rfl rfl (fun e q he _ => ?_) (fun _ _ => rfl) (fun _ _ => rfl), s.ord, s.hl, s.lo, s.out⟩
  show (if q = r ∧ e < a.n ∧ a.gone e q = false ∧ pos a.n q e < i + 1 then a.newP r ix t (pos a.n q e) else a.cell e q) = if q = r ∧ e < a.n ∧ a.gone e q = false ∧ pos a.n q e < i then a.newP r ix t (pos a.n q e) else a.cell e q
  by_cases z : q = r ∧ e < a.n ∧ a.gone e q = false ∧ pos a.n q e < i + 1
  · obtain ⟨z1, z2, z3, z4⟩ := z
    have hne : pos a.n q e ≠ i := fun y => by
      have h1 := ord_pos (r := q) ho.1.1 ho.1.2 z2
      rw [y, z1] at h1
      unfold Arr.lo at hl
      rw [h1, ← z1, z3] at hl
      cases hl
    rw [if_pos ⟨z1, z2, z3, z4⟩, if_pos ⟨z1, z2, z3, by omega⟩]
  · rw [if_neg z, if_neg (fun y => z ⟨y.1, y.2.1, y.2.2.1, by omega⟩)]
theorem put (s : WxS w x a r ix t g0 gl g2 i wr) (ho : a.ok) (hi : i < a.n) (hl : a.lo r i = false) (m : Nat) : WxS w x a r ix t g0 gl g2 (i + 1) ((wr.drewN m).setCell ⟨x.h (Lay.ord a.n r i), r, none⟩ (st (a.newP r ix t i))) := by
  have hd : Lay.ord a.n r i < a.n := ord_lt ho.1.1
  have hb : But (x.F a.n) wr ((wr.drewN m).setCell ⟨x.h (Lay.ord a.n r i), r, none⟩ (st (a.newP r ix t i))) := ((But.refl _ _).drewN m).trans (RAd.buth hd (but_cell _ _ _ _)) (Grows.refl _ _)
  refine ⟨s.but.trans hb (Grows.refl _ _), ((s.ra.drewN m).putCell (Lay.ord a.n r i) r hd (a.newP r ix t i)).congr rfl rfl rfl (fun e q he _ => ?_) (fun _ _ => rfl) (fun _ _ => rfl), s.ord.but hb (fun q => (s.out _ q).1 rfl), s.hl.but hb (fun q => (s.out _ q).2.1 rfl), s.lo.but hb (fun q => (s.out _ q).2.2 rfl), s.out⟩
  show (if q = r ∧ e < a.n ∧ a.gone e q = false ∧ pos a.n q e < i + 1 then a.newP r ix t (pos a.n q e) else a.cell e q) = if e = Lay.ord a.n r i ∧ q = r then a.newP r ix t i else if q = r ∧ e < a.n ∧ a.gone e q = false ∧ pos a.n q e < i then a.newP r ix t (pos a.n q e) else a.cell e q
  by_cases z : e = Lay.ord a.n r i ∧ q = r
  · obtain ⟨z1, z2⟩ := z
    have hp : pos a.n q e = i := by rw [z1, z2]; exact pos_ord ho.1.1 ho.1.2 hi
    have hg : a.gone e q = false := by rw [z1, z2]; exact hl
    rw [if_pos ⟨z2, he, hg, by omega⟩, if_pos ⟨z1, z2⟩, hp]
  · rw [if_neg z]
    by_cases y : q = r ∧ e < a.n ∧ a.gone e q = false ∧ pos a.n q e < i
    · rw [if_pos y, if_pos ⟨y.1, y.2.1, y.2.2.1, by omega⟩]
    · rw [if_neg y, if_neg]
      rintro ⟨y1, y2, y3, y4⟩
      have hpi : pos a.n q e = i := by
        rcases Nat.lt_or_ge (pos a.n q e) i with u | u
        · exact absurd ⟨y1, y2, y3, u⟩ y
        · omega
      have h1 := ord_pos (r := q) ho.1.1 ho.1.2 y2
      rw [hpi, y1] at h1
      exact z ⟨h1.symm, y1⟩
end WxS
theorem newP_row {a : Arr} {r i j : Nat} {t : List El} (ht : t.length = a.size) : st (row (mx (up (a.heal r) i t) j) a.size) = st (up (a.heal r) i t j) := by
  have h : row (mx (up (a.heal r) i t) j) a.size = up (a.heal r) i t j := by
    have hlen : (up (a.heal r) i t j).length = a.size := by
      unfold up
      split
      · exact ht
      · exact Arr.heal_len _ _ _
    have := row_co (up (a.heal r) i t j)
    rw [hlen] at this
    exact this
  rw [h]
set_option maxRecDepth 100000 in
set_option maxHeartbeats 4000000 in
theorem ra_write_bad {w : World} {x : RAd} {a : Arr} (h : RA w x a) (ho : a.ok) (b : Int) (t : List El) (he : a.writeE b t.length ≠ 0) :
    Calls Tryz.prog 27 #[.pointer (some ⟨x.p, 0, none⟩), .int .i64 b, st t] w fun e w' => e = .returned (.int .i64 (a.writeE b t.length)) ∧ RA w' x a ∧ But (x.F a.n) w w' := by
  have HP : Hid (RA w x a) := h
  have c0 := h.c0
  have c1 := h.c1
  have c2 := h.c2
  have hn1 := ho.1.1
  have hn2 := ho.1.2
  have hr2 := ho.2.1.2
  have hsl : (sb t).size = t.length := sb_size t
  by_cases q : a.noB b
  · rw [show a.writeE b t.length = 1 from if_pos q]
    obtain ⟨c, m, ⟨hs, hm, hm160⟩, hq⟩ := noB_facts ho q
    clear h ho q he
    by_cases q1 : b < 0
    · clear hq
      go_enter Tryz.func27, Tryz.ntmps27
      go_wp2
      go_ret
      exact ⟨rfl, HP.out, But.refl _ _⟩
    · have hq2 : (m : Int) ≤ b := hq.resolve_left q1
      clear hq
      go_enter Tryz.func27, Tryz.ntmps27
      go_wp2
      go_ret
      exact ⟨rfl, HP.out, But.refl _ _⟩
  · obtain ⟨k, c, m, rfl, ⟨hs, hm, hm160, hkm⟩, ⟨hc0, hc1⟩, hdiv, hmod, hrw, hix, hcn⟩ := block_facts ho q
    have hdiv0 : (0 : Int) ≤ (k : Int) / (c : Int) := by rw [hdiv]; omega
    have hdiv1 : (k : Int) / (c : Int) ≤ (k : Int) := Int.ediv_le_self _ (by omega)
    by_cases hx : t.length = a.size
    · have h2 : 2 < a.nl (a.rw' (k : Int)) := by
        unfold Arr.writeE at he
        rw [if_neg q, if_pos hx] at he
        split at he
        · assumption
        · exact absurd rfl he
      rw [show a.writeE (k : Int) t.length = 8 by unfold Arr.writeE; rw [if_neg q, if_pos hx, if_pos h2]]
      have L := ra_lost h ho (a.rw' (k : Int))
      have h2' : (2 : Int) < ((a.nl (a.rw' (k : Int)) : Nat) : Int) := by omega
      have hle : (sb t).size = a.size := by rw [hsl, hx]
      clear h ho q he hx hsl h2 hcn
      generalize a.nl (a.rw' (k : Int)) = z at *
      generalize a.ix' (k : Int) = i at *
      generalize a.rw' (k : Int) = r at *
      go_enter Tryz.func27, Tryz.ntmps27
      go_wp2_with fail
      refine L.mono ?_
      rintro e w2 ⟨rfl, hw⟩
      obtain rfl := hw.symm
      clear L
      go_wp2
      go_ret
      exact ⟨rfl, HP.out, But.refl _ _⟩
    · rw [show a.writeE (k : Int) t.length = 3 by unfold Arr.writeE; rw [if_neg q, if_neg hx]]
      have hne : ¬ ((t.length : Nat) : Int) = (a.size : Int) := by omega
      clear h ho q he hx hcn
      generalize t.length = tl at *
      generalize a.ix' (k : Int) = i at *
      generalize a.rw' (k : Int) = r at *
      go_enter Tryz.func27, Tryz.ntmps27
      go_wp2
      go_ret
      exact ⟨rfl, HP.out, But.refl _ _⟩
set_option maxRecDepth 100000 in
set_option maxHeartbeats 8000000 in
theorem ra_write_ok {w : World} {x : RAd} {a : Arr} (h : RA w x a) (ho : a.ok) (b : Int) (t : List El) (he : a.writeE b t.length = 0) :
    Calls Tryz.prog 27 #[.pointer (some ⟨x.p, 0, none⟩), .int .i64 b, st t] w fun e w' => e = .returned (.int .i64 0) ∧ RA w' x (a.write b t) ∧ But (x.F a.n) w w' := by
  have HP : Hid (RA w x a) := h
  have HO : Hid a.ok := ho
  have c0 := h.c0
  have c1 := h.c1
  have c2 := h.c2
  have hn1 := ho.1.1
  have hn2 := ho.1.2
  have hr2 := ho.2.1.2
  have hsl : (sb t).size = t.length := sb_size t
  have q : ¬ a.noB b := fun q => by unfold Arr.writeE at he; rw [if_pos q] at he; omega
  have hx : t.length = a.size := by
    unfold Arr.writeE at he
    rw [if_neg q] at he
    split at he
    · assumption
    · omega
  have h2 : a.nl (a.rw' b) ≤ 2 := by
    unfold Arr.writeE at he
    rw [if_neg q, if_pos hx] at he
    split at he <;> omega
  have HFin : Hid (∀ wr, RA wr x (wx a (a.rw' b) (a.ix' b) t a.n) → RA wr x (a.write b t)) := fun wr hra => by
    have ew : a.write b t = { a with cell := fun d r => if r = a.rw' b ∧ d < a.n ∧ a.gone d r = false then a.newP (a.rw' b) (a.ix' b) t (pos a.n r d) else a.cell d r } := by
      unfold Arr.write; rw [if_pos he]
    rw [ew]
    refine hra.congr rfl rfl rfl (fun e s _ _ => ?_) (fun _ _ => rfl) (fun _ _ => rfl)
    show (if s = a.rw' b ∧ e < a.n ∧ a.gone e s = false then a.newP (a.rw' b) (a.ix' b) t (pos a.n s e) else a.cell e s) = if s = a.rw' b ∧ e < a.n ∧ a.gone e s = false ∧ pos a.n s e < a.n then a.newP (a.rw' b) (a.ix' b) t (pos a.n s e) else a.cell e s
    by_cases z : s = a.rw' b ∧ e < a.n ∧ a.gone e s = false
    · rw [if_pos z, if_pos ⟨z.1, z.2.1, z.2.2, pos_lt hn1⟩]
    · rw [if_neg z, if_neg (fun y => z ⟨y.1, y.2.1, y.2.2.1⟩)]
  obtain ⟨k, c, m, rfl, ⟨hs, hm, hm160, hkm⟩, ⟨hc0, hc1⟩, hdiv, hmod, hrw, hix, hcn⟩ := block_facts ho q
  have hdiv0 : (0 : Int) ≤ (k : Int) / (c : Int) := by rw [hdiv]; omega
  have hdiv1 : (k : Int) / (c : Int) ≤ (k : Int) := Int.ediv_le_self _ (by omega)
  have hmod0 : (0 : Int) ≤ (k : Int) % (c : Int) := by rw [hmod]; omega
  have hmod1 : (k : Int) % (c : Int) < (c : Int) := by rw [hmod]; omega
  have hixn : ((a.ix' (k : Int) : Nat) : Int) < (a.n : Int) := by omega
  have L := ra_lost h ho (a.rw' (k : Int))
  have h2' : ¬ (2 : Int) < ((a.nl (a.rw' (k : Int)) : Nat) : Int) := by omega
  have hle : (sb t).size = a.size := by rw [hsl, hx]
  have R := ra_raw h ho _ hrw
  have HHl : Hid (∀ (w' : World) (g1 g2 c1 c2 : Nat), RowAt w' g1 a.n (fun i => st (a.part (a.rw' (k : Int)) i)) → RowAt w' g2 a.n (fun i => .bool (a.lo (a.rw' (k : Int)) i)) → (a.n ≤ c1 ∧ c1 ≤ 9223372036854775807 ∧ a.n ≤ c2 ∧ c2 ≤ 9223372036854775807) → _) := fun w' g1 g2 c1 c2 u1 u2 u3 => ra_heal ho _ hrw h2 (w := w') (g1 := g1) (g2 := g2) (c1 := c1) (c2 := c2) u1 u2 u3
  have HOr : Hid (∀ w', _) := fun w' => rlayout_any a.n (a.rw' (k : Int)) hn1 hn2 (by omega) w'
  have HPq : Hid (∀ (g1 c1 : Nat) (w' : World), RowAt w' g1 a.n (fun y => st (up (a.heal (a.rw' (k : Int))) (a.ix' (k : Int)) t y)) → a.n ≤ c1 → c1 ≤ 9223372036854775807 →
      Calls Tryz.prog 51 #[.slice (some ⟨g1, 0, none⟩) c c1] w' fun e w'' => e = .returned (.tuple #[st (a.newP (a.rw' (k : Int)) (a.ix' (k : Int)) t c), st (a.newP (a.rw' (k : Int)) (a.ix' (k : Int)) t (c + 1))]) ∧ Below w'.heap.size w' w'') := fun g1 c1 w' h' u1 u2 => by
    rw [hcn, Arr.newP_p, Arr.newP_q]
    exact rpq_any (.slice (some ⟨g1, 0, none⟩) (a.n - 2) c1) (a.n - 2) a.size (mx (up (a.heal (a.rw' (k : Int))) (a.ix' (k : Int)) t)) w' (((h'.rd u1 u2).cut (by omega)).congr (fun j _ => (newP_row hx).symm)) (by omega) (by omega) ho.2.2.1.2
  have HNp : Hid (∀ (w' : World) (gl : Nat), RowAt w' gl a.n (up (up (fun y => st (up (a.heal (a.rw' (k : Int))) (a.ix' (k : Int)) t y)) c (st (a.newP (a.rw' (k : Int)) (a.ix' (k : Int)) t c))) (c + 1) (st (a.newP (a.rw' (k : Int)) (a.ix' (k : Int)) t (c + 1)))) → RowAt w' gl a.n (fun j => st (a.newP (a.rw' (k : Int)) (a.ix' (k : Int)) t j))) := fun w' gl hh => hh.congr (fun j hj => by
    by_cases z1 : j = c + 1
    · subst z1; rw [up_at]
    · rw [up_ne _ _ z1]
      by_cases z2 : j = c
      · subst z2; rw [up_at]
      · rw [up_ne _ _ z2]
        have hjc : j < a.n - 2 := by omega
        show st (up (a.heal (a.rw' (k : Int))) (a.ix' (k : Int)) t j) = st (a.newP (a.rw' (k : Int)) (a.ix' (k : Int)) t j)
        unfold Arr.newP
        rw [pqp_data hjc]
        exact (newP_row hx).symm)
  have HLT : Hid (∀ y, x.F a.n y → y < w.heap.size) := h.lt
  have HC0 : Hid (∀ w', RA w' x a → w'.cell? ⟨x.p, 0, none⟩ = some (.int .i64 a.n)) := fun w' h' => h'.c0
  have HSt : Hid (∀ (W : World) (g0 gl g2 : Nat), Below w.heap.size w W → RowAt W g0 a.n (fun j => vi ((ord a.n (a.rw' (k : Int)) j : Nat) : Int)) → RowAt W gl a.n (fun j => st (a.newP (a.rw' (k : Int)) (a.ix' (k : Int)) t j)) → RowAt W g2 a.n (fun j => .bool (a.lo (a.rw' (k : Int)) j)) → w.heap.size ≤ g0 → w.heap.size ≤ gl → w.heap.size ≤ g2 → WxS w x a (a.rw' (k : Int)) (a.ix' (k : Int)) t g0 gl g2 0 W) := fun W g0 gl g2 hB u1 u2 u3 v1 v2 v3 => by
    refine ⟨Below.but hB _, (HP.out.old hB).congr rfl rfl rfl (fun e s _ _ => ?_) (fun _ _ => rfl) (fun _ _ => rfl), u1, u2, u3, fun y hy => ?_⟩
    · show (if s = a.rw' (k : Int) ∧ e < a.n ∧ a.gone e s = false ∧ pos a.n s e < 0 then a.newP (a.rw' (k : Int)) (a.ix' (k : Int)) t (pos a.n s e) else a.cell e s) = a.cell e s
      rw [if_neg (fun z => by have := z.2.2.2; omega)]
    · have := HLT.out y hy
      omega
  have hcn2 : c + 2 = a.n := by omega
  have hck : (c : Int) < (a.n : Int) := by omega
  have hck1 : (c : Int) + 1 < (a.n : Int) := by omega
  have hixc : a.ix' (k : Int) < a.n := by omega
  have HLoA : Hid (∀ (wr : World) (g0 gl g2 i : Nat), i < a.n → WxS w x a (a.rw' (k : Int)) (a.ix' (k : Int)) t g0 gl g2 i wr → (wr.cell? ⟨g2, i, none⟩ = some (.bool (a.lo (a.rw' (k : Int)) i))) ∧ (a.lo (a.rw' (k : Int)) i = true → WxS w x a (a.rw' (k : Int)) (a.ix' (k : Int)) t g0 gl g2 (i + 1) wr) ∧
      (a.lo (a.rw' (k : Int)) i = false → ∃ (d : Nat) (u : List El), d < a.n ∧ wr.cell? ⟨g0, i, none⟩ = some (.int .i64 d) ∧ wr.cell? ⟨gl, i, none⟩ = some (st u) ∧ wr.cell? ⟨x.p, 3, none⟩ = some (.slice (some ⟨x.g0, 0, none⟩) a.n x.c0) ∧ wr.cell? ⟨x.g0, d, none⟩ = some (.slice (some ⟨x.h d, 0, none⟩) a.rows (x.hc d)) ∧ (∃ y, wr.cell? ⟨x.h d, a.rw' (k : Int), none⟩ = some y) ∧ wr.frozen? ⟨x.h d, a.rw' (k : Int), none⟩ = false ∧ ∀ mm, WxS w x a (a.rw' (k : Int)) (a.ix' (k : Int)) t g0 gl g2 (i + 1) ((wr.drewN mm).setCell ⟨x.h d, a.rw' (k : Int), none⟩ (st u)))) := fun wr g0 gl g2 i hi s =>
    ⟨(s.lo.2 i hi).1, fun hl => s.skip ho hl, fun hl => by
      have hd : ord a.n (a.rw' (k : Int)) i < a.n := ord_lt hn1
      obtain ⟨y1, y2⟩ := s.ra.cl (ord a.n (a.rw' (k : Int)) i) (a.rw' (k : Int)) hd hrw
      exact ⟨ord a.n (a.rw' (k : Int)) i, a.newP (a.rw' (k : Int)) (a.ix' (k : Int)) t i, hd, (s.ord.2 i hi).1, (s.hl.2 i hi).1, s.ra.c3, s.ra.dk _ hd, ⟨_, y1⟩, y2, fun mm => s.put ho hi hl mm⟩⟩
  have hrwi : ((a.rw' (k : Int) : Nat) : Int) < (a.rows : Int) := by omega
  clear h ho q he hx hsl h2 hcn
  generalize a.newP (a.rw' (k : Int)) (a.ix' (k : Int)) t c = PP at *
  generalize a.newP (a.rw' (k : Int)) (a.ix' (k : Int)) t (c + 1) = QQ at *
  generalize a.nl (a.rw' (k : Int)) = z at *
  generalize a.ix' (k : Int) = i at *
  generalize a.rw' (k : Int) = r at *
  generalize a.write (k : Int) t = aw at *
  go_enter Tryz.func27, Tryz.ntmps27
  go_wp2_with fail
  refine L.mono ?_
  rintro e w2 ⟨rfl, hw⟩
  obtain rfl := hw.symm
  clear L
  go_wp2_with fail
  refine R.mono ?_
  rintro e w2 ⟨g1, cc1, g2, cc2, rfl, hcc, u1, u2, ⟨v1, v2⟩, hB2⟩
  have H := HHl.out w2 g1 g2 cc1 cc2 u1 u2 hcc
  have HLw : Hid (RowAt w2 g2 a.n (fun j => .bool (a.lo r j))) := u2
  obtain ⟨p1, p2, p3, p4⟩ := hcc
  clear R HHl u1 u2 v1
  go_wp2_with fail
  refine H.mono ?_
  rintro e w3 ⟨gl, cl', rfl, ⟨ql1, ql2⟩, hl, hgl, hB3⟩
  obtain ⟨k1, f1⟩ := hl.2 i hixc
  have hgl2 : g2 < gl := by have := HLw.out.1; omega
  have hgl3 : w.heap.size ≤ gl := Nat.le_trans hB2.size hgl
  have hl1 := hl.put i (st t)
  have P := HPq.out gl cl' (w3.setCell ⟨gl, i, none⟩ (st t)) (hl1.1.congr (fun y _ => by
    unfold up
    split <;> rfl)) ql1 ql2
  have HR1 : Hid (RowAt (w3.setCell ⟨gl, i, none⟩ (st t)) gl a.n (fun y => st (up (a.heal r) i t y))) := hl1.1.congr (fun y _ => by
    unfold up
    split <;> rfl)
  have HLw2 : Hid (RowAt (w3.setCell ⟨gl, i, none⟩ (st t)) g2 a.n (fun j => .bool (a.lo r j))) := (HLw.out.old hB3).apart (by omega) i (st t)
  have HB3 : Hid (Below w.heap.size w (w3.setCell ⟨gl, i, none⟩ (st t))) := (hB2.trans (hB3.mono hB2.size)).trans (hl1.2.mono hgl3)
  dsimp only at k1
  clear H HPq hl hl1 hB2 hB3 HLw
  have hclc : c ≤ cl' := by omega
  go_wp2_with fail
  refine P.mono ?_
  rintro e w4 ⟨rfl, hB4⟩
  have hR4 := HR1.out.old hB4
  have hL4 := HLw2.out.old hB4
  obtain ⟨k4, f4⟩ := hR4.2 c (by omega)
  obtain ⟨k5, f5⟩ := (hR4.put c (st PP)).1.2 (c + 1) (by omega)
  have HNR : Hid (RowAt ((w4.setCell ⟨gl, c, none⟩ (st PP)).setCell ⟨gl, c + 1, none⟩ (st QQ)) gl a.n (fun j => st (a.newP r i t j))) := HNp.out _ _ (((hR4.put c (st PP)).1.put (c + 1) (st QQ)).1)
  have HNL : Hid (RowAt ((w4.setCell ⟨gl, c, none⟩ (st PP)).setCell ⟨gl, c + 1, none⟩ (st QQ)) g2 a.n (fun j => .bool (a.lo r j))) := (hL4.apart (by omega) c (st PP)).apart (by omega) (c + 1) (st QQ)
  have hB5 : Below w.heap.size w ((w4.setCell ⟨gl, c, none⟩ (st PP)).setCell ⟨gl, c + 1, none⟩ (st QQ)) := ((HB3.out.trans (hB4.mono HB3.out.size)).trans ((hR4.put c (st PP)).2.mono hgl3)).trans (((hR4.put c (st PP)).1.put (c + 1) (st QQ)).2.mono hgl3)
  have c0' := HC0.out _ (HP.out.old hB5)
  have O := HOr.out ((w4.setCell ⟨gl, c, none⟩ (st PP)).setCell ⟨gl, c + 1, none⟩ (st QQ))
  have HB5 : Hid (Below w.heap.size w ((w4.setCell ⟨gl, c, none⟩ (st PP)).setCell ⟨gl, c + 1, none⟩ (st QQ))) := hB5
  clear P HR1 HLw2 HB3 hB4 hR4 hL4 k1 f1 HNp HOr hB5 HC0 c0
  dsimp only at k4
  go_upto_region 15 with fail
  generalize (w4.setCell ⟨gl, c, none⟩ (st PP)).setCell ⟨gl, c + 1, none⟩ (st QQ) = W5 at *
  clear k4 f4 k5 f5
  go_wp2_with fail
  refine O.mono ?_
  rintro e w6 ⟨v6, rfl, hO, hB6⟩
  obtain ⟨g0, cap, rfl, hcp1, hcp2, hg0, hR0⟩ := rowAt_own hO (by omega)
  have HS0 : Hid (WxS w x a r i t g0 gl g2 0 w6) := HSt.out w6 g0 gl g2 (HB5.out.trans (hB6.mono HB5.out.size)) hR0 (HNR.out.old hB6) (HNL.out.old hB6) (Nat.le_trans HB5.out.size hg0) hgl3 v2
  clear O hO hR0 hB6 HB5 HNR HNL c0' HSt
  go_wp2
  go_loopw [15] (fun tt wr => ∃ j : Nat, j ≤ a.n ∧ tt = .int .i64 j ∧ WxS w x a r i t g0 gl g2 j wr) (fun tt _ => a.n - (intOf tt).toNat)
  case atStart => exact ⟨0, Nat.zero_le _, rfl, HS0.out⟩
  case round =>
    clear HS0
    obtain ⟨j, hj, rfl, hS⟩ := hrel
    by_cases hlt : j < a.n
    · obtain ⟨y1, y2, y3⟩ := HLoA.out wr g0 gl g2 j hlt hS
      have hlt' : (j : Int) < (a.n : Int) := by omega
      cases hlo : a.lo r j with
      | true =>
        have HN : Hid (WxS w x a r i t g0 gl g2 (j + 1) wr) := y2 hlo
        rw [hlo] at y1
        clear hS y2 y3 hlo HLoA
        go_wp2
        go_roundw
        case rel => exact ⟨j + 1, by omega, by go_num, HN.out⟩
        case measure => simp [intOf]; omega
      | false =>
        obtain ⟨d, u, hd, z1, z2, z3, z4, ⟨yy, z5⟩, z6, z7⟩ := y3 hlo
        rw [hlo] at y1
        have hd' : (d : Int) < (a.n : Int) := by omega
        have HN : Hid (∀ mm, WxS w x a r i t g0 gl g2 (j + 1) ((wr.drewN mm).setCell ⟨x.h d, r, none⟩ (st u))) := z7
        clear hS y2 y3 hlo HLoA z7
        go_upto_region 20 with fail
        refine region_tail 16 (by kernel_rfl) (by kernel_rfl) ?_
        simp only [List.take_succ_cons, List.take_zero, List.drop_succ_cons, List.drop_zero]
        repeat (go_big_quiet_step (fail))
        refine wpQuiet_nil ?_
        intro w9 hw9
        obtain ⟨nr, rfl⟩ := hw9
        have HN2 : Hid (WxS w x a r i t g0 gl g2 (j + 1) ((wr.drewN nr).setCell ⟨x.h d, r, none⟩ (st u))) := HN.out nr
        clear HN
        go_wp2
        go_roundw
        case rel => exact ⟨j + 1, by omega, by go_num, HN2.out⟩
        case measure => simp [intOf]; omega
    · have e : a.n = j := by omega
      have hge : ¬ (j : Int) < (a.n : Int) := by omega
      rw [← e] at hS
      have HF : Hid (RA wr x aw ∧ But (x.F a.n) w wr) := ⟨HFin.out wr hS.ra, hS.but⟩
      clear hS HFin HLoA e
      go_wp2
      go_ret
      exact ⟨rfl, HF.out⟩
theorem ra_write {w : World} {x : RAd} {a : Arr} (h : RA w x a) (ho : a.ok) (b : Int) (t : List El) :
    Calls Tryz.prog 27 #[.pointer (some ⟨x.p, 0, none⟩), .int .i64 b, st t] w fun e w' => e = .returned (.int .i64 (a.writeE b t.length)) ∧ RA w' x (a.write b t) ∧ But (x.F a.n) w w' := by
  by_cases he : a.writeE b t.length = 0
  · rw [he]
    exact ra_write_ok h ho b t he
  · rw [Arr.write_no he]
    exact ra_write_bad h ho b t he
end Go.Proofs.YteafakgjfmbhoaaGreatDoor

/- A disk of the document's array is replaced: a walk over the program. -/
namespace Go.Proofs.YteafakgjfmbhoaaGreatDoor
open Go.RowKit El Pol Mx Lay
set_option maxRecDepth 100000 in
theorem ra_replace {w : World} {x : RAd} {a : Arr} (h : RA w x a) (d : Int) :
    Calls Tryz.prog 29 #[.pointer (some ⟨x.p, 0, none⟩), .int .i64 d] w fun e w' => e = .returned (.int .i64 (a.replaceE d)) ∧ RA w' x (a.replace d) ∧ But (x.F a.n) w w' := by
  have HP : Hid (RA w x a) := h
  have c0 := h.c0
  have c4 := h.c4
  by_cases q : a.noD d
  · obtain ⟨e1, e2⟩ := Arr.replaceE_no q
    rw [e1, e2]
    clear h e1 e2
    by_cases q1 : d < 0
    · clear q
      go_enter Tryz.func29, Tryz.ntmps29
      go_wp2
      go_ret
      exact ⟨rfl, HP.out, But.refl _ _⟩
    · have q2 : (a.n : Int) ≤ d := q.resolve_left q1
      clear q
      go_enter Tryz.func29, Tryz.ntmps29
      go_wp2
      go_ret
      exact ⟨rfl, HP.out, But.refl _ _⟩
  · obtain ⟨k, rfl, hk⟩ := Arr.noD_nat q
    obtain ⟨f, fz⟩ := h.fl k hk
    have hkn : (k : Int) < (a.n : Int) := by omega
    rw [Arr.replaceE_nat hk]
    cases hf : a.failed k with
    | false =>
      rw [Arr.replace_not hk hf, if_neg Bool.false_ne_true]
      rw [hf] at f
      clear h q hf
      go_enter Tryz.func29, Tryz.ntmps29
      go_wp2
      go_ret
      exact ⟨rfl, HP.out, But.refl _ _⟩
    | true =>
      rw [Arr.replace_yes hk hf, if_pos rfl]
      rw [hf] at f
      have h1 := h.putFailed k false
      obtain ⟨b, bz⟩ := h1.bt k hk
      have c5 := h1.c5
      dsimp only at b c5
      have h2 := h1.putBuilt k 0
      have HF : Hid (RA ((w.setCell ⟨x.g1, k, none⟩ (.bool false)).setCell ⟨x.g2, k, none⟩ (.int .i64 0)) x { a with failed := up a.failed k false, built := up a.built k 0 } ∧ But (x.F a.n) w ((w.setCell ⟨x.g1, k, none⟩ (.bool false)).setCell ⟨x.g2, k, none⟩ (.int .i64 0))) :=
        ⟨h2, (RAd.but1 (but_cell _ _ _ _)).trans (RAd.but2 (but_cell _ _ _ _)) (Grows.refl _ _)⟩
      clear h q hf HP h1 h2
      go_enter Tryz.func29, Tryz.ntmps29
      go_wp2
      go_ret
      exact ⟨rfl, HF.out⟩
end Go.Proofs.YteafakgjfmbhoaaGreatDoor
