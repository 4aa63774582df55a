/- The closures of package cache, and what inTurn lists: walks over the program. -/
import Derived.Test.YtfeikmmojilmbaaDoorMapH
import Derived.Test.YtfeikmmojilmbaaDoorSr
namespace Go.Proofs.YtfeikmmojilmbaaDoor
open Go.RowKit Go.Maps El Pol
theorem hasof_any (h : Hd) (w : World) : Calls Tryd.prog 50 #[hv h] w fun e w' => e = .returned (.int .i64 (h.2.1 : Int)) ∧ Below w.heap.size w w' := by
  obtain ⟨x, u, t⟩ := h
  unfold hv st
  dsimp only
  generalize sb x = s
  go_enter Tryd.func50, Tryd.ntmps50
  go_wp2
  go_ret
  exact ⟨rfl, al_below _ _⟩
theorem dirof_any (h : Hd) (w : World) : Calls Tryd.prog 51 #[hv h] w fun e w' => e = .returned (.int .i64 (h.2.2 : Int)) ∧ Below w.heap.size w w' := by
  obtain ⟨x, u, t⟩ := h
  unfold hv st
  dsimp only
  generalize sb x = s
  go_enter Tryd.func51, Tryd.ntmps51
  go_wp2
  go_ret
  exact ⟨rfl, al_below _ _⟩
theorem isdirty_any (h : Hd) (w : World) : Calls Tryd.prog 45 #[hv h] w fun e w' => e = .returned (.bool (decide (h.2.2 ≠ 0))) ∧ Below w.heap.size w w' := by
  obtain ⟨x, u, t⟩ := h
  unfold hv st
  dsimp only
  generalize sb x = s
  have hb : ((t : Int) != 0) = decide (t ≠ 0) := by
    rw [Bool.eq_iff_iff, bne_iff_ne, decide_eq_true_iff]
    omega
  go_enter Tryd.func45, Tryd.ntmps45
  go_wp2
  go_ret
  exact ⟨by first | rfl | simp | rw [hb], al_below _ _⟩
/-- what the closure of inTurn reads: function fo in the box q1, the cache p in the box q2, its map b -/
structure KPt (fo q1 q2 p b : Nat) (r : List Nat) (V : Nat → Hd) (W : World) : Prop where
  k1 : W.cell? ⟨q1, 0, none⟩ = some (.func (.func fo) #[] #[])
  k2 : W.cell? ⟨q2, 0, none⟩ = some (.pointer (some ⟨p, 0, none⟩))
  k3 : W.cell? ⟨p, 2, none⟩ = some (.map (some b))
  k4 : ∃ D, HasH W b r V D
theorem KPt.but {fo q1 q2 p b : Nat} {r : List Nat} {V : Nat → Hd} {W W' : World} {G : Nat → Prop} (h : KPt fo q1 q2 p b r V W) (hb : But G W W') (h1 : ¬ G q1) (h2 : ¬ G q2) (h3 : ¬ G p) (h4 : ¬ G b) : KPt fo q1 q2 p b r V W' := by
  obtain ⟨D, hD⟩ := h.k4
  exact ⟨(hb.cell (World.block_lt_of_cell? W _ h.k1) h1).trans h.k1, (hb.cell (World.block_lt_of_cell? W _ h.k2) h2).trans h.k2, (hb.cell (World.block_lt_of_cell? W _ h.k3) h3).trans h.k3, D, hD.blk (hb.block b hD.blt h4)⟩
theorem KPt.old {fo q1 q2 p b : Nat} {r : List Nat} {V : Nat → Hd} {W W' : World} (h : KPt fo q1 q2 p b r V W) (hb : Below W.heap.size W W') : KPt fo q1 q2 p b r V W' :=
  h.but (Below.but hb (fun _ => False)) id id id id
abbrev LkE (b : Nat) (r : List Nat) (V : Nat → Hd) (x : Nat) (W : World) : Prop := (Instr.lookup 79 (.map (some b)) (.int .i64 (x : Int)) false).run Tryd.prog W = .ok (hv (atH r V x)) W
theorem KPt.look {fo q1 q2 p b : Nat} {r : List Nat} {V : Nat → Hd} {W : World} (h : KPt fo q1 q2 p b r V W) (x : Nat) (hx : x < 1000) : LkE b r V x W := by
  obtain ⟨D, hD⟩ := h.k4
  exact hD.run_look x hx
set_option maxRecDepth 100000 in
set_option maxHeartbeats 4000000 in
theorem hascmp_any {q1 q2 p b : Nat} {r : List Nat} {V : Nat → Hd} (W : World) (x y : Nat) (hx : x < 1000) (hy : y < 1000) (h : KPt 50 q1 q2 p b r V W) :
    Calls Tryd.prog 71 #[.int .i64 (x : Int), .int .i64 (y : Int), .pointer (some ⟨q1, 0, none⟩), .pointer (some ⟨q2, 0, none⟩)] W fun e w' => e = .returned (.int .i64 (cmpN (atH r V x).2.1 (atH r V y).2.1)) ∧ Below W.heap.size W w' := by
  have HK : Hid (∀ W', Below W.heap.size W W' → W'.cell? ⟨q1, 0, none⟩ = some (.func (.func 50) #[] #[]) ∧ W'.cell? ⟨q2, 0, none⟩ = some (.pointer (some ⟨p, 0, none⟩)) ∧ W'.cell? ⟨p, 2, none⟩ = some (.map (some b)) ∧ LkE b r V x W' ∧ LkE b r V y W') :=
    fun W' hb => ⟨(h.old hb).k1, (h.old hb).k2, (h.old hb).k3, (h.old hb).look x hx, (h.old hb).look y hy⟩
  have hb0 : Below W.heap.size W W.drew := below_drewN (Below.refl _ _) 1
  have HA : Hid (∀ W', Calls Tryd.prog 50 #[hv (atH r V x)] W' fun e w' => e = .returned (.int .i64 (((atH r V x).2.1 : Nat) : Int)) ∧ Below W'.heap.size W' w') := fun W' => hasof_any _ W'
  have HB : Hid (∀ W', Calls Tryd.prog 50 #[hv (atH r V y)] W' fun e w' => e = .returned (.int .i64 (((atH r V y).2.1 : Nat) : Int)) ∧ Below W'.heap.size W' w') := fun W' => hasof_any _ W'
  obtain ⟨s1, s2, s3, s4, s5⟩ := HK.out _ hb0
  have S0 : (W.drew).cell? ⟨q1, 0, none⟩ = some (.func (.func 50) #[] #[]) ∧ (W.drew).cell? ⟨q2, 0, none⟩ = some (.pointer (some ⟨p, 0, none⟩)) ∧ (W.drew).cell? ⟨p, 2, none⟩ = some (.map (some b)) ∧ LkE b r V x W.drew ∧ LkE b r V y W.drew := HK.out _ hb0
  clear h s1 s2 s3 s4 s5
  unfold LkE at *
  generalize atH r V x = hx1 at *
  generalize atH r V y = hy1 at *
  have HC : Hid (∀ W', Calls Tryd.prog 72 #[.int .i64 ((hx1.2.1 : Nat) : Int), .int .i64 ((hy1.2.1 : Nat) : Int)] W' fun e w' => e = .returned (.int .i64 (cmpN hx1.2.1 hy1.2.1)) ∧ w' = W') := fun W' => compare_any _ _ W'
  obtain ⟨ux, hux⟩ : ∃ ux : Nat, ux = hx1.2.1 := ⟨_, rfl⟩
  obtain ⟨uy, huy⟩ : ∃ uy : Nat, uy = hy1.2.1 := ⟨_, rfl⟩
  rw [← hux] at HA HC ⊢
  rw [← huy] at HB HC ⊢
  clear hux huy
  generalize hv hx1 = vx at *
  generalize hv hy1 = vy at *
  go_enter Tryd.func71, Tryd.ntmps71
  go_wp2_with fail
  go_region_held3 (fun w' => w'.cell? ⟨q1, 0, none⟩ = some (.func (.func 50) #[] #[]) ∧ w'.cell? ⟨q2, 0, none⟩ = some (.pointer (some ⟨p, 0, none⟩)) ∧ w'.cell? ⟨p, 2, none⟩ = some (.map (some b)) ∧ (Instr.lookup 79 (.map (some b)) (.int .i64 (x : Int)) false).run Tryd.prog w' = .ok vx w' ∧ (Instr.lookup 79 (.map (some b)) (.int .i64 (y : Int)) false).run Tryd.prog w' = .ok vy w') (first | exact S3 | exact S2 | exact S0) ((first
    | (go_at_call 50; refine (HA.out W.drew).mono ?_; rintro e w2 ⟨rfl, hB2⟩; have b2 := hb0.trans hB2; have S2 := HK.out w2 b2)
    | (go_at_call 50; refine (HB.out w2).mono ?_; rintro e w3 ⟨rfl, hB3⟩; have b3 := b2.trans (hB3.mono b2.size); have S3 := HK.out w3 b3)
    | (go_at_call 72; refine (HC.out w3).mono ?_; rintro e w4 ⟨rfl, hw4⟩; obtain rfl := hw4.symm)))
  all_goals
    go_wp2
    go_ret
    exact ⟨rfl, b3⟩
set_option maxRecDepth 100000 in
set_option maxHeartbeats 4000000 in
theorem dircmp_any {q1 q2 p b : Nat} {r : List Nat} {V : Nat → Hd} (W : World) (x y : Nat) (hx : x < 1000) (hy : y < 1000) (h : KPt 51 q1 q2 p b r V W) :
    Calls Tryd.prog 71 #[.int .i64 (x : Int), .int .i64 (y : Int), .pointer (some ⟨q1, 0, none⟩), .pointer (some ⟨q2, 0, none⟩)] W fun e w' => e = .returned (.int .i64 (cmpN (atH r V x).2.2 (atH r V y).2.2)) ∧ Below W.heap.size W w' := by
  have HK : Hid (∀ W', Below W.heap.size W W' → W'.cell? ⟨q1, 0, none⟩ = some (.func (.func 51) #[] #[]) ∧ W'.cell? ⟨q2, 0, none⟩ = some (.pointer (some ⟨p, 0, none⟩)) ∧ W'.cell? ⟨p, 2, none⟩ = some (.map (some b)) ∧ LkE b r V x W' ∧ LkE b r V y W') :=
    fun W' hb => ⟨(h.old hb).k1, (h.old hb).k2, (h.old hb).k3, (h.old hb).look x hx, (h.old hb).look y hy⟩
  have hb0 : Below W.heap.size W W.drew := below_drewN (Below.refl _ _) 1
  have HA : Hid (∀ W', Calls Tryd.prog 51 #[hv (atH r V x)] W' fun e w' => e = .returned (.int .i64 (((atH r V x).2.2 : Nat) : Int)) ∧ Below W'.heap.size W' w') := fun W' => dirof_any _ W'
  have HB : Hid (∀ W', Calls Tryd.prog 51 #[hv (atH r V y)] W' fun e w' => e = .returned (.int .i64 (((atH r V y).2.2 : Nat) : Int)) ∧ Below W'.heap.size W' w') := fun W' => dirof_any _ W'
  obtain ⟨s1, s2, s3, s4, s5⟩ := HK.out _ hb0
  have S0 : (W.drew).cell? ⟨q1, 0, none⟩ = some (.func (.func 51) #[] #[]) ∧ (W.drew).cell? ⟨q2, 0, none⟩ = some (.pointer (some ⟨p, 0, none⟩)) ∧ (W.drew).cell? ⟨p, 2, none⟩ = some (.map (some b)) ∧ LkE b r V x W.drew ∧ LkE b r V y W.drew := HK.out _ hb0
  clear h s1 s2 s3 s4 s5
  unfold LkE at *
  generalize atH r V x = hx1 at *
  generalize atH r V y = hy1 at *
  have HC : Hid (∀ W', Calls Tryd.prog 72 #[.int .i64 ((hx1.2.2 : Nat) : Int), .int .i64 ((hy1.2.2 : Nat) : Int)] W' fun e w' => e = .returned (.int .i64 (cmpN hx1.2.2 hy1.2.2)) ∧ w' = W') := fun W' => compare_any _ _ W'
  obtain ⟨ux, hux⟩ : ∃ ux : Nat, ux = hx1.2.2 := ⟨_, rfl⟩
  obtain ⟨uy, huy⟩ : ∃ uy : Nat, uy = hy1.2.2 := ⟨_, rfl⟩
  rw [← hux] at HA HC ⊢
  rw [← huy] at HB HC ⊢
  clear hux huy
  generalize hv hx1 = vx at *
  generalize hv hy1 = vy at *
  go_enter Tryd.func71, Tryd.ntmps71
  go_wp2_with fail
  go_region_held3 (fun w' => w'.cell? ⟨q1, 0, none⟩ = some (.func (.func 51) #[] #[]) ∧ w'.cell? ⟨q2, 0, none⟩ = some (.pointer (some ⟨p, 0, none⟩)) ∧ w'.cell? ⟨p, 2, none⟩ = some (.map (some b)) ∧ (Instr.lookup 79 (.map (some b)) (.int .i64 (x : Int)) false).run Tryd.prog w' = .ok vx w' ∧ (Instr.lookup 79 (.map (some b)) (.int .i64 (y : Int)) false).run Tryd.prog w' = .ok vy w') (first | exact S3 | exact S2 | exact S0) ((first
    | (go_at_call 51; refine (HA.out W.drew).mono ?_; rintro e w2 ⟨rfl, hB2⟩; have b2 := hb0.trans hB2; have S2 := HK.out w2 b2)
    | (go_at_call 51; refine (HB.out w2).mono ?_; rintro e w3 ⟨rfl, hB3⟩; have b3 := b2.trans (hB3.mono b2.size); have S3 := HK.out w3 b3)
    | (go_at_call 72; refine (HC.out w3).mono ?_; rintro e w4 ⟨rfl, hw4⟩; obtain rfl := hw4.symm)))
  all_goals
    go_wp2
    go_ret
    exact ⟨rfl, b3⟩
end Go.Proofs.YtfeikmmojilmbaaDoor
