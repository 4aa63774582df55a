/- The document's cache: a cell is used: a walk over the document's own. -/
import Derived.Test.YtfeikmmojilmbaaDoorDCa
import Derived.BigRegion
import Derived.Deep.Cut
namespace Go.Proofs.YtfeikmmojilmbaaDoor
open Go.RowKit El Pol
/-- a state of it that comes of another one -/
structure DS (B : Nat) (w : World) (y : DP) (wk : World) (yk : DP) (c : Che) : Prop where
  is : DC B wk yk c
  but : But y.F w wk
  gr : Grows y.F yk.F w
  hp : yk.p = y.p
variable {B : Nat} {w wk w1 : World} {y yk y1 : DP} {c c1 : Che}
theorem DS.refl (h : DC B w y c) : DS B w y w y c := ⟨h, But.refl _ _, Grows.refl _ _, rfl⟩
theorem DS.size (h : DS B w y wk yk c) : w.heap.size ≤ wk.heap.size := h.but.size
theorem DS.old (h : DS B w y wk yk c) (hb : Below wk.heap.size wk w1) : DS B w y w1 yk c := ⟨h.is.old hb, h.but.trans (Below.but hb yk.F) h.gr, h.gr, h.hp⟩
theorem DS.step (h : DS B w y wk yk c) (h1 : DC B w1 y1 c1) (hb : But yk.F wk w1) (hg : Grows yk.F y1.F wk) (hp : y1.p = yk.p) : DS B w y w1 y1 c1 :=
  ⟨h1, h.but.trans hb h.gr, h.gr.trans hg h.size, hp.trans h.hp⟩
theorem Fp (y : DP) : ∀ k, k = y.p → y.F k := fun _ h => .inl h
theorem grow2 (y : DP) (v : Value) (w : World) (h : ∀ k, v.ownBlock = some k → y.vr.ownBlock = some k ∨ w.heap.size ≤ k) : Grows y.F (DP.F ⟨y.p, y.vb, v, y.vv, y.vd⟩) w := by
  rintro k (q | q | q | q | q)
  · exact .inl (.inl q)
  · exact .inl (.inr (.inl q))
  · rcases h k q with z | z
    · exact .inl (.inr (.inr (.inl z)))
    · exact .inr z
  · exact .inl (.inr (.inr (.inr (.inl q))))
  · exact .inl (.inr (.inr (.inr (.inr q))))
theorem grow4 (y : DP) (v : Value) (w : World) (h : ∀ k, v.ownBlock = some k → y.vd.ownBlock = some k ∨ w.heap.size ≤ k) : Grows y.F (DP.F ⟨y.p, y.vb, y.vr, y.vv, v⟩) w := by
  rintro k (q | q | q | q | q)
  · exact .inl (.inl q)
  · exact .inl (.inr (.inl q))
  · exact .inl (.inr (.inr (.inl q)))
  · exact .inl (.inr (.inr (.inr (.inl q))))
  · rcases h k q with z | z
    · exact .inl (.inr (.inr (.inr (.inr z))))
    · exact .inr z
/-- the row another one, new -/
theorem DS.row (h : DS B w y wk yk c) {v : Value} {l : List Nat} {n : Nat} (hO : OwN n wk v l) (hB : B ≤ n) (hn : ∀ k, v.ownBlock = some k → yk.vd.ownBlock ≠ some k) (hw : w.heap.size ≤ n) :
    DS B w y (wk.setCell ⟨yk.p, 2, none⟩ v) ⟨yk.p, yk.vb, v, yk.vv, yk.vd⟩ ⟨c.n, c.below, c.room, l, c.val, c.dirty, c.hits⟩ := by
  have hO' : OwN B wk v l := by
    obtain ⟨h1, h2⟩ := hO
    refine ⟨h1, ?_⟩
    rcases h2 with h2 | ⟨g, cap, cur, rfl, hg, rest⟩
    · exact .inl h2
    · exact .inr ⟨g, cap, cur, rfl, Nat.le_trans hB hg, rest⟩
  have P := h.is.put2 hO' hn
  refine ⟨P.1, h.but.trans (P.2.mono (Fp yk)) h.gr, ?_, h.hp⟩
  rintro k (q | q | q | q | q)
  · exact h.gr k (.inl q)
  · exact h.gr k (.inr (.inl q))
  · exact .inr (Nat.le_trans hw (World.ownsRow.lt hO k q).1)
  · exact h.gr k (.inr (.inr (.inr (.inl q))))
  · exact h.gr k (.inr (.inr (.inr (.inr q))))
/-- what is dirty another one -/
theorem DS.dirty (h : DS B w y wk yk c) {v : Value} {l : List Nat} {n : Nat} (hO : OwN n wk v l) (hB : B ≤ n) (hn : ∀ k, yk.vr.ownBlock = some k → v.ownBlock ≠ some k) (hw : w.heap.size ≤ n) :
    DS B w y (wk.setCell ⟨yk.p, 4, none⟩ v) ⟨yk.p, yk.vb, yk.vr, yk.vv, v⟩ ⟨c.n, c.below, c.room, c.row, c.val, l, c.hits⟩ := by
  have hO' : OwN B wk v l := by
    obtain ⟨h1, h2⟩ := hO
    refine ⟨h1, ?_⟩
    rcases h2 with h2 | ⟨g, cap, cur, rfl, hg, rest⟩
    · exact .inl h2
    · exact .inr ⟨g, cap, cur, rfl, Nat.le_trans hB hg, rest⟩
  have P := h.is.put4 hO' hn
  refine ⟨P.1, h.but.trans (P.2.mono (Fp yk)) h.gr, ?_, h.hp⟩
  rintro k (q | q | q | q | q)
  · exact h.gr k (.inl q)
  · exact h.gr k (.inr (.inl q))
  · exact h.gr k (.inr (.inr (.inl q)))
  · exact h.gr k (.inr (.inr (.inr (.inl q))))
  · exact .inr (Nat.le_trans hw (World.ownsRow.lt hO k q).1)
theorem lenDS {v : Value} {n : Nat} {l : List Nat} (h : OwN n wk v l) : ∀ k, v.ownBlock = some k → n ≤ k ∧ k < wk.heap.size := World.ownsRow.lt h
theorem nlen_sub : ∀ {l m : List Nat}, l.Nodup → m.Nodup → (∀ k ∈ l, k ∈ m) → l.length ≤ m.length
  | [], _, _, _, _ => Nat.zero_le _
  | a :: l, m, hl, hm, h => by
    obtain ⟨h1, h2⟩ := List.nodup_cons.1 hl
    have hml : (wo m a).length < m.length := by
      unfold wo
      rcases Nat.lt_or_ge (List.filter (fun k => decide (k ≠ a)) m).length m.length with q | q
      · exact q
      · exfalso
        have h2 := List.length_filter_le (fun k => decide (k ≠ a)) m
        have h3 : (List.filter (fun k => decide (k ≠ a)) m).length = m.length := by omega
        have h4 := List.length_filter_eq_length_iff.1 h3 a (h a List.mem_cons_self)
        simp at h4
    have h4 := nlen_sub (m := wo m a) h2 (wo_nodup hm a) (fun k hk => mem_wo.2 ⟨h k (List.mem_cons_of_mem _ hk), fun e => h1 (by rw [← e]; exact hk)⟩)
    rw [List.length_cons]
    omega
theorem dlen_le {c : Che} (h : c.ok) : c.dirty.length ≤ c.row.length := nlen_sub h.dnd h.nd h.dsub
set_option maxRecDepth 100000 in
set_option maxHeartbeats 1000000 in
theorem duse_any (h : DC B w y c) (ho : c.ok) (hBw : B ≤ w.heap.size) {i : Nat} (hi : i < c.n) (b : List El) :
    Calls Tryd.prog 41 #[.pointer (some ⟨y.p, 0, none⟩), .int .i64 (i : Int), st b] w fun e w' => e = .returned (.tuple #[]) ∧ ∃ y', DS B w y w' y' (c.use i b) := by
  obtain ⟨j0, hj, hy0, hy1, hy2⟩ := info_parts infoI
  have hn40 := ho.n40
  have h12 := ho.r12
  have hlen := ho.len
  have W0 := without_any y.vr c.row i w (OwN.rd h.rw') (by omega) (fun k hk => by have := ho.inn k hk; omega)
  have HD0 : Hid (DC B w y c) := h
  have HO : Hid c.ok := ho
  have c2 := h.c2
  have f2 := h.free 2
  unfold st
  obtain ⟨sx, hsx⟩ : ∃ sx, sx = sb b := ⟨_, rfl⟩
  have HSx : Hid (sx = sb b) := hsx
  rw [← hsx]
  obtain ⟨ar, cr, hvr⟩ := OwN.len h.rw'
  rw [hvr] at c2 W0
  have hwl := wo_len c.row i
  clear h ho hsx
  go_enter Tryd.func41, Tryd.ntmps41
  go_wp2_with fail
  refine W0.mono ?_
  rintro e w1 ⟨u1, rfl, hO1, hB1⟩
  obtain ⟨a1, k1, rfl⟩ := OwN.len hO1
  have HS1 : Hid (DS B w y w1 y c) := (DS.refl HD0.out).old hB1
  have hsz1 := hB1.size
  have HV1 : Hid (vn (c.newest i) = vn (wo c.row i) ++ [vi (i : Int)]) := by (show _ = _); unfold Che.newest; simp [vn]
  have HL1 : Hid ((c.newest i).length = (wo c.row i).length + 1) := by (show _ = _); unfold Che.newest; simp
  have hO1' : w1.ownsRow w.heap.size 3 1 (.slice a1 (wo c.row i).length k1) (wo c.row i).length (vn (wo c.row i)) := hO1
  have hvl := vn_len (wo c.row i)
  clear W0 hO1 c2 f2 HS1
  have HWL : Hid ((wo c.row i).length ≤ c.row.length) := hwl
  generalize vn (wo c.row i) = xs at *
  generalize (wo c.row i).length = ln at *
  go_wp2_with (first | (at_builtin; refine wpList_append_own _ rfl _ _ 34 rfl w.heap.size 3 j0 (.int .i64 0) 1 8 Tryd.underlying34 hj hy0 hy1 hy2 rfl (by decide) _ _ _ rfl (World.ownsRow.alloc hO1' _) ⟨w1.heap.size, 0, none⟩ 1 1 [.int .i64 (i : Int)] rfl rfl (one_cell _) (by intro u hu; simp at hu; subst hu; rfl) (by unfold maxLen; omega) (by omega) (by simp; omega) ?_))
  intro v2 w2 hown hgrow _
  have hO2 : OwN w.heap.size w2 v2 (c.newest i) := by
    (show World.ownsRow _ _ _ _ _ _ _)
    rw [HV1.out, HL1.out]
    exact hown
  have hB2 : Below w.heap.size w1 w2 := ((Below.refl _ w1).alloc hsz1 _).grown hgrow (by simp; omega) (fun g hg => (World.ownsRow.lt hO1' g hg).1)
  have HS2 : Hid (DS B w y w2 y c) := (DS.refl HD0.out).old (hB1.trans hB2)
  have c2 := HS2.out.is.c2
  have f2 := HS2.out.is.free 2
  obtain ⟨a2, k2, hv2⟩ := OwN.len hO2
  have HS3 : Hid (DS B w y (w2.setCell ⟨y.p, 2, none⟩ v2) ⟨y.p, y.vb, v2, y.vv, y.vd⟩ ⟨c.n, c.below, c.room, c.newest i, c.val, c.dirty, c.hits⟩) := HS2.out.row hO2 hBw (fun k hk e => by
    have h1 := (lenDS hO2 k hk).1
    have h2 := HD0.out.lt k (.inr (.inr (.inr (.inr e))))
    omega) (Nat.le_refl _)
  have HNL : Hid ((c.newest i).length = ln + 1) := HL1.out
  clear hown hgrow hO1' hB2 hB1 HS2 HV1 HL1
  rw [hvr] at c2
  subst hv2
  rw [HNL.out] at HS3 ⊢
  clear hO2
  go_upto_region 1 with fail
  clear c2 f2
  generalize (w2.setCell ⟨y.p, 2, none⟩ (.slice a2 (ln + 1) k2)) = w3 at *
  have c3 := HS3.out.is.c3
  obtain ⟨g, cap, hvv, hg1, hg2, hg3, hg4⟩ := OwT.at HS3.out.is.vl (by show 0 < c.n; omega)
  have hvv' : y.vv = .slice (some ⟨g, 0, none⟩) c.n cap := hvv
  have hO3 := HS3.out.is.vl
  rw [hvv] at hO3
  have g3 := OwT.cell hO3 i hi
  have f3 := OwT.free hO3 i
  unfold st at g3
  have c3' : w3.cell? ⟨y.p, 3, none⟩ = some (.slice (some ⟨g, 0, none⟩) c.n cap) := by rw [← hvv']; exact c3
  have P := HS3.out.is.putV hvv i b
  have HS4 : Hid (DS B w y (w3.setCell ⟨g, i, none⟩ (.string sx)) ⟨y.p, y.vb, .slice a2 (ln + 1) k2, y.vv, y.vd⟩ ⟨c.n, c.below, c.room, c.newest i, up c.val i b, c.dirty, c.hits⟩) := by
    have e : st b = .string sx := by rw [HSx.out]
    rw [e] at P
    exact HS3.out.step P.1 P.2 (Grows.refl _ _) rfl
  have hiz : (i : Int) < (c.n : Int) := by omega
  clear P c3 HS3 hO3 hvv
  dsimp only at g3
  generalize sb (c.val i) = so at *
  go_upto_region 2 with fail
  clear g3 f3 c3'
  generalize (w3.setCell ⟨g, i, none⟩ (.string sx)) = w4 at *
  have c1 := HS4.out.is.c1
  have c2 := HS4.out.is.c2
  dsimp only at c1 c2
  have hlnz : ((ln + 1 : Nat) : Int) = (ln : Int) + 1 := by omega
  have HUS : Hid (c.use i b = if c.room < (c.newest i).length then ⟨c.n, if c.old i ∈ c.dirty then up c.below (c.old i) (up c.val i b (c.old i)) else c.below, c.room, wo (c.newest i) (c.old i), up c.val i b, wo c.dirty (c.old i), c.hits⟩ else ⟨c.n, c.below, c.room, c.newest i, up c.val i b, c.dirty, c.hits⟩) := rfl
  by_cases hgt : c.room < ln + 1
  · have hd : decide ((c.room : Int) < ((ln + 1 : Nat) : Int)) = true := decide_eq_true (by omega)
    have hd2 : decide (c.room < ln + 1) = true := decide_eq_true hgt
    have hd3 : (c.room : Int) < (ln : Int) + 1 := by omega
    go_quiet (fail)
    have HS5 : Hid (DS B w y (w4.drewN nq) ⟨y.p, y.vb, .slice a2 (ln + 1) k2, y.vv, y.vd⟩ ⟨c.n, c.below, c.room, c.newest i, up c.val i b, c.dirty, c.hits⟩) := HS4.out.old (below_drewN (Below.refl _ _) nq)
    clear HS4 c1 c2
    generalize w4.drewN nq = w5 at *
    obtain ⟨l0, e1, e2, e3, e4, e5⟩ := Che.old_spec HO.out (i := i) (by rw [HNL.out]; exact hgt)
    have HE1 : Hid (c.newest i = c.old i :: l0) := e1
    have HUS2 : Hid (c.use i b = ⟨c.n, if c.old i ∈ c.dirty then up c.below (c.old i) (up c.val i b (c.old i)) else c.below, c.room, wo (c.newest i) (c.old i), up c.val i b, wo c.dirty (c.old i), c.hits⟩) := by (show _ = _); rw [HUS.out]; exact if_pos (by rw [HNL.out]; exact hgt)
    have hon : c.old i < c.n := HO.out.inn _ e3
    have HDN : Hid (∀ k ∈ c.newest i, k < 1000) := fun k hk => by
      rcases Che.mem_newest.1 hk with q | q
      · have := HO.out.inn k q; omega
      · omega
    have HDD : Hid (∀ k ∈ c.dirty, k < 1000) := fun k hk => by have := HO.out.inn k (HO.out.dsub k hk); omega
    have HDL : Hid (c.dirty.length ≤ 100) := by
      have h1 : c.dirty.length ≤ c.row.length := dlen_le HO.out
      show c.dirty.length ≤ 100
      omega
    obtain ⟨o, hoo⟩ : ∃ o, o = c.old i := ⟨_, rfl⟩
    rw [← hoo] at HE1 HUS2 hon
    clear e1 e2 e3 e4 e5 HUS hoo hd hd2
    have c2 := HS5.out.is.c2
    have c4 := HS5.out.is.c4
    dsimp only at c2 c4
    have hR5 := OwN.rd HS5.out.is.rw'
    obtain ⟨ad, had, hcd⟩ := RdF.at (ao := a2) (m := ln + 1) (cap := k2) hR5 0 (by show 0 < (c.newest i).length; rw [HNL.out]; omega)
    subst had
    have hcd' : w5.cell? ad = some (.int .i64 (o : Int)) := by
      rw [add_zero] at hcd
      rw [hcd, HE1.out]
      rfl
    obtain ⟨avd, kvd, hvd⟩ := OwN.len HS5.out.is.dt
    dsimp only at hvd
    rw [hvd] at c4
    have IN := in_any y.vd c.dirty o w5 (OwN.rd HS5.out.is.dt) (by have := HDL.out; omega)
    rw [hvd] at IN
    have hoz : (o : Int) < 40 := by omega
    clear hcd hR5
    go_wp2_with fail
    refine IN.mono ?_
    rintro e w6 ⟨rfl, hw6⟩
    obtain rfl := hw6.symm
    clear IN hw6 hcd'
    by_cases hod : o ∈ c.dirty
    · rw [decide_eq_true hod]
      have c0 := HS5.out.is.c0
      have c3 := HS5.out.is.c3
      dsimp only at c0 c3
      obtain ⟨gb, capb, hvb, _, _, _, _⟩ := OwT.at HS5.out.is.bl (by show 0 < c.n; omega)
      dsimp only at hvb
      rw [hvb] at c0
      rw [hvv'] at c3
      have hOv := HS5.out.is.vl
      dsimp only at hOv
      rw [hvv'] at hOv
      have gv := OwT.cell hOv o hon
      have hOb := HS5.out.is.bl
      dsimp only at hOb
      rw [hvb] at hOb
      have gb0 := OwT.cell hOb o hon
      have fb0 := OwT.free hOb o
      unfold st at gv gb0
      have P := HS5.out.is.putB hvb o (up c.val i b o)
      unfold st at P
      dsimp only at P
      have honz : (o : Int) < (c.n : Int) := by omega
      have HS6 : Hid (DS B w y (w5.setCell ⟨gb, o, none⟩ (.string (sb (up c.val i b o)))).drew ⟨y.p, y.vb, .slice (some ad) (ln + 1) k2, y.vv, y.vd⟩ ⟨c.n, up c.below o (up c.val i b o), c.room, c.newest i, up c.val i b, c.dirty, c.hits⟩) := (HS5.out.step P.1 P.2 (Grows.refl _ _) rfl).old (below_drewN (Below.refl _ _) 1)
      clear P hOv hOb HS5 c2 c4
      generalize sb (up c.val i b o) = sv at *
      generalize sb (c.below o) = sb0 at *
      go_wp2_with fail
      go_region
      clear gv gb0 fb0 c0 c3
      generalize (w5.setCell ⟨gb, o, none⟩ (.string sv)).drew = w7 at *
      have c4 := HS6.out.is.c4
      have f4 := HS6.out.is.free 4
      dsimp only at c4 f4
      rw [hvd] at c4
      have W7 := without_any y.vd c.dirty o w7 (OwN.rd HS6.out.is.dt) HDL.out HDD.out
      rw [hvd] at W7
      go_wp2_with fail
      refine W7.mono ?_
      rintro e w8 ⟨u8, rfl, hO8, hB8⟩
      have hS8 := HS6.out.old hB8
      have c4' := hS8.is.c4
      have f4' := hS8.is.free 4
      dsimp only at c4' f4'
      have HS9 : Hid (DS B w y (w8.setCell ⟨y.p, 4, none⟩ u8) ⟨y.p, y.vb, .slice (some ad) (ln + 1) k2, y.vv, u8⟩ ⟨c.n, up c.below o (up c.val i b o), c.room, c.newest i, up c.val i b, wo c.dirty o, c.hits⟩) := hS8.dirty hO8 (Nat.le_trans hBw HS6.out.size) (fun k hk e => by
        have h1 := (lenDS hO8 k e).1
        have h2 := HS6.out.is.lt k (.inr (.inr (.inl hk)))
        omega) HS6.out.size
      obtain ⟨a8, k8, rfl⟩ := OwN.len hO8
      rw [hvd] at c4'
      have HUS3 : Hid (c.use i b = ⟨c.n, up c.below o (up c.val i b o), c.room, wo (c.newest i) o, up c.val i b, wo c.dirty o, c.hits⟩) := by (show _ = _); rw [HUS2.out, if_pos hod]
      obtain ⟨bl, hbl⟩ : ∃ bl, bl = up c.below o (up c.val i b o) := ⟨_, rfl⟩
      rw [← hbl] at HS9 HUS3
      clear W7 hO8 hB8 HS6 hS8 c4 f4 hbl HUS2
      go_upto_region 8 with fail
      clear c4' f4'
      generalize (w8.setCell ⟨y.p, 4, none⟩ (.slice a8 (wo c.dirty o).length k8)) = w9 at *
      obtain ⟨vd9, hvd9⟩ : ∃ v, v = Value.slice a8 (wo c.dirty o).length k8 := ⟨_, rfl⟩
      rw [← hvd9] at HS9
      clear hvd9
      have c2 := HS9.out.is.c2
      have f2 := HS9.out.is.free 2
      dsimp only at c2 f2
      have W9 := without_any (.slice (some ad) (ln + 1) k2) (c.newest i) o w9 (OwN.rd HS9.out.is.rw') (by rw [HNL.out]; omega) HDN.out
      go_wp2_with fail
      refine W9.mono ?_
      rintro e w10 ⟨u10, rfl, hO10, hB10⟩
      have hS10 := HS9.out.old hB10
      have c2' := hS10.is.c2
      have f2' := hS10.is.free 2
      dsimp only at c2' f2'
      have HS11 : Hid (DS B w y (w10.setCell ⟨y.p, 2, none⟩ u10) ⟨y.p, y.vb, u10, y.vv, vd9⟩ ⟨c.n, bl, c.room, wo (c.newest i) o, up c.val i b, wo c.dirty o, c.hits⟩) := hS10.row hO10 (Nat.le_trans hBw HS9.out.size) (fun k hk e => by
        have h1 := (lenDS hO10 k hk).1
        have h2 := HS9.out.is.lt k (.inr (.inr (.inr (.inr e))))
        omega) HS9.out.size
      obtain ⟨a10, k10, rfl⟩ := OwN.len hO10
      clear W9 hO10 hB10 HS9 hS10 c2 f2
      go_wp2
      go_end0
      exact ⟨rfl, _, by rw [HUS3.out]; exact HS11.out⟩
    · rw [decide_eq_false hod]
      have HUS3 : Hid (c.use i b = ⟨c.n, c.below, c.room, wo (c.newest i) o, up c.val i b, wo c.dirty o, c.hits⟩) := by (show _ = _); rw [HUS2.out, if_neg hod]
      have HS9 : Hid (DS B w y w5 ⟨y.p, y.vb, .slice (some ad) (ln + 1) k2, y.vv, y.vd⟩ ⟨c.n, c.below, c.room, c.newest i, up c.val i b, wo c.dirty o, c.hits⟩) := by rw [wo_none hod]; exact HS5.out
      obtain ⟨bl, hbl⟩ : ∃ bl, bl = c.below := ⟨_, rfl⟩
      rw [← hbl] at HS9 HUS3
      obtain ⟨vd9, hvd9⟩ : ∃ v, v = y.vd := ⟨_, rfl⟩
      rw [← hvd9] at HS9
      clear hvd9 hbl HUS2 HS5 c2 c4
      go_upto_region 8 with fail
      generalize w5 = w9 at *
      have c2 := HS9.out.is.c2
      have f2 := HS9.out.is.free 2
      dsimp only at c2 f2
      have W9 := without_any (.slice (some ad) (ln + 1) k2) (c.newest i) o w9 (OwN.rd HS9.out.is.rw') (by rw [HNL.out]; omega) HDN.out
      go_wp2_with fail
      refine W9.mono ?_
      rintro e w10 ⟨u10, rfl, hO10, hB10⟩
      have hS10 := HS9.out.old hB10
      have c2' := hS10.is.c2
      have f2' := hS10.is.free 2
      dsimp only at c2' f2'
      have HS11 : Hid (DS B w y (w10.setCell ⟨y.p, 2, none⟩ u10) ⟨y.p, y.vb, u10, y.vv, vd9⟩ ⟨c.n, bl, c.room, wo (c.newest i) o, up c.val i b, wo c.dirty o, c.hits⟩) := hS10.row hO10 (Nat.le_trans hBw HS9.out.size) (fun k hk e => by
        have h1 := (lenDS hO10 k hk).1
        have h2 := HS9.out.is.lt k (.inr (.inr (.inr (.inr e))))
        omega) HS9.out.size
      obtain ⟨a10, k10, rfl⟩ := OwN.len hO10
      clear W9 hO10 hB10 HS9 hS10 c2 f2
      go_wp2
      go_end0
      exact ⟨rfl, _, by rw [HUS3.out]; exact HS11.out⟩
  · have hd : decide ((c.room : Int) < ((ln + 1 : Nat) : Int)) = false := decide_eq_false (by omega)
    have hd2 : decide (c.room < ln + 1) = false := decide_eq_false hgt
    have hd3 : ¬ (c.room : Int) < (ln : Int) + 1 := by omega
    have HUS2 : Hid (c.use i b = ⟨c.n, c.below, c.room, c.newest i, up c.val i b, c.dirty, c.hits⟩) := by (show _ = _); rw [HUS.out]; exact if_neg (by rw [HNL.out]; exact hgt)
    have hd4 : decide ((c.room : Int) < (ln : Int) + 1) = false := decide_eq_false hd3
    clear HUS hgt
    go_quiet (fail)
    have HS5 : Hid (DS B w y (w4.drewN nq) ⟨y.p, y.vb, .slice a2 (ln + 1) k2, y.vv, y.vd⟩ ⟨c.n, c.below, c.room, c.newest i, up c.val i b, c.dirty, c.hits⟩) := HS4.out.old (below_drewN (Below.refl _ _) nq)
    clear HS4 c1 c2
    generalize w4.drewN nq = w5 at *
    go_wp2
    go_end0
    exact ⟨rfl, _, by rw [HUS2.out]; exact HS5.out⟩
end Go.Proofs.YtfeikmmojilmbaaDoor
