/- A cell is written below; the oldest goes; a cell is used: walks over the program. -/
import Derived.Test.YtfeikmmojilmbaaDoorChD
namespace Go.Proofs.YtfeikmmojilmbaaDoor
open Go.RowKit Go.Maps El Pol
variable {B : Nat} {w : World} {x : CP} {c : Che} {us si : Nat → Nat} {T : Nat}
/-- below another one -/
theorem MCt.below {g cap : Nat} (h : MCt B w x c us si T) (hv : x.vb = .slice (some ⟨g, 0, none⟩) c.n cap) (i : Nat) (t : List El) :
    MCt B (w.setCell ⟨g, i, none⟩ (st t)) x ⟨c.n, up c.below i t, c.room, c.row, c.val, c.dirty, c.hits⟩ us si T ∧ But x.F w (w.setCell ⟨g, i, none⟩ (st t)) := by
  have hO := h.bl
  rw [hv] at hO
  have S := OwT.stored hO i t
  have hg : x.vb.ownBlock = some g := by rw [hv]; rfl
  have hb : But (· = g) w (w.setCell ⟨g, i, none⟩ (st t)) := (But.refl (· = g) w).setCell (p := ⟨g, i, none⟩) rfl _
  obtain ⟨D, hD⟩ := h.mp
  refine ⟨⟨(hb.block _ h.plt (fun e => h.vp hg e.symm)).trans h.row, by rw [hv]; exact S.1, ⟨D, hD.blk (hb.block _ h.blt (fun e => h.vm hg e.symm))⟩, ⟨h.tn.ru, h.tn.rp, h.tn.du, h.tn.dp, h.tn.dn⟩, h.hp, h.hb⟩, hb.mono (fun k e => .inr (.inl (by rw [e]; exact hg)))⟩
/-- the map another one -/
theorem MCt.turn {w1 : World} {c' : Che} {us' si' : Nat → Nat} (h : MCt B w x c us si T) (hg : w.grownBy w1 (some x.b)) {D : DataW Unit} (hD : HasH w1 x.b c'.row (vH c' us' si') D) (hn : c'.n = c.n) (hbl : c'.below = c.below) (hr : c'.room = c.room) (hh : c'.hits = c.hits) (ht : Tns c' us' si' T) :
    MCt B w1 x c' us' si' T ∧ But x.F w w1 := by
  have hb : But (· = x.b) w w1 := But.grown hg (fun k e => by injection e with e; exact e.symm)
  refine ⟨⟨?_, ?_, ⟨D, hD⟩, ht, h.hp, h.hb⟩, hb.mono (fun k e => .inr (.inr e))⟩
  · rw [hb.block _ h.plt h.bp, h.row]
    unfold chCells
    rw [hr, hh]
  · rw [hn, hbl]
    exact ownsRow_but h.bl hb (fun k hk => h.vm hk)
/-- a variable of its own, that is held -/
def Lh (W : World) (q : Nat) (s : ByteArray) (u t : Nat) : Prop := W.heap[q]? = some (.cells #[.string s, .int .i64 (u : Int), .int .i64 (t : Int)] 86 (0, 0))
namespace Lh
variable {W W' : World} {q : Nat} {s : ByteArray} {u t : Nat}
theorem lt (h : Lh W q s u t) : q < W.heap.size := lt_of_block h
theorem c0 (h : Lh W q s u t) : W.cell? ⟨q, 0, none⟩ = some (.string s) := by rw [cell_of_row _ _ _ _ _ _ h]; rfl
theorem c1 (h : Lh W q s u t) : W.cell? ⟨q, 1, none⟩ = some (.int .i64 (u : Int)) := by rw [cell_of_row _ _ _ _ _ _ h]; rfl
theorem c2 (h : Lh W q s u t) : W.cell? ⟨q, 2, none⟩ = some (.int .i64 (t : Int)) := by rw [cell_of_row _ _ _ _ _ _ h]; rfl
theorem free (h : Lh W q s u t) (i : Nat) : W.frozen? ⟨q, i, none⟩ = false := frozen_of_row _ _ _ _ _ h
theorem but {G : Nat → Prop} (h : Lh W q s u t) (hb : But G W W') (hn : ¬ G q) : Lh W' q s u t := (hb.block q h.lt hn).trans h
theorem old (h : Lh W q s u t) (hb : Below W.heap.size W W') : Lh W' q s u t := (hb.block q h.lt).trans h
theorem new (W : World) (s : ByteArray) (u t : Nat) : Lh (W.alloc (.cells #[.string s, .int .i64 (u : Int), .int .i64 (t : Int)] 86)) W.heap.size s u t := heap_alloc_new W _
theorem put0 (h : Lh W q s u t) (s' : ByteArray) : Lh (W.setCell ⟨q, 0, none⟩ (.string s')) q s' u t := by unfold Lh; rw [heap_setCell_same _ _ _ _ _ _ h]; rfl
theorem put1 (h : Lh W q s u t) (u' : Nat) : Lh (W.setCell ⟨q, 1, none⟩ (.int .i64 (u' : Int))) q s u' t := by unfold Lh; rw [heap_setCell_same _ _ _ _ _ _ h]; rfl
theorem put2 (h : Lh W q s u t) (t' : Nat) : Lh (W.setCell ⟨q, 2, none⟩ (.int .i64 (t' : Int))) q s u t' := by unfold Lh; rw [heap_setCell_same _ _ _ _ _ _ h]; rfl
end Lh
/-- all but a variable's block -/
theorem but_at1 (W : World) (q i : Nat) (v : Value) : But (· = q) W (W.setCell ⟨q, i, none⟩ v) := (But.refl (· = q) W).setCell (p := ⟨q, i, none⟩) rfl _
theorem below_dr1 (W : World) : Below W.heap.size W W.drew := below_drewN (Below.refl _ _) 1
set_option maxRecDepth 100000 in
set_option maxHeartbeats 2000000 in
theorem cbelow_any (h : MCt B w x c us si T) {i : Nat} (hi : i ∈ c.row) (hn : i < c.n) (hn40 : c.n ≤ 40) :
    Calls Tryd.prog 48 #[.pointer (some ⟨x.p, 0, none⟩), .int .i64 (i : Int)] w fun e w' => e = .returned (.tuple #[]) ∧ MCt B w' x (c.settle i) us (up si i 0) T ∧ But x.F w w' := by
  obtain ⟨D, hD⟩ := h.mp
  have c2 := h.c2
  obtain ⟨g, cap, hv, hg1, hg2, hg3, hg4⟩ := OwT.at h.bl (by omega)
  have L := hD.run_look i (by omega)
  rw [show atH c.row (vH c us si) i = (c.val i, us i, si i) from if_pos hi] at L
  have h_tn := h.tn
  have HM : Hid (MCt B w x c us si T) := h
  have HX : Hid (x.vb = .slice (some ⟨g, 0, none⟩) c.n cap) := hv
  have HD : Hid (HasH w x.b c.row (vH c us si) D) := hD
  have HI : Hid (i ∈ c.row) := hi
  clear h hD hv hi
  unfold hv at L
  dsimp only at L
  unfold st at L
  obtain ⟨s, hs⟩ : ∃ s, s = sb (c.val i) := ⟨_, rfl⟩
  have HS : Hid (s = sb (c.val i)) := hs
  rw [← hs] at L
  clear hs
  obtain ⟨u, hu⟩ : ∃ u, u = us i := ⟨_, rfl⟩
  have HU : Hid (u = us i) := hu
  rw [← hu] at L
  clear hu
  generalize si i = t0 at *
  go_enter Tryd.func48, Tryd.ntmps48
  go_upto_region 1 with fail
  have hLa := Lh.new w s u t0
  have hBa : Below w.heap.size w (w.alloc (.cells #[.string s, .int .i64 (u : Int), .int .i64 (t0 : Int)] 86)) := al_below _ _
  have hMa := HM.out.old hBa
  have hbut : But x.F w (w.alloc (.cells #[.string s, .int .i64 (u : Int), .int .i64 (t0 : Int)] 86)) := Below.but hBa _
  have hq : ∀ k, x.F k → k ≠ w.heap.size := fun k hk => by have := HM.out.lt k hk; omega
  have HQ : Hid (∀ k, x.F k → k ≠ w.heap.size) := hq
  clear HM hBa HD hq c2
  generalize (w.alloc (.cells #[.string s, .int .i64 (u : Int), .int .i64 (t0 : Int)] 86)) = wa at *
  have d0 := hMa.c0
  rw [HX.out] at d0
  have e0 := hLa.c0
  have hO := hMa.bl
  rw [HX.out] at hO
  have f0 := OwT.free hO i
  have g0 := OwT.cell hO i hn
  unfold st at g0
  have hz : (i : Int) < (c.n : Int) := by omega
  have P := hMa.below HX.out i (c.val i)
  have hF : x.F g := .inr (.inl (by rw [HX.out]; rfl))
  have HP : Hid (MCt B (wa.setCell ⟨g, i, none⟩ (.string s)).drew x ⟨c.n, up c.below i (c.val i), c.room, c.row, c.val, c.dirty, c.hits⟩ us si T ∧ But x.F w (wa.setCell ⟨g, i, none⟩ (.string s)).drew ∧ Lh (wa.setCell ⟨g, i, none⟩ (.string s)).drew w.heap.size s u t0) := by
    rw [show st (c.val i) = .string s by rw [HS.out]] at P
    refine ⟨P.1.old (below_dr1 _), (hbut.trans P.2 (Grows.refl _ _)).drew, (hLa.but P.2 (fun e => HQ.out _ e rfl)).old (below_dr1 _)⟩
  clear P hMa hbut hO
  generalize c.below i = bi at *
  go_region
  clear d0 e0 f0 g0 hLa
  generalize (wa.setCell ⟨g, i, none⟩ (.string s)).drew = wc at *
  have f2 := HP.out.2.2.free 2
  have h2 := HP.out.2.2.c2
  have hL2 := HP.out.2.2.put2 0
  have hb2 := but_at1 wc w.heap.size 2 (.int .i64 ((0 : Nat) : Int))
  have hM2 := HP.out.1.but hb2 (fun k hk e => HQ.out k hk e)
  have hB2 : But x.F w (wc.setCell ⟨w.heap.size, 2, none⟩ (.int .i64 ((0 : Nat) : Int))) := ⟨HP.out.2.1.os, HP.out.2.1.tape, HP.out.2.1.output, by simpa [World.setCell] using HP.out.2.1.size, fun k hk hn => (hb2.block k (by have := HP.out.2.1.size; omega) (by omega)).trans (HP.out.2.1.block k hk hn)⟩
  have HN : Hid (MCt B (wc.setCell ⟨w.heap.size, 2, none⟩ (.int .i64 ((0 : Nat) : Int))) x ⟨c.n, up c.below i (c.val i), c.room, c.row, c.val, c.dirty, c.hits⟩ us si T ∧ But x.F w (wc.setCell ⟨w.heap.size, 2, none⟩ (.int .i64 ((0 : Nat) : Int))) ∧ Lh (wc.setCell ⟨w.heap.size, 2, none⟩ (.int .i64 ((0 : Nat) : Int))) w.heap.size s u 0) := ⟨hM2, hB2, hL2⟩
  clear HP hb2 hM2 hB2 hL2
  go_upto_region 3 with fail
  clear f2 h2
  rw [show (0 : Int) = ((0 : Nat) : Int) from rfl]
  generalize (wc.setCell ⟨w.heap.size, 2, none⟩ (.int .i64 ((0 : Nat) : Int))) = we at *
  have d2 := HN.out.1.c2
  have e0 := HN.out.2.2.c0
  have e1 := HN.out.2.2.c1
  have e2 : we.cell? ⟨w.heap.size, 2, none⟩ = some (.int .i64 0) := HN.out.2.2.c2
  obtain ⟨D2, hD2⟩ := HN.out.1.mp
  obtain ⟨w', R, hown, hgr⟩ := (hD2.old (below_dr1 we)).run_put i (by omega) (c.val i, us i, 0)
  have hM3 := HN.out.1.old (below_dr1 we)
  have hD3 := (hD2.old (below_dr1 we)).set HI.out (c.val i, us i, 0) hown
  have hD4 : HasH w' x.b (c.settle i).row (vH (c.settle i) us (up si i 0)) (D2.put (kI (i : Int)) (hD (c.val i, us i, 0))) := hD3.congr (fun k _ => by
    unfold vH
    by_cases e : k = i
    · subst e; rw [up_at, up_at]; rfl
    · rw [up_ne _ _ e, up_ne _ _ e]; rfl)
  have P := hM3.turn hgr hD4 rfl rfl rfl rfl (h_tn.settle i)
  have R' : (Instr.mapUpdate 79 (.map (some x.b)) (.int .i64 (i : Int)) (.agg #[.string s, .int .i64 (u : Int), .int .i64 0])).run Tryd.prog we.drew = .ok () w' := by
    rw [HS.out, HU.out]; exact R
  have HF : Hid (MCt B w' x (c.settle i) us (up si i 0) T ∧ But x.F w w') := ⟨P.1, (HN.out.2.1.drew).trans P.2 (Grows.refl _ _)⟩
  clear P R hown hgr hM3 hD3 hD4 hD2 HN HS HU HX HI HQ h_tn
  go_region
  go_end0
  exact ⟨rfl, HF.out⟩
theorem but_loc {F : Nat → Prop} {a W W1 : World} {q : Nat} (h : But F a W) (hq : a.heap.size ≤ q) (hb : But (· = q) W W1) : But F a W1 :=
  ⟨hb.os.trans h.os, hb.tape.trans h.tape, hb.output.trans h.output, Nat.le_trans h.size hb.size, fun k hk hn => (hb.block k (Nat.lt_of_lt_of_le hk h.size) (by omega)).trans (h.block k hk hn)⟩
theorem shed_n (c : Che) : c.shed.n = c.n ∧ c.shed.room = c.room ∧ c.shed.hits = c.hits ∧ c.shed.val = c.val := ⟨rfl, rfl, rfl, rfl⟩
set_option maxRecDepth 100000 in
set_option maxHeartbeats 2000000 in
theorem cdrop_any (h : MCt B w x c us si T) (ho : c.ok) {o : Nat} {l : List Nat} (hr : c.row = o :: l) :
    Calls Tryd.prog 68 #[.pointer (some ⟨x.p, 0, none⟩)] w fun e w' => e = .returned (.tuple #[]) ∧ (∃ si', (∀ k, k ≠ o → si' k = si k) ∧ MCt B w' x c.shed us si' T) ∧ But x.F w w' := by
  have C := chas_any h (Nat.le_trans ho.len ho.r12)
  have hoin : o ∈ c.row := by rw [hr]; exact List.mem_cons_self
  have hon := ho.inn o hoin
  have hn40 := ho.n40
  have hoz : (o : Int) < 40 := by omega
  have HM : Hid (MCt B w x c us si T) := h
  have HO : Hid c.ok := ho
  have HR : Hid (c.row = o :: l) := hr
  have HI : Hid (o ∈ c.row) := hoin
  clear h ho hr hoin
  go_enter Tryd.func68, Tryd.ntmps68
  go_wp2_with fail
  refine C.mono ?_
  rintro e w1 ⟨v, rfl, hO1, hB1⟩
  have hM1 := HM.out.old hB1
  have hb1 : But x.F w w1 := Below.but hB1 _
  obtain ⟨ao, cap, rfl⟩ := OwN.len hO1
  obtain ⟨ad, rfl, hc⟩ := (OwN.rd hO1).at 0 (by rw [HR.out]; simp)
  rw [show c.row.getD 0 0 = o by rw [HR.out]; rfl, add_zero] at hc
  have hlen : 0 < c.row.length := by rw [HR.out]; simp
  have hlz : (0 : Int) < (c.row.length : Int) := by omega
  have d2 := hM1.c2
  obtain ⟨D, hD⟩ := hM1.mp
  have L := hD.run_look o (by omega)
  rw [show atH c.row (vH c us si) o = (c.val o, us o, si o) from if_pos HI.out] at L
  have Dy := isdirty_any (c.val o, us o, si o) w1
  dsimp only at Dy
  generalize hv (c.val o, us o, si o) = vo at *
  have HM1 : Hid (MCt B w1 x c us si T) := hM1
  have HB1 : Hid (But x.F w w1) := hb1
  have hs1 := hB1.size
  have hq : ∀ k, x.F k → k < w.heap.size := HM.out.lt
  have HQ : Hid (∀ k, x.F k → k < w.heap.size) := hq
  clear C hO1 hM1 hb1 hB1 hD hq HM
  generalize c.row.length = rl at *
  go_wp2_with fail
  refine Dy.mono ?_
  rintro e w2 ⟨rfl, hB2⟩
  have HM2 : Hid (MCt B w2 x c us si T) := HM1.out.old hB2
  have HB2 : Hid (But x.F w w2) := HB1.out.trans (Below.but hB2 x.F) (Grows.refl _ _)
  have hs2 : w.heap.size ≤ w2.heap.size := Nat.le_trans hs1 hB2.size
  clear Dy HM1 HB1 hB2 L d2 hc
  by_cases hd : o ∈ c.dirty
  · have e : decide (si o ≠ 0) = true := decide_eq_true ((HM2.out.tn.dirty_iff HI.out).2 hd)
    have W := cbelow_any HM2.out HI.out hon hn40
    rw [e]
    clear e
    go_wp2_with fail
    refine W.mono ?_
    rintro e w3 ⟨rfl, hM3, hB3⟩
    have d2 := hM3.c2
    obtain ⟨D3, hD3⟩ := hM3.mp
    have HM3 : Hid (MCt B w3 x (c.settle o) us (up si o 0) T) := hM3
    have HD3 : Hid (HasH w3 x.b c.row (vH (c.settle o) us (up si o 0)) D3) := hD3
    have HB3 : Hid (But x.F w w3) := HB2.out.trans hB3 (Grows.refl _ _)
    clear W hM3 hB3 hD3 HM2
    go_wp2_with (refine wp_deleH HD3.out o HI.out rfl _ _ rfl rfl rfl ?_)
    intro w4 D4 hD4 hg4
    have hwo : wo c.row o = l := by
      rw [HR.out]
      have := HO.out.nd
      rw [HR.out] at this
      exact wo_head (List.nodup_cons.1 this).1
    have hD5 : HasH w4 x.b c.shed.row (vH c.shed us (up si o 0)) D4 := by
      have e1 : c.shed.row = l := by unfold Che.shed; rw [HR.out]; rfl
      rw [e1, ← hwo]
      exact hD4
    have hbl : c.shed.below = (c.settle o).below := by
      unfold Che.shed Che.settle
      rw [HR.out]
      exact if_pos hd
    have htn : Tns c.shed us (up si o 0) T := by
      have h1 := HM3.out.tn.shed (Che.settle_ok HO.out HI.out) (o := o) (l := l) HR.out
      have e2 : (c.settle o).shed.row = c.shed.row := rfl
      have e3 : (c.settle o).shed.dirty = c.shed.dirty := by
        unfold Che.shed Che.settle
        rw [HR.out]
        dsimp only [List.headD]
        exact wo_none (fun q => (mem_wo.1 q).2 rfl)
      exact ⟨by rw [← e2]; exact h1.ru, by rw [← e2]; exact h1.rp, by rw [← e3]; exact h1.du, by rw [← e3]; exact h1.dp, by rw [← e2, ← e3]; exact h1.dn⟩
    have P := HM3.out.turn hg4 hD5 rfl hbl rfl rfl htn
    have HF : Hid ((∃ si', (∀ k, k ≠ o → si' k = si k) ∧ MCt B w4 x c.shed us si' T) ∧ But x.F w w4) := ⟨⟨_, fun k hk => up_ne _ _ hk, P.1⟩, HB3.out.trans P.2 (Grows.refl _ _)⟩
    clear P htn hbl hD5 hwo hD4 hg4 HD3 HM3 HB3 HB2
    go_wp2
    go_end0
    exact ⟨rfl, HF.out⟩
  · have e : decide (si o ≠ 0) = false := decide_eq_false (fun q => hd ((HM2.out.tn.dirty_iff HI.out).1 q))
    rw [e]
    clear e
    have d2 := HM2.out.c2
    obtain ⟨D3, hD3⟩ := HM2.out.mp
    have HD3 : Hid (HasH w2 x.b c.row (vH c us si) D3) := hD3
    clear hD3
    go_wp2_with (refine wp_deleH HD3.out o HI.out rfl _ _ rfl rfl rfl ?_)
    intro w4 D4 hD4 hg4
    have hwo : wo c.row o = l := by
      rw [HR.out]
      have := HO.out.nd
      rw [HR.out] at this
      exact wo_head (List.nodup_cons.1 this).1
    have hD5 : HasH w4 x.b c.shed.row (vH c.shed us si) D4 := by
      have e1 : c.shed.row = l := by unfold Che.shed; rw [HR.out]; rfl
      rw [e1, ← hwo]
      exact hD4
    have hbl : c.shed.below = c.below := by
      unfold Che.shed
      rw [HR.out]
      exact if_neg hd
    have P := HM2.out.turn hg4 hD5 rfl hbl rfl rfl (HM2.out.tn.shed HO.out HR.out)
    have HF : Hid ((∃ si', (∀ k, k ≠ o → si' k = si k) ∧ MCt B w4 x c.shed us si' T) ∧ But x.F w w4) := ⟨⟨_, fun _ _ => rfl, P.1⟩, HB2.out.trans P.2 (Grows.refl _ _)⟩
    clear P hbl hD5 hwo hD4 hg4 HD3 HM2 HB2
    go_wp2
    go_end0
    exact ⟨rfl, HF.out⟩
end Go.Proofs.YtfeikmmojilmbaaDoor
