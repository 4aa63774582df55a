/- A cell is used: a walk over the program. -/
import Derived.Test.YtfeikmmojilmbaaDoorChE
namespace Go.Proofs.YtfeikmmojilmbaaDoor
open Go.RowKit Go.Maps El Pol
variable {B : Nat} {w : World} {x : CP} {c : Che} {us si : Nat → Nat} {T : Nat}
set_option maxRecDepth 100000 in
set_option maxHeartbeats 2000000 in
theorem cuse_any (h : MCt B w x c us si T) (ho : c.ok) (hT : T ≤ 1000000) {i : Nat} (hi : i < c.n) (b : List El) (u0 s : Nat) (hS : Tns.Since c si T i s) :
    Calls Tryd.prog 43 #[.pointer (some ⟨x.p, 0, none⟩), .int .i64 (i : Int), hv (b, u0, s)] w fun e w' => e = .returned (.tuple #[]) ∧ (∃ us' si', MCt B w' x (Tns.soiled (c.use i b) i s) us' si' (T + 1)) ∧ But x.F w w' := by
  have HQ : Hid (∀ k, x.F k → k < w.heap.size) := h.lt
  have HM : Hid (MCt B w x c us si T) := h
  have hn40 := ho.n40
  have h12 := ho.r12
  have hlen := ho.len
  have hTz : (T : Int) ≤ 1000000 := by omega
  unfold hv st
  dsimp only
  obtain ⟨sx, hsx⟩ : ∃ sx, sx = sb b := ⟨_, rfl⟩
  have HSx : Hid (sx = sb b) := hsx
  rw [← hsx]
  clear hsx
  by_cases hin : i ∈ c.row
  · obtain ⟨ck, hck⟩ : ∃ ck, ck = c := ⟨_, rfl⟩
    obtain ⟨sk, hsk⟩ : ∃ sk, sk = si := ⟨_, rfl⟩
    have HU : Hid (c.use i b = ck.push i b) := by rw [hck]; exact Che.use_push ho (fun q => q.1 hin)
    have HL : Hid ((wo ck.row i ++ [i]).length ≤ 40) := by
      have := wo_len1 ho.nd hin
      show (wo ck.row i ++ [i]).length ≤ 40
      rw [hck, List.length_append, List.length_singleton]
      omega
    have HTn : Hid (Tns ck us sk T) := by rw [hck, hsk]; exact h.tn
    have HSi : Hid (Tns.Since ck sk T i s) := by rw [hck, hsk]; exact hS
    clear h ho hS
    go_enter Tryd.func43, Tryd.ntmps43
    go_upto_region 1 with fail
    have hL0 := Lh.new w sx u0 s
    have hB0 : Below w.heap.size w (w.alloc (.cells #[.string sx, .int .i64 (u0 : Int), .int .i64 (s : Int)] 86)) := al_below _ _
    have HK : Hid (MCt B (w.alloc (.cells #[.string sx, .int .i64 (u0 : Int), .int .i64 (s : Int)] 86)) x c us si T ∧ But x.F w (w.alloc (.cells #[.string sx, .int .i64 (u0 : Int), .int .i64 (s : Int)] 86)) ∧ Lh (w.alloc (.cells #[.string sx, .int .i64 (u0 : Int), .int .i64 (s : Int)] 86)) w.heap.size sx u0 s) := ⟨HM.out.old hB0, Below.but hB0 _, hL0⟩
    clear hL0 hB0
    generalize (w.alloc (.cells #[.string sx, .int .i64 (u0 : Int), .int .i64 (s : Int)] 86)) = wa at *
    have c2 := HK.out.1.c2
    obtain ⟨D, hD⟩ := HK.out.1.mp
    have L := hD.run_look2 i (by omega)
    obtain ⟨⟨ya, yu, yt⟩, hy⟩ : ∃ y, y = atH c.row (vH c us si) i := ⟨_, rfl⟩
    rw [← hy] at L
    unfold hv st at L
    dsimp only at L
    generalize sb ya = sy at *
    clear hy
    rw [decide_eq_true hin] at L
    go_upto_region 2 with fail
    have hBb : Below wa.heap.size wa (wa.alloc (.cells #[.string sy, .int .i64 (yu : Int), .int .i64 (yt : Int)] 86)) := al_below _ _
    have HK2 : Hid (MCt B (wa.alloc (.cells #[.string sy, .int .i64 (yu : Int), .int .i64 (yt : Int)] 86)) x c us si T ∧ But x.F w (wa.alloc (.cells #[.string sy, .int .i64 (yu : Int), .int .i64 (yt : Int)] 86)) ∧ Lh (wa.alloc (.cells #[.string sy, .int .i64 (yu : Int), .int .i64 (yt : Int)] 86)) w.heap.size sx u0 s) := ⟨HK.out.1.old hBb, HK.out.2.1.alloc _, HK.out.2.2.old hBb⟩
    clear HK hBb L hD c2
    generalize (wa.alloc (.cells #[.string sy, .int .i64 (yu : Int), .int .i64 (yt : Int)] 86)) = wb at *
    have HK : Hid (MCt B wb x ck us sk T ∧ But x.F w wb ∧ Lh wb w.heap.size sx u0 s) := by rw [hck, hsk]; exact HK2.out
    clear HK2 hck hsk
    go_quiet (fail)
    have HKq : Hid (MCt B (wb.drewN nq) x ck us sk T ∧ But x.F w (wb.drewN nq) ∧ Lh (wb.drewN nq) w.heap.size sx u0 s) := ⟨HK.out.1.old (below_drewN (Below.refl _ _) nq), HK.out.2.1.drewN nq, HK.out.2.2.old (below_drewN (Below.refl _ _) nq)⟩
    clear HK
    generalize wb.drewN nq = wd at *
    have HK := HKq
    clear HKq
    have N := cturn_any HK.out.1 hT
    go_wp2_with fail
    refine N.mono ?_
    rintro e wn ⟨rfl, hMn, hbn⟩
    have hLn : Lh wn w.heap.size sx u0 s := HK.out.2.2.but hbn (fun e => absurd (HQ.out _ (.inl e)) (by omega))
    have fn := hLn.free 1
    have gn := hLn.c1
    have hBn : But x.F w wn := HK.out.2.1.trans (hbn.mono (CP_p x)) (Grows.refl _ _)
    have hb2 := but_at1 wn w.heap.size 1 (.int .i64 ((T + 1 : Nat) : Int))
    have HN : Hid (MCt B (wn.setCell ⟨w.heap.size, 1, none⟩ (.int .i64 ((T + 1 : Nat) : Int))) x ck us sk (T + 1) ∧ But x.F w (wn.setCell ⟨w.heap.size, 1, none⟩ (.int .i64 ((T + 1 : Nat) : Int))) ∧ Lh (wn.setCell ⟨w.heap.size, 1, none⟩ (.int .i64 ((T + 1 : Nat) : Int))) w.heap.size sx (T + 1) s) :=
      ⟨hMn.but hb2 (fun k hk e => absurd (HQ.out k hk) (by omega)), but_loc hBn (Nat.le_refl _) hb2, hLn.put1 (T + 1)⟩
    clear N hMn hbn hBn hLn hb2 HK
    have hcT : ((T + 1 : Nat) : Int) = (T : Int) + 1 := by omega
    rw [hcT] at HN ⊢
    clear hcT
    go_upto_region 5 with fail
    clear fn gn
    generalize (wn.setCell ⟨w.heap.size, 1, none⟩ (.int .i64 ((T : Int) + 1))) = we at *
    have d2 := HN.out.1.c2
    have e0 := HN.out.2.2.c0
    have e1 : we.cell? ⟨w.heap.size, 1, none⟩ = some (.int .i64 ((T : Int) + 1)) := HN.out.2.2.c1
    have e2 := HN.out.2.2.c2
    obtain ⟨D2, hD2⟩ := HN.out.1.mp
    obtain ⟨w', R, hown, hgr⟩ := (hD2.old (below_dr1 we)).run_put i (by omega) (b, T + 1, s)
    have hM3 := HN.out.1.old (below_dr1 we)
    have hD3 := (hD2.old (below_dr1 we)).put (k := i) (by omega) (b, T + 1, s) HL.out hown
    have hD4 : HasH w' x.b (Tns.soiled (ck.push i b) i s).row (vH (Tns.soiled (ck.push i b) i s) (up us i (T + 1)) (up sk i s)) (D2.put (kI (i : Int)) (hD (b, T + 1, s))) := by
      have er : (Tns.soiled (ck.push i b) i s).row = wo ck.row i ++ [i] := by unfold Tns.soiled; split <;> rfl
      have ev : (Tns.soiled (ck.push i b) i s).val = up ck.val i b := by unfold Tns.soiled; split <;> rfl
      rw [er]
      refine hD3.congr (fun k _ => ?_)
      unfold vH
      rw [ev]
      by_cases e : k = i
      · subst e; rw [up_at, up_at, up_at, up_at]
      · rw [up_ne _ _ e, up_ne _ _ e, up_ne _ _ e, up_ne _ _ e]
    have htp : Tns (Tns.soiled (ck.push i b) i s) (up us i (T + 1)) (up sk i s) (T + 1) := HTn.out.push HSi.out b
    have P := hM3.turn hgr hD4 (by unfold Tns.soiled; split <;> rfl) (by unfold Tns.soiled; split <;> rfl) (by unfold Tns.soiled; split <;> rfl) (by unfold Tns.soiled; split <;> rfl) htp
    have R' : (Instr.mapUpdate 79 (.map (some x.b)) (.int .i64 (i : Int)) (.agg #[.string sx, .int .i64 ((T : Int) + 1), .int .i64 (s : Int)])).run Tryd.prog we.drew = .ok () w' := by
      rw [HSx.out]; exact R
    have HF : Hid ((∃ us' si', MCt B w' x (Tns.soiled (c.use i b) i s) us' si' (T + 1)) ∧ But x.F w w') := by
      rw [HU.out]
      exact ⟨⟨_, _, P.1⟩, (HN.out.2.1.drew).trans P.2 (Grows.refl _ _)⟩
    clear P R hown hgr hM3 hD3 hD4 hD2 HN HSx HQ htp HTn HSi HU
    go_region
    go_end0
    exact ⟨rfl, HF.out⟩
  · by_cases hfull : c.row.length = c.room
    · obtain ⟨e1, o, l, hr, hoi⟩ := Che.use_shed (b := b) ho hin hfull
      have hshed := Che.shed_ok ho hr
      have hnin : i ∉ c.shed.row := fun q => hin (by
        have e1 : c.shed.row = l := by unfold Che.shed; rw [hr]; rfl
        rw [e1] at q
        rw [hr]
        exact List.mem_cons_of_mem _ q)
      have HL : Hid ((wo c.shed.row i ++ [i]).length ≤ 40) := by
        show (wo c.shed.row i ++ [i]).length ≤ 40
        rw [wo_none hnin, List.length_append, List.length_singleton]
        have h1 := hshed.len
        have h2 := hshed.r12
        omega
      have HU : Hid (c.use i b = c.shed.push i b) := e1
      have HSh : Hid (Tns.Since c.shed si T i s) := hS.shed hr hoi
      have HO : Hid c.ok := ho
      have HR : Hid (c.row = o :: l) := hr
      have HOI : Hid (o ≠ i) := hoi
      clear e1 hnin hshed hoi hS h ho hr
      go_enter Tryd.func43, Tryd.ntmps43
      go_upto_region 1 with fail
      have hL0 := Lh.new w sx u0 s
      have hB0 : Below w.heap.size w (w.alloc (.cells #[.string sx, .int .i64 (u0 : Int), .int .i64 (s : Int)] 86)) := al_below _ _
      have HK : Hid (MCt B (w.alloc (.cells #[.string sx, .int .i64 (u0 : Int), .int .i64 (s : Int)] 86)) x c us si T ∧ But x.F w (w.alloc (.cells #[.string sx, .int .i64 (u0 : Int), .int .i64 (s : Int)] 86)) ∧ Lh (w.alloc (.cells #[.string sx, .int .i64 (u0 : Int), .int .i64 (s : Int)] 86)) w.heap.size sx u0 s) := ⟨HM.out.old hB0, Below.but hB0 _, hL0⟩
      clear hL0 hB0
      generalize (w.alloc (.cells #[.string sx, .int .i64 (u0 : Int), .int .i64 (s : Int)] 86)) = wa at *
      have c2 := HK.out.1.c2
      obtain ⟨D, hD⟩ := HK.out.1.mp
      have L := hD.run_look2 i (by omega)
      obtain ⟨⟨ya, yu, yt⟩, hy⟩ : ∃ y, y = atH c.row (vH c us si) i := ⟨_, rfl⟩
      rw [← hy] at L
      unfold hv st at L
      dsimp only at L
      generalize sb ya = sy at *
      clear hy
      rw [decide_eq_false hin] at L
      go_upto_region 2 with fail
      have hBb : Below wa.heap.size wa (wa.alloc (.cells #[.string sy, .int .i64 (yu : Int), .int .i64 (yt : Int)] 86)) := al_below _ _
      have HK2 : Hid (MCt B (wa.alloc (.cells #[.string sy, .int .i64 (yu : Int), .int .i64 (yt : Int)] 86)) x c us si T ∧ But x.F w (wa.alloc (.cells #[.string sy, .int .i64 (yu : Int), .int .i64 (yt : Int)] 86)) ∧ Lh (wa.alloc (.cells #[.string sy, .int .i64 (yu : Int), .int .i64 (yt : Int)] 86)) w.heap.size sx u0 s) := ⟨HK.out.1.old hBb, HK.out.2.1.alloc _, HK.out.2.2.old hBb⟩
      clear HK hBb L hD c2
      generalize (wa.alloc (.cells #[.string sy, .int .i64 (yu : Int), .int .i64 (yt : Int)] 86)) = wb at *
      have c2 := HK2.out.1.c2
      have c1 := HK2.out.1.c1
      obtain ⟨D2, hD2⟩ := HK2.out.1.mp
      have hlq : ∀ (n : Nat) (ty : TypeId), (Builtin.len_ #[79] ty #[.map (some x.b)]).run Tryd.prog (wb.drewN n) = .ok (.int .i64 (c.room : Int)) (wb.drewN n) := fun n ty => by rw [← hfull]; exact (hD2.old (below_drewN (Below.refl _ _) n)).run_len ty
      clear hD2 hfull hin
      go_quiet (fail)
      clear hlq c1 c2
      have HKq : Hid (MCt B (wb.drewN nq) x c us si T ∧ But x.F w (wb.drewN nq) ∧ Lh (wb.drewN nq) w.heap.size sx u0 s) := ⟨HK2.out.1.old (below_drewN (Below.refl _ _) nq), HK2.out.2.1.drewN nq, HK2.out.2.2.old (below_drewN (Below.refl _ _) nq)⟩
      clear HK2
      generalize wb.drewN nq = wd at *
      have DO := cdrop_any HKq.out.1 HO.out HR.out
      go_wp2_with fail
      refine DO.mono ?_
      rintro e wd2 ⟨rfl, ⟨sk, hsk, hMd⟩, hbd⟩
      have HK : Hid (MCt B wd2 x c.shed us sk T ∧ But x.F w wd2 ∧ Lh wd2 w.heap.size sx u0 s) := ⟨hMd, HKq.out.2.1.trans hbd (Grows.refl _ _), HKq.out.2.2.but hbd (fun e => absurd (HQ.out _ e) (by omega))⟩
      have HTn : Hid (Tns c.shed us sk T) := hMd.tn
      have HSi : Hid (Tns.Since c.shed sk T i s) := by
        have hsub : ∀ k ∈ c.shed.dirty, sk k = si k := fun k hk => hsk k (fun e => by
          have e1 : c.shed.dirty = wo c.dirty o := by unfold Che.shed; rw [HR.out]; rfl
          rw [e1] at hk
          exact (mem_wo.1 hk).2 e)
        rcases HSh.out with q | ⟨q1, q2⟩ | ⟨q1, q2, q3, q4⟩
        · exact .inl q
        · exact .inr (.inl ⟨q1, by rw [hsub i q1]; exact q2⟩)
        · exact .inr (.inr ⟨q1, q2, q3, fun k hk => by rw [hsub k hk]; exact q4 k hk⟩)
      obtain ⟨ck, hck⟩ : ∃ ck, ck = c.shed := ⟨_, rfl⟩
      rw [← hck] at HK HTn HSi HL HU
      clear hck HSh hMd hbd hsk DO HKq HR HO HOI
      have N := cturn_any HK.out.1 hT
      go_wp2_with fail
      refine N.mono ?_
      rintro e wn ⟨rfl, hMn, hbn⟩
      have hLn : Lh wn w.heap.size sx u0 s := HK.out.2.2.but hbn (fun e => absurd (HQ.out _ (.inl e)) (by omega))
      have fn := hLn.free 1
      have gn := hLn.c1
      have hBn : But x.F w wn := HK.out.2.1.trans (hbn.mono (CP_p x)) (Grows.refl _ _)
      have hb2 := but_at1 wn w.heap.size 1 (.int .i64 ((T + 1 : Nat) : Int))
      have HN : Hid (MCt B (wn.setCell ⟨w.heap.size, 1, none⟩ (.int .i64 ((T + 1 : Nat) : Int))) x ck us sk (T + 1) ∧ But x.F w (wn.setCell ⟨w.heap.size, 1, none⟩ (.int .i64 ((T + 1 : Nat) : Int))) ∧ Lh (wn.setCell ⟨w.heap.size, 1, none⟩ (.int .i64 ((T + 1 : Nat) : Int))) w.heap.size sx (T + 1) s) :=
        ⟨hMn.but hb2 (fun k hk e => absurd (HQ.out k hk) (by omega)), but_loc hBn (Nat.le_refl _) hb2, hLn.put1 (T + 1)⟩
      clear N hMn hbn hBn hLn hb2 HK
      have hcT : ((T + 1 : Nat) : Int) = (T : Int) + 1 := by omega
      rw [hcT] at HN ⊢
      clear hcT
      go_upto_region 5 with fail
      clear fn gn
      generalize (wn.setCell ⟨w.heap.size, 1, none⟩ (.int .i64 ((T : Int) + 1))) = we at *
      have d2 := HN.out.1.c2
      have e0 := HN.out.2.2.c0
      have e1 : we.cell? ⟨w.heap.size, 1, none⟩ = some (.int .i64 ((T : Int) + 1)) := HN.out.2.2.c1
      have e2 := HN.out.2.2.c2
      obtain ⟨D2, hD2⟩ := HN.out.1.mp
      obtain ⟨w', R, hown, hgr⟩ := (hD2.old (below_dr1 we)).run_put i (by omega) (b, T + 1, s)
      have hM3 := HN.out.1.old (below_dr1 we)
      have hD3 := (hD2.old (below_dr1 we)).put (k := i) (by omega) (b, T + 1, s) HL.out hown
      have hD4 : HasH w' x.b (Tns.soiled (ck.push i b) i s).row (vH (Tns.soiled (ck.push i b) i s) (up us i (T + 1)) (up sk i s)) (D2.put (kI (i : Int)) (hD (b, T + 1, s))) := by
        have er : (Tns.soiled (ck.push i b) i s).row = wo ck.row i ++ [i] := by unfold Tns.soiled; split <;> rfl
        have ev : (Tns.soiled (ck.push i b) i s).val = up ck.val i b := by unfold Tns.soiled; split <;> rfl
        rw [er]
        refine hD3.congr (fun k _ => ?_)
        unfold vH
        rw [ev]
        by_cases e : k = i
        · subst e; rw [up_at, up_at, up_at, up_at]
        · rw [up_ne _ _ e, up_ne _ _ e, up_ne _ _ e, up_ne _ _ e]
      have htp : Tns (Tns.soiled (ck.push i b) i s) (up us i (T + 1)) (up sk i s) (T + 1) := HTn.out.push HSi.out b
      have P := hM3.turn hgr hD4 (by unfold Tns.soiled; split <;> rfl) (by unfold Tns.soiled; split <;> rfl) (by unfold Tns.soiled; split <;> rfl) (by unfold Tns.soiled; split <;> rfl) htp
      have R' : (Instr.mapUpdate 79 (.map (some x.b)) (.int .i64 (i : Int)) (.agg #[.string sx, .int .i64 ((T : Int) + 1), .int .i64 (s : Int)])).run Tryd.prog we.drew = .ok () w' := by
        rw [HSx.out]; exact R
      have HF : Hid ((∃ us' si', MCt B w' x (Tns.soiled (c.use i b) i s) us' si' (T + 1)) ∧ But x.F w w') := by
        rw [HU.out]
        exact ⟨⟨_, _, P.1⟩, (HN.out.2.1.drew).trans P.2 (Grows.refl _ _)⟩
      clear P R hown hgr hM3 hD3 hD4 hD2 HN HSx HQ htp HTn HSi HU
      go_region
      go_end0
      exact ⟨rfl, HF.out⟩
    · obtain ⟨ck, hck⟩ : ∃ ck, ck = c := ⟨_, rfl⟩
      obtain ⟨sk, hsk⟩ : ∃ sk, sk = si := ⟨_, rfl⟩
      have HU : Hid (c.use i b = ck.push i b) := by rw [hck]; exact Che.use_push ho (fun q => hfull q.2)
      have HL : Hid ((wo ck.row i ++ [i]).length ≤ 40) := by
        show (wo ck.row i ++ [i]).length ≤ 40
        rw [hck, wo_none hin, List.length_append, List.length_singleton]
        omega
      have HTn : Hid (Tns ck us sk T) := by rw [hck, hsk]; exact h.tn
      have HSi : Hid (Tns.Since ck sk T i s) := by rw [hck, hsk]; exact hS
      clear h ho hS
      go_enter Tryd.func43, Tryd.ntmps43
      go_upto_region 1 with fail
      have hL0 := Lh.new w sx u0 s
      have hB0 : Below w.heap.size w (w.alloc (.cells #[.string sx, .int .i64 (u0 : Int), .int .i64 (s : Int)] 86)) := al_below _ _
      have HK : Hid (MCt B (w.alloc (.cells #[.string sx, .int .i64 (u0 : Int), .int .i64 (s : Int)] 86)) x c us si T ∧ But x.F w (w.alloc (.cells #[.string sx, .int .i64 (u0 : Int), .int .i64 (s : Int)] 86)) ∧ Lh (w.alloc (.cells #[.string sx, .int .i64 (u0 : Int), .int .i64 (s : Int)] 86)) w.heap.size sx u0 s) := ⟨HM.out.old hB0, Below.but hB0 _, hL0⟩
      clear hL0 hB0
      generalize (w.alloc (.cells #[.string sx, .int .i64 (u0 : Int), .int .i64 (s : Int)] 86)) = wa at *
      have c2 := HK.out.1.c2
      obtain ⟨D, hD⟩ := HK.out.1.mp
      have L := hD.run_look2 i (by omega)
      obtain ⟨⟨ya, yu, yt⟩, hy⟩ : ∃ y, y = atH c.row (vH c us si) i := ⟨_, rfl⟩
      rw [← hy] at L
      unfold hv st at L
      dsimp only at L
      generalize sb ya = sy at *
      clear hy
      rw [decide_eq_false hin] at L
      go_upto_region 2 with fail
      have hBb : Below wa.heap.size wa (wa.alloc (.cells #[.string sy, .int .i64 (yu : Int), .int .i64 (yt : Int)] 86)) := al_below _ _
      have HK2 : Hid (MCt B (wa.alloc (.cells #[.string sy, .int .i64 (yu : Int), .int .i64 (yt : Int)] 86)) x c us si T ∧ But x.F w (wa.alloc (.cells #[.string sy, .int .i64 (yu : Int), .int .i64 (yt : Int)] 86)) ∧ Lh (wa.alloc (.cells #[.string sy, .int .i64 (yu : Int), .int .i64 (yt : Int)] 86)) w.heap.size sx u0 s) := ⟨HK.out.1.old hBb, HK.out.2.1.alloc _, HK.out.2.2.old hBb⟩
      clear HK hBb L hD c2
      generalize (wa.alloc (.cells #[.string sy, .int .i64 (yu : Int), .int .i64 (yt : Int)] 86)) = wb at *
      have HK : Hid (MCt B wb x ck us sk T ∧ But x.F w wb ∧ Lh wb w.heap.size sx u0 s) := by rw [hck, hsk]; exact HK2.out
      have c2 := HK2.out.1.c2
      have c1 := HK2.out.1.c1
      obtain ⟨D2, hD2⟩ := HK2.out.1.mp
      obtain ⟨rl, hrl⟩ : ∃ rl, rl = c.row.length := ⟨_, rfl⟩
      have hlq : ∀ (n : Nat) (ty : TypeId), (Builtin.len_ #[79] ty #[.map (some x.b)]).run Tryd.prog (wb.drewN n) = .ok (.int .i64 (rl : Int)) (wb.drewN n) := fun n ty => by rw [hrl]; exact (hD2.old (below_drewN (Below.refl _ _) n)).run_len ty
      have hne : (((rl : Nat) : Int) == ((c.room : Nat) : Int)) = false := by rw [beq_eq_false_iff_ne]; omega
      have hne2 : ¬ ((rl : Nat) : Int) = ((c.room : Nat) : Int) := by omega
      have hne3 : (rl == c.room) = false := by rw [beq_eq_false_iff_ne]; omega
      clear hD2 hfull hin HK2 hck hsk hrl
      go_quiet (fail)
      clear hlq c1 c2
      have HKq : Hid (MCt B (wb.drewN nq) x ck us sk T ∧ But x.F w (wb.drewN nq) ∧ Lh (wb.drewN nq) w.heap.size sx u0 s) := ⟨HK.out.1.old (below_drewN (Below.refl _ _) nq), HK.out.2.1.drewN nq, HK.out.2.2.old (below_drewN (Below.refl _ _) nq)⟩
      clear HK
      generalize wb.drewN nq = wd at *
      have HK := HKq
      clear HKq
      have N := cturn_any HK.out.1 hT
      go_wp2_with fail
      refine N.mono ?_
      rintro e wn ⟨rfl, hMn, hbn⟩
      have hLn : Lh wn w.heap.size sx u0 s := HK.out.2.2.but hbn (fun e => absurd (HQ.out _ (.inl e)) (by omega))
      have fn := hLn.free 1
      have gn := hLn.c1
      have hBn : But x.F w wn := HK.out.2.1.trans (hbn.mono (CP_p x)) (Grows.refl _ _)
      have hb2 := but_at1 wn w.heap.size 1 (.int .i64 ((T + 1 : Nat) : Int))
      have HN : Hid (MCt B (wn.setCell ⟨w.heap.size, 1, none⟩ (.int .i64 ((T + 1 : Nat) : Int))) x ck us sk (T + 1) ∧ But x.F w (wn.setCell ⟨w.heap.size, 1, none⟩ (.int .i64 ((T + 1 : Nat) : Int))) ∧ Lh (wn.setCell ⟨w.heap.size, 1, none⟩ (.int .i64 ((T + 1 : Nat) : Int))) w.heap.size sx (T + 1) s) :=
        ⟨hMn.but hb2 (fun k hk e => absurd (HQ.out k hk) (by omega)), but_loc hBn (Nat.le_refl _) hb2, hLn.put1 (T + 1)⟩
      clear N hMn hbn hBn hLn hb2 HK
      have hcT : ((T + 1 : Nat) : Int) = (T : Int) + 1 := by omega
      rw [hcT] at HN ⊢
      clear hcT
      go_upto_region 5 with fail
      clear fn gn
      generalize (wn.setCell ⟨w.heap.size, 1, none⟩ (.int .i64 ((T : Int) + 1))) = we at *
      have d2 := HN.out.1.c2
      have e0 := HN.out.2.2.c0
      have e1 : we.cell? ⟨w.heap.size, 1, none⟩ = some (.int .i64 ((T : Int) + 1)) := HN.out.2.2.c1
      have e2 := HN.out.2.2.c2
      obtain ⟨D2, hD2⟩ := HN.out.1.mp
      obtain ⟨w', R, hown, hgr⟩ := (hD2.old (below_dr1 we)).run_put i (by omega) (b, T + 1, s)
      have hM3 := HN.out.1.old (below_dr1 we)
      have hD3 := (hD2.old (below_dr1 we)).put (k := i) (by omega) (b, T + 1, s) HL.out hown
      have hD4 : HasH w' x.b (Tns.soiled (ck.push i b) i s).row (vH (Tns.soiled (ck.push i b) i s) (up us i (T + 1)) (up sk i s)) (D2.put (kI (i : Int)) (hD (b, T + 1, s))) := by
        have er : (Tns.soiled (ck.push i b) i s).row = wo ck.row i ++ [i] := by unfold Tns.soiled; split <;> rfl
        have ev : (Tns.soiled (ck.push i b) i s).val = up ck.val i b := by unfold Tns.soiled; split <;> rfl
        rw [er]
        refine hD3.congr (fun k _ => ?_)
        unfold vH
        rw [ev]
        by_cases e : k = i
        · subst e; rw [up_at, up_at, up_at, up_at]
        · rw [up_ne _ _ e, up_ne _ _ e, up_ne _ _ e, up_ne _ _ e]
      have htp : Tns (Tns.soiled (ck.push i b) i s) (up us i (T + 1)) (up sk i s) (T + 1) := HTn.out.push HSi.out b
      have P := hM3.turn hgr hD4 (by unfold Tns.soiled; split <;> rfl) (by unfold Tns.soiled; split <;> rfl) (by unfold Tns.soiled; split <;> rfl) (by unfold Tns.soiled; split <;> rfl) htp
      have R' : (Instr.mapUpdate 79 (.map (some x.b)) (.int .i64 (i : Int)) (.agg #[.string sx, .int .i64 ((T : Int) + 1), .int .i64 (s : Int)])).run Tryd.prog we.drew = .ok () w' := by
        rw [HSx.out]; exact R
      have HF : Hid ((∃ us' si', MCt B w' x (Tns.soiled (c.use i b) i s) us' si' (T + 1)) ∧ But x.F w w') := by
        rw [HU.out]
        exact ⟨⟨_, _, P.1⟩, (HN.out.2.1.drew).trans P.2 (Grows.refl _ _)⟩
      clear P R hown hgr hM3 hD3 hD4 hD2 HN HSx HQ htp HTn HSi HU
      go_region
      go_end0
      exact ⟨rfl, HF.out⟩
end Go.Proofs.YtfeikmmojilmbaaDoor
