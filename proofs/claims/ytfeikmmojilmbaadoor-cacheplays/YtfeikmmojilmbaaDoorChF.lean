/- A cache: New, Read, Write, Crash, Below: walks over the program. -/
import Derived.Test.YtfeikmmojilmbaaDoorChU
namespace Go.Proofs.YtfeikmmojilmbaaDoor
open Go.RowKit Go.Maps El Pol
/-- the cache c lies at x: N bounds its turns and its hits -/
structure MC (B : Nat) (w : World) (x : CP) (c : Che) (N : Nat) : Prop where
  is : ∃ us si T, MCt B w x c us si T ∧ T ≤ N
  ok : c.ok
  hit : c.hits ≤ N
namespace MC
variable {B : Nat} {w w' : World} {x : CP} {c : Che} {N : Nat}
theorem lt (h : MC B w x c N) : ∀ k, x.F k → k < w.heap.size := by obtain ⟨_, _, _, h, _⟩ := h.is; exact h.lt
theorem low (h : MC B w x c N) : ∀ k, x.F k → B ≤ k := by obtain ⟨_, _, _, h, _⟩ := h.is; exact h.low
theorem old (h : MC B w x c N) (hb : Below w.heap.size w w') : MC B w' x c N := by
  obtain ⟨⟨us, si, T, hM, hT⟩, h2, h3⟩ := h
  exact ⟨⟨us, si, T, hM.old hb, hT⟩, h2, h3⟩
theorem but {G : Nat → Prop} (h : MC B w x c N) (hb : But G w w') (hn : ∀ k, x.F k → ¬ G k) : MC B w' x c N := by
  obtain ⟨⟨us, si, T, hM, hT⟩, h2, h3⟩ := h
  exact ⟨⟨us, si, T, hM.but hb hn, hT⟩, h2, h3⟩
theorem mono (h : MC B w x c N) {N' : Nat} (hn : N ≤ N') : MC B w x c N' := by
  obtain ⟨⟨us, si, T, hM, hT⟩, h2, h3⟩ := h
  exact ⟨⟨us, si, T, hM, Nat.le_trans hT hn⟩, h2, Nat.le_trans h3 hn⟩
end MC
theorem MCt.base {B B' : Nat} {w : World} {x : CP} {c : Che} {us si : Nat → Nat} {T : Nat} (h : MCt B w x c us si T) (hB : B' ≤ B) : MCt B' w x c us si T := ⟨h.row, OwT.base h.bl hB, h.mp, h.tn, Nat.le_trans hB h.hp, Nat.le_trans hB h.hb⟩
theorem MC.base {B B' : Nat} {w : World} {x : CP} {c : Che} {N : Nat} (h : MC B w x c N) (hB : B' ≤ B) : MC B' w x c N := by
  obtain ⟨⟨us, si, T, hM, hT⟩, h2, h3⟩ := h
  exact ⟨⟨us, si, T, hM.base hB, hT⟩, h2, h3⟩
namespace Che
/-- what is told -/
def cellE (c : Che) (i : Int) : Nat := if i < 0 ∨ (c.n : Int) ≤ i then 1 else 0
def readT (c : Che) (i : Int) : List El := if c.cellE i = 0 then c.now i.toNat else []
def readI (c : Che) (i : Int) : Che := if c.cellE i = 0 then c.read i.toNat else c
def writeE (c : Che) (i : Int) (b : List El) : Nat := if c.cellE i ≠ 0 ∨ 16 < b.length then 1 else 0
def writeI (c : Che) (i : Int) (b : List El) : Che := if c.writeE i b = 0 then c.write i.toNat b else c
def flushE (n : Int) : Nat := if n < 0 then 1 else 0
def flushI (c : Che) (n : Int) : Che := if n < 0 then c else c.flush n.toNat
def flushL (c : Che) (n : Int) : List Nat := if n < 0 then [] else c.dirty.take n.toNat
theorem cellE_no {c : Che} {i : Int} (h : noCell c.n i) : c.cellE i = 1 := if_pos h
theorem cellE_ok {c : Che} {i : Nat} (h : i < c.n) : c.cellE (i : Int) = 0 := if_neg (by omega)
theorem read_hits (c : Che) (i : Nat) (h : c.ok) : (c.read i).hits ≤ c.hits + 1 := by
  obtain ⟨_, _, _, _, _, _, u⟩ := use_in (hits_ok h (c.hits + if i ∈ c.row then 1 else 0)) i (c.now i)
  show (use _ i (c.now i)).hits ≤ _
  rw [u]
  show (c.hits + if i ∈ c.row then 1 else 0) ≤ _
  split <;> omega
theorem write_hits (c : Che) (i : Nat) (b : List El) (h : c.ok) : (c.write i b).hits = c.hits := (use_in h i b).2.2.2.2.2.2
end Che
theorem soil_none {c : Che} {i : Nat} (h : i ∈ c.dirty) : c.soil i = c := by unfold Che.soil; rw [if_pos h]
variable {B : Nat} {w : World} {x : CP} {c : Che} {N : Nat}
set_option maxRecDepth 100000 in
set_option maxHeartbeats 2000000 in
theorem cread_no (h : MC B w x c N) {i : Int} (hi : noCell c.n i) :
    Calls Tryd.prog 10 #[.pointer (some ⟨x.p, 0, none⟩), .int .i64 i] w fun e w' => e = .returned (.tuple #[st [], errV 1]) ∧ w' = w := by
  obtain ⟨us, si, T, hM, _⟩ := h.is
  have C := ciscell_no hM hi
  rw [errV, if_neg (by omega)]
  clear h hM hi
  go_enter Tryd.func10, Tryd.ntmps10
  go_wp2_with fail
  refine C.mono ?_
  rintro e w1 ⟨rfl, hw⟩
  obtain rfl := hw.symm
  clear C hw
  go_wp2
  go_ret2
  exact ⟨rfl, rfl⟩
set_option maxRecDepth 100000 in
set_option maxHeartbeats 2000000 in
theorem cread_ok (h : MC B w x c N) (hN : N ≤ 100000) {i : Nat} (hi : i < c.n) :
    Calls Tryd.prog 10 #[.pointer (some ⟨x.p, 0, none⟩), .int .i64 (i : Int)] w fun e w' => e = .returned (.tuple #[st (c.now i), errV 0]) ∧ MC B w' x (c.read i) (N + 1) ∧ But x.F w w' := by
  obtain ⟨us, si, T, hM, hT⟩ := h.is
  have HQ : Hid (∀ k, x.F k → k < w.heap.size) := hM.lt
  have C := ciscell_ok hM hi
  have hn40 := h.ok.n40
  have c2 := hM.c2
  obtain ⟨D, hD⟩ := hM.mp
  have L := hD.run_look2 i (by omega)
  have HM : Hid (MCt B w x c us si T) := hM
  have HO : Hid c.ok := h.ok
  have hhit := h.hit
  have HSz : Hid ((c.now i).length ≤ 16) := Che.now_short h.ok hi
  obtain ⟨sx, hsx⟩ : ∃ sx, sx = sb (c.now i) := ⟨_, rfl⟩
  have HSx : Hid (sx = sb (c.now i)) := hsx
  rw [errV, if_pos rfl]
  by_cases hin : i ∈ c.row
  · obtain ⟨hn, hhn⟩ : ∃ hn, hn = c.hits + 1 := ⟨_, rfl⟩
    obtain ⟨u0, hu0⟩ : ∃ u0, u0 = us i := ⟨_, rfl⟩
    obtain ⟨s, hs⟩ : ∃ s, s = si i := ⟨_, rfl⟩
    have hnow : c.now i = c.val i := if_pos hin
    rw [decide_eq_true hin, show atH c.row (vH c us si) i = (c.val i, us i, si i) from if_pos hin, ← hnow, ← hu0, ← hs] at L
    unfold hv st at L
    dsimp only at L
    rw [← hsx] at L
    unfold st
    rw [← hsx]
    have HS : Hid (Tns.Since ⟨c.n, c.below, c.room, c.row, c.val, c.dirty, hn⟩ si T i s) := by
      by_cases hd : i ∈ c.dirty
      · exact .inr (.inl ⟨hd, hs⟩)
      · exact .inl ⟨by rw [hs]; exact hM.tn.dn i hin hd, hd⟩
    have HR : Hid (Tns.soiled (Che.use ⟨c.n, c.below, c.room, c.row, c.val, c.dirty, hn⟩ i (c.now i)) i s = c.read i) := by
      have e1 : c.read i = Che.use ⟨c.n, c.below, c.room, c.row, c.val, c.dirty, hn⟩ i (c.now i) := by unfold Che.read; rw [if_pos hin, hhn]
      rw [e1]
      unfold Tns.soiled
      split
      · rfl
      · rename_i hs0
        refine soil_none ((Che.use_in (Che.hits_ok HO.out hn) i (c.now i)).2.2.2.2.2.1.2 ?_)
        exact (hM.tn.dirty_iff hin).1 (by rw [← hs]; exact hs0)
    have P := hM.put4 hn
    have hcast : ((hn : Nat) : Int) = (c.hits : Int) + 1 := by omega
    have hhz : (c.hits : Int) ≤ 100000 := by omega
    clear h hM hD hsx hs hu0 hnow
    go_enter Tryd.func10, Tryd.ntmps10
    go_wp2_with fail
    refine C.mono ?_
    rintro e w1 ⟨rfl, hw⟩
    obtain rfl := hw.symm
    clear C hw P
    go_upto_region 4 with fail
    have hBa : Below w.heap.size w (w.alloc (.cells #[.string sx, .int .i64 (u0 : Int), .int .i64 (s : Int)] 86)) := al_below _ _
    have HA : Hid (MCt B (w.alloc (.cells #[.string sx, .int .i64 (u0 : Int), .int .i64 (s : Int)] 86)) x c us si T ∧ But x.F w (w.alloc (.cells #[.string sx, .int .i64 (u0 : Int), .int .i64 (s : Int)] 86)) ∧ Lh (w.alloc (.cells #[.string sx, .int .i64 (u0 : Int), .int .i64 (s : Int)] 86)) w.heap.size sx u0 s) := ⟨HM.out.old hBa, Below.but hBa _, Lh.new w sx u0 s⟩
    clear hBa L c2
    generalize (w.alloc (.cells #[.string sx, .int .i64 (u0 : Int), .int .i64 (s : Int)] 86)) = wa at *
    have c4 := HA.out.1.c4
    have f4 := HA.out.1.free 4
    have P := HA.out.1.put4 hn
    have HK : Hid (MCt B (wa.setCell ⟨x.p, 4, none⟩ (.int .i64 (hn : Int))) x ⟨c.n, c.below, c.room, c.row, c.val, c.dirty, hn⟩ us si T ∧ But x.F w (wa.setCell ⟨x.p, 4, none⟩ (.int .i64 (hn : Int))) ∧ Lh (wa.setCell ⟨x.p, 4, none⟩ (.int .i64 (hn : Int))) w.heap.size sx u0 s) := ⟨P.1, HA.out.2.1.trans (P.2.mono (CP_p x)) (Grows.refl _ _), HA.out.2.2.but P.2 (fun e => absurd (HQ.out _ (.inl e)) (by omega))⟩
    rw [hcast] at HK
    clear P HA hcast
    go_upto_region 7 with fail
    clear c4 f4
    generalize (wa.setCell ⟨x.p, 4, none⟩ (.int .i64 ((c.hits : Int) + 1))) = wk at *
    have U := cuse_any HK.out.1 (Che.hits_ok HO.out hn) (by omega) (i := i) hi (c.now i) u0 s HS.out
    rw [show hv (c.now i, u0, s) = .agg #[.string sx, .int .i64 (u0 : Int), .int .i64 (s : Int)] by unfold hv st; rw [HSx.out]] at U
    have hl0 := HK.out.2.2.c0
    have hl1 := HK.out.2.2.c1
    have hl2 := HK.out.2.2.c2
    go_wp2_with fail
    refine U.mono ?_
    rintro e w3 ⟨rfl, ⟨us', si', hM3⟩, hb3⟩
    have hL3 := HK.out.2.2.but hb3 (fun e => absurd (HQ.out _ e) (by omega))
    have HF : Hid ((∃ us si T, MCt B w3 x (c.read i) us si T ∧ T ≤ N + 1) ∧ But x.F w w3) := by
      rw [HR.out] at hM3
      exact ⟨⟨_, _, _, hM3, by omega⟩, HK.out.2.1.trans hb3 (Grows.refl _ _)⟩
    have g0 := hL3.c0
    have C := clone_any sx w3 (by rw [HSx.out, sb_size]; have := HSz.out; omega)
    clear U hM3 hb3 hL3 HK hl0 hl1 hl2
    go_wp2_with fail
    refine C.mono ?_
    rintro e w4 ⟨rfl, hB4⟩
    have HG : Hid ((∃ us si T, MCt B w4 x (c.read i) us si T ∧ T ≤ N + 1) ∧ But x.F w w4) := by
      obtain ⟨⟨us, si, T, q1, q2⟩, q3⟩ := HF.out
      exact ⟨⟨us, si, T, q1.old hB4, q2⟩, q3.trans (Below.but hB4 x.F) (Grows.refl _ _)⟩
    clear C hB4 HF g0
    go_wp2
    go_ret2
    exact ⟨rfl, ⟨HG.out.1, Che.read_ok HO.out hi, by have := Che.read_hits c i HO.out; omega⟩, HG.out.2⟩
  · obtain ⟨hn, hhn⟩ : ∃ hn, hn = c.hits := ⟨_, rfl⟩
    obtain ⟨u0, hu0⟩ : ∃ u0, u0 = 0 := ⟨_, rfl⟩
    obtain ⟨s, hs⟩ : ∃ s, s = 0 := ⟨_, rfl⟩
    have hnow : c.now i = c.below i := if_neg hin
    rw [decide_eq_false hin, show atH c.row (vH c us si) i = hz from if_neg hin] at L
    rw [show hv hz = .agg #[.string ⟨#[]⟩, .int .i64 0, .int .i64 0] from rfl] at L
    have hnd : i ∉ c.dirty := fun q => hin (h.ok.dsub i q)
    have HS : Hid (Tns.Since ⟨c.n, c.below, c.room, c.row, c.val, c.dirty, hn⟩ si T i s) := .inl ⟨hs, hnd⟩
    have HR : Hid (Tns.soiled (Che.use ⟨c.n, c.below, c.room, c.row, c.val, c.dirty, hn⟩ i (c.now i)) i s = c.read i) := by
      unfold Tns.soiled
      rw [if_pos hs]
      unfold Che.read
      rw [if_neg hin, hhn]
      rfl
    unfold st
    rw [← hsx]
    clear h hM hD
    go_enter Tryd.func10, Tryd.ntmps10
    go_wp2_with fail
    refine C.mono ?_
    rintro e w1 ⟨rfl, hw⟩
    obtain rfl := hw.symm
    clear C hw
    go_upto_region 4 with fail
    have hBa : Below w.heap.size w (w.alloc (.cells #[.string ⟨#[]⟩, .int .i64 0, .int .i64 0] 86)) := al_below _ _
    have HA : Hid (MCt B (w.alloc (.cells #[.string ⟨#[]⟩, .int .i64 0, .int .i64 0] 86)) x c us si T ∧ But x.F w (w.alloc (.cells #[.string ⟨#[]⟩, .int .i64 0, .int .i64 0] 86)) ∧ Lh (w.alloc (.cells #[.string ⟨#[]⟩, .int .i64 0, .int .i64 0] 86)) w.heap.size ⟨#[]⟩ 0 0) := ⟨HM.out.old hBa, Below.but hBa _, Lh.new w ⟨#[]⟩ 0 0⟩
    clear hBa L c2
    generalize (w.alloc (.cells #[.string ⟨#[]⟩, .int .i64 0, .int .i64 0] 86)) = wa at *
    have c0 := HA.out.1.c0
    obtain ⟨g, cap, hvb, _, _, _, _⟩ := OwT.at HA.out.1.bl (by omega)
    have hO := HA.out.1.bl
    rw [hvb] at hO c0
    have g0 := OwT.cell hO i hi
    unfold st at g0
    rw [← hnow, ← hsx] at g0
    have e0 := HA.out.2.2.c0
    have e1 : wa.cell? ⟨w.heap.size, 1, none⟩ = some (.int .i64 0) := HA.out.2.2.c1
    have e2 : wa.cell? ⟨w.heap.size, 2, none⟩ = some (.int .i64 0) := HA.out.2.2.c2
    have f0 := HA.out.2.2.free 0
    have f1 := HA.out.2.2.free 1
    have f2 := HA.out.2.2.free 2
    have hz : (i : Int) < (c.n : Int) := by omega
    have hrw := HA.out.2.2
    clear hO hsx hnow
    go_upto_region 7 with fail
    have b0 := but_at1 wa w.heap.size 0 (.string sx)
    have b1 := but_at1 (wa.setCell ⟨w.heap.size, 0, none⟩ (.string sx)) w.heap.size 1 (.int .i64 0)
    have b2 := but_at1 ((wa.setCell ⟨w.heap.size, 0, none⟩ (.string sx)).setCell ⟨w.heap.size, 1, none⟩ (.int .i64 0)) w.heap.size 2 (.int .i64 0)
    have bb := (b0.trans b1 (Grows.refl _ _)).trans b2 (Grows.refl _ _)
    have HK : Hid (MCt B (((wa.setCell ⟨w.heap.size, 0, none⟩ (.string sx)).setCell ⟨w.heap.size, 1, none⟩ (.int .i64 0)).setCell ⟨w.heap.size, 2, none⟩ (.int .i64 0)) x ⟨c.n, c.below, c.room, c.row, c.val, c.dirty, hn⟩ us si T ∧ But x.F w (((wa.setCell ⟨w.heap.size, 0, none⟩ (.string sx)).setCell ⟨w.heap.size, 1, none⟩ (.int .i64 0)).setCell ⟨w.heap.size, 2, none⟩ (.int .i64 0)) ∧ Lh (((wa.setCell ⟨w.heap.size, 0, none⟩ (.string sx)).setCell ⟨w.heap.size, 1, none⟩ (.int .i64 0)).setCell ⟨w.heap.size, 2, none⟩ (.int .i64 0)) w.heap.size sx u0 s) := by
      rw [hu0, hs, hhn]
      exact ⟨HA.out.1.but bb (fun k hk e => absurd (HQ.out k hk) (by omega)), but_loc HA.out.2.1 (Nat.le_refl _) bb, ((HA.out.2.2.put0 sx).put1 0).put2 0⟩
    clear b0 b1 b2 bb HA c0 g0 e0 e1 e2 f0 f1 f2 hrw hvb
    generalize (((wa.setCell ⟨w.heap.size, 0, none⟩ (.string sx)).setCell ⟨w.heap.size, 1, none⟩ (.int .i64 0)).setCell ⟨w.heap.size, 2, none⟩ (.int .i64 0)) = wk at *
    clear hu0 hs
    have U := cuse_any HK.out.1 (Che.hits_ok HO.out hn) (by omega) (i := i) hi (c.now i) u0 s HS.out
    rw [show hv (c.now i, u0, s) = .agg #[.string sx, .int .i64 (u0 : Int), .int .i64 (s : Int)] by unfold hv st; rw [HSx.out]] at U
    have hl0 := HK.out.2.2.c0
    have hl1 := HK.out.2.2.c1
    have hl2 := HK.out.2.2.c2
    go_wp2_with fail
    refine U.mono ?_
    rintro e w3 ⟨rfl, ⟨us', si', hM3⟩, hb3⟩
    have hL3 := HK.out.2.2.but hb3 (fun e => absurd (HQ.out _ e) (by omega))
    have HF : Hid ((∃ us si T, MCt B w3 x (c.read i) us si T ∧ T ≤ N + 1) ∧ But x.F w w3) := by
      rw [HR.out] at hM3
      exact ⟨⟨_, _, _, hM3, by omega⟩, HK.out.2.1.trans hb3 (Grows.refl _ _)⟩
    have g0 := hL3.c0
    have C := clone_any sx w3 (by rw [HSx.out, sb_size]; have := HSz.out; omega)
    clear U hM3 hb3 hL3 HK hl0 hl1 hl2
    go_wp2_with fail
    refine C.mono ?_
    rintro e w4 ⟨rfl, hB4⟩
    have HG : Hid ((∃ us si T, MCt B w4 x (c.read i) us si T ∧ T ≤ N + 1) ∧ But x.F w w4) := by
      obtain ⟨⟨us, si, T, q1, q2⟩, q3⟩ := HF.out
      exact ⟨⟨us, si, T, q1.old hB4, q2⟩, q3.trans (Below.but hB4 x.F) (Grows.refl _ _)⟩
    clear C hB4 HF g0
    go_wp2
    go_ret2
    exact ⟨rfl, ⟨HG.out.1, Che.read_ok HO.out hi, by have := Che.read_hits c i HO.out; omega⟩, HG.out.2⟩
set_option maxRecDepth 100000 in
set_option maxHeartbeats 2000000 in
theorem cwrite_no (h : MC B w x c N) {i : Int} (b : List El) (hi : c.writeE i b ≠ 0) :
    Calls Tryd.prog 12 #[.pointer (some ⟨x.p, 0, none⟩), .int .i64 i, st b] w fun e w' => e = .returned (errV 1) ∧ w' = w := by
  obtain ⟨us, si, T, hM, _⟩ := h.is
  have hsz := sb_size b
  by_cases hc : noCell c.n i
  · have C := ciscell_no hM hc
    rw [errV, if_neg (by omega)]
    unfold st
    generalize sb b = s at *
    clear h hM hi hc
    go_enter Tryd.func12, Tryd.ntmps12
    go_wp2_with fail
    refine C.mono ?_
    rintro e w1 ⟨rfl, hw⟩
    obtain rfl := hw.symm
    clear C hw
    go_wp2
    go_ret
    exact ⟨rfl, rfl⟩
  · have hb : 16 < b.length := by
      unfold Che.writeE at hi
      by_cases q : c.cellE i ≠ 0 ∨ 16 < b.length
      · rcases q with q | q
        · exfalso
          unfold Che.cellE at q
          unfold noCell at hc
          rw [if_neg hc] at q
          exact q rfl
        · exact q
      · rw [if_neg q] at hi
        exact absurd rfl hi
    obtain ⟨k, rfl⟩ : ∃ k : Nat, i = k := ⟨i.toNat, by unfold noCell at hc; omega⟩
    have C := ciscell_ok hM (i := k) (by unfold noCell at hc; omega)
    have hbz : (16 : Int) < (b.length : Int) := by omega
    rw [errV, if_neg (by omega)]
    unfold st
    generalize sb b = s at *
    clear h hM hi hc hb
    go_enter Tryd.func12, Tryd.ntmps12
    go_wp2_with fail
    refine C.mono ?_
    rintro e w1 ⟨rfl, hw⟩
    obtain rfl := hw.symm
    clear C hw
    go_wp2
    go_ret
    exact ⟨rfl, rfl⟩
set_option maxRecDepth 100000 in
set_option maxHeartbeats 2000000 in
theorem cwrite_ok (h : MC B w x c N) (hN : N ≤ 100000) {i : Nat} (hi : i < c.n) (b : List El) (hb16 : b.length ≤ 16) :
    Calls Tryd.prog 12 #[.pointer (some ⟨x.p, 0, none⟩), .int .i64 (i : Int), st b] w fun e w' => e = .returned (errV 0) ∧ MC B w' x (c.write i b) (N + 2) ∧ But x.F w w' := by
  obtain ⟨us, si, T, hM, hT⟩ := h.is
  have HQ : Hid (∀ k, x.F k → k < w.heap.size) := hM.lt
  have C := ciscell_ok hM hi
  have hn40 := h.ok.n40
  have c2 := hM.c2
  obtain ⟨D, hD⟩ := hM.mp
  have L := hD.run_look i (by omega)
  have HM : Hid (MCt B w x c us si T) := hM
  have HO : Hid c.ok := h.ok
  have hhit := h.hit
  have hsz := sb_size b
  rw [errV, if_pos rfl]
  unfold st
  obtain ⟨sx, hsx⟩ : ∃ sx, sx = sb b := ⟨_, rfl⟩
  have HSx : Hid (sx = sb b) := hsx
  rw [← hsx]
  rw [← hsx] at hsz
  clear hsx
  have HAt : Hid ((atH c.row (vH c us si) i).2.2 = if i ∈ c.dirty then si i else 0) := by
    show (atH c.row (vH c us si) i).2.2 = _
    unfold atH
    by_cases hin : i ∈ c.row
    · rw [if_pos hin]
      by_cases hd : i ∈ c.dirty
      · rw [if_pos hd]; rfl
      · rw [if_neg hd]; exact hM.tn.dn i hin hd
    · rw [if_neg hin, if_neg (fun q => hin (h.ok.dsub i q))]; rfl
  obtain ⟨⟨ya, yu, yt⟩, hy⟩ : ∃ y, y = atH c.row (vH c us si) i := ⟨_, rfl⟩
  rw [← hy] at L HAt
  unfold hv st at L
  dsimp only at L HAt
  generalize sb ya = sy at *
  have hlz : ¬ (16 : Int) < (b.length : Int) := by omega
  have Cl := fun W => clone_any sx W (by rw [hsz]; omega)
  clear hy h hM hD
  go_enter Tryd.func12, Tryd.ntmps12
  go_wp2_with fail
  refine C.mono ?_
  rintro e w1 ⟨rfl, hw⟩
  obtain rfl := hw.symm
  clear C hw
  go_upto_region 4 with fail
  have hBa : Below w.heap.size w (w.alloc (.cells #[.string sy, .int .i64 (yu : Int), .int .i64 (yt : Int)] 86)) := al_below _ _
  have HA : Hid (MCt B (w.alloc (.cells #[.string sy, .int .i64 (yu : Int), .int .i64 (yt : Int)] 86)) x c us si T ∧ But x.F w (w.alloc (.cells #[.string sy, .int .i64 (yu : Int), .int .i64 (yt : Int)] 86)) ∧ Lh (w.alloc (.cells #[.string sy, .int .i64 (yu : Int), .int .i64 (yt : Int)] 86)) w.heap.size sy yu yt) := ⟨HM.out.old hBa, Below.but hBa _, Lh.new w sy yu yt⟩
  clear hBa L c2 HM
  generalize (w.alloc (.cells #[.string sy, .int .i64 (yu : Int), .int .i64 (yt : Int)] 86)) = wa at *
  go_wp2_with fail
  refine (Cl wa).mono ?_
  rintro e w2 ⟨rfl, hB2⟩
  have hL2 := HA.out.2.2.old hB2
  have f0 := hL2.free 0
  have g0 := hL2.c0
  have b0 := but_at1 w2 w.heap.size 0 (.string sx)
  have HB : Hid (MCt B (w2.setCell ⟨w.heap.size, 0, none⟩ (.string sx)) x c us si T ∧ But x.F w (w2.setCell ⟨w.heap.size, 0, none⟩ (.string sx)) ∧ Lh (w2.setCell ⟨w.heap.size, 0, none⟩ (.string sx)) w.heap.size sx yu yt) := ⟨(HA.out.1.old hB2).but b0 (fun k hk e => absurd (HQ.out k hk) (by omega)), but_loc (HA.out.2.1.trans (Below.but hB2 x.F) (Grows.refl _ _)) (Nat.le_refl _) b0, hL2.put0 sx⟩
  clear Cl hB2 hL2 b0 HA
  go_upto_region 5 with fail
  clear f0 g0
  generalize (w2.setCell ⟨w.heap.size, 0, none⟩ (.string sx)) = w3 at *
  have l0 := HB.out.2.2.c0
  have l1 := HB.out.2.2.c1
  have l2 := HB.out.2.2.c2
  have Dy := isdirty_any (b, yu, yt) w3
  rw [show hv (b, yu, yt) = .agg #[.string sx, .int .i64 (yu : Int), .int .i64 (yt : Int)] by unfold hv st; rw [HSx.out]] at Dy
  dsimp only at Dy
  go_wp2_with fail
  refine Dy.mono ?_
  rintro e w4 ⟨rfl, hB4⟩
  have HC : Hid (MCt B w4 x c us si T ∧ But x.F w w4 ∧ Lh w4 w.heap.size sx yu yt) := ⟨HB.out.1.old hB4, HB.out.2.1.trans (Below.but hB4 x.F) (Grows.refl _ _), HB.out.2.2.old hB4⟩
  clear Dy hB4 HB l0 l1 l2
  by_cases hd : i ∈ c.dirty
  · have e : yt = si i := by have := HAt.out; rw [if_pos hd] at this; exact this
    have h1 := HC.out.1.tn.du i hd
    have hs0 : ¬ yt = 0 := by omega
    rw [show decide (yt ≠ 0) = true from decide_eq_true hs0]
    have HS : Hid (Tns.Since c si T i yt) := .inr (.inl ⟨hd, e⟩)
    obtain ⟨s, hs⟩ : ∃ s, s = yt := ⟨_, rfl⟩
    rw [← hs] at HS HC hs0
    have HK := HC
    clear HC HAt e h1 hs
    go_upto_region 7 with fail
    have U := cuse_any HK.out.1 HO.out (by omega) (i := i) hi b yu s HS.out
    rw [show hv (b, yu, s) = .agg #[.string sx, .int .i64 (yu : Int), .int .i64 (s : Int)] by unfold hv st; rw [HSx.out]] at U
    have hl0 := HK.out.2.2.c0
    have hl1 := HK.out.2.2.c1
    have hl2 := HK.out.2.2.c2
    go_wp2_with fail
    refine U.mono ?_
    rintro e w3 ⟨rfl, ⟨us', si', hM3⟩, hb3⟩
    have HF : Hid (MC B w3 x (c.write i b) (N + 2) ∧ But x.F w w3) := by
      have e1 : Tns.soiled (c.use i b) i s = c.write i b := if_neg hs0
      rw [e1] at hM3
      exact ⟨⟨⟨_, _, _, hM3, by omega⟩, Che.write_ok HO.out hi hb16, by rw [Che.write_hits c i b HO.out]; omega⟩, HK.out.2.1.trans hb3 (Grows.refl _ _)⟩
    clear U hM3 hb3 HK hl0 hl1 hl2
    go_wp2
    go_ret
    exact ⟨rfl, HF.out⟩
  · have e : yt = 0 := by have := HAt.out; rw [if_neg hd] at this; exact this
    rw [show decide (yt ≠ 0) = false from decide_eq_false (by omega)]
    have Nt := cturn_any HC.out.1 (by omega)
    go_wp2_with fail
    refine Nt.mono ?_
    rintro e wn ⟨rfl, hMn, hbn⟩
    have hLn : Lh wn w.heap.size sx yu yt := HC.out.2.2.but hbn (fun e => absurd (HQ.out _ (.inl e)) (by omega))
    have fn := hLn.free 2
    have gn := hLn.c2
    have hBn : But x.F w wn := HC.out.2.1.trans (hbn.mono (CP_p x)) (Grows.refl _ _)
    have hb2 := but_at1 wn w.heap.size 2 (.int .i64 ((T + 1 : Nat) : Int))
    obtain ⟨s, hs⟩ : ∃ s, s = T + 1 := ⟨_, rfl⟩
    have HS : Hid (Tns.Since c si (T + 1) i s) := .inr (.inr ⟨hd, by omega, by omega, fun k hk => by have := (HC.out.1.tn.du k hk).2; omega⟩)
    have HK : Hid (MCt B (wn.setCell ⟨w.heap.size, 2, none⟩ (.int .i64 (s : Int))) x c us si (T + 1) ∧ But x.F w (wn.setCell ⟨w.heap.size, 2, none⟩ (.int .i64 (s : Int))) ∧ Lh (wn.setCell ⟨w.heap.size, 2, none⟩ (.int .i64 (s : Int))) w.heap.size sx yu s) := by
      rw [← hs] at hb2
      exact ⟨hMn.but hb2 (fun k hk e => absurd (HQ.out k hk) (by omega)), but_loc hBn (Nat.le_refl _) hb2, hLn.put2 s⟩
    have hs0 : ¬ s = 0 := by omega
    rw [← hs]
    clear Nt hMn hbn hLn hBn hb2 HC HAt hs
    go_upto_region 7 with fail
    clear fn gn
    generalize (wn.setCell ⟨w.heap.size, 2, none⟩ (.int .i64 (s : Int))) = wk at *
    have U := cuse_any HK.out.1 HO.out (by omega) (i := i) hi b yu s HS.out
    rw [show hv (b, yu, s) = .agg #[.string sx, .int .i64 (yu : Int), .int .i64 (s : Int)] by unfold hv st; rw [HSx.out]] at U
    have hl0 := HK.out.2.2.c0
    have hl1 := HK.out.2.2.c1
    have hl2 := HK.out.2.2.c2
    go_wp2_with fail
    refine U.mono ?_
    rintro e w3 ⟨rfl, ⟨us', si', hM3⟩, hb3⟩
    have HF : Hid (MC B w3 x (c.write i b) (N + 2) ∧ But x.F w w3) := by
      have e1 : Tns.soiled (c.use i b) i s = c.write i b := if_neg hs0
      rw [e1] at hM3
      exact ⟨⟨⟨_, _, _, hM3, by omega⟩, Che.write_ok HO.out hi hb16, by rw [Che.write_hits c i b HO.out]; omega⟩, HK.out.2.1.trans hb3 (Grows.refl _ _)⟩
    clear U hM3 hb3 HK hl0 hl1 hl2
    go_wp2
    go_ret
    exact ⟨rfl, HF.out⟩
end Go.Proofs.YtfeikmmojilmbaaDoor
