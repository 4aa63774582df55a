/- A lock is freed: a walk over the program. -/
import Derived.Test.YtagindfgfamacaaDoorLkG
import Derived.Test.YtagindfgfamacaaDoorLkU
import Derived.Test.YtagindfgfamacaaDoorLkV
import Derived.Test.YtagindfgfamacaaDoorErrv
namespace Go.Proofs.YtagindfgfamacaaDoor
open Go.RowKit
set_option maxRecDepth 100000 in
theorem free_none {B : Nat} {w : World} {x : LP} {t : Lks} (h : IsK 76 B w x t) (hn : t.many ≤ 30) (z : Int) (hz : t.freeE z ≠ 0) :
    Calls Tryd.prog 21 #[.pointer (some ⟨x.p, 0, none⟩), .int .i64 z] w fun e w' => e = .returned (.tuple #[.slice none 0 0, errV 5]) ∧ Below w.heap.size w w' := by
  have q : (hasW t.h z || hasW t.w z) = false := by
    unfold Lks.freeE at hz
    split at hz
    · exact absurd rfl hz
    · rename_i h1; simpa using h1
  have D := knows_any h (by omega) z
  rw [q] at D
  rw [errV, if_neg (by omega)]
  clear h hn hz q
  go_enter Tryd.func21, Tryd.ntmps21
  go_wp2_with fail
  refine D.mono ?_
  rintro e w1 ⟨rfl, hB⟩
  have HB : Hid (Below w.heap.size w w1) := hB
  clear D hB
  go_wp2
  go_ret2
  exact ⟨rfl, HB.out⟩
set_option maxRecDepth 100000 in
set_option maxHeartbeats 4000000 in
theorem free_some {B : Nat} {w : World} {x : LP} {t : Lks} (h : IsK 76 B w x t) (hn : t.many ≤ 30) (hB : B ≤ w.heap.size) (z : Int) (hz : t.freeE z = 0) :
    Calls Tryd.prog 21 #[.pointer (some ⟨x.p, 0, none⟩), .int .i64 z] w fun e w' => ∃ (x' : LP) (u : Value), x'.p = x.p ∧ e = .returned (.tuple #[u, .nilIface]) ∧ OwZ w.heap.size w' u (t.freeW z) ∧ IsK 76 B w' x' (t.free z) ∧ But x.F w w' ∧ Grows x.F x'.F w := by
  obtain ⟨j0, hj, hy0, hy1, hy2⟩ := info_parts infoI
  have q : (hasW t.h z || hasW t.w z) = true := by
    unfold Lks.freeE at hz
    split at hz
    · assumption
    · omega
  have HF : Hid (t.free z = Lks.go ⟨Lks.drop t.h z, []⟩ (Lks.drop t.w z) ∧ t.freeW z = Lks.goW ⟨Lks.drop t.h z, []⟩ (Lks.drop t.w z)) := by
    constructor
    · unfold Lks.free; rw [if_pos hz]
    · unfold Lks.freeW; rw [if_pos hz]
  have hmn : t.h.length + t.w.length ≤ 30 := hn
  have hd1 := Lks.drop_le t.h z
  have hd2 := Lks.drop_le t.w z
  have D := knows_any h (by omega) z
  rw [q] at D
  have HK : Hid (IsK 76 B w x t) := h
  rw [HF.out.1, HF.out.2]
  obtain ⟨l, hl⟩ : ∃ l, Lks.drop t.w z = l := ⟨_, rfl⟩
  obtain ⟨dh, hdh⟩ : ∃ l, Lks.drop t.h z = l := ⟨_, rfl⟩
  have HL : Hid (Lks.drop t.w z = l) := hl
  have HDH : Hid (Lks.drop t.h z = dh) := hdh
  rw [hl, hdh]
  rw [hl] at hd2
  rw [hdh] at hd1
  obtain ⟨m, hm⟩ : ∃ m, l.length = m := ⟨_, rfl⟩
  have HM : Hid (l.length = m) := hm
  rw [hm] at hd2
  clear h hz q HF hl hdh hm
  go_enter Tryd.func21, Tryd.ntmps21
  go_wp2_with fail
  refine D.mono ?_
  rintro e w1 ⟨rfl, hB1⟩
  have HB1 : Hid (Below w.heap.size w w1) := hB1
  have HK1 : Hid (IsK 76 B w1 x t) := HK.out.old hB1
  clear D hB1 HK
  have c1 := HK1.out.c1
  have E := without_any HK1.out.wt z (by omega)
  obtain ⟨a2, k2, hv2⟩ := OwLk.len HK1.out.wt
  have HV2 : Hid (x.vw = .slice a2 t.w.length k2) := hv2
  rw [hv2] at c1 E
  clear hv2
  go_wp2_with fail
  refine E.mono ?_
  rintro e w2 ⟨u1, rfl, hO2, hs2, hb2⟩
  rw [← HV2.out] at hs2 hb2
  rw [HL.out] at hO2
  have HO2 : Hid (OwLk B w2 u1 l) := hO2
  have HS2 : Hid (Sub u1 x.vw) := hs2
  have HB2 : Hid (But (fun k => x.vw.ownBlock = some k) w1 w2) := hb2
  have hh2 : OwLk B w2 x.vh t.h := OwLk.but HK1.out.hd hb2 (fun k hk e => HK1.out.hw k hk e)
  have G := without_any hh2 z (by omega)
  have c0 : w2.cell? ⟨x.p, 0, none⟩ = some x.vh := (hb2.cell (p := ⟨x.p, 0, none⟩) HK1.out.plt (fun e => HK1.out.wtp e rfl)).trans HK1.out.c0
  obtain ⟨a1, k1, hv1⟩ := OwLk.len HK1.out.hd
  have HV1 : Hid (x.vh = .slice a1 t.h.length k1) := hv1
  rw [hv1] at c0 G
  obtain ⟨ao, ca, hu⟩ := OwLk.len hO2
  rw [HM.out] at hu
  have HU : Hid (u1 = .slice ao m ca) := hu
  subst hu
  clear E c1 hO2 hs2 hb2 hh2 hv1
  go_wp2_with fail
  refine G.mono ?_
  rintro e w3 ⟨uh, rfl, hO3, hs3, hb3⟩
  rw [← HV1.out] at hs3 hb3
  rw [HDH.out] at hO3
  have hb23 : But (fun k => x.vh.ownBlock = some k ∨ x.vw.ownBlock = some k) w1 w3 := (HB2.out.mono (fun k hk => .inr hk)).trans (hb3.mono (fun k hk => .inl hk)) (Grows.refl _ _)
  have R := HK1.out.reset hb23 hO3
  have p0 : w3.cell? ⟨x.p, 0, none⟩ = some x.vh := (hb23.cell (p := ⟨x.p, 0, none⟩) HK1.out.plt (fun e => e.elim (fun q => HK1.out.hdp q rfl) (fun q => HK1.out.wtp q rfl))).trans HK1.out.c0
  have p1 : w3.cell? ⟨x.p, 1, none⟩ = some x.vw := (hb23.cell (p := ⟨x.p, 1, none⟩) HK1.out.plt (fun e => e.elim (fun q => HK1.out.hdp q rfl) (fun q => HK1.out.wtp q rfl))).trans HK1.out.c1
  have pf : ∀ i, w3.frozen? ⟨x.p, i, none⟩ = false := fun i => (hb23.frozen (p := ⟨x.p, i, none⟩) HK1.out.plt (fun e => e.elim (fun q => HK1.out.hdp q rfl) (fun q => HK1.out.wtp q rfl))).trans (HK1.out.free i)
  have f0 := pf 0
  have f1 := pf 1
  obtain ⟨ah, kh, huh⟩ := OwLk.len hO3
  have hwt3 : OwLk B w3 (.slice ao m ca) l := OwLk.but HO2.out hb3 (fun k hk e => HK1.out.hw k e (HS2.out k hk))
  obtain ⟨w4, hw4⟩ : ∃ w4, w4 = (w3.setCell ⟨x.p, 0, none⟩ uh).setCell ⟨x.p, 1, none⟩ (.slice none 0 0) := ⟨_, rfl⟩
  have HR : Hid (IsK 76 B w4 ⟨x.p, uh, .slice none 0 0⟩ ⟨dh, []⟩) := by rw [hw4]; exact R.1
  have HW4 : Hid (OwLk B w4 (.slice ao m ca) l) := by
    rw [hw4]
    exact OwLk.but hwt3 R.2 (fun k hk e => by subst e; exact HK1.out.wtp (HS2.out _ hk) rfl)
  have HB4 : Hid (But x.F w w4) := by
    rw [hw4]
    exact ((Below.but HB1.out _).trans (hb23.mono (fun k hk => .inr hk)) (Grows.refl _ _)).trans (R.2.mono (fun k hk => .inl hk)) (Grows.refl _ _)
  have HG4 : Hid (Grows x.F (LP.F ⟨x.p, uh, .slice none 0 0⟩) w) := by
    rintro k (q | q | q)
    · exact .inl (.inl q)
    · exact .inl (.inr (.inl (hs3 k q)))
    · cases q
  have HAP : Hid (∀ k, (Value.slice ao m ca).ownBlock = some k → ¬ LP.F ⟨x.p, uh, .slice none 0 0⟩ k) := by
    rintro k hk (q | q | q)
    · exact HK1.out.wtp (HS2.out k hk) q
    · exact HK1.out.hw k (hs3 k q) (HS2.out k hk)
    · cases q
  subst huh
  clear G R pf hO3 hs3 hb3 hb23 hwt3 c0 HO2 HS2 HB2 HK1 HB1 HU HV2
  go_wp2
  rw [← hw4]
  have HMB : Hid (t.h.length + t.w.length ≤ 30 ∧ dh.length ≤ t.h.length) := ⟨hmn, hd1⟩
  have hm30 : m ≤ 30 := by omega
  clear hw4 f0 f1 p0 p1 hn hmn hd1 hd2
  go_loopw [7, 9, 35] (fun s7 _ s35 wr => ∃ (k : Nat) (x' : LP), k ≤ m ∧ s35 = .int .i64 k ∧ x'.p = x.p ∧ Hid (IsK 76 B wr x' (Lks.go ⟨dh, []⟩ (l.take k))) ∧ Hid (OwZ w.heap.size wr s7 (Lks.goW ⟨dh, []⟩ (l.take k))) ∧ Hid (OwLk B wr (.slice ao m ca) l) ∧ Hid (But x.F w wr) ∧ Hid (Grows x.F x'.F w) ∧ Hid (∀ k, (Value.slice ao m ca).ownBlock = some k → ¬ x'.F k)) (fun _ _ s35 _ => m - (intOf s35).toNat)
  case atStart => exact ⟨0, ⟨x.p, .slice ah dh.length kh, .slice none 0 0⟩, Nat.zero_le _, rfl, rfl, HR.out, OwZ.nil _ _, HW4.out, HB4.out, HG4.out, HAP.out⟩
  case round =>
    obtain ⟨k, x', hk, rfl, hxp, HI, HZ, HW, HB, HG, HA⟩ := hrel
    by_cases hlt : k < m
    · have hlt2 : k < l.length := by rw [HM.out]; exact hlt
      obtain ⟨ad, hao, hd⟩ := (OwLk.rd HW.out).at k hlt2
      obtain ⟨y, hy⟩ : ∃ y, lka l k = y := ⟨_, rfl⟩
      have HY : Hid (lka l k = y) := hy
      have HN1 : Hid (Lks.go ⟨dh, []⟩ (l.take (k + 1)) = (Lks.go ⟨dh, []⟩ (l.take k)).add y) := by (show _ = _); rw [Lks.go_next _ hlt2, hy]
      have HN2 : Hid (Lks.goW ⟨dh, []⟩ (l.take (k + 1)) = Lks.goW ⟨dh, []⟩ (l.take k) ++ (if (Lks.go ⟨dh, []⟩ (l.take k)).free' y = true then [y.who] else [])) := by (show _ = _); rw [Lks.goW_next _ hlt2, hy]
      have hmany : (Lks.go ⟨dh, []⟩ (l.take k)).many ≤ 1000 := by
        rw [Lks.go_many, List.length_take]
        (show dh.length + 0 + _ ≤ _)
        have := HMB.out
        omega
      have HZL : Hid ((Lks.goW ⟨dh, []⟩ (l.take k)).length ≤ 1000) := by
        have := Lks.goW_len (l.take k) ⟨dh, []⟩
        rw [List.length_take] at this
        have := HMB.out
        (show _ ≤ _)
        omega
      rw [hy] at hd
      have hne := hao
      subst hao
      have hb := al_below wr (.cells #[.int .i64 y.who, .int .i64 y.fr, .int .i64 y.to, .bool y.al] 57)
      have hnew := LkAt.new wr y 57
      obtain ⟨wa, hwa⟩ : ∃ wa, wa = wr.alloc (.cells #[.int .i64 y.who, .int .i64 y.fr, .int .i64 y.to, .bool y.al] 57) := ⟨_, rfl⟩
      rw [← hwa] at hb hnew
      have HIa : Hid (IsK 76 B wa x' (Lks.go ⟨dh, []⟩ (l.take k))) := HI.out.old hb
      have E := put_any HIa.out hmany (Nat.le_trans hB (Nat.le_trans HB.out.size hb.size)) y
      rw [hxp] at E
      unfold alk at E
      have HHB : Hid (Below wr.heap.size wr wa) := hb
      have HNW : Hid (LkAt wa ⟨wr.heap.size, 0, none⟩ y) := hnew
      have HLT : Hid (∀ q, x'.F q → q < wr.heap.size) := HI.out.lt
      obtain ⟨d0, d1, d2, d3⟩ := hd
      clear hy hmany hb hnew hne
      obtain ⟨tk, htk⟩ : ∃ tk, Lks.go ⟨dh, []⟩ (l.take k) = tk := ⟨_, rfl⟩
      obtain ⟨zs, hzs⟩ : ∃ zs, Lks.goW ⟨dh, []⟩ (l.take k) = zs := ⟨_, rfl⟩
      rw [htk] at HI HIa E HN1 HN2
      rw [hzs] at HZ HN2 HZL
      clear htk hzs
      obtain ⟨b, hbb⟩ : ∃ b, tk.free' y = b := ⟨_, rfl⟩
      rw [hbb] at E HN2
      clear hbb
      go_wp2_with fail
      rw [← hwa]
      clear hwa d0 d1 d2 d3
      refine E.mono ?_
      rintro e w5 ⟨x5, hx5, rfl, hI5, hb5, hg5⟩
      have HI5 : Hid (IsK 76 B w5 x5 (tk.add y)) := hI5
      have HX5 : Hid (x5.p = x.p) := hx5
      have HZ5 : Hid (OwZ w.heap.size w5 u7 zs) := OwZ.but (OwZ.old HZ.out HHB.out) hb5 (OwZ.apart (OwZ.old HZ.out HHB.out) HIa.out (by decide))
      have HW5 : Hid (OwLk B w5 (.slice (some ad) m ca) l) := OwLk.but (OwLk.old HW.out HHB.out) hb5 (fun q hq => HA.out q hq)
      have HB5 : Hid (But x.F w w5) := (HB.out.trans (Below.but HHB.out _) (Grows.refl _ _)).trans hb5 (fun q hq => (HG.out q hq))
      have HG5 : Hid (Grows x.F x5.F w) := fun q hq => by
        rcases hg5 q hq with z1 | z1
        · exact HG.out q z1
        · exact .inr (by have := HHB.out.size; have := HB.out.size; omega)
      have HA5 : Hid (∀ q, (Value.slice (some ad) m ca).ownBlock = some q → ¬ x5.F q) := fun q hq e => by
        rcases hg5 q e with z1 | z1
        · exact HA.out q hq z1
        · have := (OwLk.lt HW.out q hq).2
          have := HHB.out.size
          omega
      have hv5 : LkAt w5 ⟨wr.heap.size, 0, none⟩ y := HNW.out.but hb5 (fun e => absurd (HLT.out _ e) (Nat.lt_irrefl _))
      obtain ⟨e0, e1, e2, e3⟩ := hv5
      clear E hI5 hb5 hg5 hx5 hxp HI HIa HZ HW HB HG HA HNW HLT
      cases b
      · go_wp2
        go_roundw
        case rel => exact ⟨k + 1, x5, by omega, by go_num, HX5.out, by rw [HN1.out]; exact HI5.out, by rw [HN2.out, if_neg Bool.false_ne_true, List.append_nil]; exact HZ5.out, HW5.out, HB5.out, HG5.out, HA5.out⟩
        case measure => simp [intOf]; omega
      · have hzz : w5.ownsRow w.heap.size 3 1 u7 zs.length (vz zs) := HZ5.out
        obtain ⟨az, kz, hu7⟩ := OwZ.len HZ5.out
        have HU7 : Hid (u7 = .slice az zs.length kz) := hu7
        rw [hu7] at hzz ⊢
        have hzl := HZL.out
        have hsz5 := HB5.out.size
        clear hu7
        go_wp2_with (first | (at_builtin; refine wpList_append_own _ rfl _ _ 45 rfl w.heap.size 3 j0 (.int .i64 0) 1 8 Tryd.underlying45 hj hy0 hy1 hy2 rfl (by decide) _ _ _ rfl (World.ownsRow.alloc hzz _) ⟨w5.heap.size, 0, none⟩ 1 1 [.int .i64 y.who] rfl rfl (one_cell _) (by intro u hu; simp at hu; subst hu; rfl) (by unfold maxLen; omega) (by omega) (by simp; omega) ?_))
        intro v' w6 hown hgrow _
        rw [← HU7.out] at hgrow
        have hb6 : But (fun q => u7.ownBlock = some q) (w5.alloc (.cells #[.int .i64 y.who] 3)) w6 := But.grown hgrow (fun q hq => hq)
        have hal := al_below w5 (.cells #[.int .i64 y.who] 3)
        have HI6 : Hid (IsK 76 B w6 x5 (tk.add y)) := (HI5.out.old hal).but hb6 (fun q hq e => OwZ.apart HZ5.out HI5.out (by decide) q e hq)
        have HZ6 : Hid (OwZ w.heap.size w6 v' (zs ++ [y.who])) := by
          (show World.ownsRow _ _ _ _ _ _ _)
          rw [vz_snoc, List.length_append]
          exact hown
        have HW6 : Hid (OwLk B w6 (.slice (some ad) m ca) l) := OwLk.but (OwLk.old HW5.out hal) hb6 (fun q hq e => lk_type_ne (OwLk.type HW5.out hq) (OwZ.type HZ5.out e) (by decide))
        have HB6 : Hid (But x.F w w6) := ⟨hgrow.os.trans HB5.out.os, hgrow.tape.trans HB5.out.tape, hgrow.output.trans HB5.out.output, Nat.le_trans (Nat.le_trans HB5.out.size hal.size) hb6.size, fun q hq hn => by
          have h1 := HB5.out.block q hq hn
          have h2 := hal.block q (Nat.lt_of_lt_of_le hq HB5.out.size)
          have h3 := hb6.block q (Nat.lt_of_lt_of_le hq (Nat.le_trans HB5.out.size hal.size)) (fun e => by have := (World.ownsRow.lt HZ5.out q e).1; omega)
          rw [h3, h2, h1]⟩
        clear hown hgrow hb6 hal hzz e0 e1 e2 e3 HI5 HZ5 HW5 HB5
        go_wp2
        go_roundw
        case rel => exact ⟨k + 1, x5, by omega, by go_num, HX5.out, by rw [HN1.out]; exact HI6.out, by rw [HN2.out]; exact HZ6.out, HW6.out, HB6.out, HG5.out, HA5.out⟩
        case measure => simp [intOf]; omega
    · obtain rfl : k = m := by omega
      have HT : Hid (l.take k = l) := by (show _ = _); rw [← HM.out]; exact List.take_length
      rw [HT.out] at HI HZ
      have HX : Hid (x'.p = x.p) := hxp
      clear hxp
      go_wp2
      go_ret2
      exact ⟨x', u7, HX.out, rfl, HZ.out, HI.out, HB.out, HG.out⟩
end Go.Proofs.YtagindfgfamacaaDoor
