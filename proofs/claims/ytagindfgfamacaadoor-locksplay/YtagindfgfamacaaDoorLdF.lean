/- The document's Free: walks over the program. -/
import Derived.Test.YtagindfgfamacaaDoorLdC
import Derived.Test.YtagindfgfamacaaDoorLkG
import Derived.Deep.RegionLawGrows
import Derived.BigCall
import Derived.BigGuard
import Derived.Deep.Cut
import Derived.Deep.CutRange
namespace Go.Proofs.YtagindfgfamacaaDoor
open Go.RowKit
set_option maxRecDepth 100000 in
theorem dfree_none {B : Nat} {w : World} {x : LP} {t : Lks} (h : IsK 50 B w x t) (hn : t.many ≤ 30) (z : Int) (hz : t.freeE z ≠ 0) :
    Calls Tryd.prog 20 #[.pointer (some ⟨x.p, 0, none⟩), .int .i64 z] w fun e w' => e = .returned (.tuple #[.slice none 0 0, .int .i64 5]) ∧ w' = w := by
  have q : (hasW t.h z || hasW t.w z) = false := by
    unfold Lks.freeE at hz
    split at hz
    · exact absurd rfl hz
    · rename_i h1; simpa using h1
  have hmn : t.h.length + t.w.length ≤ 30 := hn
  have C1 := dwhose_any x.vh t.h z w (by omega) (OwLk.rd h.hd)
  have C2 := dwhose_any x.vw t.w z w (by omega) (OwLk.rd h.wt)
  have q1 : hasW t.h z = false := by
    cases q1 : hasW t.h z
    · rfl
    · rw [q1] at q; cases q
  have q2 : hasW t.w z = false := by rw [q1] at q; exact q
  rw [q1] at C1
  rw [q2] at C2
  have c0 := h.c0
  have c1 := h.c1
  obtain ⟨a1, l1, hv1⟩ := OwLk.len h.hd
  obtain ⟨a2, l2, hv2⟩ := OwLk.len h.wt
  rw [hv1] at c0 C1
  rw [hv2] at c1 C2
  clear h hn hz q q1 q2 hmn hv1 hv2
  go_enter Tryd.func20, Tryd.ntmps20
  go_wp2_with fail
  refine C1.mono ?_
  rintro e w1 ⟨rfl, hw⟩
  obtain rfl := hw.symm
  clear C1 hw
  go_wp2_with fail
  refine C2.mono ?_
  rintro e w2 ⟨rfl, hw⟩
  obtain rfl := hw.symm
  clear C2 hw
  go_wp2
  go_ret2
  exact ⟨rfl, rfl⟩
set_option maxRecDepth 100000 in
set_option maxHeartbeats 8000000 in
theorem dfree_some {B : Nat} {w : World} {x : LP} {t : Lks} (h : IsK 50 B w x t) (hn : t.many ≤ 30) (hB : B ≤ w.heap.size) (z : Int) (hz : t.freeE z = 0) :
    Calls Tryd.prog 20 #[.pointer (some ⟨x.p, 0, none⟩), .int .i64 z] w fun e w' => ∃ (x' : LP) (u : Value), x'.p = x.p ∧ e = .returned (.tuple #[u, .int .i64 0]) ∧ OwZ w.heap.size w' u (t.freeW z) ∧ IsK 50 B w' x' (t.free z) ∧ But x.F w w' ∧ Grows x.F x'.F w := by
  obtain ⟨j0, hj, hy0, hy1, hy2⟩ := info_parts infoLk
  obtain ⟨i0, hi, hz0, hz1, hz2⟩ := info_parts infoI
  have q : (hasW t.h z || hasW t.w z) = true := by
    unfold Lks.freeE at hz
    split at hz
    · assumption
    · omega
  have HF : Hid (t.free z = Lks.go ⟨Lks.drop t.h z, []⟩ (Lks.drop t.w z) ∧ t.freeW z = Lks.goW ⟨Lks.drop t.h z, []⟩ (Lks.drop t.w z)) := by
    constructor
    · unfold Lks.free; rw [if_pos hz]
    · unfold Lks.freeW; rw [if_pos hz]
  have hmn : t.h.length + t.w.length ≤ 30 := hn
  have hd1 := Lks.drop_le t.h z
  have hd2 := Lks.drop_le t.w z
  have HK : Hid (IsK 50 B w x t) := h
  have C1 := dwhose_any x.vh t.h z w (by omega) (OwLk.rd h.hd)
  have C2 := dwhose_any x.vw t.w z w (by omega) (OwLk.rd h.wt)
  have C3 := ddrop_any x.vh t.h z w (by omega) (OwLk.rd h.hd)
  have c0 := h.c0
  have c1 := h.c1
  obtain ⟨a1, l1, hv1⟩ := OwLk.len h.hd
  obtain ⟨a2, l2, hv2⟩ := OwLk.len h.wt
  have HV1 : Hid (x.vh = .slice a1 t.h.length l1) := hv1
  have HV2 : Hid (x.vw = .slice a2 t.w.length l2) := hv2
  rw [hv1] at c0 C1 C3
  rw [hv2] at c1 C2
  rw [HF.out.1, HF.out.2]
  obtain ⟨l, hl⟩ : ∃ l, Lks.drop t.w z = l := ⟨_, rfl⟩
  obtain ⟨dh, hdh⟩ : ∃ l, Lks.drop t.h z = l := ⟨_, rfl⟩
  have HL : Hid (Lks.drop t.w z = l) := hl
  rw [hl, hdh]
  rw [hl] at hd2
  rw [hdh] at hd1 C3
  obtain ⟨m, hm⟩ : ∃ m, l.length = m := ⟨_, rfl⟩
  have HLN : Hid (l.length = m) := hm
  rw [hm] at hd2
  obtain ⟨b1, hb1⟩ : ∃ b, hasW t.h z = b := ⟨_, rfl⟩
  obtain ⟨b2, hb2⟩ : ∃ b, hasW t.w z = b := ⟨_, rfl⟩
  rw [hb1] at C1 q
  rw [hb2] at C2 q
  clear h hz HF hl hdh hm hv1 hv2 hb1 hb2
  go_enter Tryd.func20, Tryd.ntmps20
  go_wp2_with fail
  refine C1.mono ?_
  rintro e w1 ⟨rfl, hw⟩
  obtain rfl := hw.symm
  clear C1 hw
  go_wp2_with fail
  refine C2.mono ?_
  rintro e w2 ⟨rfl, hw⟩
  obtain rfl := hw.symm
  clear C2 hw
  go_upto_region 3 with fail
  go_cut [30] from 25 to 30 (fun s wx => s = .bool false ∧ wx = w)
  case first =>
    cases b1
    · cases b2
      · cases q
      · go_wp2
        go_meet
        case rel => exact ⟨rfl, rfl⟩
    · go_wp2
      go_meet
      case rel => exact ⟨rfl, rfl⟩
  case rest =>
    obtain ⟨rfl, hw⟩ := hcut
    rw [hw]
    clear hw q
    go_wp2_with fail
    refine C3.mono ?_
    rintro e w3 ⟨uh, rfl, hO3, hb3⟩
    have HK3 : Hid (IsK 50 B w3 x t) := HK.out.old hb3
    have HB3 : Hid (Below w.heap.size w w3) := hb3
    have HU : Hid (OwLk w.heap.size w3 uh dh) := hO3
    have p0 : w3.cell? ⟨x.p, 0, none⟩ = some x.vh := HK3.out.c0
    have p1 : w3.cell? ⟨x.p, 1, none⟩ = some (.slice a2 t.w.length l2) := by rw [HK3.out.c1, HV2.out]
    have f0 := HK3.out.free 0
    obtain ⟨ah, kh, huh⟩ := OwLk.len hO3
    subst huh
    have R := HK3.out.putH (Below.but (Below.refl _ _) (fun _ => False)) (OwLk.base hO3 hB) (fun k hk => hk.elim) (fun k hk e => by have q1 := (OwLk.lt hO3 k hk).1; have q2 := (OwLk.lt HK.out.wt k e).2; omega)
    obtain ⟨w4, hw4⟩ : ∃ w4, w4 = w3.setCell ⟨x.p, 0, none⟩ (.slice ah dh.length kh) := ⟨_, rfl⟩
    have HR4 : Hid (IsK 50 B w4 ⟨x.p, .slice ah dh.length kh, x.vw⟩ ⟨dh, t.w⟩) := by rw [hw4]; exact R
    have HB4 : Hid (But x.F w w4) := by
      rw [hw4]
      exact (Below.but HB3.out _).trans ((But.refl x.F w3).setCell (p := ⟨x.p, 0, none⟩) (.inl rfl) _) (Grows.refl _ _)
    have HS4 : Hid (w4.heap.size = w3.heap.size) := by (show _ = _); rw [hw4]; simp
    have HUL : Hid (∀ k, (Value.slice ah dh.length kh).ownBlock = some k → w.heap.size ≤ k ∧ k < w3.heap.size) := fun k hk => OwLk.lt HU.out k hk
    have C4 := ddrop_any x.vw t.w z w4 (by omega) (OwLk.rd HR4.out.wt)
    rw [HL.out, HV2.out] at C4
    clear C3 hO3 hb3 R c0 c1 HU HK3
    rw [HV1.out] at p0
    go_wp2_with fail
    rw [← hw4]
    clear hw4 p0 f0 p1
    refine C4.mono ?_
    rintro e w5 ⟨u1, rfl, hO5, hb5⟩
    have HR5 : Hid (IsK 50 B w5 ⟨x.p, .slice ah dh.length kh, x.vw⟩ ⟨dh, t.w⟩) := HR4.out.old hb5
    have R2 := HR5.out.putW (Below.but (Below.refl _ _) (fun _ => False)) (OwLk.nil B _) (fun k hk => hk.elim) (fun k _ e => by cases e)
    have p1 : w5.cell? ⟨x.p, 1, none⟩ = some (.slice a2 t.w.length l2) := by
      have := HR5.out.c1
      rw [← HV2.out]
      exact this
    have f1 : w5.frozen? ⟨x.p, 1, none⟩ = false := HR5.out.free 1
    obtain ⟨ar, cr, hu1⟩ := OwLk.len hO5
    rw [HLN.out] at hu1
    subst hu1
    obtain ⟨w6, hw6⟩ : ∃ w6, w6 = w5.setCell ⟨x.p, 1, none⟩ (.slice none 0 0) := ⟨_, rfl⟩
    have hbp : But (· = x.p) w5 w6 := by rw [hw6]; exact (But.refl (· = x.p) w5).setCell (p := ⟨x.p, 1, none⟩) rfl _
    have HI0 : Hid (IsK 50 B w6 ⟨x.p, .slice ah dh.length kh, .slice none 0 0⟩ ⟨dh, []⟩) := by rw [hw6]; exact R2
    have HRr0 : Hid (OwLk w.heap.size w6 (.slice ar m cr) l) := OwLk.base (OwLk.but hO5 hbp (fun k hk e => by subst e; exact lk_type_ne HR5.out.pt (OwLk.type hO5 hk) (by decide))) HB4.out.size
    have HB0 : Hid (But x.F w w6) := (HB4.out.trans (Below.but hb5 _) (Grows.refl _ _)).trans (hbp.mono (fun k hk => .inl hk)) (Grows.refl _ _)
    have HG0 : Hid (Grows x.F (LP.F ⟨x.p, .slice ah dh.length kh, .slice none 0 0⟩) w) := by
      rintro k (q | q | q)
      · exact .inl (.inl q)
      · exact .inr (HUL.out k q).1
      · cases q
    have HA0 : Hid (∀ k, (Value.slice ar m cr).ownBlock = some k → ¬ LP.F ⟨x.p, .slice ah dh.length kh, .slice none 0 0⟩ k) := by
      rintro k hk (q | q | q)
      · have q1 := (OwLk.lt hO5 k hk).1
        have q2 := HR4.out.plt
        (have q3 : x.p < w4.heap.size := q2)
        (have q4 : k = x.p := q)
        omega
      · have q1 := (OwLk.lt hO5 k hk).1
        have q2 := (HUL.out k q).2
        have q3 := HS4.out
        omega
      · cases q
    have HMB : Hid (t.h.length + t.w.length ≤ 30 ∧ dh.length ≤ t.h.length) := ⟨hmn, hd1⟩
    have hm30 : m ≤ 30 := by omega
    clear C4 hO5 hb5 R2 hbp HR4 HR5 HB4 HS4 HUL HB3 HV1 HV2 hmn hd1 hd2 hn
    go_wp2
    rw [← hw6]
    clear hw6 p1 f1
    go_loopw [9, 10] (fun s9 s10 wr => ∃ (k : Nat) (xk : LP), k ≤ m ∧ s10 = .int .i64 k ∧ xk.p = x.p ∧ Hid (IsK 50 B wr xk (Lks.go ⟨dh, []⟩ (l.take k))) ∧ Hid (OwZ w.heap.size wr s9 (Lks.goW ⟨dh, []⟩ (l.take k))) ∧ Hid (OwLk w.heap.size wr (.slice ar m cr) l) ∧ Hid (But x.F w wr) ∧ Hid (Grows x.F xk.F w) ∧ Hid (∀ k, (Value.slice ar m cr).ownBlock = some k → ¬ xk.F k)) (fun _ s10 _ => m - (intOf s10).toNat)
    case atStart => exact ⟨0, ⟨x.p, .slice ah dh.length kh, .slice none 0 0⟩, Nat.zero_le _, rfl, rfl, HI0.out, OwZ.nil _ _, HRr0.out, HB0.out, HG0.out, HA0.out⟩
    case round =>
      obtain ⟨k, xk, hk, rfl, hxp, HI, HZ, HRr, HBt, HG, HA⟩ := hrel
      have HP : Hid (xk.p = x.p) := hxp
      clear hxp HI0 HRr0 HB0 HG0 HA0
      by_cases hlt : k < m
      · have hlt2 : k < l.length := by rw [HLN.out]; exact hlt
        obtain ⟨ad, hao, hd⟩ := (OwLk.rd HRr.out).at k hlt2
        obtain ⟨y, hy⟩ : ∃ y, lka l k = y := ⟨_, rfl⟩
        have HYL : Hid (lka l k = y) := hy
        have HG1 : Hid (Lks.go ⟨dh, []⟩ (l.take (k + 1)) = (Lks.go ⟨dh, []⟩ (l.take k)).add y) := by (show _ = _); rw [Lks.go_next _ hlt2, hy]
        have HG2 : Hid (Lks.goW ⟨dh, []⟩ (l.take (k + 1)) = Lks.goW ⟨dh, []⟩ (l.take k) ++ (if (Lks.go ⟨dh, []⟩ (l.take k)).free' y = true then [y.who] else [])) := by (show _ = _); rw [Lks.goW_next _ hlt2, hy]
        have hmany : (Lks.go ⟨dh, []⟩ (l.take k)).many ≤ 1000 := by
          rw [Lks.go_many, List.length_take]
          (show dh.length + 0 + _ ≤ _)
          have := HMB.out
          omega
        have HZL : Hid ((Lks.goW ⟨dh, []⟩ (l.take k)).length ≤ 1000) := by
          have := Lks.goW_len (l.take k) ⟨dh, []⟩
          rw [List.length_take] at this
          have := HMB.out
          (show _ ≤ _)
          omega
        rw [hy] at hd
        subst hao
        have HYwr : Hid (LkAt wr (ad.add (k * 4)) y) := hd
        obtain ⟨tk, htk⟩ : ∃ tk, Lks.go ⟨dh, []⟩ (l.take k) = tk := ⟨_, rfl⟩
        obtain ⟨zs, hzs⟩ : ∃ zs, Lks.goW ⟨dh, []⟩ (l.take k) = zs := ⟨_, rfl⟩
        rw [htk] at HI HG1 HG2 hmany
        rw [hzs] at HZ HG2 HZL
        clear htk hzs hd hy
        have HKwr : Hid (IsK 50 B wr xk tk) := HI.out
        have HBwr : Hid (Below wr.heap.size wr wr) := Below.refl _ _
        obtain ⟨a1, l1, hv1⟩ := OwLk.len HI.out.hd
        obtain ⟨a2, l2, hv2⟩ := OwLk.len HI.out.wt
        obtain ⟨n1, hn1⟩ : ∃ n, tk.h.length = n := ⟨_, rfl⟩
        obtain ⟨n2, hn2⟩ : ∃ n, tk.w.length = n := ⟨_, rfl⟩
        rw [hn1] at hv1
        rw [hn2] at hv2
        have HV1 : Hid (xk.vh = .slice a1 n1 l1) := hv1
        have HV2 : Hid (xk.vw = .slice a2 n2 l2) := hv2
        have HN1 : Hid (tk.h.length = n1) := hn1
        have HN2 : Hid (tk.w.length = n2) := hn2
        have HMN : Hid (n1 + n2 ≤ 1000 ∧ tk.h.length ≤ 1000 ∧ tk.w.length ≤ 1000) := by
          have : tk.h.length + tk.w.length ≤ 1000 := hmany
          exact ⟨by omega, by omega, by omega⟩
        have HFr : Hid (tk.free' y = (!oddL tk.h y && !oddL tk.w y)) := rfl
        have HADD : Hid (tk.add y = if tk.free' y = true then ⟨tk.h ++ [y], tk.w⟩ else ⟨tk.h, tk.w ++ [y]⟩) := rfl
        obtain ⟨o1, ho1⟩ : ∃ b, (!oddL tk.h y) = b := ⟨_, rfl⟩
        obtain ⟨o2, ho2⟩ : ∃ b, (!oddL tk.w y) = b := ⟨_, rfl⟩
        have HO1 : Hid ((!oddL tk.h y) = o1) := ho1
        have HO2 : Hid ((!oddL tk.w y) = o2) := ho2
        rw [HFr.out, ho1, ho2] at HG2 HADD
        have hkm : (k : Int) < (m : Int) := by omega
        clear hv1 hv2 hn1 hn2 hmany ho1 ho2 HFr
        have HS : Hid (∀ W, Below wr.heap.size wr W → (W.cell? ⟨x.p, 0, none⟩ = some (.slice a1 n1 l1) ∧ W.cell? ⟨x.p, 1, none⟩ = some (.slice a2 n2 l2)) ∧ LkAt W (ad.add (k * 4)) y) := fun W hW =>
          ⟨⟨by rw [← HP.out, (HKwr.out.old hW).c0, HV1.out], by rw [← HP.out, (HKwr.out.old hW).c1, HV2.out]⟩, HYwr.out.old hW⟩
        have H1 : Hid (∀ W, Below wr.heap.size wr W → Calls Tryd.prog 43 #[.slice a1 n1 l1, .agg #[.int .i64 y.who, .int .i64 y.fr, .int .i64 y.to, .bool y.al]] W fun e w' => e = .returned (.bool o1) ∧ Below wr.heap.size wr w') := fun W hW => by
          have := dclear_any xk.vh tk.h y W (by have := HMN.out; omega) (OwLk.rd (HKwr.out.old hW).hd)
          rw [HV1.out, HO1.out] at this
          refine this.mono ?_
          rintro e w' ⟨rfl, hB⟩
          exact ⟨rfl, hW.trans (hB.mono hW.size)⟩
        have hw0 : Below wr.heap.size wr wr.drew := ⟨rfl, rfl, rfl, Nat.le_refl _, fun _ _ => rfl⟩
        have S0 := HS.out _ hw0
        unfold LkAt at S0 HS
        go_wp2
        go_region_held3 (fun W => (W.cell? ⟨x.p, 0, none⟩ = some (.slice a1 n1 l1) ∧ W.cell? ⟨x.p, 1, none⟩ = some (.slice a2 n2 l2)) ∧ W.cell? (ad.add (k * 4)) = some (.int .i64 y.who) ∧ W.cell? ⟨(ad.add (k * 4)).block, (ad.add (k * 4)).off + 1, none⟩ = some (.int .i64 y.fr) ∧ W.cell? ⟨(ad.add (k * 4)).block, (ad.add (k * 4)).off + 2, none⟩ = some (.int .i64 y.to) ∧ W.cell? ⟨(ad.add (k * 4)).block, (ad.add (k * 4)).off + 3, none⟩ = some (.bool y.al)) (first | exact S2 | exact S0) ((first
          | (go_at_call 43; refine (H1.out _ hw0).mono ?_; rintro e wq ⟨rfl, hB2⟩; have S2 := HS.out wq hB2)))
        have HKwq : Hid (IsK 50 B wq xk tk) := HKwr.out.old hB2
        have HYwq : Hid (LkAt wq (ad.add (k * 4)) y) := HYwr.out.old hB2
        have HBwq : Hid (Below wr.heap.size wr wq) := HBwr.out.trans (hB2.mono HBwr.out.size)
        clear HS H1 hw0 S0 S2 hB2 HKwr HYwr HBwr
        have HS : Hid (∀ W, Below wq.heap.size wq W → (W.cell? ⟨x.p, 0, none⟩ = some (.slice a1 n1 l1) ∧ W.cell? ⟨x.p, 1, none⟩ = some (.slice a2 n2 l2)) ∧ LkAt W (ad.add (k * 4)) y) := fun W hW =>
          ⟨⟨by rw [← HP.out, (HKwq.out.old hW).c0, HV1.out], by rw [← HP.out, (HKwq.out.old hW).c1, HV2.out]⟩, HYwq.out.old hW⟩
        have H1 : Hid (∀ W, Below wq.heap.size wq W → Calls Tryd.prog 43 #[.slice a2 n2 l2, .agg #[.int .i64 y.who, .int .i64 y.fr, .int .i64 y.to, .bool y.al]] W fun e w' => e = .returned (.bool o2) ∧ Below wq.heap.size wq w') := fun W hW => by
          have := dclear_any xk.vw tk.w y W (by have := HMN.out; omega) (OwLk.rd (HKwq.out.old hW).wt)
          rw [HV2.out, HO2.out] at this
          refine this.mono ?_
          rintro e w' ⟨rfl, hB⟩
          exact ⟨rfl, hW.trans (hB.mono hW.size)⟩
        have hw0 : Below wq.heap.size wq wq.drew := ⟨rfl, rfl, rfl, Nat.le_refl _, fun _ _ => rfl⟩
        have S0 := HS.out _ hw0
        unfold LkAt at S0 HS
        go_wp2
        go_region_held3 (fun W => (W.cell? ⟨x.p, 0, none⟩ = some (.slice a1 n1 l1) ∧ W.cell? ⟨x.p, 1, none⟩ = some (.slice a2 n2 l2)) ∧ W.cell? (ad.add (k * 4)) = some (.int .i64 y.who) ∧ W.cell? ⟨(ad.add (k * 4)).block, (ad.add (k * 4)).off + 1, none⟩ = some (.int .i64 y.fr) ∧ W.cell? ⟨(ad.add (k * 4)).block, (ad.add (k * 4)).off + 2, none⟩ = some (.int .i64 y.to) ∧ W.cell? ⟨(ad.add (k * 4)).block, (ad.add (k * 4)).off + 3, none⟩ = some (.bool y.al)) (first | exact S2 | exact S0) ((first
          | (go_at_call 43; refine (H1.out _ hw0).mono ?_; rintro e w6 ⟨rfl, hB2⟩; have S2 := HS.out w6 hB2)))
        have HKw6 : Hid (IsK 50 B w6 xk tk) := HKwq.out.old hB2
        have HYw6 : Hid (LkAt w6 (ad.add (k * 4)) y) := HYwq.out.old hB2
        have HBw6 : Hid (Below wr.heap.size wr w6) := HBwq.out.trans (hB2.mono HBwq.out.size)
        clear HS H1 hw0 S0 S2 hB2 HKwq HYwq HBwq
        have HBs : Hid (B ≤ w6.heap.size) := Nat.le_trans hB (Nat.le_trans HBt.out.size HBw6.out.size)
        cases o1
        · have HAD : Hid (tk.add y = ⟨tk.h, tk.w ++ [y]⟩) := HADD.out
          have HG2 : Hid (Lks.goW ⟨dh, []⟩ (l.take (k + 1)) = zs) := by (show _ = _); rw [HG2.out]; exact List.append_nil _
          clear HADD
          go_wp2
          have hd1 : Below w6.heap.size w6 w6.drew := ⟨rfl, rfl, rfl, Nat.le_refl _, fun _ _ => rfl⟩
          have hown : w6.drew.ownsRow B 57 4 (Value.slice a2 n2 l2) n2 (vlks tk.w) := by
            have := OwLk.old HKw6.out.wt hd1
            rw [HV2.out] at this
            unfold OwLk at this
            rw [HN2.out] at this
            exact this
          have s6 : w6.cell? ⟨x.p, 1, none⟩ = some (Value.slice a2 n2 l2) := by rw [← HP.out, HKw6.out.c1, HV2.out]
          have s7 : (w6.alloc (.cells #[.int .i64 y.who, .int .i64 y.fr, .int .i64 y.to, .bool y.al] 57)).cell? ⟨x.p, 1, none⟩ = some (Value.slice a2 n2 l2) := by rw [← HP.out, (HKw6.out.old (al_below _ _)).c1, HV2.out]
          obtain ⟨s2, s3, s4, s5⟩ := HYw6.out
          have HL : Hid (∀ w4 b, (w6.drew.alloc b).grownBy w4 (Value.slice a2 n2 l2).ownBlock → (w4.cell? ⟨x.p, 1, none⟩ = some (Value.slice a2 n2 l2) ∧ w4.frozen? ⟨x.p, 1, none⟩ = false)) := fun w4 b hg => by
            have h5 := (HKw6.out.old hd1).old (al_below _ b)
            have hne : some xk.p ≠ (Value.slice a2 n2 l2).ownBlock := fun e => by rw [← HV2.out] at e; exact HKw6.out.wtp e.symm rfl
            have q1 : w4.cell? ⟨xk.p, 1, none⟩ = some (Value.slice a2 n2 l2) := by rw [hg.cell_far ⟨xk.p, 1, none⟩ h5.plt hne, h5.c1, HV2.out]
            have q2 : w4.frozen? ⟨xk.p, 1, none⟩ = false := by rw [hg.frozen_far ⟨xk.p, 1, none⟩ h5.plt hne]; exact h5.free 1
            rw [HP.out] at q1 q2
            exact ⟨q1, q2⟩
          have hn40 := HMN.out
          have hBs := HBs.out
          go_region_law ((refine step_append_lies _ (by rfl) _ _ _ (by rfl) B 57 j0 (.agg #[.int .i64 0, .int .i64 0, .int .i64 0, .bool false]) 4 32 Tryd.underlying44 hj hy0 hy1 hy2 rfl (by decide) _ _ _ (by rfl) (World.ownsRow.alloc hown _) ⟨w6.heap.size, 0, none⟩ 1 1 (vlk y) (by rfl) rfl (row_news _ y _) (vlk_one y) (by omega) (by unfold maxLen; omega) (by omega) (by simp; omega) _ rfl ?_; intro g cap w4 hO4 hg4 ha4 hl4; have j2 := (HL.out w4 _ hg4).1; have jf := (HL.out w4 _ hg4).2))
          all_goals
            have hO4' : w4.ownsRow B 57 4 (.slice (some ⟨g, 0, none⟩) (tk.w.length + 1) cap) (tk.w.length + 1) (vlks tk.w ++ vlk y) := by rw [HN2.out]; exact hO4
            have M := ((HKw6.out.old hd1).old (al_below _ (.cells #[.int .i64 y.who, .int .i64 y.fr, .int .i64 y.to, .bool y.al] 57))).moreW (y := y) hO4' (by rw [HV2.out]; exact hg4) (by rw [HV2.out]; rcases ha4 with q | q; exact .inl q; exact .inr (by rw [q]; simp))
            rw [HN2.out, HP.out] at M
            have HM : Hid (IsK 50 B (w4.setCell ⟨x.p, 1, none⟩ (.slice (some ⟨g, 0, none⟩) (n2 + 1) cap)) ⟨x.p, xk.vh, .slice (some ⟨g, 0, none⟩) (n2 + 1) cap⟩ ⟨tk.h, tk.w ++ [y]⟩ ∧ But xk.F w6 (w4.setCell ⟨x.p, 1, none⟩ (.slice (some ⟨g, 0, none⟩) (n2 + 1) cap)) ∧ Grows xk.F (LP.F ⟨x.p, xk.vh, .slice (some ⟨g, 0, none⟩) (n2 + 1) cap⟩) w6) := by
              have hbA : Below w6.heap.size w6 (w6.drew.alloc (.cells #[.int .i64 y.who, .int .i64 y.fr, .int .i64 y.to, .bool y.al] 57)) := hd1.trans ((al_below _ _).mono hd1.size)
              exact ⟨M.1, ((Below.but hbA _).trans M.2.1 (Grows.refl _ _)), fun q hq => (M.2.2 q hq).imp id (fun z => Nat.le_trans hbA.size z)⟩
            obtain ⟨x5, hx5⟩ : ∃ x5 : LP, x5 = ⟨x.p, xk.vh, .slice (some ⟨g, 0, none⟩) (n2 + 1) cap⟩ := ⟨_, rfl⟩
            have HX5 : Hid (x5.p = x.p) := by rw [hx5]; exact rfl
            rw [← hx5] at HM
            obtain ⟨w5, hw5⟩ : ∃ w5, w4.setCell ⟨x.p, 1, none⟩ (.slice (some ⟨g, 0, none⟩) (n2 + 1) cap) = w5 := ⟨_, rfl⟩
            have HW5 : Hid (w4.setCell ⟨x.p, 1, none⟩ (.slice (some ⟨g, 0, none⟩) (n2 + 1) cap) = w5) := hw5
            rw [hw5] at HM
            rw [hw5]
            clear M hO4 hO4' hg4 ha4 hl4 hown HL hd1 hx5 hw5 s6 s7 s2 s3 s4 s5 hn40 hBs j2 jf
            have HI5 : Hid (IsK 50 B w5 x5 (tk.add y)) := by rw [HAD.out]; exact HM.out.1
            have hb5 : But xk.F wr w5 := (Below.but HBw6.out _).trans HM.out.2.1 (Grows.refl _ _)
            have HZ5 : Hid (OwZ w.heap.size w5 u9 zs) := OwZ.but HZ.out hb5 (OwZ.apart HZ.out HI.out (by decide))
            have HR5 : Hid (OwLk w.heap.size w5 (.slice (some ad) m cr) l) := OwLk.but HRr.out hb5 (fun q hq => HA.out q hq)
            have HB5 : Hid (But x.F w w5) := HBt.out.trans hb5 (fun q hq => HG.out q hq)
            have HG5 : Hid (Grows x.F x5.F w) := fun q hq => by
              rcases HM.out.2.2 q hq with z1 | z1
              · exact HG.out q z1
              · exact .inr (Nat.le_trans HBt.out.size (Nat.le_trans HBw6.out.size z1))
            have HA5 : Hid (∀ q, (Value.slice (some ad) m cr).ownBlock = some q → ¬ x5.F q) := fun q hq e => by
              rcases HM.out.2.2 q e with z1 | z1
              · exact HA.out q hq z1
              · have q1 := (OwLk.lt HRr.out q hq).2
                have q2 := HBw6.out.size
                omega
            clear hb5 HM HI HZ HRr HBt HG HA HKw6 HBw6 HYw6
            
            clear HW5
            go_wp2
            go_roundw
            case rel => exact ⟨k + 1, x5, by omega, by go_num, HX5.out, by rw [HG1.out]; exact HI5.out, by rw [HG2.out]; exact HZ5.out, HR5.out, HB5.out, HG5.out, HA5.out⟩
            case measure => simp [intOf]; omega
        · cases o2
          · have HAD : Hid (tk.add y = ⟨tk.h, tk.w ++ [y]⟩) := HADD.out
            have HG2 : Hid (Lks.goW ⟨dh, []⟩ (l.take (k + 1)) = zs) := by (show _ = _); rw [HG2.out]; exact List.append_nil _
            clear HADD
            go_wp2
            have hd1 : Below w6.heap.size w6 w6.drew := ⟨rfl, rfl, rfl, Nat.le_refl _, fun _ _ => rfl⟩
            have hown : w6.drew.ownsRow B 57 4 (Value.slice a2 n2 l2) n2 (vlks tk.w) := by
              have := OwLk.old HKw6.out.wt hd1
              rw [HV2.out] at this
              unfold OwLk at this
              rw [HN2.out] at this
              exact this
            have s6 : w6.cell? ⟨x.p, 1, none⟩ = some (Value.slice a2 n2 l2) := by rw [← HP.out, HKw6.out.c1, HV2.out]
            have s7 : (w6.alloc (.cells #[.int .i64 y.who, .int .i64 y.fr, .int .i64 y.to, .bool y.al] 57)).cell? ⟨x.p, 1, none⟩ = some (Value.slice a2 n2 l2) := by rw [← HP.out, (HKw6.out.old (al_below _ _)).c1, HV2.out]
            obtain ⟨s2, s3, s4, s5⟩ := HYw6.out
            have HL : Hid (∀ w4 b, (w6.drew.alloc b).grownBy w4 (Value.slice a2 n2 l2).ownBlock → (w4.cell? ⟨x.p, 1, none⟩ = some (Value.slice a2 n2 l2) ∧ w4.frozen? ⟨x.p, 1, none⟩ = false)) := fun w4 b hg => by
              have h5 := (HKw6.out.old hd1).old (al_below _ b)
              have hne : some xk.p ≠ (Value.slice a2 n2 l2).ownBlock := fun e => by rw [← HV2.out] at e; exact HKw6.out.wtp e.symm rfl
              have q1 : w4.cell? ⟨xk.p, 1, none⟩ = some (Value.slice a2 n2 l2) := by rw [hg.cell_far ⟨xk.p, 1, none⟩ h5.plt hne, h5.c1, HV2.out]
              have q2 : w4.frozen? ⟨xk.p, 1, none⟩ = false := by rw [hg.frozen_far ⟨xk.p, 1, none⟩ h5.plt hne]; exact h5.free 1
              rw [HP.out] at q1 q2
              exact ⟨q1, q2⟩
            have hn40 := HMN.out
            have hBs := HBs.out
            go_region_law ((refine step_append_lies _ (by rfl) _ _ _ (by rfl) B 57 j0 (.agg #[.int .i64 0, .int .i64 0, .int .i64 0, .bool false]) 4 32 Tryd.underlying44 hj hy0 hy1 hy2 rfl (by decide) _ _ _ (by rfl) (World.ownsRow.alloc hown _) ⟨w6.heap.size, 0, none⟩ 1 1 (vlk y) (by rfl) rfl (row_news _ y _) (vlk_one y) (by omega) (by unfold maxLen; omega) (by omega) (by simp; omega) _ rfl ?_; intro g cap w4 hO4 hg4 ha4 hl4; have j2 := (HL.out w4 _ hg4).1; have jf := (HL.out w4 _ hg4).2))
            all_goals
              have hO4' : w4.ownsRow B 57 4 (.slice (some ⟨g, 0, none⟩) (tk.w.length + 1) cap) (tk.w.length + 1) (vlks tk.w ++ vlk y) := by rw [HN2.out]; exact hO4
              have M := ((HKw6.out.old hd1).old (al_below _ (.cells #[.int .i64 y.who, .int .i64 y.fr, .int .i64 y.to, .bool y.al] 57))).moreW (y := y) hO4' (by rw [HV2.out]; exact hg4) (by rw [HV2.out]; rcases ha4 with q | q; exact .inl q; exact .inr (by rw [q]; simp))
              rw [HN2.out, HP.out] at M
              have HM : Hid (IsK 50 B (w4.setCell ⟨x.p, 1, none⟩ (.slice (some ⟨g, 0, none⟩) (n2 + 1) cap)) ⟨x.p, xk.vh, .slice (some ⟨g, 0, none⟩) (n2 + 1) cap⟩ ⟨tk.h, tk.w ++ [y]⟩ ∧ But xk.F w6 (w4.setCell ⟨x.p, 1, none⟩ (.slice (some ⟨g, 0, none⟩) (n2 + 1) cap)) ∧ Grows xk.F (LP.F ⟨x.p, xk.vh, .slice (some ⟨g, 0, none⟩) (n2 + 1) cap⟩) w6) := by
                have hbA : Below w6.heap.size w6 (w6.drew.alloc (.cells #[.int .i64 y.who, .int .i64 y.fr, .int .i64 y.to, .bool y.al] 57)) := hd1.trans ((al_below _ _).mono hd1.size)
                exact ⟨M.1, ((Below.but hbA _).trans M.2.1 (Grows.refl _ _)), fun q hq => (M.2.2 q hq).imp id (fun z => Nat.le_trans hbA.size z)⟩
              obtain ⟨x5, hx5⟩ : ∃ x5 : LP, x5 = ⟨x.p, xk.vh, .slice (some ⟨g, 0, none⟩) (n2 + 1) cap⟩ := ⟨_, rfl⟩
              have HX5 : Hid (x5.p = x.p) := by rw [hx5]; exact rfl
              rw [← hx5] at HM
              obtain ⟨w5, hw5⟩ : ∃ w5, w4.setCell ⟨x.p, 1, none⟩ (.slice (some ⟨g, 0, none⟩) (n2 + 1) cap) = w5 := ⟨_, rfl⟩
              have HW5 : Hid (w4.setCell ⟨x.p, 1, none⟩ (.slice (some ⟨g, 0, none⟩) (n2 + 1) cap) = w5) := hw5
              rw [hw5] at HM
              rw [hw5]
              clear M hO4 hO4' hg4 ha4 hl4 hown HL hd1 hx5 hw5 s6 s7 s2 s3 s4 s5 hn40 hBs j2 jf
              have HI5 : Hid (IsK 50 B w5 x5 (tk.add y)) := by rw [HAD.out]; exact HM.out.1
              have hb5 : But xk.F wr w5 := (Below.but HBw6.out _).trans HM.out.2.1 (Grows.refl _ _)
              have HZ5 : Hid (OwZ w.heap.size w5 u9 zs) := OwZ.but HZ.out hb5 (OwZ.apart HZ.out HI.out (by decide))
              have HR5 : Hid (OwLk w.heap.size w5 (.slice (some ad) m cr) l) := OwLk.but HRr.out hb5 (fun q hq => HA.out q hq)
              have HB5 : Hid (But x.F w w5) := HBt.out.trans hb5 (fun q hq => HG.out q hq)
              have HG5 : Hid (Grows x.F x5.F w) := fun q hq => by
                rcases HM.out.2.2 q hq with z1 | z1
                · exact HG.out q z1
                · exact .inr (Nat.le_trans HBt.out.size (Nat.le_trans HBw6.out.size z1))
              have HA5 : Hid (∀ q, (Value.slice (some ad) m cr).ownBlock = some q → ¬ x5.F q) := fun q hq e => by
                rcases HM.out.2.2 q e with z1 | z1
                · exact HA.out q hq z1
                · have q1 := (OwLk.lt HRr.out q hq).2
                  have q2 := HBw6.out.size
                  omega
              clear hb5 HM HI HZ HRr HBt HG HA HKw6 HBw6 HYw6
              
              clear HW5
              go_wp2
              go_roundw
              case rel => exact ⟨k + 1, x5, by omega, by go_num, HX5.out, by rw [HG1.out]; exact HI5.out, by rw [HG2.out]; exact HZ5.out, HR5.out, HB5.out, HG5.out, HA5.out⟩
              case measure => simp [intOf]; omega
          · have HAD : Hid (tk.add y = ⟨tk.h ++ [y], tk.w⟩) := HADD.out
            have HG2 : Hid (Lks.goW ⟨dh, []⟩ (l.take (k + 1)) = zs ++ [y.who]) := HG2.out
            clear HADD
            go_wp2
            have hd1 : Below w6.heap.size w6 w6.drew := ⟨rfl, rfl, rfl, Nat.le_refl _, fun _ _ => rfl⟩
            have hown : w6.drew.ownsRow B 57 4 (Value.slice a1 n1 l1) n1 (vlks tk.h) := by
              have := OwLk.old HKw6.out.hd hd1
              rw [HV1.out] at this
              unfold OwLk at this
              rw [HN1.out] at this
              exact this
            have s6 : w6.cell? ⟨x.p, 0, none⟩ = some (Value.slice a1 n1 l1) := by rw [← HP.out, HKw6.out.c0, HV1.out]
            have s7 : (w6.alloc (.cells #[.int .i64 y.who, .int .i64 y.fr, .int .i64 y.to, .bool y.al] 57)).cell? ⟨x.p, 0, none⟩ = some (Value.slice a1 n1 l1) := by rw [← HP.out, (HKw6.out.old (al_below _ _)).c0, HV1.out]
            obtain ⟨s2, s3, s4, s5⟩ := HYw6.out
            have HL : Hid (∀ w4 b, (w6.drew.alloc b).grownBy w4 (Value.slice a1 n1 l1).ownBlock → (w4.cell? ⟨x.p, 0, none⟩ = some (Value.slice a1 n1 l1) ∧ w4.frozen? ⟨x.p, 0, none⟩ = false)) := fun w4 b hg => by
              have h5 := (HKw6.out.old hd1).old (al_below _ b)
              have hne : some xk.p ≠ (Value.slice a1 n1 l1).ownBlock := fun e => by rw [← HV1.out] at e; exact HKw6.out.hdp e.symm rfl
              have q1 : w4.cell? ⟨xk.p, 0, none⟩ = some (Value.slice a1 n1 l1) := by rw [hg.cell_far ⟨xk.p, 0, none⟩ h5.plt hne, h5.c0, HV1.out]
              have q2 : w4.frozen? ⟨xk.p, 0, none⟩ = false := by rw [hg.frozen_far ⟨xk.p, 0, none⟩ h5.plt hne]; exact h5.free 0
              rw [HP.out] at q1 q2
              exact ⟨q1, q2⟩
            have hn40 := HMN.out
            have hBs := HBs.out
            go_region_law ((refine step_append_lies _ (by rfl) _ _ _ (by rfl) B 57 j0 (.agg #[.int .i64 0, .int .i64 0, .int .i64 0, .bool false]) 4 32 Tryd.underlying44 hj hy0 hy1 hy2 rfl (by decide) _ _ _ (by rfl) (World.ownsRow.alloc hown _) ⟨w6.heap.size, 0, none⟩ 1 1 (vlk y) (by rfl) rfl (row_news _ y _) (vlk_one y) (by omega) (by unfold maxLen; omega) (by omega) (by simp; omega) _ rfl ?_; intro g cap w4 hO4 hg4 ha4 hl4; have j2 := (HL.out w4 _ hg4).1; have jf := (HL.out w4 _ hg4).2))
            all_goals
              have hO4' : w4.ownsRow B 57 4 (.slice (some ⟨g, 0, none⟩) (tk.h.length + 1) cap) (tk.h.length + 1) (vlks tk.h ++ vlk y) := by rw [HN1.out]; exact hO4
              have M := ((HKw6.out.old hd1).old (al_below _ (.cells #[.int .i64 y.who, .int .i64 y.fr, .int .i64 y.to, .bool y.al] 57))).moreH (y := y) hO4' (by rw [HV1.out]; exact hg4) (by rw [HV1.out]; rcases ha4 with q | q; exact .inl q; exact .inr (by rw [q]; simp))
              rw [HN1.out, HP.out] at M
              have HM : Hid (IsK 50 B (w4.setCell ⟨x.p, 0, none⟩ (.slice (some ⟨g, 0, none⟩) (n1 + 1) cap)) ⟨x.p, .slice (some ⟨g, 0, none⟩) (n1 + 1) cap, xk.vw⟩ ⟨tk.h ++ [y], tk.w⟩ ∧ But xk.F w6 (w4.setCell ⟨x.p, 0, none⟩ (.slice (some ⟨g, 0, none⟩) (n1 + 1) cap)) ∧ Grows xk.F (LP.F ⟨x.p, .slice (some ⟨g, 0, none⟩) (n1 + 1) cap, xk.vw⟩) w6) := by
                have hbA : Below w6.heap.size w6 (w6.drew.alloc (.cells #[.int .i64 y.who, .int .i64 y.fr, .int .i64 y.to, .bool y.al] 57)) := hd1.trans ((al_below _ _).mono hd1.size)
                exact ⟨M.1, ((Below.but hbA _).trans M.2.1 (Grows.refl _ _)), fun q hq => (M.2.2 q hq).imp id (fun z => Nat.le_trans hbA.size z)⟩
              obtain ⟨x5, hx5⟩ : ∃ x5 : LP, x5 = ⟨x.p, .slice (some ⟨g, 0, none⟩) (n1 + 1) cap, xk.vw⟩ := ⟨_, rfl⟩
              have HX5 : Hid (x5.p = x.p) := by rw [hx5]; exact rfl
              rw [← hx5] at HM
              obtain ⟨w5, hw5⟩ : ∃ w5, w4.setCell ⟨x.p, 0, none⟩ (.slice (some ⟨g, 0, none⟩) (n1 + 1) cap) = w5 := ⟨_, rfl⟩
              have HW5 : Hid (w4.setCell ⟨x.p, 0, none⟩ (.slice (some ⟨g, 0, none⟩) (n1 + 1) cap) = w5) := hw5
              rw [hw5] at HM
              rw [hw5]
              clear M hO4 hO4' hg4 ha4 hl4 hown HL hd1 hx5 hw5 s6 s7 s2 s3 s4 s5 hn40 hBs j2 jf
              have HI5 : Hid (IsK 50 B w5 x5 (tk.add y)) := by rw [HAD.out]; exact HM.out.1
              have hb5 : But xk.F wr w5 := (Below.but HBw6.out _).trans HM.out.2.1 (Grows.refl _ _)
              have HZ5 : Hid (OwZ w.heap.size w5 u9 zs) := OwZ.but HZ.out hb5 (OwZ.apart HZ.out HI.out (by decide))
              have HR5 : Hid (OwLk w.heap.size w5 (.slice (some ad) m cr) l) := OwLk.but HRr.out hb5 (fun q hq => HA.out q hq)
              have HB5 : Hid (But x.F w w5) := HBt.out.trans hb5 (fun q hq => HG.out q hq)
              have HG5 : Hid (Grows x.F x5.F w) := fun q hq => by
                rcases HM.out.2.2 q hq with z1 | z1
                · exact HG.out q z1
                · exact .inr (Nat.le_trans HBt.out.size (Nat.le_trans HBw6.out.size z1))
              have HA5 : Hid (∀ q, (Value.slice (some ad) m cr).ownBlock = some q → ¬ x5.F q) := fun q hq e => by
                rcases HM.out.2.2 q e with z1 | z1
                · exact HA.out q hq z1
                · have q1 := (OwLk.lt HRr.out q hq).2
                  have q2 := HBw6.out.size
                  omega
              clear hb5 HM HI HZ HRr HBt HG HA HKw6 HBw6 HYw6
              
              obtain ⟨e0, _, _, _⟩ : LkAt w5 (ad.add (k * 4)) y := by
                obtain ⟨ad2, e, q⟩ := (OwLk.rd HR5.out).at k (by rw [HLN.out]; exact hlt)
                cases e
                rw [HYL.out] at q
                exact q
              have hzz : w5.ownsRow w.heap.size 3 1 u9 zs.length (vz zs) := HZ5.out
              obtain ⟨az, kz, hs9⟩ := OwZ.len HZ5.out
              have HS9 : Hid (u9 = .slice az zs.length kz) := hs9
              rw [hs9] at hzz ⊢
              have hzl := HZL.out
              have hsz5 := HB5.out.size
              clear HW5
              clear hs9
              go_wp2_with (first | (at_builtin; refine wpList_append_own _ rfl _ _ 45 rfl w.heap.size 3 i0 (.int .i64 0) 1 8 Tryd.underlying45 hi hz0 hz1 hz2 rfl (by decide) _ _ _ rfl (World.ownsRow.alloc hzz _) ⟨w5.heap.size, 0, none⟩ 1 1 [.int .i64 y.who] rfl rfl (one_cell _) (by intro u hu; simp at hu; subst hu; rfl) (by unfold maxLen; omega) (by omega) (by simp; omega) ?_))
              intro v' w6' hown hgrow _
              rw [← HS9.out] at hgrow
              have hb6 : But (fun q => u9.ownBlock = some q) (w5.alloc (.cells #[.int .i64 y.who] 3)) w6' := But.grown hgrow (fun q hq => hq)
              have hal := al_below w5 (.cells #[.int .i64 y.who] 3)
              have HI6 : Hid (IsK 50 B w6' x5 (tk.add y)) := (HI5.out.old hal).but hb6 (fun q hq e => OwZ.apart HZ5.out HI5.out (by decide) q e hq)
              have HZ6 : Hid (OwZ w.heap.size w6' v' (zs ++ [y.who])) := by
                (show World.ownsRow _ _ _ _ _ _ _)
                rw [vz_snoc, List.length_append]
                exact hown
              have HR6 : Hid (OwLk w.heap.size w6' (.slice (some ad) m cr) l) := OwLk.but (OwLk.old HR5.out hal) hb6 (fun q hq e => lk_type_ne (OwLk.type HR5.out hq) (OwZ.type HZ5.out e) (by decide))
              have HB6 : Hid (But x.F w w6') := ⟨hgrow.os.trans HB5.out.os, hgrow.tape.trans HB5.out.tape, hgrow.output.trans HB5.out.output, Nat.le_trans (Nat.le_trans HB5.out.size hal.size) hb6.size, fun q hq hn => by
                have h1 := HB5.out.block q hq hn
                have h2 := hal.block q (Nat.lt_of_lt_of_le hq HB5.out.size)
                have h3 := hb6.block q (Nat.lt_of_lt_of_le hq (Nat.le_trans HB5.out.size hal.size)) (fun e => by have := (World.ownsRow.lt HZ5.out q e).1; omega)
                rw [h3, h2, h1]⟩
              clear hown hgrow hb6 hal hzz e0 HI5 HZ5 HR5 HB5
              go_wp2
              go_roundw
              case rel => exact ⟨k + 1, x5, by omega, by go_num, HX5.out, by rw [HG1.out]; exact HI6.out, by rw [HG2.out]; exact HZ6.out, HR6.out, HB6.out, HG5.out, HA5.out⟩
              case measure => simp [intOf]; omega
      · obtain rfl : k = m := by omega
        have HT : Hid (l.take k = l) := by (show _ = _); rw [← HLN.out]; exact List.take_length
        rw [HT.out] at HI HZ
        go_wp2
        go_ret2
        exact ⟨xk, u9, HP.out, rfl, HZ.out, HI.out, HBt.out, HG.out⟩
end Go.Proofs.YtagindfgfamacaaDoor
