/- LocksPlay: a walk over the program. -/
import Derived.Test.YtagindfgfamacaaDoorKPa
import Derived.Deep.RegionHeld3
namespace Go.Proofs.YtagindfgfamacaaDoor
open Go.RowKit
set_option maxRecDepth 1000000 in
set_option maxHeartbeats 8000000 in
theorem lplays_any (a0 : Option Addr) (c0 : Nat) (l : List Lk) (a1 : Option Addr) (n1 c1 : Nat) (f : Nat → Int) (w : World) (r0 : RdLk w (.slice a0 l.length c0) l) (r1 : RdF w (.slice a1 n1 c1) n1 (fun i => .int .i64 (f i))) (z0 : l.length ≤ 9223372036854775807) (hg : Handle w) :
    Calls Tryd.prog 4 #[.slice a0 l.length c0, .slice a1 n1 c1] w fun e w' => e = .returned (.bool true) ∧ Below w.heap.size w w' := by
  have HR0 : Hid (RdLk w (.slice a0 l.length c0) l) := r0
  have HR1 : Hid (RdF w (.slice a1 n1 c1) n1 (fun i => .int .i64 (f i))) := r1
  have HG : Hid (Handle w) := hg
  have N := lnew_any w
  obtain ⟨nl, hnl⟩ : ∃ n, l.length = n := ⟨_, rfl⟩
  have HN : Hid (l.length = nl) := hnl
  rw [hnl] at HR0 z0 ⊢
  clear r0 r1 hnl hg
  go_enter Tryd.func4, Tryd.ntmps4
  go_wp2_with fail
  refine N.mono ?_
  rintro e w1 ⟨x, rfl, hI, hb⟩
  have HK0 : Hid (KW w (fun _ => False) x.p w1.heap.size Lks.none Lks.none (w1.alloc (.cells #[.slice none 0 0, .slice none 0 0] 50))) := KW.new hI hb (IsK.new w1 50 (by decide)) (al_below _ _)
  clear N hI hb
  obtain ⟨p, hp⟩ : ∃ p, x.p = p := ⟨_, rfl⟩
  rw [hp] at HK0 ⊢
  clear hp
  obtain ⟨w2, hw2⟩ : ∃ w2, w2 = w1.alloc (.cells #[.slice none 0 0, .slice none 0 0] 50) := ⟨_, rfl⟩
  rw [← hw2] at HK0
  obtain ⟨q, hq⟩ : ∃ q, w1.heap.size = q := ⟨_, rfl⟩
  rw [hq] at HK0
  go_wp2
  rw [← hw2]
  clear hw2 hq
  go_loopw [7, 8] (fun s7 s8 wr => ∃ (i at' : Nat) (t : Lks), i ≤ n1 ∧ i ≤ 80 ∧ at' ≤ nl ∧ s7 = .int .i64 at' ∧ s8 = .int .i64 i ∧ Hid (KW w (fun _ => False) p q t t wr)) (fun _ s8 _ => n1 - (intOf s8).toNat)
  case atStart => exact ⟨0, 0, _, Nat.zero_le _, Nat.zero_le _, Nat.zero_le _, rfl, rfl, HK0.out⟩
  case round =>
    clear HK0
    obtain ⟨i, at', t, hi1, hi2, hat, rfl, rfl, HK⟩ := hrel
    by_cases hlt : i < n1
    · by_cases hlt2 : i < 80
      · obtain ⟨ad1, had, hc⟩ := (HR1.out.old HK.out.low).at i hlt
        subst had
        have hiz : (i : Int) < (n1 : Int) := by omega
        by_cases hs : 0 < f i
        · have C := kw_dfree HK.out (fun k hk => hk.elim) (f i)
          have HCs : Hid (∀ W, Below w.heap.size w W → W.cell? (ad1.add i) = some (.int .i64 (f i))) := fun W hW => by
            obtain ⟨ad2, e, h⟩ := (HR1.out.old hW).at i hlt
            cases e
            exact h
          obtain ⟨z, hz⟩ : ∃ z, f i = z := ⟨_, rfl⟩
          rw [hz] at C hc hs HCs
          obtain ⟨ee, hee⟩ : ∃ ee, t.freeE z = ee := ⟨_, rfl⟩
          obtain ⟨zs, hzs⟩ : ∃ zs, t.freeW z = zs := ⟨_, rfl⟩
          obtain ⟨t2, ht2⟩ : ∃ t2, t.free z = t2 := ⟨_, rfl⟩
          have HE : Hid (t.freeE z = ee ∧ t.freeW z = zs ∧ t.free z = t2) := ⟨hee, hzs, ht2⟩
          rw [hee, hzs, ht2] at C
          clear hz hee hzs ht2
          go_wp2_with fail
          refine C.mono ?_
          rintro e w3 ⟨u1, rfl, hO1, hS1, _⟩
          have HZ1 : Hid (OwZ wr.heap.size w3 u1 zs) := hO1
          have HS1 : Hid (KW w (fun k => u1.ownBlock = some k) p q t t2 w3) := hS1.ofZ hO1
          have D := kw_free HS1.out (fun k hk => (World.ownsRow.lt hO1 k hk).2) z
          rw [HE.out.1, HE.out.2.1, HE.out.2.2] at D
          have hc := HCs.out w3 hS1.low
          clear C hO1 hS1 HK
          go_wp2_with fail
          refine D.mono ?_
          rintro e w4 ⟨u2, rfl, hO2, hS2, hk2⟩
          have HZ2 : Hid (RdZ w4 u2 zs) := OwZ.rd hO2
          have HZ1' : Hid (RdZ w4 u1 zs) := OwZ.rd (OwZ.but HZ1.out hk2 (fun k hk e => e hk))
          have HS2 : Hid (KW w (fun _ => False) p q t2 t2 w4) := hS2.more (fun _ hk => hk.elim)
          have E := err_v ee w4 (HG.out.old hS2.low)
          clear D hO2 hS2 hk2 HS1 HZ1 hc
          generalize errV ee = ev at *
          generalize ((ee : Nat) : Int) = ez at *
          go_wp2_with fail
          refine E.mono ?_
          rintro e w4' ⟨rfl, hB⟩
          have G := ints_same u2 u1 zs.length (fun i => zs.getD i 0) w4' (HZ2.out.old hB) (HZ1'.out.old hB)
          have HS3 : Hid (KW w (fun _ => False) p q t2 t2 w4') := HS2.out.old hB
          clear E hB HZ2 HZ1' HS2
          go_wp2_with fail
          refine G.mono ?_
          rintro e w5 ⟨rfl, hB⟩
          have HS5 : Hid (KW w (fun _ => False) p q t2 t2 w5) := HS3.out.old hB
          clear G hB HS3 HE HCs
          obtain ⟨b1, l1, b2, l2, hdoc⟩ := HS5.out.doc
          have HC : Hid (∀ W, Below w5.heap.size w5 W → W.cell? ⟨q, 0, none⟩ = some (.slice b1 t2.h.length l1) ∧ W.cell? ⟨q, 1, none⟩ = some (.slice b2 t2.w.length l2) ∧ RdLk W (.slice b1 t2.h.length l1) t2.h ∧ RdLk W (.slice b2 t2.w.length l2) t2.w) := hdoc
          have hb0 : Below w5.heap.size w5 w5.drew := ⟨rfl, rfl, rfl, Nat.le_refl _, fun _ _ => rfl⟩
          have HCc : Hid (∀ W, Below w5.heap.size w5 W → W.cell? ⟨q, 0, none⟩ = some (.slice b1 t2.h.length l1) ∧ W.cell? ⟨q, 1, none⟩ = some (.slice b2 t2.w.length l2)) := fun W hb => ⟨(HC.out W hb).1, (HC.out W hb).2.1⟩
          have S0 := HCc.out _ hb0
          have hfew : t2.h.length + t2.w.length ≤ 30 := HS5.out.few
          have H1 : Hid (∀ W, Below w5.heap.size w5 W → Calls Tryd.prog 26 #[.pointer (some ⟨p, 0, none⟩)] W fun e w' => ∃ v, e = .returned v ∧ RdLk w' v t2.h ∧ Below w5.heap.size w5 w') := fun W hb => by
            refine (kw_held (HS5.out.old hb)).mono ?_
            rintro e w' ⟨v, rfl, hO, hB⟩
            exact ⟨v, rfl, hO, hb.trans (hB.mono hb.size)⟩
          have H2 : Hid (∀ v W, RdLk W v t2.h → Below w5.heap.size w5 W → Calls Tryd.prog 25 #[v, .slice b1 t2.h.length l1] W fun e w' => e = .returned (.bool true) ∧ Below w5.heap.size w5 w') := fun v W hr hb => by
            refine (locks_same v _ t2.h W (by omega) hr (HC.out W hb).2.2.1).mono ?_
            rintro e w' ⟨rfl, hB⟩
            exact ⟨rfl, hb.trans (hB.mono hb.size)⟩
          have H3 : Hid (∀ W, Below w5.heap.size w5 W → Calls Tryd.prog 27 #[.pointer (some ⟨p, 0, none⟩)] W fun e w' => ∃ v, e = .returned v ∧ RdLk w' v t2.w ∧ Below w5.heap.size w5 w') := fun W hb => by
            refine (kw_waits (HS5.out.old hb)).mono ?_
            rintro e w' ⟨v, rfl, hO, hB⟩
            exact ⟨v, rfl, hO, hb.trans (hB.mono hb.size)⟩
          have H4 : Hid (∀ v W, RdLk W v t2.w → Below w5.heap.size w5 W → Calls Tryd.prog 25 #[v, .slice b2 t2.w.length l2] W fun e w' => e = .returned (.bool true) ∧ Below w5.heap.size w5 w') := fun v W hr hb => by
            refine (locks_same v _ t2.w W (by omega) hr (HC.out W hb).2.2.2).mono ?_
            rintro e w' ⟨rfl, hB⟩
            exact ⟨rfl, hb.trans (hB.mono hb.size)⟩
          clear hdoc HC hfew
          generalize t2.h.length = m1 at *
          generalize t2.w.length = m2 at *
          go_wp2
          go_region_held3 (fun W => W.cell? ⟨q, 0, none⟩ = some (.slice b1 m1 l1) ∧ W.cell? ⟨q, 1, none⟩ = some (.slice b2 m2 l2)) (first | exact S9 | exact S8 | exact S7 | exact S6 | exact S0) ((first
            | (go_at_call 27; refine (H3.out w7 hB7).mono ?_; rintro e w8 ⟨v8, rfl, hO8, hB8⟩; have S8 := HCc.out w8 hB8)
            | (go_at_call 26; refine (H1.out _ hb0).mono ?_; rintro e w6 ⟨v6, rfl, hO6, hB6⟩; have S6 := HCc.out w6 hB6)
            | (go_at_call 25; refine (H4.out v8 w8 hO8 hB8).mono ?_; rintro e w9 ⟨rfl, hB9⟩; have S9 := HCc.out w9 hB9)
            | (go_at_call 25; refine (H2.out v6 w6 hO6 hB6).mono ?_; rintro e w7 ⟨rfl, hB7⟩; have S7 := HCc.out w7 hB7)))
          have HS9 : Hid (KW w (fun _ => False) p q t2 t2 w9) := HS5.out.old hB9
          clear HS5 HCc H1 H2 H3 H4 S0 S6 S7 S8 S9 hO6 hO8 hB6 hB7 hB8 hB9 hb0
          go_wp2
          go_roundw
          case rel => exact ⟨i + 1, at', t2, by omega, by omega, hat, rfl, by go_num, HS9.out⟩
          case measure => simp [intOf]; omega
        · by_cases hla : at' < nl
          · obtain ⟨ad0, had0, hd⟩ := (HR0.out.old HK.out.low).at at' (by rw [HN.out]; exact hla)
            subst had0
            have haz : (at' : Int) < (nl : Int) := by omega
            have hs : f i ≤ 0 := by omega
            obtain ⟨y, hy⟩ : ∃ y, lka l at' = y := ⟨_, rfl⟩
            rw [hy] at hd
            obtain ⟨d0, d1, d2, d3⟩ := hd
            have hb := al_below wr (.cells #[.int .i64 0, .int .i64 0, .int .i64 0, .bool false] 57)
            have e0 := (hb.cell (World.block_lt_of_cell? _ _ d0)).trans d0
            have e1 := (hb.cell (World.block_lt_of_cell? _ _ d1)).trans d1
            have e2 := (hb.cell (World.block_lt_of_cell? _ _ d2)).trans d2
            have e3 := (hb.cell (World.block_lt_of_cell? _ _ d3)).trans d3
            generalize f i = z at *
            clear hy hb
            have hbv := al_below wr (.cells #[.int .i64 y.who, .int .i64 y.fr, .int .i64 y.to, .bool y.al] 57)
            have hlv := LkAt.new wr y 57
            obtain ⟨wv, hwv⟩ : ∃ wv, wv = wr.alloc (.cells #[.int .i64 y.who, .int .i64 y.fr, .int .i64 y.to, .bool y.al] 57) := ⟨_, rfl⟩
            have hsz : wv.heap.size = wr.heap.size + 1 := by rw [hwv]; simp
            rw [← hwv] at hbv hlv
            have HV : Hid (LkAt wv ⟨wr.heap.size, 0, none⟩ y) := hlv
            have HSv : Hid (KW w (fun k => k = wr.heap.size) p q t t wv) := (HK.out.more (fun k hk => .inr (Nat.le_of_eq hk.symm))).old hbv
            have C := kw_dask HSv.out (fun k hk => by rw [hk, hsz]; exact Nat.lt_succ_self _) y
            obtain ⟨ee, hee⟩ : ∃ ee, t.askE y = ee := ⟨_, rfl⟩
            obtain ⟨bb, hbb⟩ : ∃ bb, t.askB y = bb := ⟨_, rfl⟩
            obtain ⟨t2, ht2⟩ : ∃ t2, t.ask y = t2 := ⟨_, rfl⟩
            have HE : Hid (t.askB y = bb ∧ t.askE y = ee ∧ t.ask y = t2) := ⟨hbb, hee, ht2⟩
            rw [hee, hbb, ht2] at C
            unfold alk at C
            have HSZ : Hid (wr.heap.size < wv.heap.size) := by (show _ < _); omega
            clear hee hbb ht2 hbv hlv hsz
            go_wp2_with fail
            rw [← hwv]
            clear hwv
            refine C.mono ?_
            rintro e w3 ⟨rfl, hS1, hk1⟩
            have HS1 : Hid (KW w (fun k => k = wr.heap.size) p q t t2 w3) := hS1
            have hv3 : LkAt w3 ⟨wr.heap.size, 0, none⟩ y := HV.out.but hk1 (fun e => e rfl)
            have D := kw_ask HS1.out (fun k hk => by rw [hk]; exact Nat.lt_of_lt_of_le HSZ.out hk1.size) y
            rw [HE.out.1, HE.out.2.1, HE.out.2.2] at D
            unfold alk at D
            obtain ⟨g0, g1, g2, g3⟩ := hv3
            clear C hS1 hk1 HK HSv HV
            go_wp2_with fail
            refine D.mono ?_
            rintro e w4 ⟨rfl, hS2, _⟩
            have HS2 : Hid (KW w (fun _ => False) p q t2 t2 w4) := hS2.more (fun _ hk => hk.elim)
            have E := err_v ee w4 (HG.out.old hS2.low)
            clear D hS2 HS1 g0 g1 g2 g3 HE HSZ
            generalize errV ee = ev at *
            generalize ((ee : Nat) : Int) = ez at *
            have hbq : (bb == bb) = true := by cases bb <;> rfl
            go_wp2_with fail
            refine E.mono ?_
            rintro e w5 ⟨rfl, hB⟩
            have HS5 : Hid (KW w (fun _ => False) p q t2 t2 w5) := HS2.out.old hB
            clear E hB HS2
            obtain ⟨b1, l1, b2, l2, hdoc⟩ := HS5.out.doc
            have HC : Hid (∀ W, Below w5.heap.size w5 W → W.cell? ⟨q, 0, none⟩ = some (.slice b1 t2.h.length l1) ∧ W.cell? ⟨q, 1, none⟩ = some (.slice b2 t2.w.length l2) ∧ RdLk W (.slice b1 t2.h.length l1) t2.h ∧ RdLk W (.slice b2 t2.w.length l2) t2.w) := hdoc
            have hb0 : Below w5.heap.size w5 w5.drew := ⟨rfl, rfl, rfl, Nat.le_refl _, fun _ _ => rfl⟩
            have HCc : Hid (∀ W, Below w5.heap.size w5 W → W.cell? ⟨q, 0, none⟩ = some (.slice b1 t2.h.length l1) ∧ W.cell? ⟨q, 1, none⟩ = some (.slice b2 t2.w.length l2)) := fun W hb => ⟨(HC.out W hb).1, (HC.out W hb).2.1⟩
            have S0 := HCc.out _ hb0
            have hfew : t2.h.length + t2.w.length ≤ 30 := HS5.out.few
            have H1 : Hid (∀ W, Below w5.heap.size w5 W → Calls Tryd.prog 26 #[.pointer (some ⟨p, 0, none⟩)] W fun e w' => ∃ v, e = .returned v ∧ RdLk w' v t2.h ∧ Below w5.heap.size w5 w') := fun W hb => by
              refine (kw_held (HS5.out.old hb)).mono ?_
              rintro e w' ⟨v, rfl, hO, hB⟩
              exact ⟨v, rfl, hO, hb.trans (hB.mono hb.size)⟩
            have H2 : Hid (∀ v W, RdLk W v t2.h → Below w5.heap.size w5 W → Calls Tryd.prog 25 #[v, .slice b1 t2.h.length l1] W fun e w' => e = .returned (.bool true) ∧ Below w5.heap.size w5 w') := fun v W hr hb => by
              refine (locks_same v _ t2.h W (by omega) hr (HC.out W hb).2.2.1).mono ?_
              rintro e w' ⟨rfl, hB⟩
              exact ⟨rfl, hb.trans (hB.mono hb.size)⟩
            have H3 : Hid (∀ W, Below w5.heap.size w5 W → Calls Tryd.prog 27 #[.pointer (some ⟨p, 0, none⟩)] W fun e w' => ∃ v, e = .returned v ∧ RdLk w' v t2.w ∧ Below w5.heap.size w5 w') := fun W hb => by
              refine (kw_waits (HS5.out.old hb)).mono ?_
              rintro e w' ⟨v, rfl, hO, hB⟩
              exact ⟨v, rfl, hO, hb.trans (hB.mono hb.size)⟩
            have H4 : Hid (∀ v W, RdLk W v t2.w → Below w5.heap.size w5 W → Calls Tryd.prog 25 #[v, .slice b2 t2.w.length l2] W fun e w' => e = .returned (.bool true) ∧ Below w5.heap.size w5 w') := fun v W hr hb => by
              refine (locks_same v _ t2.w W (by omega) hr (HC.out W hb).2.2.2).mono ?_
              rintro e w' ⟨rfl, hB⟩
              exact ⟨rfl, hb.trans (hB.mono hb.size)⟩
            clear hdoc HC hfew
            generalize t2.h.length = m1 at *
            generalize t2.w.length = m2 at *
            go_wp2
            go_region_held3 (fun W => W.cell? ⟨q, 0, none⟩ = some (.slice b1 m1 l1) ∧ W.cell? ⟨q, 1, none⟩ = some (.slice b2 m2 l2)) (first | exact S9 | exact S8 | exact S7 | exact S6 | exact S0) ((first
              | (go_at_call 27; refine (H3.out w7 hB7).mono ?_; rintro e w8 ⟨v8, rfl, hO8, hB8⟩; have S8 := HCc.out w8 hB8)
              | (go_at_call 26; refine (H1.out _ hb0).mono ?_; rintro e w6 ⟨v6, rfl, hO6, hB6⟩; have S6 := HCc.out w6 hB6)
              | (go_at_call 25; refine (H4.out v8 w8 hO8 hB8).mono ?_; rintro e w9 ⟨rfl, hB9⟩; have S9 := HCc.out w9 hB9)
              | (go_at_call 25; refine (H2.out v6 w6 hO6 hB6).mono ?_; rintro e w7 ⟨rfl, hB7⟩; have S7 := HCc.out w7 hB7)))
            have HS9 : Hid (KW w (fun _ => False) p q t2 t2 w9) := HS5.out.old hB9
            clear HS5 HCc H1 H2 H3 H4 S0 S6 S7 S8 S9 hO6 hO8 hB6 hB7 hB8 hB9 hb0
            go_wp2
            go_roundw
            case rel => exact ⟨i + 1, at' + 1, t2, by omega, by omega, by omega, by go_num, by go_num, HS9.out⟩
            case measure => simp [intOf]; omega
          · have haz : (nl : Int) ≤ (at' : Int) := by omega
            have hs : f i ≤ 0 := by omega
            generalize f i = z at *
            obtain ⟨y, hy⟩ : ∃ y : Lk, y = ⟨0, 0, 0, false⟩ := ⟨_, rfl⟩
            have y0 : y.who = 0 := by rw [hy]
            have y1 : y.fr = 0 := by rw [hy]
            have y2 : y.to = 0 := by rw [hy]
            have y3 : y.al = false := by rw [hy]
            clear hy
            have hbv := al_below wr (.cells #[.int .i64 y.who, .int .i64 y.fr, .int .i64 y.to, .bool y.al] 57)
            have hlv := LkAt.new wr y 57
            obtain ⟨wv, hwv⟩ : ∃ wv, wv = wr.alloc (.cells #[.int .i64 y.who, .int .i64 y.fr, .int .i64 y.to, .bool y.al] 57) := ⟨_, rfl⟩
            have hsz : wv.heap.size = wr.heap.size + 1 := by rw [hwv]; simp
            rw [← hwv] at hbv hlv
            have HV : Hid (LkAt wv ⟨wr.heap.size, 0, none⟩ y) := hlv
            have HSv : Hid (KW w (fun k => k = wr.heap.size) p q t t wv) := (HK.out.more (fun k hk => .inr (Nat.le_of_eq hk.symm))).old hbv
            have C := kw_dask HSv.out (fun k hk => by rw [hk, hsz]; exact Nat.lt_succ_self _) y
            obtain ⟨ee, hee⟩ : ∃ ee, t.askE y = ee := ⟨_, rfl⟩
            obtain ⟨bb, hbb⟩ : ∃ bb, t.askB y = bb := ⟨_, rfl⟩
            obtain ⟨t2, ht2⟩ : ∃ t2, t.ask y = t2 := ⟨_, rfl⟩
            have HE : Hid (t.askB y = bb ∧ t.askE y = ee ∧ t.ask y = t2) := ⟨hbb, hee, ht2⟩
            rw [hee, hbb, ht2] at C
            unfold alk at C
            have HSZ : Hid (wr.heap.size < wv.heap.size) := by (show _ < _); omega
            rw [y0, y1, y2, y3] at C hwv
            clear hee hbb ht2 hbv hlv hsz
            go_wp2_with fail
            rw [← hwv]
            clear hwv
            refine C.mono ?_
            rintro e w3 ⟨rfl, hS1, hk1⟩
            have HS1 : Hid (KW w (fun k => k = wr.heap.size) p q t t2 w3) := hS1
            have hv3 : LkAt w3 ⟨wr.heap.size, 0, none⟩ y := HV.out.but hk1 (fun e => e rfl)
            have D := kw_ask HS1.out (fun k hk => by rw [hk]; exact Nat.lt_of_lt_of_le HSZ.out hk1.size) y
            rw [HE.out.1, HE.out.2.1, HE.out.2.2] at D
            unfold alk at D
            obtain ⟨g0, g1, g2, g3⟩ := hv3
            rw [y0] at g0 D
            rw [y1] at g1 D
            rw [y2] at g2 D
            rw [y3] at g3 D
            clear C hS1 hk1 HK HSv HV
            go_wp2_with fail
            refine D.mono ?_
            rintro e w4 ⟨rfl, hS2, _⟩
            have HS2 : Hid (KW w (fun _ => False) p q t2 t2 w4) := hS2.more (fun _ hk => hk.elim)
            have E := err_v ee w4 (HG.out.old hS2.low)
            clear D hS2 HS1 g0 g1 g2 g3 HE HSZ
            generalize errV ee = ev at *
            generalize ((ee : Nat) : Int) = ez at *
            have hbq : (bb == bb) = true := by cases bb <;> rfl
            go_wp2_with fail
            refine E.mono ?_
            rintro e w5 ⟨rfl, hB⟩
            have HS5 : Hid (KW w (fun _ => False) p q t2 t2 w5) := HS2.out.old hB
            clear E hB HS2
            obtain ⟨b1, l1, b2, l2, hdoc⟩ := HS5.out.doc
            have HC : Hid (∀ W, Below w5.heap.size w5 W → W.cell? ⟨q, 0, none⟩ = some (.slice b1 t2.h.length l1) ∧ W.cell? ⟨q, 1, none⟩ = some (.slice b2 t2.w.length l2) ∧ RdLk W (.slice b1 t2.h.length l1) t2.h ∧ RdLk W (.slice b2 t2.w.length l2) t2.w) := hdoc
            have hb0 : Below w5.heap.size w5 w5.drew := ⟨rfl, rfl, rfl, Nat.le_refl _, fun _ _ => rfl⟩
            have HCc : Hid (∀ W, Below w5.heap.size w5 W → W.cell? ⟨q, 0, none⟩ = some (.slice b1 t2.h.length l1) ∧ W.cell? ⟨q, 1, none⟩ = some (.slice b2 t2.w.length l2)) := fun W hb => ⟨(HC.out W hb).1, (HC.out W hb).2.1⟩
            have S0 := HCc.out _ hb0
            have hfew : t2.h.length + t2.w.length ≤ 30 := HS5.out.few
            have H1 : Hid (∀ W, Below w5.heap.size w5 W → Calls Tryd.prog 26 #[.pointer (some ⟨p, 0, none⟩)] W fun e w' => ∃ v, e = .returned v ∧ RdLk w' v t2.h ∧ Below w5.heap.size w5 w') := fun W hb => by
              refine (kw_held (HS5.out.old hb)).mono ?_
              rintro e w' ⟨v, rfl, hO, hB⟩
              exact ⟨v, rfl, hO, hb.trans (hB.mono hb.size)⟩
            have H2 : Hid (∀ v W, RdLk W v t2.h → Below w5.heap.size w5 W → Calls Tryd.prog 25 #[v, .slice b1 t2.h.length l1] W fun e w' => e = .returned (.bool true) ∧ Below w5.heap.size w5 w') := fun v W hr hb => by
              refine (locks_same v _ t2.h W (by omega) hr (HC.out W hb).2.2.1).mono ?_
              rintro e w' ⟨rfl, hB⟩
              exact ⟨rfl, hb.trans (hB.mono hb.size)⟩
            have H3 : Hid (∀ W, Below w5.heap.size w5 W → Calls Tryd.prog 27 #[.pointer (some ⟨p, 0, none⟩)] W fun e w' => ∃ v, e = .returned v ∧ RdLk w' v t2.w ∧ Below w5.heap.size w5 w') := fun W hb => by
              refine (kw_waits (HS5.out.old hb)).mono ?_
              rintro e w' ⟨v, rfl, hO, hB⟩
              exact ⟨v, rfl, hO, hb.trans (hB.mono hb.size)⟩
            have H4 : Hid (∀ v W, RdLk W v t2.w → Below w5.heap.size w5 W → Calls Tryd.prog 25 #[v, .slice b2 t2.w.length l2] W fun e w' => e = .returned (.bool true) ∧ Below w5.heap.size w5 w') := fun v W hr hb => by
              refine (locks_same v _ t2.w W (by omega) hr (HC.out W hb).2.2.2).mono ?_
              rintro e w' ⟨rfl, hB⟩
              exact ⟨rfl, hb.trans (hB.mono hb.size)⟩
            clear hdoc HC hfew
            generalize t2.h.length = m1 at *
            generalize t2.w.length = m2 at *
            go_wp2
            go_region_held3 (fun W => W.cell? ⟨q, 0, none⟩ = some (.slice b1 m1 l1) ∧ W.cell? ⟨q, 1, none⟩ = some (.slice b2 m2 l2)) (first | exact S9 | exact S8 | exact S7 | exact S6 | exact S0) ((first
              | (go_at_call 27; refine (H3.out w7 hB7).mono ?_; rintro e w8 ⟨v8, rfl, hO8, hB8⟩; have S8 := HCc.out w8 hB8)
              | (go_at_call 26; refine (H1.out _ hb0).mono ?_; rintro e w6 ⟨v6, rfl, hO6, hB6⟩; have S6 := HCc.out w6 hB6)
              | (go_at_call 25; refine (H4.out v8 w8 hO8 hB8).mono ?_; rintro e w9 ⟨rfl, hB9⟩; have S9 := HCc.out w9 hB9)
              | (go_at_call 25; refine (H2.out v6 w6 hO6 hB6).mono ?_; rintro e w7 ⟨rfl, hB7⟩; have S7 := HCc.out w7 hB7)))
            have HS9 : Hid (KW w (fun _ => False) p q t2 t2 w9) := HS5.out.old hB9
            clear HS5 HCc H1 H2 H3 H4 S0 S6 S7 S8 S9 hO6 hO8 hB6 hB7 hB8 hB9 hb0
            go_wp2
            go_roundw
            case rel => exact ⟨i + 1, at', t2, by omega, by omega, hat, rfl, by go_num, HS9.out⟩
            case measure => simp [intOf]; omega
      · have hi80 : (80 : Int) ≤ (i : Int) := by omega
        have hiz : (i : Int) < (n1 : Int) := by omega
        have HL : Hid (Below w.heap.size w wr) := HK.out.low
        clear HK
        go_wp2
        go_ret
        exact ⟨rfl, HL.out⟩
    · have hiz : (n1 : Int) ≤ (i : Int) := by omega
      have HL : Hid (Below w.heap.size w wr) := HK.out.low
      clear HK
      go_wp2
      go_ret
      exact ⟨rfl, HL.out⟩
end Go.Proofs.YtagindfgfamacaaDoor
