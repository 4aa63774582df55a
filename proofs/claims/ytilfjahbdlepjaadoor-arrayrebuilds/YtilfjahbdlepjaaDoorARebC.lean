/- ArrayRebuilds: the walk. -/
import Derived.Test.YtilfjahbdlepjaaDoorPa
import Derived.Test.YtilfjahbdlepjaaDoorRe
namespace Go.Proofs.YtilfjahbdlepjaaDoor
open Go.RowKit El Pol Mx Lay
theorem raw_n {w wr : World} {x : PAd} {A : Arr} {N n rows : Nat} (h : AL w x A N wr) (ho : A.ok) (hn : A.n = n) (hr : A.rows = rows) (r : Nat) (hrr : r < rows) :
    Calls Tryd.prog 7 #[.pointer (some ⟨x.p, 0, none⟩), .int .i64 r] wr fun e w' => ∃ (g1 g2 : Nat), e = .returned (.tuple #[.slice (some ⟨g1, 0, none⟩) n n, .slice (some ⟨g2, 0, none⟩) n n, .nilIface]) ∧
      RowAt w' g1 n (fun i => st (A.part r i)) ∧ wr.heap.size ≤ g1 ∧ Below wr.heap.size wr w' := by
  have := pa_raw h.pa ho r (by rw [hr]; exact hrr)
  rw [hn] at this
  exact this.mono fun e w' ⟨g1, g2, he, k1, _, ⟨k3, _⟩, k4⟩ => ⟨g1, g2, he, k1, k3, k4⟩
section
variable {w wr : World} {x : PAd} {A : Arr} {c : Nat → List El} {N n rows d B m : Nat} {V : Value} {q : Nat → Nat}
theorem reb_fail (h : AL w x A N wr) (hWs : WasS B n A m V q wr) (hF : ∀ i, x.F n i → i < B) (hn : A.n = n) (hfl : A.full) (hd : d < n) :
    Calls Tryd.prog 8 #[.pointer (some ⟨x.p, 0, none⟩), .int .i64 d] wr fun e w' => e = .returned .nilIface ∧ AL w x (A.fail (d : Int)) N w' ∧ WasS B n A m V q w' := by
  have := pa_fail h.pa (d : Int)
  rw [(rb_fail (by rw [hn]; exact hd) hfl).1, errV, if_pos rfl] at this
  exact this.mono fun e w' ⟨he, hp, hb⟩ => ⟨he, h.next hp hb (Arr.fail_n _ _), hWs.but hb (by rw [hn]; exact hF)⟩
theorem reb_rep (h : AL w x (A.fail (d : Int)) N wr) (hWs : WasS B n A m V q wr) (hF : ∀ i, x.F n i → i < B) (hn : A.n = n) (hfl : A.full) (hd : d < n) :
    Calls Tryd.prog 9 #[.pointer (some ⟨x.p, 0, none⟩), .int .i64 d] wr fun e w' => e = .returned .nilIface ∧ AL w x (rb A d 0) (N + 0) w' ∧ WasS B n A m V q w' := by
  have := pa_replace h.pa (d : Int)
  rw [(rb_fail (by rw [hn]; exact hd) hfl).2, errV, if_pos rfl] at this
  exact this.mono fun e w' ⟨he, hp, hb⟩ => ⟨he, h.next hp hb (Arr.replace_n _ _), hWs.but hb (by rw [Arr.fail_n, hn]; exact hF)⟩
theorem reb_next (hK : Keep A c) (hfl : A.full) (hn : A.n = n) (hr : A.rows = rows) (hd : d < n) (hF : ∀ i, x.F n i → i < B) {r : Nat} (hrr : r < rows) (hN : N + r < 1000) (h : AL w x (rb A d r) (N + r) wr) (hWs : WasS B n A m V q wr) :
    Calls Tryd.prog 10 #[.pointer (some ⟨x.p, 0, none⟩), .int .i64 d] wr fun e w' => e = .returned (.tuple #[.int .i64 ((rows - (r + 1) : Nat) : Int), .nilIface]) ∧ AL w x (rb A d (r + 1)) (N + (r + 1)) w' ∧ WasS B n A m V q w' := by
  have hd' : d < A.n := by rw [hn]; exact hd
  obtain ⟨e1, e2⟩ := rb_E hK hfl hd' (r := r) (by rw [hr]; exact hrr)
  have hs := (rb_state hK hfl hd' r (by omega)).1.1
  have := pa_rebuild h.pa (rb_ok hK hfl r) (by omega) (d : Int)
  rw [e1, e2, hr, errV, if_pos rfl] at this
  exact this.mono fun e w' ⟨he, hp, hb⟩ => ⟨he, h.next hp hb (Arr.rebuild_n _ _), hWs.but hb (by rw [hs, hn]; exact hF)⟩
theorem reb_raw (hK : Keep A c) (hfl : A.full) (hn : A.n = n) (hr : A.rows = rows) (hd : d < n) {r M : Nat} (hrr : r < rows) (h : AL w x (rb A d (r + 1)) M wr) :
    Calls Tryd.prog 7 #[.pointer (some ⟨x.p, 0, none⟩), .int .i64 r] wr fun e w' => ∃ (g1 g2 : Nat), e = .returned (.tuple #[.slice (some ⟨g1, 0, none⟩) n n, .slice (some ⟨g2, 0, none⟩) n n, .nilIface]) ∧
      RowAt w' g1 n (fun i => st (A.part r i)) ∧ Below wr.heap.size wr w' := by
  have hd' : d < A.n := by rw [hn]; exact hd
  obtain ⟨⟨s1, s2, _⟩, _⟩ := rb_state hK hfl hd' (r + 1) (by omega)
  refine (raw_n h (rb_ok hK hfl _) (s1.trans hn) (s2.trans hr) r hrr).mono fun e w' ⟨g1, g2, he, k1, _, k3⟩ => ⟨g1, g2, he, k1.congr (fun i hi => ?_), k3⟩
  rw [rb_part hK hfl hd' (by omega) i (by omega)]
theorem reb_last (hK : Keep A c) (hfl : A.full) (hn : A.n = n) (hr : A.rows = rows) (hd : d < n) (hN : N + rows < 1000) (h : AL w x (rb A d rows) (N + rows) wr) :
    Calls Tryd.prog 10 #[.pointer (some ⟨x.p, 0, none⟩), .int .i64 d] wr fun e w' => ∃ z : Int, e = .returned (.tuple #[.int .i64 z, .iface 55 (.int .i64 6)]) ∧ Below w.heap.size w w' := by
  have := pa_rebuild h.pa (rb_ok hK hfl rows) (by omega) (d : Int)
  have e := rb_last hK hfl (d := d) (by rw [hn]; exact hd)
  rw [hr] at e
  rw [e, errV, if_neg (by omega)] at this
  exact this.mono fun e w' ⟨he, hp, hb⟩ => ⟨_, he, (h.next hp hb (Arr.rebuild_n _ _)).low⟩
theorem texts_same (g1 g2 n : Nat) (f : Nat → List El) (w : World) (h1 : RowAt w g1 n (fun i => st (f i))) (h2 : RowAt w g2 n (fun i => st (f i))) (hn : n ≤ 10) :
    Calls Tryd.prog 11 #[.slice (some ⟨g1, 0, none⟩) n n, .slice (some ⟨g2, 0, none⟩) n n] w fun e w' => e = .returned (.bool true) ∧ Below w.heap.size w w' := by
  have := texts_any (.slice (some ⟨g1, 0, none⟩) n n) (.slice (some ⟨g2, 0, none⟩) n n) n n f f w (h1.rd (Nat.le_refl _) (by omega)) (h2.rd (Nat.le_refl _) (by omega))
  rw [sameL_iff.2 ⟨rfl, fun _ _ => rfl⟩] at this
  exact this
end
set_option maxRecDepth 100000 in
set_option maxHeartbeats 8000000 in
theorem reb_ok (n rows d : Nat) (h1 : 3 ≤ n) (h2 : n ≤ 10) (h3 : 1 ≤ rows) (h4 : rows ≤ 20) (hd : d < n) (al : Option Addr) (nl cl : Nat) (L : Nat → List El) (w : World) (r3 : RdF w (.slice al nl cl) nl (fun i => st (L i))) (hnl : nl ≤ 8796093021952) (hg : Handle w) :
    Calls Tryd.prog 3 #[.int .i64 n, .int .i64 rows, .int .i64 d, .slice al nl cl] w fun e w' => e = .returned (.bool true) ∧ Below w.heap.size w w' := by
  have HG : Hid (Handle w) := hg
  have HRd : Hid (RdF w (.slice al nl cl) nl (fun i => st (L i))) := r3
  obtain ⟨j0, hj, hy0, hy1, hy2⟩ := info_parts infoSS
  have C := pa_new_ok n rows 2 ⟨h1, h2⟩ ⟨h3, h4⟩ (by omega) w
  generalize hx : newAt w.heap.size n = x at C
  have HX : Hid (∀ w1, PA w1 x (Arr.fresh n rows 2) 0 → Below w.heap.size w w1 → Wrt w x n rows 0 w1 ∧ ∀ i, x.F n i → i < w1.heap.size) := fun w1 hp hb => by
    refine ⟨⟨Arr.fresh n rows 2, _, 0, ?_, Keep.fresh ⟨h1, h2⟩ ⟨h3, h4⟩ (by omega), Arr.full_fresh _ _ _, ⟨rfl, rfl, rfl⟩, Nat.le_refl _⟩, hp.lt⟩
    rw [← hx] at hp ⊢
    exact AL.new hp hb
  clear hx hg r3
  have hbig : rows * (n - 2) ≤ 20 * 8 := Nat.mul_le_mul h4 (by omega)
  obtain ⟨c', hc'⟩ : ∃ c, n - 2 = c := ⟨_, rfl⟩
  obtain ⟨m, hm⟩ : ∃ m, rows * (n - 2) = m := ⟨_, rfl⟩
  have hs : (n : Int) - 2 = (c' : Int) := by omega
  have hmul : (rows : Int) * (c' : Int) = (m : Int) := by rw [← hm, ← hc', Int.natCast_mul]
  have hm160 : (m : Int) ≤ 160 := by omega
  have HWr : Hid (∀ (i : Nat) (wr : World), Wrt w x n rows i wr → i < m → ∀ t : List El, t.length = 2 → Calls Tryd.prog 6 #[.pointer (some ⟨x.p, 0, none⟩), .int .i64 i, st t] wr fun e w' => e = .returned .nilIface ∧ Wrt w x n rows (i + 1) w' ∧ wr.heap.size ≤ w'.heap.size) := fun i wr h hi t ht => h.write (by rw [hm]; exact hi) h2 h4 t ht
  have HM : Hid (m ≤ 160) := by (show m ≤ 160); omega
  clear hm hc' hbig
  generalize Arr.fresh n rows 2 = A0 at *
  go_enter Tryd.func3, Tryd.ntmps3
  go_wp2_with fail
  refine C.mono ?_
  rintro e w1 ⟨rfl, hp, hb⟩
  obtain ⟨hW0, hF0⟩ := HX.out w1 hp hb
  have HF : Hid (∀ i, x.F n i → i < w1.heap.size) := hF0
  have HW1 : Hid (w.heap.size ≤ w1.heap.size) := hb.size
  clear C hp hb HX hF0
  have hdn : (d : Int) < (n : Int) := by omega
  have hd0 : decide ((d : Int) < 0) = false := decide_eq_false (by omega)
  have hd1 : decide (n ≤ d) = false := decide_eq_false (by omega)
  go_wp2
  go_loopw [11] (fun t wr => ∃ i : Nat, (i ≤ nl ∧ i ≤ m) ∧ t = .int .i64 i ∧ Wrt w x n rows i wr ∧ w1.heap.size ≤ wr.heap.size) (fun t _ => nl - (intOf t).toNat)
  case atStart => exact ⟨0, ⟨Nat.zero_le _, Nat.zero_le _⟩, rfl, hW0, Nat.le_refl _⟩
  case round =>
    clear hW0
    obtain ⟨i, ⟨hi1, hi2⟩, rfl, hW, hsz⟩ := hrel
    by_cases hlt : i < nl ∧ i < m
    · obtain ⟨hlt1, hlt2⟩ := hlt
      have hlow : Below w.heap.size w wr := by obtain ⟨A, c, N, hh, _⟩ := hW; exact hh.low
      obtain ⟨ad, rfl, hcell⟩ := (HRd.out.old hlow).at i hlt1
      have e1 : (i : Int) < (nl : Int) := by omega
      have e2 : (i : Int) < (m : Int) := by omega
      by_cases ht : (L i).length = 2
      · have K := HWr.out i wr hW hlt2 (L i) ht
        have hlen : (sb (L i)).size = 2 := by rw [sb_size, ht]
        obtain ⟨s, hs'⟩ : ∃ s, s = sb (L i) := ⟨_, rfl⟩
        unfold st at hcell K
        rw [← hs'] at hcell K hlen
        clear hW hlow ht HWr hs'
        go_wp2_with fail
        refine K.mono ?_
        rintro e w2 ⟨rfl, hW2, hsz1⟩
        have hsz2 := Nat.le_trans hsz hsz1
        clear hsz1
        have HW2 : Hid (Wrt w x n rows (i + 1) w2) := hW2
        clear K hW2 hcell hsz
        go_wp2
        go_roundw
        case rel => exact ⟨i + 1, ⟨by omega, by omega⟩, by go_num, HW2.out, hsz2⟩
        case measure => simp [intOf]; omega
      · have hlen : ((((sb (L i)).size : Nat) : Int) == 2) = false := by rw [sb_size, beq_eq_false_iff_ne]; omega
        have HW2 : Hid (Wrt w x n rows (i + 1) wr) := hW.skip
        obtain ⟨s, hs'⟩ : ∃ s, s = sb (L i) := ⟨_, rfl⟩
        unfold st at hcell
        rw [← hs'] at hcell hlen
        clear hW hlow ht HWr hs'
        go_wp2
        go_roundw
        case rel => exact ⟨i + 1, ⟨by omega, by omega⟩, by go_num, HW2.out, hsz⟩
        case measure => simp [intOf]; omega
    · rcases (show ¬ i < nl ∨ (i < nl ∧ ¬ i < m) by omega) with e1 | ⟨e0, e1⟩
      · have e2 : ¬ (i : Int) < (nl : Int) := by omega
        clear hlt e1 HWr HRd
        obtain ⟨A, c, N, hA, hK, hFl, ⟨hn, hr, hz⟩, hN⟩ := hW
        have HK : Hid (Keep A c) := hK
        have HFl : Hid A.full := hFl
        have HNR : Hid (A.n = n ∧ A.rows = rows) := ⟨hn, hr⟩
        have hN900 : N ≤ 480 := by have := HM.out; omega
        have hA2 := hA
        clear hK hFl hn hr hz hN hA hi1 hi2
        go_wp2
        go_loopw [12, 13] (fun V t wr => ∃ (r : Nat) (q : Nat → Nat), r ≤ rows ∧ t = .int .i64 r ∧ AL w x A N wr ∧ WasS w1.heap.size n A r V q wr ∧ w1.heap.size ≤ wr.heap.size) (fun _ t _ => rows - (intOf t).toNat)
        case atStart => exact ⟨0, fun _ => 0, Nat.zero_le _, rfl, hA2, WasS.emp _ _ _ _ _, hsz⟩
        case round =>
          clear hA2 hsz
          obtain ⟨r, q, hr, rfl, hA, hWs, hsz⟩ := hrel
          obtain ⟨av, cv, ev⟩ := owns_len2 hWs.own
          subst ev
          by_cases hlt : r < rows
          · have R := raw_n hA HK.out.ok HNR.out.1 HNR.out.2 r hlt
            have e4 : (r : Int) < (rows : Int) := by omega
            have e5 : (r : Int) < 20 := by omega
            have HA : Hid (AL w x A N wr) := hA
            have HWs : Hid (WasS w1.heap.size n A r (.slice av r cv) q wr) := hWs
            clear hA hWs
            go_wp2_with fail
            refine R.mono ?_
            rintro e w2 ⟨g1, g2, rfl, hr1, hg1, hB2⟩
            have hO := (HWs.out.old hB2).own
            have hs2 := hB2.size
            clear R
            go_wp2_with (first | (at_builtin; refine wpList_append_two rfl _ _ 29 rfl w1.heap.size 22 j0 (.slice none 0 0) 24 Tryd.underlying29 hj hy0 hy1 hy2 rfl _ _ _ rfl (World.ownsRow.alloc hO _) ⟨w2.heap.size, 0, none⟩ 1 1 [.slice (some ⟨g1, 0, none⟩) n n] rfl rfl (one_cell _) (by intro u hu; simp at hu; subst hu; rfl) (by unfold maxLen; omega) (by omega) (by simp; omega) ?_))
            intro v5 w5 hown5 hgrow5 hsn5
            have hal := al_below w2 (.cells #[.slice (some ⟨g1, 0, none⟩) n n] 22)
            have HP : Hid (WasS w1.heap.size n A (r + 1) v5 (up q r g1) w5) := HWs.out.push hsz hB2 hr1 hg1 hal hown5 hgrow5 hsn5
            have HA5 : Hid (AL w x A N w5) := ((HA.out.old hB2).old hal).grown hgrow5 (fun k hk => ⟨Nat.le_trans (by have := HW1.out; omega) (World.ownsRow.lt hO k hk).1, fun hf => by rw [HNR.out.1] at hf; have := HF.out k hf; have := (World.ownsRow.lt hO k hk).1; omega⟩)
            have hs5 : w1.heap.size ≤ w5.heap.size := by have := hgrow5.size; have := hal.size; omega
            clear hO hs2 hown5 hgrow5 hsn5 hal hB2 hr1 hg1 HWs HA
            go_wp2
            go_roundw
            case rel => exact ⟨r + 1, _, by omega, by go_num, HA5.out, HP.out, hs5⟩
            case measure => simp [intOf]; omega
          · have e : rows = r := by omega
            subst e
            obtain ⟨gw, cw, ew, hcw, _, hgw, hRw⟩ := rowAt_own hWs.own (by omega)
            cases ew
            have K := reb_fail hA hWs HF.out HNR.out.1 HFl.out hd
            have e4 : ¬ (rows : Int) < (rows : Int) := by omega
            clear hA hWs hRw hlt
            go_wp2_with fail
            refine K.mono ?_
            rintro e w2 ⟨rfl, hA, hWs⟩
            clear K
            have K := reb_rep hA hWs HF.out HNR.out.1 HFl.out hd
            clear hA hWs
            go_wp2_with fail
            refine K.mono ?_
            rintro e w3 ⟨rfl, hA, hWs⟩
            clear K
            go_wp2
            go_loopw [17] (fun t wr => ∃ r : Nat, r ≤ rows ∧ t = .int .i64 r ∧ AL w x (rb A d r) (N + r) wr ∧ WasS w1.heap.size n A rows (.slice (some ⟨gw, 0, none⟩) rows cv) q wr) (fun t _ => rows - (intOf t).toNat)
            case atStart => exact ⟨0, Nat.zero_le _, rfl, hA, hWs⟩
            case round =>
              clear hA hWs
              obtain ⟨r, hr, rfl, hA, hWs⟩ := hrel
              by_cases hlt : r < rows
              · have K := reb_next HK.out HFl.out HNR.out.1 HNR.out.2 hd HF.out hlt (by omega) hA hWs
                obtain ⟨y, hy⟩ : ∃ y, rows - (r + 1) = y := ⟨_, rfl⟩
                have hyy : (rows : Int) - (r : Int) - 1 = (y : Int) := by omega
                rw [hy] at K
                have e5 : (r : Int) < (rows : Int) := by omega
                have e6 : (r : Int) < 20 := by omega
                clear hA hWs hy
                go_wp2_with fail
                refine K.mono ?_
                rintro e w4 ⟨rfl, hA, hWs⟩
                have R := reb_raw HK.out HFl.out HNR.out.1 HNR.out.2 hd hlt hA
                have HA : Hid (AL w x (rb A d (r + 1)) (N + (r + 1)) w4) := hA
                have HWs : Hid (WasS w1.heap.size n A rows (.slice (some ⟨gw, 0, none⟩) rows cv) q w4) := hWs
                clear K hA hWs
                go_wp2_with fail
                refine R.mono ?_
                rintro e w5 ⟨g1, g2, rfl, hr1, hB5⟩
                have hWs5 := HWs.out.old hB5
                have hcell : w5.cell? ⟨gw, r, none⟩ = some (.slice (some ⟨q r, 0, none⟩) n n) := by
                  rw [World.ownsRow.cellAt hWs5.own r (by omega)]
                  simp [hlt]
                have T := texts_same g1 (q r) n (fun i => A.part r i) w5 hr1 (hWs5.row r hlt).1 h2
                have HA5 : Hid (AL w x (rb A d (r + 1)) (N + (r + 1)) w5) := HA.out.old hB5
                have HWs5 : Hid (WasS w1.heap.size n A rows (.slice (some ⟨gw, 0, none⟩) rows cv) q w5) := hWs5
                clear R hr1 hB5 hWs5 HA HWs
                go_wp2_with fail
                refine T.mono ?_
                rintro e w6 ⟨rfl, hB6⟩
                have HA6 : Hid (AL w x (rb A d (r + 1)) (N + (r + 1)) w6) := HA5.out.old hB6
                have HWs6 : Hid (WasS w1.heap.size n A rows (.slice (some ⟨gw, 0, none⟩) rows cv) q w6) := HWs5.out.old hB6
                clear T hB6 HA5 HWs5 hcell
                go_wp2
                go_roundw
                case rel => exact ⟨r + 1, by omega, by go_num, HA6.out, HWs6.out⟩
                case measure => simp [intOf]; omega
              · have e : rows = r := by omega
                subst e
                have K := reb_last HK.out HFl.out HNR.out.1 HNR.out.2 hd (by omega) hA
                have e7 : ¬ (rows : Int) < (rows : Int) := by omega
                clear hA hWs hlt
                go_wp2_with fail
                refine K.mono ?_
                rintro e w4 ⟨z, rfl, hB4⟩
                have E := err_same 6 w4 (HG.out.old hB4)
                clear K
                go_wp2_with fail
                refine E.mono ?_
                rintro e w5 ⟨rfl, hB5⟩
                have hB := hB4.trans (hB5.mono hB4.size)
                clear E hB5 hB4
                go_wp2
                go_ret
                exact ⟨rfl, hB⟩
      · have e2 : (i : Int) < (nl : Int) := by omega
        have e3 : ¬ (i : Int) < (m : Int) := by omega
        clear hlt e0 e1 HWr HRd
        obtain ⟨A, c, N, hA, hK, hFl, ⟨hn, hr, hz⟩, hN⟩ := hW
        have HK : Hid (Keep A c) := hK
        have HFl : Hid A.full := hFl
        have HNR : Hid (A.n = n ∧ A.rows = rows) := ⟨hn, hr⟩
        have hN900 : N ≤ 480 := by have := HM.out; omega
        have hA2 := hA
        clear hK hFl hn hr hz hN hA hi1 hi2
        go_wp2
        go_loopw [12, 13] (fun V t wr => ∃ (r : Nat) (q : Nat → Nat), r ≤ rows ∧ t = .int .i64 r ∧ AL w x A N wr ∧ WasS w1.heap.size n A r V q wr ∧ w1.heap.size ≤ wr.heap.size) (fun _ t _ => rows - (intOf t).toNat)
        case atStart => exact ⟨0, fun _ => 0, Nat.zero_le _, rfl, hA2, WasS.emp _ _ _ _ _, hsz⟩
        case round =>
          clear hA2 hsz
          obtain ⟨r, q, hr, rfl, hA, hWs, hsz⟩ := hrel
          obtain ⟨av, cv, ev⟩ := owns_len2 hWs.own
          subst ev
          by_cases hlt : r < rows
          · have R := raw_n hA HK.out.ok HNR.out.1 HNR.out.2 r hlt
            have e4 : (r : Int) < (rows : Int) := by omega
            have e5 : (r : Int) < 20 := by omega
            have HA : Hid (AL w x A N wr) := hA
            have HWs : Hid (WasS w1.heap.size n A r (.slice av r cv) q wr) := hWs
            clear hA hWs
            go_wp2_with fail
            refine R.mono ?_
            rintro e w2 ⟨g1, g2, rfl, hr1, hg1, hB2⟩
            have hO := (HWs.out.old hB2).own
            have hs2 := hB2.size
            clear R
            go_wp2_with (first | (at_builtin; refine wpList_append_two rfl _ _ 29 rfl w1.heap.size 22 j0 (.slice none 0 0) 24 Tryd.underlying29 hj hy0 hy1 hy2 rfl _ _ _ rfl (World.ownsRow.alloc hO _) ⟨w2.heap.size, 0, none⟩ 1 1 [.slice (some ⟨g1, 0, none⟩) n n] rfl rfl (one_cell _) (by intro u hu; simp at hu; subst hu; rfl) (by unfold maxLen; omega) (by omega) (by simp; omega) ?_))
            intro v5 w5 hown5 hgrow5 hsn5
            have hal := al_below w2 (.cells #[.slice (some ⟨g1, 0, none⟩) n n] 22)
            have HP : Hid (WasS w1.heap.size n A (r + 1) v5 (up q r g1) w5) := HWs.out.push hsz hB2 hr1 hg1 hal hown5 hgrow5 hsn5
            have HA5 : Hid (AL w x A N w5) := ((HA.out.old hB2).old hal).grown hgrow5 (fun k hk => ⟨Nat.le_trans (by have := HW1.out; omega) (World.ownsRow.lt hO k hk).1, fun hf => by rw [HNR.out.1] at hf; have := HF.out k hf; have := (World.ownsRow.lt hO k hk).1; omega⟩)
            have hs5 : w1.heap.size ≤ w5.heap.size := by have := hgrow5.size; have := hal.size; omega
            clear hO hs2 hown5 hgrow5 hsn5 hal hB2 hr1 hg1 HWs HA
            go_wp2
            go_roundw
            case rel => exact ⟨r + 1, _, by omega, by go_num, HA5.out, HP.out, hs5⟩
            case measure => simp [intOf]; omega
          · have e : rows = r := by omega
            subst e
            obtain ⟨gw, cw, ew, hcw, _, hgw, hRw⟩ := rowAt_own hWs.own (by omega)
            cases ew
            have K := reb_fail hA hWs HF.out HNR.out.1 HFl.out hd
            have e4 : ¬ (rows : Int) < (rows : Int) := by omega
            clear hA hWs hRw hlt
            go_wp2_with fail
            refine K.mono ?_
            rintro e w2 ⟨rfl, hA, hWs⟩
            clear K
            have K := reb_rep hA hWs HF.out HNR.out.1 HFl.out hd
            clear hA hWs
            go_wp2_with fail
            refine K.mono ?_
            rintro e w3 ⟨rfl, hA, hWs⟩
            clear K
            go_wp2
            go_loopw [17] (fun t wr => ∃ r : Nat, r ≤ rows ∧ t = .int .i64 r ∧ AL w x (rb A d r) (N + r) wr ∧ WasS w1.heap.size n A rows (.slice (some ⟨gw, 0, none⟩) rows cv) q wr) (fun t _ => rows - (intOf t).toNat)
            case atStart => exact ⟨0, Nat.zero_le _, rfl, hA, hWs⟩
            case round =>
              clear hA hWs
              obtain ⟨r, hr, rfl, hA, hWs⟩ := hrel
              by_cases hlt : r < rows
              · have K := reb_next HK.out HFl.out HNR.out.1 HNR.out.2 hd HF.out hlt (by omega) hA hWs
                obtain ⟨y, hy⟩ : ∃ y, rows - (r + 1) = y := ⟨_, rfl⟩
                have hyy : (rows : Int) - (r : Int) - 1 = (y : Int) := by omega
                rw [hy] at K
                have e5 : (r : Int) < (rows : Int) := by omega
                have e6 : (r : Int) < 20 := by omega
                clear hA hWs hy
                go_wp2_with fail
                refine K.mono ?_
                rintro e w4 ⟨rfl, hA, hWs⟩
                have R := reb_raw HK.out HFl.out HNR.out.1 HNR.out.2 hd hlt hA
                have HA : Hid (AL w x (rb A d (r + 1)) (N + (r + 1)) w4) := hA
                have HWs : Hid (WasS w1.heap.size n A rows (.slice (some ⟨gw, 0, none⟩) rows cv) q w4) := hWs
                clear K hA hWs
                go_wp2_with fail
                refine R.mono ?_
                rintro e w5 ⟨g1, g2, rfl, hr1, hB5⟩
                have hWs5 := HWs.out.old hB5
                have hcell : w5.cell? ⟨gw, r, none⟩ = some (.slice (some ⟨q r, 0, none⟩) n n) := by
                  rw [World.ownsRow.cellAt hWs5.own r (by omega)]
                  simp [hlt]
                have T := texts_same g1 (q r) n (fun i => A.part r i) w5 hr1 (hWs5.row r hlt).1 h2
                have HA5 : Hid (AL w x (rb A d (r + 1)) (N + (r + 1)) w5) := HA.out.old hB5
                have HWs5 : Hid (WasS w1.heap.size n A rows (.slice (some ⟨gw, 0, none⟩) rows cv) q w5) := hWs5
                clear R hr1 hB5 hWs5 HA HWs
                go_wp2_with fail
                refine T.mono ?_
                rintro e w6 ⟨rfl, hB6⟩
                have HA6 : Hid (AL w x (rb A d (r + 1)) (N + (r + 1)) w6) := HA5.out.old hB6
                have HWs6 : Hid (WasS w1.heap.size n A rows (.slice (some ⟨gw, 0, none⟩) rows cv) q w6) := HWs5.out.old hB6
                clear T hB6 HA5 HWs5 hcell
                go_wp2
                go_roundw
                case rel => exact ⟨r + 1, by omega, by go_num, HA6.out, HWs6.out⟩
                case measure => simp [intOf]; omega
              · have e : rows = r := by omega
                subst e
                have K := reb_last HK.out HFl.out HNR.out.1 HNR.out.2 hd (by omega) hA
                have e7 : ¬ (rows : Int) < (rows : Int) := by omega
                clear hA hWs hlt
                go_wp2_with fail
                refine K.mono ?_
                rintro e w4 ⟨z, rfl, hB4⟩
                have E := err_same 6 w4 (HG.out.old hB4)
                clear K
                go_wp2_with fail
                refine E.mono ?_
                rintro e w5 ⟨rfl, hB5⟩
                have hB := hB4.trans (hB5.mono hB4.size)
                clear E hB5 hB4
                go_wp2
                go_ret
                exact ⟨rfl, hB⟩
set_option maxRecDepth 100000 in
set_option maxHeartbeats 1000000 in
theorem reb_bad (n rows d : Int) (v : Value) (h : abad n rows 2 ≠ 0) (w : World) :
    Calls Tryd.prog 3 #[.int .i64 n, .int .i64 rows, .int .i64 d, v] w fun e w' => e = .returned (.bool true) ∧ Below w.heap.size w w' := by
  have C := pa_new_bad n rows 2 h w
  rw [errV, if_neg (by omega)] at C
  by_cases q1 : n < 3
  · clear h
    go_enter Tryd.func3, Tryd.ntmps3
    go_wp2_with fail
    refine C.mono ?_
    rintro e w1 ⟨rfl, hb⟩
    clear C
    go_wp2
    go_ret
    exact ⟨rfl, hb⟩
  · by_cases q2 : 10 < n
    · clear h
      go_enter Tryd.func3, Tryd.ntmps3
      go_wp2_with fail
      refine C.mono ?_
      rintro e w1 ⟨rfl, hb⟩
      clear C
      go_wp2
      go_ret
      exact ⟨rfl, hb⟩
    · by_cases q3 : rows < 1
      · clear h
        go_enter Tryd.func3, Tryd.ntmps3
        go_wp2_with fail
        refine C.mono ?_
        rintro e w1 ⟨rfl, hb⟩
        clear C
        go_wp2
        go_ret
        exact ⟨rfl, hb⟩
      · have q4 : 20 < rows := by
          unfold abad at h
          rw [lbad_of (by omega) (by omega)] at h
          split at h
          · rename_i z
            rcases z with z | z
            · exact absurd rfl z
            · unfold newE at z
              split at z <;> omega
          · exact absurd rfl h
        clear h
        go_enter Tryd.func3, Tryd.ntmps3
        go_wp2_with fail
        refine C.mono ?_
        rintro e w1 ⟨rfl, hb⟩
        clear C
        go_wp2
        go_ret
        exact ⟨rfl, hb⟩
set_option maxRecDepth 100000 in
set_option maxHeartbeats 1000000 in
theorem reb_no (n rows : Nat) (d : Int) (v : Value) (h1 : 3 ≤ n ∧ n ≤ 10) (h2 : 1 ≤ rows ∧ rows ≤ 20) (h : ¬ (0 ≤ d ∧ d < n)) (w : World) :
    Calls Tryd.prog 3 #[.int .i64 n, .int .i64 rows, .int .i64 d, v] w fun e w' => e = .returned (.bool true) ∧ Below w.heap.size w w' := by
  have C := (pa_new_ok n rows 2 h1 h2 (by omega) w).mono (R' := fun e w' => ∃ p : Nat, e = .returned (.tuple #[.pointer (some ⟨p, 0, none⟩), .nilIface]) ∧ Below w.heap.size w w') fun e w' ⟨h1, _, h3⟩ => ⟨_, h1, h3⟩
  by_cases q1 : d < 0
  · clear h
    go_enter Tryd.func3, Tryd.ntmps3
    go_wp2_with fail
    refine C.mono ?_
    rintro e w1 ⟨p, rfl, hb⟩
    clear C
    go_wp2
    go_ret
    exact ⟨rfl, hb⟩
  · have q2 : (n : Int) ≤ d := by omega
    clear h
    go_enter Tryd.func3, Tryd.ntmps3
    go_wp2_with fail
    refine C.mono ?_
    rintro e w1 ⟨p, rfl, hb⟩
    clear C
    go_wp2
    go_ret
    exact ⟨rfl, hb⟩
theorem reb_any (n rows d : Int) (al : Option Addr) (nl cl : Nat) (L : Nat → List El) (w : World) (r3 : RdF w (.slice al nl cl) nl (fun i => st (L i))) (hnl : nl ≤ 8796093021952) (hg : Handle w) :
    Calls Tryd.prog 3 #[.int .i64 n, .int .i64 rows, .int .i64 d, .slice al nl cl] w fun e w' => e = .returned (.bool true) ∧ Below w.heap.size w w' := by
  by_cases h : abad n rows 2 = 0
  · obtain ⟨h1, h2, _⟩ := abad_ok h
    obtain ⟨n', rfl⟩ : ∃ m : Nat, n = m := ⟨n.toNat, by omega⟩
    obtain ⟨r', rfl⟩ : ∃ m : Nat, rows = m := ⟨rows.toNat, by omega⟩
    by_cases q : 0 ≤ d ∧ d < n'
    · obtain ⟨d', rfl⟩ : ∃ m : Nat, d = m := ⟨d.toNat, by omega⟩
      exact reb_ok n' r' d' (by omega) (by omega) (by omega) (by omega) (by omega) al nl cl L w r3 hnl hg
    · exact reb_no n' r' d _ (by omega) (by omega) q w
  · exact reb_bad n rows d _ h w
end Go.Proofs.YtilfjahbdlepjaaDoor
