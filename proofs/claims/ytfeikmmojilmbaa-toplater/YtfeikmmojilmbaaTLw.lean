/- TopLater: the walk itself. -/
import Derived.Test.YtfeikmmojilmbaaTLt
import Derived.Deep.RegionHeld3
namespace Go.Proofs.Ytfeikmmojilmbaa
open Go.RowKit Go.Maps El Pol
set_option linter.unusedVariables false in
set_option maxRecDepth 1000000 in
set_option maxHeartbeats 4000000 in
theorem later_bad (a0 a2 : Option Addr) (n0 c0 n2 c2 : Nat) (S0 : Nat → List El) (room fl : Int) (w : World) (r0 : RdT w (.slice a0 n0 c0) n0 S0) (he : chE n0 S0 room ≠ 0) :
    Calls Try.prog 4 #[.slice a0 n0 c0, .int .i64 room, .slice a2 n2 c2, .int .i64 fl] w fun e w' => e = .returned (.bool true) ∧ Below w.heap.size w w' := by
  have HR0 : Hid (RdT w (.slice a0 n0 c0) n0 S0) := r0
  have O := one_any w
  clear r0
  go_enter Try.func4, Try.ntmps4
  go_wp2_with fail
  refine O.mono ?_
  rintro e w1 ⟨rfl, hB1⟩
  have HB1 : Hid (Below w.heap.size w w1) := hB1
  have C := cnew_bad (.slice a0 n0 c0) n0 S0 room w1 (HR0.out.old hB1) he
  rw [errV, if_neg he] at C
  clear O hB1
  generalize chE n0 S0 room = ke at *
  go_wp2_with fail
  refine C.mono ?_
  rintro e w2 ⟨rfl, hB2⟩
  have HB2 : Hid (Below w.heap.size w w2) := HB1.out.trans (hB2.mono HB1.out.size)
  clear C hB2 HB1
  by_cases hc : cellsE n0 S0 = 0
  · have N := rnew_ok (.slice a0 n0 c0) n0 S0 w2 (HR0.out.old HB2.out) hc
    go_wp2_with fail
    refine N.mono ?_
    rintro e w3 ⟨y, rfl, _, hB3⟩
    have HB3 : Hid (Below w.heap.size w w3) := HB2.out.trans (hB3.mono HB2.out.size)
    clear N hB3 HB2
    go_wp2
    go_ret
    exact ⟨rfl, HB3.out⟩
  · have N := rnew_bad (.slice a0 n0 c0) n0 S0 w2 (HR0.out.old HB2.out) hc
    rw [errV, if_neg hc] at N
    generalize cellsE n0 S0 = kc at *
    go_wp2_with fail
    refine N.mono ?_
    rintro e w3 ⟨rfl, hw3⟩
    obtain rfl := hw3.symm
    clear N hw3
    go_wp2
    go_ret
    exact ⟨rfl, HB2.out⟩
/-- the cache and the redo side by side -/
structure TX (w : World) (x : CP) (p n : Nat) (S0 : Nat → List El) (c : Che) (N : Nat) (wc : World) : Prop where
  low : Below w.heap.size w wc
  mc : MC w.heap.size wc x c N
  rl : RL w x.F p (Rdo.fresh n S0) wc
  hn : c.n = n
theorem TX.on {w wc w1 : World} {x : CP} {p n : Nat} {S0 : Nat → List El} {c c' : Che} {N N' : Nat} (h : TX w x p n S0 c N wc) (hM : MC w.heap.size w1 x c' N') (hb : But x.F wc w1) (hn : c'.n = c.n) : TX w x p n S0 c' N' w1 :=
  ⟨h.low.trans (hb.below h.low.size h.mc.low), hM, h.rl.but hb (fun k hk => ⟨hk, h.mc.low k hk⟩), hn.trans h.hn⟩
theorem TX.old {w wc w1 : World} {x : CP} {p n : Nat} {S0 : Nat → List El} {c : Che} {N : Nat} (h : TX w x p n S0 c N wc) (hb : Below wc.heap.size wc w1) : TX w x p n S0 c N w1 :=
  ⟨h.low.trans (hb.mono h.low.size), h.mc.old hb, h.rl.old hb, h.hn⟩
set_option linter.unusedVariables false in
set_option maxRecDepth 1000000 in
set_option maxHeartbeats 2000000 in
theorem later_ok (a0 a2 : Option Addr) (n0 c0 R n2 c2 : Nat) (S0 : Nat → List El) (l : List Wr) (fl : Int) (w : World) (r0 : RdT w (.slice a0 n0 c0) n0 S0) (r2 : RdW w (.slice a2 n2 c2) l) (e2 : n2 = l.length) (he : cellsE n0 S0 = 0) (h1 : 1 ≤ R) (h12 : R ≤ 12) :
    Calls Try.prog 4 #[.slice a0 n0 c0, .int .i64 ((R : Nat) : Int), .slice a2 n2 c2, .int .i64 fl] w fun e w' => e = .returned (.bool true) ∧ Below w.heap.size w w' := by
  have HR0 : Hid (RdT w (.slice a0 n0 c0) n0 S0) := r0
  have HR2 : Hid (RdW w (.slice a2 n2 c2) l) := r2
  have HE2 : Hid (n2 = l.length) := e2
  have hn40 := (cellsE_ok he).1
  have O := one_any w
  clear r0 r2 e2
  go_enter Try.func4, Try.ntmps4
  go_wp2_with fail
  refine O.mono ?_
  rintro e w1 ⟨rfl, hB1⟩
  have HB1 : Hid (Below w.heap.size w w1) := hB1
  have C := cnew_ok (.slice a0 n0 c0) n0 S0 R w1 (HR0.out.old hB1) he h1 h12
  clear O hB1
  go_wp2_with fail
  refine C.mono ?_
  rintro e w2 ⟨x, rfl, hM2, hB2⟩
  have HB2 : Hid (Below w.heap.size w w2) := HB1.out.trans (hB2.mono HB1.out.size)
  have HM2 : Hid (MC w.heap.size w2 x (Che.fresh n0 S0 R) 0) := hM2.base HB1.out.size
  have N := rnew_ok (.slice a0 n0 c0) n0 S0 w2 (HR0.out.old HB2.out) he
  clear C hB2 HB1 hM2
  go_wp2_with fail
  refine N.mono ?_
  rintro e w3 ⟨y, rfl, hY, hB3⟩
  have HT3 : Hid (TX w x y.p n0 S0 (Che.fresh n0 S0 R) 0 w3) := ⟨HB2.out.trans (hB3.mono HB2.out.size), HM2.out.old hB3, RL.new HB2.out hY hB3 he HM2.out.lt, rfl⟩
  clear N hB3 HB2 HM2 hY HR0
  generalize y.p = p at *
  go_wp2
  go_loopw [14] (fun cc wr => ∃ k : Nat, k ≤ n2 ∧ k ≤ 40 ∧ cc = .int .i64 k ∧ Hid (∃ c, TX w x p n0 S0 c (2 * k) wr)) (fun cc _ => n2 - (intOf cc).toNat)
  case atStart => exact ⟨0, Nat.zero_le _, Nat.zero_le _, rfl, ⟨_, HT3.out⟩⟩
  case round =>
    clear HT3
    obtain ⟨k, hk, hk40, rfl, HJ⟩ := hrel
    obtain ⟨c, hT⟩ := HJ.out
    have HT : Hid (TX w x p n0 S0 c (2 * k) wr) := hT
    clear HJ hT
    by_cases hlt : k < n2
    · have hkz : (k : Int) < (n2 : Int) := by omega
      by_cases hlt4 : k < 40
      · have hk4 : (k : Int) < 40 := by omega
        obtain ⟨ad, rfl, q1, q2⟩ := HR2.out.at k (by rw [← HE2.out]; exact hlt)
        have q1' := (HT.out.low.cell (World.block_lt_of_cell? w _ q1)).trans q1
        have q2' := (HT.out.low.cell (World.block_lt_of_cell? w _ q2)).trans q2
        rw [show (ad.add (k * 2)).add 1 = ⟨(ad.add (k * 2)).block, (ad.add (k * 2)).off + 1, none⟩ from rfl] at q2'
        unfold st at q2'
        have hbl : (ad.add (k * 2)).block < w.heap.size := World.block_lt_of_cell? w _ q1
        obtain ⟨⟨z, b⟩, hzb⟩ : ∃ y : Wr, y = wat l k := ⟨_, rfl⟩
        rw [← hzb] at q1' q2'
        dsimp only at q1' q2'
        have W := cwrite_all (HT.out.mc.old (below_dr1 wr)) (by omega) z b
        unfold st at W
        have HNF : Hid (∀ j, x.F j → w.heap.size ≤ j) := HT.out.mc.low
        clear q1 q2 hzb
        generalize sb b = sx at *
        generalize errV (c.writeE z b) = ev at *
        go_wp2_with fail
        go_region_held3 (fun w' => w'.cell? (ad.add (k * 2)) = some (.int .i64 z) ∧ w'.cell? ⟨(ad.add (k * 2)).block, (ad.add (k * 2)).off + 1, none⟩ = some (.string sx)) (first | go_keep | exact ⟨s1, s2⟩) ((first | (go_at_call 13; refine W.mono ?_; rintro e w4 ⟨rfl, hM4, hb4⟩; have s1 := (hb4.cell (Nat.lt_of_lt_of_le hbl HT.out.low.size) (fun e => absurd hbl (Nat.not_lt.2 (HNF.out _ e)))).trans q1'; have s2 := (hb4.cell (p := ⟨(ad.add (k * 2)).block, (ad.add (k * 2)).off + 1, none⟩) (Nat.lt_of_lt_of_le hbl HT.out.low.size) (fun e => absurd hbl (Nat.not_lt.2 (HNF.out _ e)))).trans q2')))
        all_goals
          have HJ2 : Hid (∃ c, TX w x p n0 S0 c (2 * (k + 1)) w4) := ⟨c.writeI z b, (HT.out.old (below_dr1 wr)).on hM4 hb4 (writeI_n HT.out.mc.ok z b)⟩
          clear W hM4 hb4 HT q1' q2' s1 s2
          go_wp2
          go_roundw
          case rel => exact ⟨k + 1, by omega, by omega, by go_num, HJ2.out⟩
          case measure => simp [intOf]; omega
      · have hk4 : ¬ (k : Int) < 40 := by omega
        have Fl := cflush_all HT.out.mc fl
        by_cases hfl : fl < 0
        · have e1 : Che.flushE fl = 1 := if_pos hfl
          rw [e1, errV, if_neg (by omega)] at Fl
          clear e1
          go_wp2_with fail
          refine Fl.mono ?_
          rintro e w5 ⟨vf, rfl, _, _, hM5, hb5⟩
          have HL5 : Hid (Below w.heap.size w w5) := HT.out.low.trans (hb5.below HT.out.low.size HT.out.mc.low)
          clear Fl hM5 hb5 HT
          go_wp2
          go_ret
          exact ⟨by first | rfl | simp [hfl], HL5.out⟩
        · have e1 : Che.flushE fl = 0 := if_neg hfl
          rw [e1, errV, if_pos rfl] at Fl
          have hnf : (c.flushI fl).n = c.n := by unfold Che.flushI; split <;> rfl
          clear e1
          go_wp2_with fail
          refine Fl.mono ?_
          rintro e w5 ⟨vf, rfl, _, _, hM5, hb5⟩
          have HT5 : Hid (TX w x p n0 S0 (c.flushI fl) (2 * k) w5) := HT.out.on hM5 hb5 hnf
          clear Fl hM5 hb5 HT hnf
          generalize c.flushI fl = c5 at *
          have Bl := cbelows_any HT5.out.mc
          rw [HT5.out.hn] at Bl
          go_wp2_with fail
          refine Bl.mono ?_
          rintro e w6 ⟨u6, rfl, hO6, hB6⟩
          obtain ⟨au, cu, rfl⟩ := OwT.len hO6
          have HT6 : Hid (TX w x p n0 S0 c5 (2 * k) w6) := HT5.out.old hB6
          have HO6 : Hid (OwT w5.heap.size w6 (.slice au n0 cu) n0 c5.below) := hO6
          have HR6 : Hid (RL w (fun j => (Value.slice au n0 cu).ownBlock = some j) p (Rdo.fresh n0 S0) w6) := by
            have := HT5.out.rl.more (V := fun j => (Value.slice au n0 cu).ownBlock = some j) (fun j hj => .inr (World.ownsRow.lt hO6 j hj).1)
            exact this.old hB6
          have hsb : ∀ i, i < n0 → (c5.below i).length ≤ 16 := fun i hi => HT6.out.mc.ok.sb i (by rw [HT6.out.hn]; exact hi)
          have HSB : Hid (∀ i, i < n0 → (c5.below i).length ≤ 16) := hsb
          have HL6 : Hid (Below w.heap.size w w6) := HT6.out.low
          clear Bl hO6 hB6 HT5 hsb HT6
          generalize c5.below = g at *
          obtain ⟨i0, hi0, hz0, hz1, hz2⟩ := info_parts infoW
          go_wp2
          go_loopw [16, 17] (fun o cc wq => ∃ j : Nat, j ≤ n0 ∧ cc = .int .i64 j ∧ OwW w6.heap.size wq o (allW g j) ∧ Below w6.heap.size w6 wq) (fun _ cc _ => n0 - (intOf cc).toNat)
          case atStart => exact ⟨0, Nat.zero_le _, rfl, World.ownsRow_nil _ _ _ _, Below.refl _ _⟩
          case round =>
            obtain ⟨j, hj, rfl, hO, hBr⟩ := hrel
            have hsz := hBr.size
            obtain ⟨a1, c1, rfl⟩ := OwW.len hO
            have hll := allW_len g j
            rw [hll] at hO ⊢
            by_cases hjl : j < n0
            · have hjz : (j : Int) < (n0 : Int) := by omega
              have hj4 : (j : Int) < 40 := by omega
              obtain ⟨d, rfl, hcd⟩ := (OwT.rd (ownsRow_old HO6.out hBr)).at j hjl
              unfold st at hcd
              have HV1 : Hid (vw (allW g (j + 1)) = vw (allW g j) ++ [.int .i64 (j : Int), .string (sb (g j))]) := by (show _ = _); rw [allW_succ, vw_snoc]
              have HLL : Hid ((allW g (j + 1)).length = j + 1) := allW_len g (j + 1)
              have hvl := vw_len (allW g j)
              rw [hll] at hvl
              have hO' : wr.ownsRow w6.heap.size 41 2 (.slice a1 j c1) j (vw (allW g j)) := by
                have h := hO
                unfold OwW at h
                rw [hll] at h
                exact h
              clear hO
              obtain ⟨X, hX⟩ : ∃ X, X = vw (allW g j) := ⟨_, rfl⟩
              rw [← hX] at hO' HV1 hvl
              clear hX
              generalize sb (g j) = sx at *
              go_wp2_with (first | (refine wp_build rfl _ _ rfl (j : Int) sx rfl rfl ?_) | (at_builtin; refine wpList_append_own _ rfl _ _ 34 rfl w6.heap.size 41 i0 (.agg #[.int .i64 0, .string ⟨#[]⟩]) 2 24 Try.underlying34 hi0 hz0 hz1 hz2 rfl (by decide) _ _ _ rfl (World.ownsRow.alloc hO' _) ⟨wr.heap.size, 0, none⟩ 1 1 [.int .i64 (j : Int), .string sx] rfl rfl (two_cell _) (by intro u hu; simp at hu; rcases hu with rfl | rfl <;> rfl) (by unfold maxLen; omega) (by omega) (by simp; omega) ?_))
              intro v7 w7 hown hgrow _
              have HO7 : Hid (OwW w6.heap.size w7 v7 (allW g (j + 1))) := by
                (show World.ownsRow _ _ _ _ _ _ _)
                rw [HV1.out, HLL.out]
                exact hown
              have HB7 : Hid (Below w6.heap.size w6 w7) := (hBr.alloc hsz _).grown hgrow (by simp; omega) (fun q hq => (World.ownsRow.lt hO' q hq).1)
              clear hown hgrow hO' hBr HV1 HLL
              go_wp2
              go_roundw
              case rel => exact ⟨j + 1, by omega, by go_num, HO7.out, HB7.out⟩
              case measure => simp [intOf]; omega
            · have hjn : j = n0 := by omega
              have hjz : ¬ (j : Int) < (n0 : Int) := by omega
              have HKA : Hid _ := kept_all n0 S0 g hn40 HSB.out
              have HRq : Hid (RL w (fun j => (Value.slice au n0 cu).ownBlock = some j) p (Rdo.fresh n0 S0) wr) := HR6.out.old hBr
              have HOq : Hid (OwT w5.heap.size wr (.slice au n0 cu) n0 g) := ownsRow_old HO6.out hBr
              have HUq : Hid (∀ i, (Value.slice au n0 cu).ownBlock = some i → i < wr.heap.size) := fun i hi => (World.ownsRow.lt HOq.out i hi).2
              have hRW : RdW wr (.slice a1 j c1) (allW g n0) := by
                have := OwW.rd (B := w6.heap.size) (w := wr) (v := .slice a1 j c1) (l := allW g j) hO
                rw [hjn] at this ⊢
                exact this
              have P1 := rl_put HRq.out HUq.out (by simp [Rdo.fresh]) (.slice a1 j c1) (allW g n0) hRW
              rw [HKA.out.1, errV, if_pos rfl] at P1
              clear hO hBr hRW HR6 HO6 HL6 hjn hll
              go_wp2_with fail
              refine P1.mono ?_
              rintro e w8 ⟨rfl, hR8, hk8⟩
              have HO8 : Hid (OwT w5.heap.size w8 (.slice au n0 cu) n0 g) := ownsRow_but HOq.out hk8 (fun i hi q => q hi)
              have P2 := rl_sync hR8
              rw [HKA.out.2.1, errV, if_pos rfl] at P2
              clear P1 hR8 hk8 HRq HOq HUq
              go_wp2_with fail
              refine P2.mono ?_
              rintro e w9 ⟨rfl, hR9, hk9⟩
              have HO9 : Hid (OwT w5.heap.size w9 (.slice au n0 cu) n0 g) := ownsRow_but HO8.out hk9 (fun i hi q => q hi)
              have P3 := rl_put hR9 (fun i hi => (World.ownsRow.lt HO9.out i hi).2) (by rw [HKA.out.2.2.2.2.2.1]; simp) (.slice none 0 0) [] (.inl ⟨rfl, rfl⟩)
              rw [HKA.out.2.2.1, errV, if_pos rfl] at P3
              clear P2 hR9 hk9 HO8
              go_wp2_with fail
              refine P3.mono ?_
              rintro e w10 ⟨rfl, hR10, hk10⟩
              have HO10 : Hid (OwT w5.heap.size w10 (.slice au n0 cu) n0 g) := ownsRow_but HO9.out hk10 (fun i hi q => q hi)
              have P4 := rl_crash hR10 (fun i hi => (World.ownsRow.lt HO10.out i hi).2) (by rw [HKA.out.2.2.2.2.1]; simp) 0 (by omega) (by omega)
              clear P3 hR10 hk10 HO9
              go_wp2_with fail
              refine P4.mono ?_
              rintro e w11 ⟨rfl, hR11, hk11⟩
              have HO11 : Hid (OwT w5.heap.size w11 (.slice au n0 cu) n0 g) := ownsRow_but HO10.out hk11 (fun i hi q => q hi)
              rw [HKA.out.2.2.2.1] at hR11
              have HL11 : Hid (Below w.heap.size w w11) := hR11.low
              have P5 := rl_all hR11
              have hcells : (Rdo.mk n0 S0 [allW g n0] [] (logOf [allW g n0]).length (-1) false).cells = doR S0 (allW g n0) := rfl
              rw [hcells, do_all] at P5
              clear P4 hR11 hk11 HO10 hcells
              go_wp2_with fail
              refine P5.mono ?_
              rintro e w12 ⟨u12, rfl, hO12, hB12⟩
              have T := texts_any u12 (.slice au n0 cu) n0 n0 (fun i => if i < n0 then g i else S0 i) g w12 (OwT.rd hO12) (OwT.rd (ownsRow_old HO11.out hB12))
              rw [show sameL n0 n0 (fun i => if i < n0 then g i else S0 i) g = true from sameL_iff.2 ⟨rfl, fun i hi => if_pos hi⟩] at T
              have HL12 : Hid (Below w.heap.size w w12) := HL11.out.trans (hB12.mono HL11.out.size)
              clear P5 hO12 hB12 HL11 HO11
              go_wp2_with fail
              refine T.mono ?_
              rintro e w13 ⟨rfl, hB13⟩
              have HL13 : Hid (Below w.heap.size w w13) := HL12.out.trans (hB13.mono HL12.out.size)
              clear T hB13 HL12
              go_wp2
              go_ret
              exact ⟨rfl, HL13.out⟩
    · have hkz : ¬ (k : Int) < (n2 : Int) := by omega
      have Fl := cflush_all HT.out.mc fl
      by_cases hfl : fl < 0
      · have e1 : Che.flushE fl = 1 := if_pos hfl
        rw [e1, errV, if_neg (by omega)] at Fl
        clear e1
        go_wp2_with fail
        refine Fl.mono ?_
        rintro e w5 ⟨vf, rfl, _, _, hM5, hb5⟩
        have HL5 : Hid (Below w.heap.size w w5) := HT.out.low.trans (hb5.below HT.out.low.size HT.out.mc.low)
        clear Fl hM5 hb5 HT
        go_wp2
        go_ret
        exact ⟨by first | rfl | simp [hfl], HL5.out⟩
      · have e1 : Che.flushE fl = 0 := if_neg hfl
        rw [e1, errV, if_pos rfl] at Fl
        have hnf : (c.flushI fl).n = c.n := by unfold Che.flushI; split <;> rfl
        clear e1
        go_wp2_with fail
        refine Fl.mono ?_
        rintro e w5 ⟨vf, rfl, _, _, hM5, hb5⟩
        have HT5 : Hid (TX w x p n0 S0 (c.flushI fl) (2 * k) w5) := HT.out.on hM5 hb5 hnf
        clear Fl hM5 hb5 HT hnf
        generalize c.flushI fl = c5 at *
        have Bl := cbelows_any HT5.out.mc
        rw [HT5.out.hn] at Bl
        go_wp2_with fail
        refine Bl.mono ?_
        rintro e w6 ⟨u6, rfl, hO6, hB6⟩
        obtain ⟨au, cu, rfl⟩ := OwT.len hO6
        have HT6 : Hid (TX w x p n0 S0 c5 (2 * k) w6) := HT5.out.old hB6
        have HO6 : Hid (OwT w5.heap.size w6 (.slice au n0 cu) n0 c5.below) := hO6
        have HR6 : Hid (RL w (fun j => (Value.slice au n0 cu).ownBlock = some j) p (Rdo.fresh n0 S0) w6) := by
          have := HT5.out.rl.more (V := fun j => (Value.slice au n0 cu).ownBlock = some j) (fun j hj => .inr (World.ownsRow.lt hO6 j hj).1)
          exact this.old hB6
        have hsb : ∀ i, i < n0 → (c5.below i).length ≤ 16 := fun i hi => HT6.out.mc.ok.sb i (by rw [HT6.out.hn]; exact hi)
        have HSB : Hid (∀ i, i < n0 → (c5.below i).length ≤ 16) := hsb
        have HL6 : Hid (Below w.heap.size w w6) := HT6.out.low
        clear Bl hO6 hB6 HT5 hsb HT6
        generalize c5.below = g at *
        obtain ⟨i0, hi0, hz0, hz1, hz2⟩ := info_parts infoW
        go_wp2
        go_loopw [16, 17] (fun o cc wq => ∃ j : Nat, j ≤ n0 ∧ cc = .int .i64 j ∧ OwW w6.heap.size wq o (allW g j) ∧ Below w6.heap.size w6 wq) (fun _ cc _ => n0 - (intOf cc).toNat)
        case atStart => exact ⟨0, Nat.zero_le _, rfl, World.ownsRow_nil _ _ _ _, Below.refl _ _⟩
        case round =>
          obtain ⟨j, hj, rfl, hO, hBr⟩ := hrel
          have hsz := hBr.size
          obtain ⟨a1, c1, rfl⟩ := OwW.len hO
          have hll := allW_len g j
          rw [hll] at hO ⊢
          by_cases hjl : j < n0
          · have hjz : (j : Int) < (n0 : Int) := by omega
            have hj4 : (j : Int) < 40 := by omega
            obtain ⟨d, rfl, hcd⟩ := (OwT.rd (ownsRow_old HO6.out hBr)).at j hjl
            unfold st at hcd
            have HV1 : Hid (vw (allW g (j + 1)) = vw (allW g j) ++ [.int .i64 (j : Int), .string (sb (g j))]) := by (show _ = _); rw [allW_succ, vw_snoc]
            have HLL : Hid ((allW g (j + 1)).length = j + 1) := allW_len g (j + 1)
            have hvl := vw_len (allW g j)
            rw [hll] at hvl
            have hO' : wr.ownsRow w6.heap.size 41 2 (.slice a1 j c1) j (vw (allW g j)) := by
              have h := hO
              unfold OwW at h
              rw [hll] at h
              exact h
            clear hO
            obtain ⟨X, hX⟩ : ∃ X, X = vw (allW g j) := ⟨_, rfl⟩
            rw [← hX] at hO' HV1 hvl
            clear hX
            generalize sb (g j) = sx at *
            go_wp2_with (first | (refine wp_build rfl _ _ rfl (j : Int) sx rfl rfl ?_) | (at_builtin; refine wpList_append_own _ rfl _ _ 34 rfl w6.heap.size 41 i0 (.agg #[.int .i64 0, .string ⟨#[]⟩]) 2 24 Try.underlying34 hi0 hz0 hz1 hz2 rfl (by decide) _ _ _ rfl (World.ownsRow.alloc hO' _) ⟨wr.heap.size, 0, none⟩ 1 1 [.int .i64 (j : Int), .string sx] rfl rfl (two_cell _) (by intro u hu; simp at hu; rcases hu with rfl | rfl <;> rfl) (by unfold maxLen; omega) (by omega) (by simp; omega) ?_))
            intro v7 w7 hown hgrow _
            have HO7 : Hid (OwW w6.heap.size w7 v7 (allW g (j + 1))) := by
              (show World.ownsRow _ _ _ _ _ _ _)
              rw [HV1.out, HLL.out]
              exact hown
            have HB7 : Hid (Below w6.heap.size w6 w7) := (hBr.alloc hsz _).grown hgrow (by simp; omega) (fun q hq => (World.ownsRow.lt hO' q hq).1)
            clear hown hgrow hO' hBr HV1 HLL
            go_wp2
            go_roundw
            case rel => exact ⟨j + 1, by omega, by go_num, HO7.out, HB7.out⟩
            case measure => simp [intOf]; omega
          · have hjn : j = n0 := by omega
            have hjz : ¬ (j : Int) < (n0 : Int) := by omega
            have HKA : Hid _ := kept_all n0 S0 g hn40 HSB.out
            have HRq : Hid (RL w (fun j => (Value.slice au n0 cu).ownBlock = some j) p (Rdo.fresh n0 S0) wr) := HR6.out.old hBr
            have HOq : Hid (OwT w5.heap.size wr (.slice au n0 cu) n0 g) := ownsRow_old HO6.out hBr
            have HUq : Hid (∀ i, (Value.slice au n0 cu).ownBlock = some i → i < wr.heap.size) := fun i hi => (World.ownsRow.lt HOq.out i hi).2
            have hRW : RdW wr (.slice a1 j c1) (allW g n0) := by
              have := OwW.rd (B := w6.heap.size) (w := wr) (v := .slice a1 j c1) (l := allW g j) hO
              rw [hjn] at this ⊢
              exact this
            have P1 := rl_put HRq.out HUq.out (by simp [Rdo.fresh]) (.slice a1 j c1) (allW g n0) hRW
            rw [HKA.out.1, errV, if_pos rfl] at P1
            clear hO hBr hRW HR6 HO6 HL6 hjn hll
            go_wp2_with fail
            refine P1.mono ?_
            rintro e w8 ⟨rfl, hR8, hk8⟩
            have HO8 : Hid (OwT w5.heap.size w8 (.slice au n0 cu) n0 g) := ownsRow_but HOq.out hk8 (fun i hi q => q hi)
            have P2 := rl_sync hR8
            rw [HKA.out.2.1, errV, if_pos rfl] at P2
            clear P1 hR8 hk8 HRq HOq HUq
            go_wp2_with fail
            refine P2.mono ?_
            rintro e w9 ⟨rfl, hR9, hk9⟩
            have HO9 : Hid (OwT w5.heap.size w9 (.slice au n0 cu) n0 g) := ownsRow_but HO8.out hk9 (fun i hi q => q hi)
            have P3 := rl_put hR9 (fun i hi => (World.ownsRow.lt HO9.out i hi).2) (by rw [HKA.out.2.2.2.2.2.1]; simp) (.slice none 0 0) [] (.inl ⟨rfl, rfl⟩)
            rw [HKA.out.2.2.1, errV, if_pos rfl] at P3
            clear P2 hR9 hk9 HO8
            go_wp2_with fail
            refine P3.mono ?_
            rintro e w10 ⟨rfl, hR10, hk10⟩
            have HO10 : Hid (OwT w5.heap.size w10 (.slice au n0 cu) n0 g) := ownsRow_but HO9.out hk10 (fun i hi q => q hi)
            have P4 := rl_crash hR10 (fun i hi => (World.ownsRow.lt HO10.out i hi).2) (by rw [HKA.out.2.2.2.2.1]; simp) 0 (by omega) (by omega)
            clear P3 hR10 hk10 HO9
            go_wp2_with fail
            refine P4.mono ?_
            rintro e w11 ⟨rfl, hR11, hk11⟩
            have HO11 : Hid (OwT w5.heap.size w11 (.slice au n0 cu) n0 g) := ownsRow_but HO10.out hk11 (fun i hi q => q hi)
            rw [HKA.out.2.2.2.1] at hR11
            have HL11 : Hid (Below w.heap.size w w11) := hR11.low
            have P5 := rl_all hR11
            have hcells : (Rdo.mk n0 S0 [allW g n0] [] (logOf [allW g n0]).length (-1) false).cells = doR S0 (allW g n0) := rfl
            rw [hcells, do_all] at P5
            clear P4 hR11 hk11 HO10 hcells
            go_wp2_with fail
            refine P5.mono ?_
            rintro e w12 ⟨u12, rfl, hO12, hB12⟩
            have T := texts_any u12 (.slice au n0 cu) n0 n0 (fun i => if i < n0 then g i else S0 i) g w12 (OwT.rd hO12) (OwT.rd (ownsRow_old HO11.out hB12))
            rw [show sameL n0 n0 (fun i => if i < n0 then g i else S0 i) g = true from sameL_iff.2 ⟨rfl, fun i hi => if_pos hi⟩] at T
            have HL12 : Hid (Below w.heap.size w w12) := HL11.out.trans (hB12.mono HL11.out.size)
            clear P5 hO12 hB12 HL11 HO11
            go_wp2_with fail
            refine T.mono ?_
            rintro e w13 ⟨rfl, hB13⟩
            have HL13 : Hid (Below w.heap.size w w13) := HL12.out.trans (hB13.mono HL12.out.size)
            clear T hB13 HL12
            go_wp2
            go_ret
            exact ⟨rfl, HL13.out⟩
theorem later_any (a0 a2 : Option Addr) (n0 c0 n2 c2 : Nat) (S0 : Nat → List El) (l : List Wr) (room fl : Int) (w : World) (r0 : RdT w (.slice a0 n0 c0) n0 S0) (r2 : RdW w (.slice a2 n2 c2) l) (e2 : n2 = l.length) :
    Calls Try.prog 4 #[.slice a0 n0 c0, .int .i64 room, .slice a2 n2 c2, .int .i64 fl] w fun e w' => e = .returned (.bool true) ∧ Below w.heap.size w w' := by
  by_cases he : chE n0 S0 room = 0
  · obtain ⟨h1, R, rfl, h2, h3⟩ := chE_ok he
    exact later_ok a0 a2 n0 c0 R n2 c2 S0 l fl w r0 r2 e2 h1 h2 h3
  · exact later_bad a0 a2 n0 c0 n2 c2 S0 room fl w r0 he
end Go.Proofs.Ytfeikmmojilmbaa
