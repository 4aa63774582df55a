/- What the document's Unpack answers: walks over the program. -/
import Derived.Test.YtdbanimlnjhhlaaDoorWdP
import Derived.Test.YtdbanimlnjhhlaaDoorWdR
import Derived.Test.YtdbanimlnjhhlaaDoorWrV
namespace Go.Proofs.YtdbanimlnjhhlaaDoor
open Go.ChangeShapes Go.WideShapes Go.ChangeAt Go.RowKit El Pol
theorem wpt_ext (t : List El) (i : Nat) : (sb t).extract (3 + i * wsize t) (3 + (i + 1) * wsize t) = sb (wpt t i) := by
  rw [sb_extract, wpt, List.drop_take, Nat.add_mul, Nat.one_mul]
  congr 2
  omega
set_option maxHeartbeats 1000000 in
theorem dunpack_short (t : List El) (w : World) (h : t.length < 5) :
    Calls Tryd.prog 22 #[st t] w fun e w' => e = .returned (.tuple #[.int .i64 0, .slice none 0 0, .bool false]) ∧ Below w.heap.size w w' := by
  have hs := sb_size t
  have h' : ((sb t).size : Int) < 5 := by omega
  unfold st
  generalize sb t = s at *
  clear h hs
  go_enter Tryd.func22, Tryd.ntmps22
  go_wp2
  go_ret3
  exact ⟨rfl, Below.refl _ _⟩
set_option maxHeartbeats 1000000 in
theorem dunpack_length (t : List El) (w : World) (h5 : 5 ≤ t.length) (hl : t.length ≠ 5 + wmany t * wsize t) :
    Calls Tryd.prog 22 #[st t] w fun e w' => e = .returned (.tuple #[.int .i64 0, .slice none 0 0, .bool false]) ∧ Below w.heap.size w w' := by
  have hs := sb_size t
  have k0 : ∀ h : 0 < (sb t).size, ((sb t)[0]'h).toNat = wrow t := fun h => sb_at t 0 h
  have k1 : ∀ h : 1 < (sb t).size, ((sb t)[1]'h).toNat = wmany t := fun h => sb_at t 1 h
  have k2 : ∀ h : 2 < (sb t).size, ((sb t)[2]'h).toNat = wsize t := fun h => sb_at t 2 h
  have r0 : wrow t < 256 := (t.getD 0 0).isLt
  have r1 : wmany t < 256 := (t.getD 1 0).isLt
  have r2 : wsize t < 256 := (t.getD 2 0).isLt
  have i0 : 0 < (sb t).size := by omega
  have i1 : 1 < (sb t).size := by omega
  have i2 : 2 < (sb t).size := by omega
  have hp : wmany t * wsize t ≤ 255 * 255 := Nat.mul_le_mul (by omega) (by omega)
  have hpi : (wmany t : Int) * (wsize t : Int) = ((wmany t * wsize t : Nat) : Int) := by simp
  unfold st
  generalize sb t = s at *
  generalize wrow t = r at *
  generalize wmany t = c at *
  generalize wsize t = z at *
  generalize c * z = L at *
  generalize t.length = l at *
  have k0 := k0 i0
  have k1 := k1 i1
  have k2 := k2 i2
  have h5' : ¬ (l : Int) < 5 := by omega
  have hne : ((l : Int) != 5 + (L : Int)) = true := by rw [bne_iff_ne]; omega
  clear hl h5
  go_enter Tryd.func22, Tryd.ntmps22
  go_wp2
  go_ret3
  exact ⟨rfl, Below.refl _ _⟩
set_option maxHeartbeats 1000000 in
theorem dunpack_zero (t : List El) (w : World) (h5 : 5 ≤ t.length) (hl : t.length = 5 + wmany t * wsize t) (hc : wmany t = 0) (hz : wsize t ≠ 0) :
    Calls Tryd.prog 22 #[st t] w fun e w' => e = .returned (.tuple #[.int .i64 0, .slice none 0 0, .bool false]) ∧ Below w.heap.size w w' := by
  have hs := sb_size t
  have k0 : ∀ h : 0 < (sb t).size, ((sb t)[0]'h).toNat = wrow t := fun h => sb_at t 0 h
  have k1 : ∀ h : 1 < (sb t).size, ((sb t)[1]'h).toNat = wmany t := fun h => sb_at t 1 h
  have k2 : ∀ h : 2 < (sb t).size, ((sb t)[2]'h).toNat = wsize t := fun h => sb_at t 2 h
  have r0 : wrow t < 256 := (t.getD 0 0).isLt
  have r1 : wmany t < 256 := (t.getD 1 0).isLt
  have r2 : wsize t < 256 := (t.getD 2 0).isLt
  have i0 : 0 < (sb t).size := by omega
  have i1 : 1 < (sb t).size := by omega
  have i2 : 2 < (sb t).size := by omega
  have hp : wmany t * wsize t ≤ 255 * 255 := Nat.mul_le_mul (by omega) (by omega)
  have hpi : (wmany t : Int) * (wsize t : Int) = ((wmany t * wsize t : Nat) : Int) := by simp
  unfold st
  rw [hc] at k1 hpi hl
  rw [Nat.zero_mul] at hl
  have hz' : ((wsize t : Int) != 0) = true := by rw [bne_iff_ne]; omega
  have hpi : (0 : Int) * (wsize t : Int) = 0 := by omega
  generalize sb t = s at *
  generalize wrow t = r at *
  generalize wsize t = z at *
  generalize t.length = l at *
  have k0 := k0 i0
  have k1 := k1 i1
  have k2 := k2 i2
  have h5' : ¬ (l : Int) < 5 := by omega
  have hne : ((l : Int) != 5) = false := by rw [bne_eq_false_iff_eq]; omega
  clear hl h5 hp hc hz
  go_enter Tryd.func22, Tryd.ntmps22
  go_wp2
  go_ret3
  exact ⟨rfl, Below.refl _ _⟩
set_option maxHeartbeats 4000000 in
set_option maxRecDepth 100000 in
theorem dunpack_long (t : List El) (w : World) (h5 : 5 ≤ t.length) (hl : t.length = 5 + wmany t * wsize t) (hzz : ¬ (wmany t = 0 ∧ wsize t ≠ 0)) :
    Calls Tryd.prog 22 #[st t] w fun e w' => ∃ u, e = .returned (.tuple #[.int .i64 ((cnt (wUE t) (wrow t) : Nat) : Int), u, .bool (decide (wUE t = 0))]) ∧ RdT w' u (cnt (wUE t) (wmany t)) (wpt t) ∧ Below w.heap.size w w' := by
  have hs := sb_size t
  have k0 : ∀ h : 0 < (sb t).size, ((sb t)[0]'h).toNat = wrow t := fun h => sb_at t 0 h
  have k1 : ∀ h : 1 < (sb t).size, ((sb t)[1]'h).toNat = wmany t := fun h => sb_at t 1 h
  have k2 : ∀ h : 2 < (sb t).size, ((sb t)[2]'h).toNat = wsize t := fun h => sb_at t 2 h
  have r0 : wrow t < 256 := (t.getD 0 0).isLt
  have r1 : wmany t < 256 := (t.getD 1 0).isLt
  have r2 : wsize t < 256 := (t.getD 2 0).isLt
  have i0 : 0 < (sb t).size := by omega
  have i1 : 1 < (sb t).size := by omega
  have i2 : 2 < (sb t).size := by omega
  have hp : wmany t * wsize t ≤ 255 * 255 := Nat.mul_le_mul (by omega) (by omega)
  have hpi : (wmany t : Int) * (wsize t : Int) = ((wmany t * wsize t : Nat) : Int) := by simp
  have HX : Hid (∀ i, (sb t).extract (3 + i * wsize t) (3 + (i + 1) * wsize t) = sb (wpt t i)) := wpt_ext t
  have HQ : Hid ((((wmany t : Int) == 0) = false) ∨ (((wmany t : Int) == 0) = true ∧ ((wsize t : Int) != 0) = false)) := by
    by_cases q : wmany t = 0
    · have : wsize t = 0 := Classical.byContradiction (fun z => hzz ⟨q, z⟩)
      exact .inr ⟨by rw [q]; rfl, by rw [this]; rfl⟩
    · exact .inl (by rw [beq_eq_false_iff_ne]; omega)
  have HR : Hid (∀ u w1, RdT w1 u (wmany t) (wpt t) → Calls Tryd.prog 19 #[.int .i64 (wrow t : Int), u] w1 fun e w' => e = .returned (.int .i64 ((wE (wrow t : Int) (wmany t) (wpt t) : Nat) : Int)) ∧ Below w1.heap.size w1 w') := fun u w1 h => drow_any _ u _ _ w1 h
  have hss := sb_same (wP (wrow t : Int) (wmany t) (wpt t)) t
  clear hzz
  by_cases hu : WUn t
  · have HP : Hid (∀ u w1, RdT w1 u (wmany t) (wpt t) → Calls Tryd.prog 20 #[.int .i64 (wrow t : Int), u] w1 fun e w' => e = .returned (.string (sb (wP (wrow t : Int) (wmany t) (wpt t)))) ∧ Below w1.heap.size w1 w') := fun u w1 h => by
      rw [wP_of (wun_ok hu)]
      exact dpack_ok _ _ u _ w1 h (wun_ok hu)
    have e1 := wE_ok (wun_ok hu)
    have e2 : wP (wrow t : Int) (wmany t) (wpt t) = t := by rw [wP_of (wun_ok hu), wun_pack hu]
    rw [wUE_ok hu]
    rw [decide_eq_true e2] at hss
    rw [e1] at HR
    rw [show ((0 : Nat) : Int) = 0 from rfl] at HR
    rw [show cnt 0 (wrow t) = wrow t from rfl, show cnt 0 (wmany t) = wmany t from rfl]
    clear e2 e1
    unfold st
    clear hu
    generalize sb (wP (wrow t : Int) (wmany t) (wpt t)) = s2 at *
    generalize wpt t = pt at *
    generalize sb t = s at *
    generalize wrow t = r at *
    generalize wmany t = c at *
    generalize wsize t = z at *
    have hLL : ∀ k, k < c → 3 + (k + 1) * z ≤ t.length := fun k hk => by
      have : (k + 1) * z ≤ c * z := Nat.mul_le_mul_right _ hk
      omega
    have HLL : Hid (∀ k, k < c → 3 + (k + 1) * z ≤ t.length) := hLL
    clear hLL
    generalize c * z = L at *
    generalize t.length = l at *
    have k0 := k0 i0
    have k1 := k1 i1
    have k2 := k2 i2
    have hne : ((l : Int) != 5 + (L : Int)) = false := by rw [bne_eq_false_iff_eq]; omega
    have hlm : l ≤ 70000 := by omega
    have h5' : ¬ (l : Int) < 5 := by omega
    clear hl h5
    obtain ⟨j0, hj, hy0, hy1, hy2⟩ := info_parts infoT
    rcases HQ.out with hq1 | ⟨hq1, hq2⟩
    ·
      clear HQ
      go_enter Tryd.func22, Tryd.ntmps22
      go_wp2
      go_loopw [7, 8] (fun o q wr => ∃ k : Nat, k ≤ c ∧ q = .int .i64 k ∧ OwT w.heap.size wr o k pt ∧ Below w.heap.size w wr) (fun _ q _ => c - (intOf q).toNat)
      case atStart => exact ⟨0, Nat.zero_le _, rfl, World.ownsRow_nil _ _ _ _, Below.refl _ _⟩
      case round =>
        clear hpi hne
        obtain ⟨k, hk, rfl, hO, hB⟩ := hrel
        obtain ⟨a1, c1, rfl⟩ := OwT.len hO
        have hsz := hB.size
        by_cases hlt : k < c
        · have g1 := HLL.out k hlt
          have g2 : (k + 1) * z = k * z + z := by rw [Nat.add_mul, Nat.one_mul]
          have m1 : (k : Int) * (z : Int) = ((k * z : Nat) : Int) := by simp
          have m2 : ((k : Int) + 1) * (z : Int) = (((k + 1) * z : Nat) : Int) := by simp
          have hx := HX.out k
          obtain ⟨lo, hlo⟩ : ∃ lo, lo = k * z := ⟨_, rfl⟩
          obtain ⟨hi, hhi⟩ : ∃ hi, hi = (k + 1) * z := ⟨_, rfl⟩
          rw [← hlo] at g2 m1 hx
          rw [← hhi] at g1 g2 m2 hx
          have i3 : lo ≤ hi := by omega
          have i4 : hi ≤ 70000 := by omega
          have HXX : Hid (s.extract (3 + lo) (3 + hi) = sb (pt k)) := hx
          have i5 : 3 + lo ≤ 3 + hi := by omega
          have i6 : (3 : Int) + (lo : Int) ≤ 3 + (hi : Int) := by omega
          have i7 : (3 : Int) + (hi : Int) ≤ (l : Int) := by omega
          have i8 : (0 : Int) ≤ 3 + (lo : Int) := by omega
          have i9 : (0 : Int) ≤ 3 + (hi : Int) := by omega
          have hll : ((List.range k).map (fun i => st (pt i))).length = k := by simp
          clear hx hlo hhi g2
          obtain ⟨ys, hys⟩ : ∃ ys, ys = (List.range k).map (fun i => st (pt i)) := ⟨_, rfl⟩
          have HYS : Hid (ys = (List.range k).map (fun i => st (pt i))) := hys
          have hO2 : wr.ownsRow w.heap.size 9 1 (.slice a1 k c1) k ys := by rw [hys]; exact hO
          rw [← hys] at hll
          clear hys hO
          generalize hes : s.extract (3 + lo) (3 + hi) = es at *
          go_wp2_with (first | (at_builtin; refine wpList_append_own _ rfl _ _ 33 rfl w.heap.size 9 j0 (.string ⟨#[]⟩) 1 16 Tryd.underlying33 hj hy0 hy1 hy2 rfl (by decide) _ _ _ rfl (World.ownsRow.alloc hO2 _) ⟨wr.heap.size, 0, none⟩ 1 1 [.string es] rfl rfl (one_cell _) (by intro u hu; simp at hu; subst hu; rfl) (by unfold maxLen; omega) (by omega) (by simp; omega) ?_))
          intro v' w3 hown hgrow _
          have HO3 : Hid (OwT w.heap.size w3 v' (k + 1) pt) := by
            rw [HYS.out] at hown
            exact OwT.snoc hown (by rw [HXX.out])
          have hB3 : Below w.heap.size w w3 := (hB.alloc hsz _).grown hgrow (by simp; omega) (fun g hg => (World.ownsRow.lt hO2 g hg).1)
          clear hown hgrow hO2 HYS HXX hes m1 m2 i3 i4 i5 i6 i7 i8 i9 g1 hB
          go_wp2
          go_roundw
          case rel => exact ⟨k + 1, by omega, by go_num, HO3.out, hB3⟩
          case measure => simp [intOf]; omega
        · have e : k = c := by omega
          subst e
          have hkc : ¬ (k : Int) < (k : Int) := by omega
          have P := HR.out (.slice a1 k c1) wr hO.rd
          have HO : Hid (OwT w.heap.size wr (.slice a1 k c1) k pt) := hO
          have HB : Hid (Below w.heap.size w wr) := hB
          clear HR HX HLL hO hB k1 k2
          go_wp2_with fail
          refine P.mono ?_
          rintro e w4 ⟨rfl, hB4⟩
          have HB4 : Hid (Below w.heap.size w w4) := HB.out.trans (hB4.mono HB.out.size)
          have HO4 : Hid (OwT w.heap.size w4 (.slice a1 k c1) k pt) := ownsRow_old HO.out hB4
          clear P hB4 HO HB k0
          have K := HP.out (.slice a1 k c1) w4 HO4.out.rd
          clear HP
          go_wp2_with fail
          refine K.mono ?_
          rintro e w5 ⟨rfl, hB5⟩
          have HB5 : Hid (Below w.heap.size w w5) := HB4.out.trans (hB5.mono HB4.out.size)
          have HO5 : Hid (OwT w.heap.size w5 (.slice a1 k c1) k pt) := ownsRow_old HO4.out hB5
          clear K hB5 HO4 HB4
          go_wp2
          go_ret3
          exact ⟨_, rfl, HO5.out.rd, HB5.out⟩
    ·
      clear HQ
      go_enter Tryd.func22, Tryd.ntmps22
      go_wp2
      go_loopw [7, 8] (fun o q wr => ∃ k : Nat, k ≤ c ∧ q = .int .i64 k ∧ OwT w.heap.size wr o k pt ∧ Below w.heap.size w wr) (fun _ q _ => c - (intOf q).toNat)
      case atStart => exact ⟨0, Nat.zero_le _, rfl, World.ownsRow_nil _ _ _ _, Below.refl _ _⟩
      case round =>
        clear hpi hne
        obtain ⟨k, hk, rfl, hO, hB⟩ := hrel
        obtain ⟨a1, c1, rfl⟩ := OwT.len hO
        have hsz := hB.size
        by_cases hlt : k < c
        · have g1 := HLL.out k hlt
          have g2 : (k + 1) * z = k * z + z := by rw [Nat.add_mul, Nat.one_mul]
          have m1 : (k : Int) * (z : Int) = ((k * z : Nat) : Int) := by simp
          have m2 : ((k : Int) + 1) * (z : Int) = (((k + 1) * z : Nat) : Int) := by simp
          have hx := HX.out k
          obtain ⟨lo, hlo⟩ : ∃ lo, lo = k * z := ⟨_, rfl⟩
          obtain ⟨hi, hhi⟩ : ∃ hi, hi = (k + 1) * z := ⟨_, rfl⟩
          rw [← hlo] at g2 m1 hx
          rw [← hhi] at g1 g2 m2 hx
          have i3 : lo ≤ hi := by omega
          have i4 : hi ≤ 70000 := by omega
          have HXX : Hid (s.extract (3 + lo) (3 + hi) = sb (pt k)) := hx
          have i5 : 3 + lo ≤ 3 + hi := by omega
          have i6 : (3 : Int) + (lo : Int) ≤ 3 + (hi : Int) := by omega
          have i7 : (3 : Int) + (hi : Int) ≤ (l : Int) := by omega
          have i8 : (0 : Int) ≤ 3 + (lo : Int) := by omega
          have i9 : (0 : Int) ≤ 3 + (hi : Int) := by omega
          have hll : ((List.range k).map (fun i => st (pt i))).length = k := by simp
          clear hx hlo hhi g2
          obtain ⟨ys, hys⟩ : ∃ ys, ys = (List.range k).map (fun i => st (pt i)) := ⟨_, rfl⟩
          have HYS : Hid (ys = (List.range k).map (fun i => st (pt i))) := hys
          have hO2 : wr.ownsRow w.heap.size 9 1 (.slice a1 k c1) k ys := by rw [hys]; exact hO
          rw [← hys] at hll
          clear hys hO
          generalize hes : s.extract (3 + lo) (3 + hi) = es at *
          go_wp2_with (first | (at_builtin; refine wpList_append_own _ rfl _ _ 33 rfl w.heap.size 9 j0 (.string ⟨#[]⟩) 1 16 Tryd.underlying33 hj hy0 hy1 hy2 rfl (by decide) _ _ _ rfl (World.ownsRow.alloc hO2 _) ⟨wr.heap.size, 0, none⟩ 1 1 [.string es] rfl rfl (one_cell _) (by intro u hu; simp at hu; subst hu; rfl) (by unfold maxLen; omega) (by omega) (by simp; omega) ?_))
          intro v' w3 hown hgrow _
          have HO3 : Hid (OwT w.heap.size w3 v' (k + 1) pt) := by
            rw [HYS.out] at hown
            exact OwT.snoc hown (by rw [HXX.out])
          have hB3 : Below w.heap.size w w3 := (hB.alloc hsz _).grown hgrow (by simp; omega) (fun g hg => (World.ownsRow.lt hO2 g hg).1)
          clear hown hgrow hO2 HYS HXX hes m1 m2 i3 i4 i5 i6 i7 i8 i9 g1 hB
          go_wp2
          go_roundw
          case rel => exact ⟨k + 1, by omega, by go_num, HO3.out, hB3⟩
          case measure => simp [intOf]; omega
        · have e : k = c := by omega
          subst e
          have hkc : ¬ (k : Int) < (k : Int) := by omega
          have P := HR.out (.slice a1 k c1) wr hO.rd
          have HO : Hid (OwT w.heap.size wr (.slice a1 k c1) k pt) := hO
          have HB : Hid (Below w.heap.size w wr) := hB
          clear HR HX HLL hO hB k1 k2
          go_wp2_with fail
          refine P.mono ?_
          rintro e w4 ⟨rfl, hB4⟩
          have HB4 : Hid (Below w.heap.size w w4) := HB.out.trans (hB4.mono HB.out.size)
          have HO4 : Hid (OwT w.heap.size w4 (.slice a1 k c1) k pt) := ownsRow_old HO.out hB4
          clear P hB4 HO HB k0
          have K := HP.out (.slice a1 k c1) w4 HO4.out.rd
          clear HP
          go_wp2_with fail
          refine K.mono ?_
          rintro e w5 ⟨rfl, hB5⟩
          have HB5 : Hid (Below w.heap.size w w5) := HB4.out.trans (hB5.mono HB4.out.size)
          have HO5 : Hid (OwT w.heap.size w5 (.slice a1 k c1) k pt) := ownsRow_old HO4.out hB5
          clear K hB5 HO4 HB4
          go_wp2
          go_ret3
          exact ⟨_, rfl, HO5.out.rd, HB5.out⟩
  · rw [wUE_bad hu]
    rw [show cnt 2 (wrow t) = 0 from rfl, show cnt 2 (wmany t) = 0 from rfl]
    by_cases e1 : wE (wrow t : Int) (wmany t) (wpt t) = 0
    · obtain ⟨r', hr', ho⟩ := wok_of e1
      have er : r' = wrow t := by omega
      subst er
      have HP : Hid (∀ u w1, RdT w1 u (wmany t) (wpt t) → Calls Tryd.prog 20 #[.int .i64 (wrow t : Int), u] w1 fun e w' => e = .returned (.string (sb (wP (wrow t : Int) (wmany t) (wpt t)))) ∧ Below w1.heap.size w1 w') := fun u w1 h => by
        rw [wP_of ho]
        exact dpack_ok _ _ u _ w1 h ho
      have e2 : wP (wrow t : Int) (wmany t) (wpt t) ≠ t := fun q => hu (wun_of e1 (by rw [wP_ok e1] at q; exact q))
      rw [decide_eq_false e2] at hss
      rw [e1] at HR
      rw [show ((0 : Nat) : Int) = 0 from rfl] at HR
      clear e2 e1 ho hr'
      unfold st
      clear hu
      generalize sb (wP (wrow t : Int) (wmany t) (wpt t)) = s2 at *
      generalize wpt t = pt at *
      generalize sb t = s at *
      generalize wrow t = r at *
      generalize wmany t = c at *
      generalize wsize t = z at *
      have hLL : ∀ k, k < c → 3 + (k + 1) * z ≤ t.length := fun k hk => by
        have : (k + 1) * z ≤ c * z := Nat.mul_le_mul_right _ hk
        omega
      have HLL : Hid (∀ k, k < c → 3 + (k + 1) * z ≤ t.length) := hLL
      clear hLL
      generalize c * z = L at *
      generalize t.length = l at *
      have k0 := k0 i0
      have k1 := k1 i1
      have k2 := k2 i2
      have hne : ((l : Int) != 5 + (L : Int)) = false := by rw [bne_eq_false_iff_eq]; omega
      have hlm : l ≤ 70000 := by omega
      have h5' : ¬ (l : Int) < 5 := by omega
      clear hl h5
      obtain ⟨j0, hj, hy0, hy1, hy2⟩ := info_parts infoT
      rcases HQ.out with hq1 | ⟨hq1, hq2⟩
      ·
        clear HQ
        go_enter Tryd.func22, Tryd.ntmps22
        go_wp2
        go_loopw [7, 8] (fun o q wr => ∃ k : Nat, k ≤ c ∧ q = .int .i64 k ∧ OwT w.heap.size wr o k pt ∧ Below w.heap.size w wr) (fun _ q _ => c - (intOf q).toNat)
        case atStart => exact ⟨0, Nat.zero_le _, rfl, World.ownsRow_nil _ _ _ _, Below.refl _ _⟩
        case round =>
          clear hpi hne
          obtain ⟨k, hk, rfl, hO, hB⟩ := hrel
          obtain ⟨a1, c1, rfl⟩ := OwT.len hO
          have hsz := hB.size
          by_cases hlt : k < c
          · have g1 := HLL.out k hlt
            have g2 : (k + 1) * z = k * z + z := by rw [Nat.add_mul, Nat.one_mul]
            have m1 : (k : Int) * (z : Int) = ((k * z : Nat) : Int) := by simp
            have m2 : ((k : Int) + 1) * (z : Int) = (((k + 1) * z : Nat) : Int) := by simp
            have hx := HX.out k
            obtain ⟨lo, hlo⟩ : ∃ lo, lo = k * z := ⟨_, rfl⟩
            obtain ⟨hi, hhi⟩ : ∃ hi, hi = (k + 1) * z := ⟨_, rfl⟩
            rw [← hlo] at g2 m1 hx
            rw [← hhi] at g1 g2 m2 hx
            have i3 : lo ≤ hi := by omega
            have i4 : hi ≤ 70000 := by omega
            have HXX : Hid (s.extract (3 + lo) (3 + hi) = sb (pt k)) := hx
            have i5 : 3 + lo ≤ 3 + hi := by omega
            have i6 : (3 : Int) + (lo : Int) ≤ 3 + (hi : Int) := by omega
            have i7 : (3 : Int) + (hi : Int) ≤ (l : Int) := by omega
            have i8 : (0 : Int) ≤ 3 + (lo : Int) := by omega
            have i9 : (0 : Int) ≤ 3 + (hi : Int) := by omega
            have hll : ((List.range k).map (fun i => st (pt i))).length = k := by simp
            clear hx hlo hhi g2
            obtain ⟨ys, hys⟩ : ∃ ys, ys = (List.range k).map (fun i => st (pt i)) := ⟨_, rfl⟩
            have HYS : Hid (ys = (List.range k).map (fun i => st (pt i))) := hys
            have hO2 : wr.ownsRow w.heap.size 9 1 (.slice a1 k c1) k ys := by rw [hys]; exact hO
            rw [← hys] at hll
            clear hys hO
            generalize hes : s.extract (3 + lo) (3 + hi) = es at *
            go_wp2_with (first | (at_builtin; refine wpList_append_own _ rfl _ _ 33 rfl w.heap.size 9 j0 (.string ⟨#[]⟩) 1 16 Tryd.underlying33 hj hy0 hy1 hy2 rfl (by decide) _ _ _ rfl (World.ownsRow.alloc hO2 _) ⟨wr.heap.size, 0, none⟩ 1 1 [.string es] rfl rfl (one_cell _) (by intro u hu; simp at hu; subst hu; rfl) (by unfold maxLen; omega) (by omega) (by simp; omega) ?_))
            intro v' w3 hown hgrow _
            have HO3 : Hid (OwT w.heap.size w3 v' (k + 1) pt) := by
              rw [HYS.out] at hown
              exact OwT.snoc hown (by rw [HXX.out])
            have hB3 : Below w.heap.size w w3 := (hB.alloc hsz _).grown hgrow (by simp; omega) (fun g hg => (World.ownsRow.lt hO2 g hg).1)
            clear hown hgrow hO2 HYS HXX hes m1 m2 i3 i4 i5 i6 i7 i8 i9 g1 hB
            go_wp2
            go_roundw
            case rel => exact ⟨k + 1, by omega, by go_num, HO3.out, hB3⟩
            case measure => simp [intOf]; omega
          · have e : k = c := by omega
            subst e
            have hkc : ¬ (k : Int) < (k : Int) := by omega
            have P := HR.out (.slice a1 k c1) wr hO.rd
            have HO : Hid (OwT w.heap.size wr (.slice a1 k c1) k pt) := hO
            have HB : Hid (Below w.heap.size w wr) := hB
            clear HR HX HLL hO hB k1 k2
            go_wp2_with fail
            refine P.mono ?_
            rintro e w4 ⟨rfl, hB4⟩
            have HB4 : Hid (Below w.heap.size w w4) := HB.out.trans (hB4.mono HB.out.size)
            have HO4 : Hid (OwT w.heap.size w4 (.slice a1 k c1) k pt) := ownsRow_old HO.out hB4
            clear P hB4 HO HB k0
            have K := HP.out (.slice a1 k c1) w4 HO4.out.rd
            clear HP
            go_wp2_with fail
            refine K.mono ?_
            rintro e w5 ⟨rfl, hB5⟩
            have HB5 : Hid (Below w.heap.size w w5) := HB4.out.trans (hB5.mono HB4.out.size)
            have HO5 : Hid (OwT w.heap.size w5 (.slice a1 k c1) k pt) := ownsRow_old HO4.out hB5
            clear K hB5 HO4 HB4
            go_wp2
            go_ret3
            exact ⟨_, rfl, rdf_none _ _, HB5.out⟩
      ·
        clear HQ
        go_enter Tryd.func22, Tryd.ntmps22
        go_wp2
        go_loopw [7, 8] (fun o q wr => ∃ k : Nat, k ≤ c ∧ q = .int .i64 k ∧ OwT w.heap.size wr o k pt ∧ Below w.heap.size w wr) (fun _ q _ => c - (intOf q).toNat)
        case atStart => exact ⟨0, Nat.zero_le _, rfl, World.ownsRow_nil _ _ _ _, Below.refl _ _⟩
        case round =>
          clear hpi hne
          obtain ⟨k, hk, rfl, hO, hB⟩ := hrel
          obtain ⟨a1, c1, rfl⟩ := OwT.len hO
          have hsz := hB.size
          by_cases hlt : k < c
          · have g1 := HLL.out k hlt
            have g2 : (k + 1) * z = k * z + z := by rw [Nat.add_mul, Nat.one_mul]
            have m1 : (k : Int) * (z : Int) = ((k * z : Nat) : Int) := by simp
            have m2 : ((k : Int) + 1) * (z : Int) = (((k + 1) * z : Nat) : Int) := by simp
            have hx := HX.out k
            obtain ⟨lo, hlo⟩ : ∃ lo, lo = k * z := ⟨_, rfl⟩
            obtain ⟨hi, hhi⟩ : ∃ hi, hi = (k + 1) * z := ⟨_, rfl⟩
            rw [← hlo] at g2 m1 hx
            rw [← hhi] at g1 g2 m2 hx
            have i3 : lo ≤ hi := by omega
            have i4 : hi ≤ 70000 := by omega
            have HXX : Hid (s.extract (3 + lo) (3 + hi) = sb (pt k)) := hx
            have i5 : 3 + lo ≤ 3 + hi := by omega
            have i6 : (3 : Int) + (lo : Int) ≤ 3 + (hi : Int) := by omega
            have i7 : (3 : Int) + (hi : Int) ≤ (l : Int) := by omega
            have i8 : (0 : Int) ≤ 3 + (lo : Int) := by omega
            have i9 : (0 : Int) ≤ 3 + (hi : Int) := by omega
            have hll : ((List.range k).map (fun i => st (pt i))).length = k := by simp
            clear hx hlo hhi g2
            obtain ⟨ys, hys⟩ : ∃ ys, ys = (List.range k).map (fun i => st (pt i)) := ⟨_, rfl⟩
            have HYS : Hid (ys = (List.range k).map (fun i => st (pt i))) := hys
            have hO2 : wr.ownsRow w.heap.size 9 1 (.slice a1 k c1) k ys := by rw [hys]; exact hO
            rw [← hys] at hll
            clear hys hO
            generalize hes : s.extract (3 + lo) (3 + hi) = es at *
            go_wp2_with (first | (at_builtin; refine wpList_append_own _ rfl _ _ 33 rfl w.heap.size 9 j0 (.string ⟨#[]⟩) 1 16 Tryd.underlying33 hj hy0 hy1 hy2 rfl (by decide) _ _ _ rfl (World.ownsRow.alloc hO2 _) ⟨wr.heap.size, 0, none⟩ 1 1 [.string es] rfl rfl (one_cell _) (by intro u hu; simp at hu; subst hu; rfl) (by unfold maxLen; omega) (by omega) (by simp; omega) ?_))
            intro v' w3 hown hgrow _
            have HO3 : Hid (OwT w.heap.size w3 v' (k + 1) pt) := by
              rw [HYS.out] at hown
              exact OwT.snoc hown (by rw [HXX.out])
            have hB3 : Below w.heap.size w w3 := (hB.alloc hsz _).grown hgrow (by simp; omega) (fun g hg => (World.ownsRow.lt hO2 g hg).1)
            clear hown hgrow hO2 HYS HXX hes m1 m2 i3 i4 i5 i6 i7 i8 i9 g1 hB
            go_wp2
            go_roundw
            case rel => exact ⟨k + 1, by omega, by go_num, HO3.out, hB3⟩
            case measure => simp [intOf]; omega
          · have e : k = c := by omega
            subst e
            have hkc : ¬ (k : Int) < (k : Int) := by omega
            have P := HR.out (.slice a1 k c1) wr hO.rd
            have HO : Hid (OwT w.heap.size wr (.slice a1 k c1) k pt) := hO
            have HB : Hid (Below w.heap.size w wr) := hB
            clear HR HX HLL hO hB k1 k2
            go_wp2_with fail
            refine P.mono ?_
            rintro e w4 ⟨rfl, hB4⟩
            have HB4 : Hid (Below w.heap.size w w4) := HB.out.trans (hB4.mono HB.out.size)
            have HO4 : Hid (OwT w.heap.size w4 (.slice a1 k c1) k pt) := ownsRow_old HO.out hB4
            clear P hB4 HO HB k0
            have K := HP.out (.slice a1 k c1) w4 HO4.out.rd
            clear HP
            go_wp2_with fail
            refine K.mono ?_
            rintro e w5 ⟨rfl, hB5⟩
            have HB5 : Hid (Below w.heap.size w w5) := HB4.out.trans (hB5.mono HB4.out.size)
            have HO5 : Hid (OwT w.heap.size w5 (.slice a1 k c1) k pt) := ownsRow_old HO4.out hB5
            clear K hB5 HO4 HB4
            go_wp2
            go_ret3
            exact ⟨_, rfl, rdf_none _ _, HB5.out⟩
    · clear hss
      have hqz : ((wE (wrow t : Int) (wmany t) (wpt t) : Int) != 0) = true := by rw [bne_iff_ne]; omega
      generalize wE (wrow t : Int) (wmany t) (wpt t) = q at *
      clear e1
      unfold st
      clear hu
      generalize sb (wP (wrow t : Int) (wmany t) (wpt t)) = s2 at *
      generalize wpt t = pt at *
      generalize sb t = s at *
      generalize wrow t = r at *
      generalize wmany t = c at *
      generalize wsize t = z at *
      have hLL : ∀ k, k < c → 3 + (k + 1) * z ≤ t.length := fun k hk => by
        have : (k + 1) * z ≤ c * z := Nat.mul_le_mul_right _ hk
        omega
      have HLL : Hid (∀ k, k < c → 3 + (k + 1) * z ≤ t.length) := hLL
      clear hLL
      generalize c * z = L at *
      generalize t.length = l at *
      have k0 := k0 i0
      have k1 := k1 i1
      have k2 := k2 i2
      have hne : ((l : Int) != 5 + (L : Int)) = false := by rw [bne_eq_false_iff_eq]; omega
      have hlm : l ≤ 70000 := by omega
      have h5' : ¬ (l : Int) < 5 := by omega
      clear hl h5
      obtain ⟨j0, hj, hy0, hy1, hy2⟩ := info_parts infoT
      rcases HQ.out with hq1 | ⟨hq1, hq2⟩
      ·
        clear HQ
        go_enter Tryd.func22, Tryd.ntmps22
        go_wp2
        go_loopw [7, 8] (fun o q wr => ∃ k : Nat, k ≤ c ∧ q = .int .i64 k ∧ OwT w.heap.size wr o k pt ∧ Below w.heap.size w wr) (fun _ q _ => c - (intOf q).toNat)
        case atStart => exact ⟨0, Nat.zero_le _, rfl, World.ownsRow_nil _ _ _ _, Below.refl _ _⟩
        case round =>
          clear hpi hne
          obtain ⟨k, hk, rfl, hO, hB⟩ := hrel
          obtain ⟨a1, c1, rfl⟩ := OwT.len hO
          have hsz := hB.size
          by_cases hlt : k < c
          · have g1 := HLL.out k hlt
            have g2 : (k + 1) * z = k * z + z := by rw [Nat.add_mul, Nat.one_mul]
            have m1 : (k : Int) * (z : Int) = ((k * z : Nat) : Int) := by simp
            have m2 : ((k : Int) + 1) * (z : Int) = (((k + 1) * z : Nat) : Int) := by simp
            have hx := HX.out k
            obtain ⟨lo, hlo⟩ : ∃ lo, lo = k * z := ⟨_, rfl⟩
            obtain ⟨hi, hhi⟩ : ∃ hi, hi = (k + 1) * z := ⟨_, rfl⟩
            rw [← hlo] at g2 m1 hx
            rw [← hhi] at g1 g2 m2 hx
            have i3 : lo ≤ hi := by omega
            have i4 : hi ≤ 70000 := by omega
            have HXX : Hid (s.extract (3 + lo) (3 + hi) = sb (pt k)) := hx
            have i5 : 3 + lo ≤ 3 + hi := by omega
            have i6 : (3 : Int) + (lo : Int) ≤ 3 + (hi : Int) := by omega
            have i7 : (3 : Int) + (hi : Int) ≤ (l : Int) := by omega
            have i8 : (0 : Int) ≤ 3 + (lo : Int) := by omega
            have i9 : (0 : Int) ≤ 3 + (hi : Int) := by omega
            have hll : ((List.range k).map (fun i => st (pt i))).length = k := by simp
            clear hx hlo hhi g2
            obtain ⟨ys, hys⟩ : ∃ ys, ys = (List.range k).map (fun i => st (pt i)) := ⟨_, rfl⟩
            have HYS : Hid (ys = (List.range k).map (fun i => st (pt i))) := hys
            have hO2 : wr.ownsRow w.heap.size 9 1 (.slice a1 k c1) k ys := by rw [hys]; exact hO
            rw [← hys] at hll
            clear hys hO
            generalize hes : s.extract (3 + lo) (3 + hi) = es at *
            go_wp2_with (first | (at_builtin; refine wpList_append_own _ rfl _ _ 33 rfl w.heap.size 9 j0 (.string ⟨#[]⟩) 1 16 Tryd.underlying33 hj hy0 hy1 hy2 rfl (by decide) _ _ _ rfl (World.ownsRow.alloc hO2 _) ⟨wr.heap.size, 0, none⟩ 1 1 [.string es] rfl rfl (one_cell _) (by intro u hu; simp at hu; subst hu; rfl) (by unfold maxLen; omega) (by omega) (by simp; omega) ?_))
            intro v' w3 hown hgrow _
            have HO3 : Hid (OwT w.heap.size w3 v' (k + 1) pt) := by
              rw [HYS.out] at hown
              exact OwT.snoc hown (by rw [HXX.out])
            have hB3 : Below w.heap.size w w3 := (hB.alloc hsz _).grown hgrow (by simp; omega) (fun g hg => (World.ownsRow.lt hO2 g hg).1)
            clear hown hgrow hO2 HYS HXX hes m1 m2 i3 i4 i5 i6 i7 i8 i9 g1 hB
            go_wp2
            go_roundw
            case rel => exact ⟨k + 1, by omega, by go_num, HO3.out, hB3⟩
            case measure => simp [intOf]; omega
          · have e : k = c := by omega
            subst e
            have hkc : ¬ (k : Int) < (k : Int) := by omega
            have P := HR.out (.slice a1 k c1) wr hO.rd
            have HO : Hid (OwT w.heap.size wr (.slice a1 k c1) k pt) := hO
            have HB : Hid (Below w.heap.size w wr) := hB
            clear HR HX HLL hO hB k1 k2
            go_wp2_with fail
            refine P.mono ?_
            rintro e w4 ⟨rfl, hB4⟩
            have HB4 : Hid (Below w.heap.size w w4) := HB.out.trans (hB4.mono HB.out.size)
            have HO4 : Hid (OwT w.heap.size w4 (.slice a1 k c1) k pt) := ownsRow_old HO.out hB4
            clear P hB4 HO HB k0
            go_wp2
            go_ret3
            exact ⟨_, rfl, rdf_none _ _, HB4.out⟩
      ·
        clear HQ
        go_enter Tryd.func22, Tryd.ntmps22
        go_wp2
        go_loopw [7, 8] (fun o q wr => ∃ k : Nat, k ≤ c ∧ q = .int .i64 k ∧ OwT w.heap.size wr o k pt ∧ Below w.heap.size w wr) (fun _ q _ => c - (intOf q).toNat)
        case atStart => exact ⟨0, Nat.zero_le _, rfl, World.ownsRow_nil _ _ _ _, Below.refl _ _⟩
        case round =>
          clear hpi hne
          obtain ⟨k, hk, rfl, hO, hB⟩ := hrel
          obtain ⟨a1, c1, rfl⟩ := OwT.len hO
          have hsz := hB.size
          by_cases hlt : k < c
          · have g1 := HLL.out k hlt
            have g2 : (k + 1) * z = k * z + z := by rw [Nat.add_mul, Nat.one_mul]
            have m1 : (k : Int) * (z : Int) = ((k * z : Nat) : Int) := by simp
            have m2 : ((k : Int) + 1) * (z : Int) = (((k + 1) * z : Nat) : Int) := by simp
            have hx := HX.out k
            obtain ⟨lo, hlo⟩ : ∃ lo, lo = k * z := ⟨_, rfl⟩
            obtain ⟨hi, hhi⟩ : ∃ hi, hi = (k + 1) * z := ⟨_, rfl⟩
            rw [← hlo] at g2 m1 hx
            rw [← hhi] at g1 g2 m2 hx
            have i3 : lo ≤ hi := by omega
            have i4 : hi ≤ 70000 := by omega
            have HXX : Hid (s.extract (3 + lo) (3 + hi) = sb (pt k)) := hx
            have i5 : 3 + lo ≤ 3 + hi := by omega
            have i6 : (3 : Int) + (lo : Int) ≤ 3 + (hi : Int) := by omega
            have i7 : (3 : Int) + (hi : Int) ≤ (l : Int) := by omega
            have i8 : (0 : Int) ≤ 3 + (lo : Int) := by omega
            have i9 : (0 : Int) ≤ 3 + (hi : Int) := by omega
            have hll : ((List.range k).map (fun i => st (pt i))).length = k := by simp
            clear hx hlo hhi g2
            obtain ⟨ys, hys⟩ : ∃ ys, ys = (List.range k).map (fun i => st (pt i)) := ⟨_, rfl⟩
            have HYS : Hid (ys = (List.range k).map (fun i => st (pt i))) := hys
            have hO2 : wr.ownsRow w.heap.size 9 1 (.slice a1 k c1) k ys := by rw [hys]; exact hO
            rw [← hys] at hll
            clear hys hO
            generalize hes : s.extract (3 + lo) (3 + hi) = es at *
            go_wp2_with (first | (at_builtin; refine wpList_append_own _ rfl _ _ 33 rfl w.heap.size 9 j0 (.string ⟨#[]⟩) 1 16 Tryd.underlying33 hj hy0 hy1 hy2 rfl (by decide) _ _ _ rfl (World.ownsRow.alloc hO2 _) ⟨wr.heap.size, 0, none⟩ 1 1 [.string es] rfl rfl (one_cell _) (by intro u hu; simp at hu; subst hu; rfl) (by unfold maxLen; omega) (by omega) (by simp; omega) ?_))
            intro v' w3 hown hgrow _
            have HO3 : Hid (OwT w.heap.size w3 v' (k + 1) pt) := by
              rw [HYS.out] at hown
              exact OwT.snoc hown (by rw [HXX.out])
            have hB3 : Below w.heap.size w w3 := (hB.alloc hsz _).grown hgrow (by simp; omega) (fun g hg => (World.ownsRow.lt hO2 g hg).1)
            clear hown hgrow hO2 HYS HXX hes m1 m2 i3 i4 i5 i6 i7 i8 i9 g1 hB
            go_wp2
            go_roundw
            case rel => exact ⟨k + 1, by omega, by go_num, HO3.out, hB3⟩
            case measure => simp [intOf]; omega
          · have e : k = c := by omega
            subst e
            have hkc : ¬ (k : Int) < (k : Int) := by omega
            have P := HR.out (.slice a1 k c1) wr hO.rd
            have HO : Hid (OwT w.heap.size wr (.slice a1 k c1) k pt) := hO
            have HB : Hid (Below w.heap.size w wr) := hB
            clear HR HX HLL hO hB k1 k2
            go_wp2_with fail
            refine P.mono ?_
            rintro e w4 ⟨rfl, hB4⟩
            have HB4 : Hid (Below w.heap.size w w4) := HB.out.trans (hB4.mono HB.out.size)
            have HO4 : Hid (OwT w.heap.size w4 (.slice a1 k c1) k pt) := ownsRow_old HO.out hB4
            clear P hB4 HO HB k0
            go_wp2
            go_ret3
            exact ⟨_, rfl, rdf_none _ _, HB4.out⟩
/-- the document's Unpack, whatever it is given -/
theorem dunpack_any (t : List El) (w : World) :
    Calls Tryd.prog 22 #[st t] w fun e w' => ∃ u, e = .returned (.tuple #[.int .i64 ((cnt (wUE t) (wrow t) : Nat) : Int), u, .bool (decide (wUE t = 0))]) ∧ RdT w' u (cnt (wUE t) (wmany t)) (wpt t) ∧ Below w.heap.size w w' := by
  by_cases h5 : t.length < 5
  · have hu : ¬ WUn t := fun q => by have := q.len; omega
    rw [wUE_bad hu]
    exact (dunpack_short t w h5).mono fun e w' ⟨h1, h2⟩ => ⟨_, h1, rdf_none _ _, h2⟩
  · by_cases hl : t.length = 5 + wmany t * wsize t
    · by_cases hz : wmany t = 0 ∧ wsize t ≠ 0
      · have hu : ¬ WUn t := fun q => hz.2 (q.zero hz.1)
        rw [wUE_bad hu]
        exact (dunpack_zero t w (by omega) hl hz.1 hz.2).mono fun e w' ⟨h1, h2⟩ => ⟨_, h1, rdf_none _ _, h2⟩
      · exact dunpack_long t w (by omega) hl hz
    · have hu : ¬ WUn t := fun q => hl q.len
      rw [wUE_bad hu]
      exact (dunpack_length t w (by omega) hl).mono fun e w' ⟨h1, h2⟩ => ⟨_, h1, rdf_none _ _, h2⟩
end Go.Proofs.YtdbanimlnjhhlaaDoor
