/- Stripes that are placed: walks over the program. -/
import Derived.Test.YtdbanimlnjhhlaaDoorPlE
namespace Go.Proofs.YtdbanimlnjhhlaaDoor
open Go.RowKit
theorem infoSI : (Tryd.prog.info? 27).map (fun i => (i.zero, i.size, i.bytes)) = some (some (.slice none 0 0), 1, 24) := by kernel_rfl
/-- there can be no such stripes -/
def plBad (n wd m : Int) : Prop := n < 1 ∨ 10 < n ∨ wd < 1 ∨ n < wd ∨ m < 0 ∨ 40 < m
instance (n wd m : Int) : Decidable (plBad n wd m) := inferInstanceAs (Decidable (_ ∨ _))
set_option maxRecDepth 100000 in
theorem place_no {n wd m : Int} (h : plBad n wd m) (w : World) :
    Calls Tryd.prog 7 #[.int .i64 n, .int .i64 wd, .int .i64 m] w fun e w' => e = .returned (.tuple #[.slice none 0 0, errV 1]) ∧ w' = w := by
  have A := noarray_any n w
  rw [errV, if_neg (by omega)]
  by_cases h1 : n < 1 ∨ 10 < n
  · rw [noAr_true.2 h1] at A
    clear h h1
    go_enter Tryd.func7, Tryd.ntmps7
    go_wp2_with fail
    refine A.mono ?_
    rintro e w1 ⟨rfl, hw⟩
    obtain rfl := hw.symm
    clear A hw
    go_wp2
    go_ret2
    exact ⟨rfl, rfl⟩
  · rw [noAr_false.2 (by omega)] at A
    by_cases h2 : wd < 1
    · have d2 : decide (wd < 1) = true := decide_eq_true h2
      clear h h1
      go_enter Tryd.func7, Tryd.ntmps7
      go_wp2_with fail
      refine A.mono ?_
      rintro e w1 ⟨rfl, hw⟩
      obtain rfl := hw.symm
      clear A hw
      go_wp2
      go_ret2
      exact ⟨rfl, rfl⟩
    · have d2 : decide (wd < 1) = false := decide_eq_false h2
      by_cases h3 : n < wd
      · have d3 : decide (n < wd) = true := decide_eq_true h3
        clear h h1
        go_enter Tryd.func7, Tryd.ntmps7
        go_wp2_with fail
        refine A.mono ?_
        rintro e w1 ⟨rfl, hw⟩
        obtain rfl := hw.symm
        clear A hw
        go_wp2
        go_ret2
        exact ⟨rfl, rfl⟩
      · have d3 : decide (n < wd) = false := decide_eq_false h3
        by_cases h4 : m < 0
        · have d4 : decide (m < 0) = true := decide_eq_true h4
          clear h h1
          go_enter Tryd.func7, Tryd.ntmps7
          go_wp2_with fail
          refine A.mono ?_
          rintro e w1 ⟨rfl, hw⟩
          obtain rfl := hw.symm
          clear A hw
          go_wp2
          go_ret2
          exact ⟨rfl, rfl⟩
        · have d4 : decide (m < 0) = false := decide_eq_false h4
          have h5 : 40 < m := by unfold plBad at h; omega
          have d5 : decide (40 < m) = true := decide_eq_true h5
          clear h h1
          go_enter Tryd.func7, Tryd.ntmps7
          go_wp2_with fail
          refine A.mono ?_
          rintro e w1 ⟨rfl, hw⟩
          obtain rfl := hw.symm
          clear A hw
          go_wp2
          go_ret2
          exact ⟨rfl, rfl⟩
/-- lists of numbers of the call's own in a row of the call's own -/
def OwII (B : Nat) (w : World) (v : Value) (m k : Nat) (rv : Nat → Value) (l : Nat → Nat) (R : Nat → Nat → Nat) : Prop :=
  w.ownsRow B 27 1 v m ((List.range m).map rv) ∧ ∀ i, i < k → OwI B w (rv i) (l i) (fun j => ((R i j : Nat) : Int))
theorem ownsRow_blk {B A n m : Nat} {w : World} {t u : TypeId} {v v' : Value} {xs ys : List Value} (h1 : w.ownsRow B t 1 v n xs) (h2 : w.ownsRow A u 1 v' m ys) (hne : t ≠ u) : ∀ k, v.ownBlock = some k → v'.ownBlock ≠ some k := by
  intro k e1 e2
  rcases h1.2 with ⟨rfl, _⟩ | ⟨g, cap, cur, rfl, _, hg, _⟩
  · simp [Value.ownBlock] at e1
  · rcases h2.2 with ⟨rfl, _⟩ | ⟨g2, cap2, cur2, rfl, _, hg2, _⟩
    · simp [Value.ownBlock] at e2
    · simp only [Value.ownBlock, Option.some.injEq] at e1 e2
      subst e1
      subst e2
      rw [hg] at hg2
      simp only [Option.some.injEq, Obj.cells.injEq] at hg2
      exact hne hg2.2.1
theorem OwII.rd {B m : Nat} {w : World} {v : Value} {rv : Nat → Value} {l : Nat → Nat} {R : Nat → Nat → Nat} (h : OwII B w v m m rv l R) : RdII w v m l (fun i j => ((R i j : Nat) : Int)) :=
  ⟨rv, OwL.rdM h.1, fun i hi => OwI.rd (h.2 i hi)⟩
set_option maxRecDepth 100000 in
set_option maxHeartbeats 2000000 in
theorem place_ok {n wd m : Nat} (h1 : 1 ≤ n) (h2 : n ≤ 10) (h3 : 1 ≤ wd) (h4 : wd ≤ n) (h5 : m ≤ 40) (w : World) :
    Calls Tryd.prog 7 #[.int .i64 (n : Int), .int .i64 (wd : Int), .int .i64 (m : Int)] w fun e w' => ∃ g cap, e = .returned (.tuple #[.slice (some ⟨g, 0, none⟩) m cap, .nilIface]) ∧ RdII w' (.slice (some ⟨g, 0, none⟩) m cap) m (fun _ => wd) (plF n wd) ∧ Below w.heap.size w w' := by
  obtain ⟨j0, hj, hy0, hy1, hy2⟩ := info_parts infoI
  obtain ⟨i0, hi, hz0, hz1, hz2⟩ := info_parts infoSI
  have A := noarray_any (n : Int) w
  rw [noAr_false.2 (by omega)] at A
  have d2 : decide ((wd : Int) < 1) = false := decide_eq_false (by omega)
  have d3 : decide ((n : Int) < (wd : Int)) = false := decide_eq_false (by omega)
  have d4 : decide ((m : Int) < 0) = false := decide_eq_false (by omega)
  have d5 : decide (40 < (m : Int)) = false := decide_eq_false (by omega)
  go_enter Tryd.func7, Tryd.ntmps7
  go_wp2_with fail
  refine A.mono ?_
  rintro e w1 ⟨rfl, hw⟩
  obtain rfl := hw.symm
  clear A hw
  go_wp2_with (first | (at_make; refine wpList_make_full _ rfl _ _ 27 rfl w.heap.size 3 j0 (.int .i64 0) 1 Tryd.underlying27 hj hy0 hy1 _ _ _ _ n rfl rfl rfl rfl (by rw [hy2]; omega) (by unfold maxLen; omega) (Nat.le_refl _) ?_))
  intro w1 hown hgrow
  have HL1 : Hid (OwC w.heap.size w1 w.heap.size n n (ld n wd 0)) := OwI.made hown
  have HB1 : Hid (Below w.heap.size w w1) := below_of_grown hgrow
  have hs1 : w.heap.size < w1.heap.size := (World.ownsRow.lt hown _ rfl).2
  obtain ⟨lb, hlb⟩ : ∃ lb, lb = w.heap.size := ⟨_, rfl⟩
  have HL1 : Hid (OwC w.heap.size w1 lb n n (ld n wd 0)) := by rw [hlb]; exact HL1.out
  have hlw : w.heap.size ≤ lb := by omega
  have hlt1 : lb < w1.heap.size := by omega
  rw [← hlb]
  have hsz1 := HB1.out.size
  clear hown hgrow hlb hs1
  go_wp2_with (first | (at_make; refine wpList_make_full _ rfl _ _ 22 rfl w.heap.size 27 i0 (.slice none 0 0) 1 Tryd.underlying22 hi hz0 hz1 _ _ _ _ m rfl rfl rfl rfl (by rw [hz2]; omega) (by unfold maxLen; omega) hsz1 ?_))
  intro w2 hown hgrow
  obtain ⟨g, hg⟩ : ∃ g, g = w1.heap.size := ⟨_, rfl⟩
  rw [← hg] at hown ⊢
  have hBn : Below w1.heap.size w1 w2 := below_of_grown hgrow
  have HL2 : Hid (OwC w.heap.size w2 lb n n (ld n wd 0)) := ownsRow_old HL1.out hBn
  have HG2 : Hid (OwII w.heap.size w2 (.slice (some ⟨g, 0, none⟩) m m) m 0 (fun _ => .slice none 0 0) (fun _ => wd) (fun i j => (strp n wd i).getD j 0)) := by
    refine ⟨?_, fun i hi => absurd hi (Nat.not_lt_zero _)⟩
    rw [toList_madeCells_one] at hown
    rw [show (List.range m).map (fun _ => Value.slice none 0 0) = List.replicate m (Value.slice none 0 0) by simp [List.map_const']]
    exact hown
  have HB2 : Hid (Below w.heap.size w w2) := HB1.out.trans (hBn.mono hsz1)
  have hgw : w.heap.size ≤ g := by omega
  have hgl : lb ≠ g := by omega
  clear hown hgrow hBn HL1 HB1 hg hsz1 hlt1
  go_wp2
  go_loopw [37] (fun t wr => ∃ k : Nat, k ≤ m ∧ t = .int .i64 k ∧ OwC w.heap.size wr lb n n (ld n wd k) ∧ (∃ rv, OwII w.heap.size wr (.slice (some ⟨g, 0, none⟩) m m) m k rv (fun _ => wd) (fun i j => (strp n wd i).getD j 0) ∧ ∀ i, i < k → (rv i).ownBlock ≠ some lb) ∧ Below w.heap.size w wr) (fun t _ => m - (intOf t).toNat)
  case atStart => exact ⟨0, Nat.zero_le _, rfl, HL2.out, ⟨_, HG2.out, fun i hi => absurd hi (Nat.not_lt_zero _)⟩, HB2.out⟩
  case round =>
    clear HL2 HG2 HB2
    obtain ⟨k, hk, rfl, hL, ⟨rv, hG, hap⟩, hB⟩ := hrel
    by_cases hlt : k < m
    · have E := emptiest_any (wd := wd) (OwI.rd hL) h2 h3 h4
      have hsz := hB.size
      have HL : Hid (OwC w.heap.size wr lb n n (ld n wd k)) := hL
      have HG : Hid (OwII w.heap.size wr (.slice (some ⟨g, 0, none⟩) m m) m k rv (fun _ => wd) (fun i j => (strp n wd i).getD j 0)) := hG
      have HA : Hid (∀ i, i < k → (rv i).ownBlock ≠ some lb) := hap
      have HB : Hid (Below w.heap.size w wr) := hB
      have hkz : (k : Int) < (m : Int) := by omega
      clear hL hG hap hB
      go_wp2_with fail
      refine E.mono ?_
      rintro e w3 ⟨gr, cr, rfl, hO3, hB3⟩
      have hgr : wr.heap.size ≤ gr := (World.ownsRow.lt hO3 _ rfl).1
      have hll : lb < wr.heap.size := (World.ownsRow.lt HL.out _ rfl).2
      have hL3 := ownsRow_old HL.out hB3
      have hG3 : w3.ownsRow w.heap.size 27 1 (.slice (some ⟨g, 0, none⟩) m m) m ((List.range m).map rv) := ownsRow_old HG.out.1 hB3
      have hc3 : w3.cell? ⟨g, k, none⟩ = some (rv k) := by
        rw [World.ownsRow.cellAt hG3 k (by omega)]
        exact range_map_at _ m k hlt
      have hf3 := World.ownsRow.frozenAt hG3 k
      have S := World.ownsRow.stored hG3 k (.slice (some ⟨gr, 0, none⟩) wd cr)
      rw [set_map_up] at S
      have hgb : g < wr.heap.size := (World.ownsRow.lt HG.out.1 _ rfl).2
      have HG4 : Hid (OwII w.heap.size (w3.setCell ⟨g, k, none⟩ (.slice (some ⟨gr, 0, none⟩) wd cr)) (.slice (some ⟨g, 0, none⟩) m m) m (k + 1) (up rv k (.slice (some ⟨gr, 0, none⟩) wd cr)) (fun _ => wd) (fun i j => (strp n wd i).getD j 0)) := by
        refine ⟨S.1, fun i hi => ?_⟩
        by_cases e : i = k
        · rw [e, up_at]
          have q : OwI w.heap.size w3 (.slice (some ⟨gr, 0, none⟩) wd cr) wd (fun j => (((strp n wd k).getD j 0 : Nat) : Int)) := ownsRow_low hO3 hsz
          exact World.ownsRow.kept q S.2 (.inr (by simp [Value.ownBlock]; omega))
        · rw [up_ne _ _ e]
          have q := ownsRow_old (HG.out.2 i (by omega)) hB3
          refine World.ownsRow.kept q S.2 ?_
          rcases hq : (rv i).ownBlock with _ | b
          · exact .inl rfl
          · refine .inr ?_
            intro z
            exact ownsRow_blk (HG.out.2 i (by omega)) HG.out.1 (by decide) b hq z.symm
      have HL4 : Hid (OwC w.heap.size (w3.setCell ⟨g, k, none⟩ (.slice (some ⟨gr, 0, none⟩) wd cr)) lb n n (ld n wd k)) := World.ownsRow.kept hL3 S.2 (.inr (by simp [Value.ownBlock]; omega))
      have HO4 : Hid (OwC wr.heap.size (w3.setCell ⟨g, k, none⟩ (.slice (some ⟨gr, 0, none⟩) wd cr)) gr wd cr (fun j => (strp n wd k).getD j 0)) := World.ownsRow.kept hO3 S.2 (.inr (by simp [Value.ownBlock]; omega))
      have HB4 : Hid (Below w.heap.size w (w3.setCell ⟨g, k, none⟩ (.slice (some ⟨gr, 0, none⟩) wd cr))) := (HB.out.trans (hB3.mono hsz)).trans (below_of_grownAt S.2 (Nat.le_trans hsz hB3.size) hgw)
      have d3 : (w3.setCell ⟨g, k, none⟩ (.slice (some ⟨gr, 0, none⟩) wd cr)).cell? ⟨g, k, none⟩ = some (.slice (some ⟨gr, 0, none⟩) wd cr) := World.cell?_setCell_same _ _ _ hc3
      generalize rv k = old at hc3
      have T := addTo_any (B := w.heap.size) HL4.out (OwI.rd HO4.out) (fun _ => by simp [Value.ownBlock]; omega) (placed_row (n := n) (i := k) h4 (Int.le_refl _)) (fun i => by rw [ld_cn]; have := cn_le (fun s => tkn (ld n wd s) n wd i) k; omega)
      have hsz4 := HB4.out.size
      have HT : Hid (∀ i, i < n → ctd (ld n wd k) wd (plF n wd k) i = ld n wd (k + 1) i) := fun i hi => by
        have e := placed_has h4 k i
        rw [decide_eq_true hi, Bool.true_and] at e
        show ld n wd k i + (if hsI (fun _ => wd) (plF n wd) k i = true then 1 else 0) = _
        rw [e]
        rfl
      clear E HL HG HB hL3 hG3 S HL4 HO4 hO3 hB3
      go_wp2_with fail
      generalize w3.setCell ⟨g, k, none⟩ (.slice (some ⟨gr, 0, none⟩) wd cr) = w4 at *
      refine T.mono ?_
      rintro e w5 ⟨rfl, hO5, hB5⟩
      have HL5 : Hid (OwC w.heap.size w5 lb n n (ld n wd (k + 1))) := OwI.congr hO5 (fun i hi => by show ((ctd (ld n wd k) wd (plF n wd k) i : Nat) : Int) = _; rw [HT.out i hi])
      have HA5 : Hid (∀ i, i < k + 1 → (up rv k (.slice (some ⟨gr, 0, none⟩) wd cr) i).ownBlock ≠ some lb) := fun i hi => by
        by_cases e : i = k
        · rw [e, up_at]
          simp [Value.ownBlock]
          omega
        · rw [up_ne _ _ e]
          exact HA.out i (by omega)
      have HG5 : Hid (OwII w.heap.size w5 (.slice (some ⟨g, 0, none⟩) m m) m (k + 1) (up rv k (.slice (some ⟨gr, 0, none⟩) wd cr)) (fun _ => wd) (fun i j => (strp n wd i).getD j 0)) :=
        ⟨ownsRow_but HG4.out.1 hB5 (fun q hq => by simp [Value.ownBlock] at hq; omega), fun i hi => ownsRow_but (HG4.out.2 i hi) hB5 (fun q hq z => HA5.out i hi (by rw [hq, z]))⟩
      have HB5 : Hid (Below w.heap.size w w5) := HB4.out.trans (hB5.below hsz4 (fun q hq => by rw [hq]; exact hlw))
      clear T hO5 hB5 HG4 HB4 HA d3 hc3 hf3 HT
      go_wp2
      go_roundw
      case rel => exact ⟨k + 1, by omega, by go_num, HL5.out, ⟨_, HG5.out, HA5.out⟩, HB5.out⟩
      case measure => simp [intOf]; omega
    · obtain rfl : k = m := by omega
      have HR : Hid (RdII wr (.slice (some ⟨g, 0, none⟩) k k) k (fun _ => wd) (plF n wd)) := OwII.rd hG
      clear hL hG hap
      go_wp2
      go_ret2
      exact ⟨g, k, rfl, HR.out, hB⟩
end Go.Proofs.YtdbanimlnjhhlaaDoor
