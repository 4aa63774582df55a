/- Texts of plain mathematics, of memory and of walks, in one. -/
import Derived.Test.YtilfjahbdlepjaaGreatDoorGe
import Derived.BigQuiet
import Derived.Test.YtilfjahbdlepjaaGreatDoorPa
import Derived.Test.YtilfjahbdlepjaaGreatDoorAr
import Derived.Test.YtilfjahbdlepjaaGreatDoorPl
import Derived.Test.YtilfjahbdlepjaaGreatDoorEr
/- Lists of spots: of the call's own, and as they are read; two that are the same: a walk over the program. -/
namespace Go.Proofs.YtilfjahbdlepjaaGreatDoor
open Go.RowKit
theorem infoSp : (Tryz.prog.info? 60).map (fun i => (i.zero, i.size, i.bytes)) = some (some (.agg #[.int .i64 0, .int .i64 0]), 2, 16) := by kernel_rfl
/-- a spot's cells -/
def spv (p : Nat × Nat) : List Value := [.int .i64 (p.1 : Int), .int .i64 (p.2 : Int)]
/-- a list of spots of the call's own -/
def OwS (B : Nat) (w : World) (v : Value) (L : List (Nat × Nat)) : Prop := w.ownsRow B 60 2 v L.length (L.flatMap spv)
/-- the slice v reads as a list of spots -/
def RdS (w : World) (v : Value) (L : List (Nat × Nat)) : Prop :=
  (v = .slice none 0 0 ∧ L = []) ∨
  ∃ ad cap, v = .slice (some ad) L.length cap ∧ ∀ i, i < L.length → w.cell? (ad.add (i * 2)) = some (.int .i64 ((L.getD i (0, 0)).1 : Int)) ∧ w.cell? ⟨(ad.add (i * 2)).block, (ad.add (i * 2)).off + 1, none⟩ = some (.int .i64 ((L.getD i (0, 0)).2 : Int))
theorem OwS.nil (B : Nat) (w : World) : OwS B w (.slice none 0 0) [] := World.ownsRow_nil _ _ _ _
theorem OwS.snoc {B : Nat} {w : World} {v : Value} {L : List (Nat × Nat)} {p : Nat × Nat} (h : w.ownsRow B 60 2 v (L.length + 1) (L.flatMap spv ++ spv p)) : OwS B w v (L ++ [p]) := by
  unfold OwS
  rw [List.length_append, List.flatMap_append]
  simpa using h
theorem OwS.old {B : Nat} {w w' : World} {v : Value} {L : List (Nat × Nat)} (h : OwS B w v L) (hb : Below w.heap.size w w') : OwS B w' v L := by
  unfold OwS at h ⊢
  obtain ⟨h1, h2⟩ := h
  refine ⟨h1, ?_⟩
  rcases h2 with h2 | ⟨g, cap, cur, rfl, hB, hg, rest⟩
  · exact .inl h2
  · refine .inr ⟨g, cap, cur, rfl, hB, ?_, rest⟩
    rw [hb.block g (by
      rcases Nat.lt_or_ge g w.heap.size with q | q
      · exact q
      · rw [Array.getElem?_eq_none q] at hg; cases hg)]
    exact hg
theorem OwS.but {F : Nat → Prop} {B : Nat} {w w' : World} {v : Value} {L : List (Nat × Nat)} (h : OwS B w v L) (hb : But F w w') (hn : ∀ k, B ≤ k → ¬ F k) : OwS B w' v L := by
  unfold OwS at h ⊢
  obtain ⟨h1, h2⟩ := h
  refine ⟨h1, ?_⟩
  rcases h2 with h2 | ⟨g, cap, cur, rfl, hB, hg, rest⟩
  · exact .inl h2
  · refine .inr ⟨g, cap, cur, rfl, hB, ?_, rest⟩
    rw [hb.block g (by
      rcases Nat.lt_or_ge g w.heap.size with q | q
      · exact q
      · rw [Array.getElem?_eq_none q] at hg; cases hg) (hn g hB)]
    exact hg
theorem OwS.lt {B : Nat} {w : World} {v : Value} {L : List (Nat × Nat)} (h : OwS B w v L) : ∀ k, v.ownBlock = some k → B ≤ k ∧ k < w.heap.size := World.ownsRow.lt h
theorem OwS.len {B : Nat} {w : World} {v : Value} {L : List (Nat × Nat)} (h : OwS B w v L) : ∃ ao cap, v = .slice ao L.length cap := by
  rcases h.2 with ⟨rfl, e⟩ | ⟨g, cap, cur, rfl, _⟩
  · exact ⟨none, 0, by rw [e]⟩
  · exact ⟨_, cap, rfl⟩
theorem flat_at : ∀ (L : List (Nat × Nat)) (i : Nat), i < L.length → (L.flatMap spv)[i * 2]? = some (.int .i64 ((L.getD i (0, 0)).1 : Int)) ∧ (L.flatMap spv)[i * 2 + 1]? = some (.int .i64 ((L.getD i (0, 0)).2 : Int))
  | [], i, h => absurd h (Nat.not_lt_zero _)
  | p :: L, 0, _ => by simp [spv]
  | p :: L, i + 1, h => by
    have ih := flat_at L i (by simpa using h)
    rw [List.flatMap_cons, show (i + 1) * 2 = i * 2 + 2 by omega, show i * 2 + 2 + 1 = i * 2 + 1 + 2 by omega]
    simpa [spv] using ih
theorem add_at0 (g i : Nat) : (⟨g, 0, none⟩ : Addr).add i = ⟨g, i, none⟩ := by
  unfold Addr.add
  split
  · subst_vars; rfl
  · simp
theorem OwS.rd {B : Nat} {w : World} {v : Value} {L : List (Nat × Nat)} (h : OwS B w v L) : RdS w v L := by
  have h0 : w.ownsRow B 60 2 v L.length (L.flatMap spv) := h
  rcases h0.2 with ⟨rfl, e⟩ | ⟨g, cap, cur, rfl, _⟩
  · exact .inl ⟨rfl, List.length_eq_zero_iff.1 e⟩
  · refine .inr ⟨_, cap, rfl, fun i hi => ?_⟩
    obtain ⟨f1, f2⟩ := flat_at L i hi
    rw [add_at0]
    exact ⟨by rw [World.ownsRow.cellAt h0 (i * 2) (by omega), f1], by rw [World.ownsRow.cellAt h0 (i * 2 + 1) (by omega), f2]⟩
theorem RdS.old {w w' : World} {v : Value} {L : List (Nat × Nat)} (h : RdS w v L) (hb : Below w.heap.size w w') : RdS w' v L := by
  rcases h with h | ⟨ad, cap, rfl, h3⟩
  · exact .inl h
  · refine .inr ⟨ad, cap, rfl, fun i hi => ?_⟩
    have hc := h3 i hi
    rw [hb.cell (World.block_lt_of_cell? w _ hc.1), hb.cell (World.block_lt_of_cell? w _ hc.2)]
    exact hc
theorem RdS.len {w : World} {v : Value} {L : List (Nat × Nat)} (h : RdS w v L) : ∃ ao cap, v = .slice ao L.length cap := by
  rcases h with ⟨rfl, rfl⟩ | ⟨ad, cap, rfl, _⟩
  · exact ⟨none, 0, rfl⟩
  · exact ⟨_, cap, rfl⟩
theorem RdS.at {w : World} {ao : Option Addr} {m cap : Nat} {L : List (Nat × Nat)} (h : RdS w (.slice ao m cap) L) (i : Nat) (hi : i < L.length) :
    ∃ ad, ao = some ad ∧ w.cell? (ad.add (i * 2)) = some (.int .i64 ((L.getD i (0, 0)).1 : Int)) ∧ w.cell? ⟨(ad.add (i * 2)).block, (ad.add (i * 2)).off + 1, none⟩ = some (.int .i64 ((L.getD i (0, 0)).2 : Int)) := by
  rcases h with ⟨_, rfl⟩ | ⟨ad, cap', he, h3⟩
  · exact absurd hi (Nat.not_lt_zero _)
  · simp only [Value.slice.injEq] at he
    obtain ⟨rfl, _, rfl⟩ := he
    exact ⟨ad, rfl, h3 i hi⟩
theorem spot_cells {w : World} (d r : Nat) (t : TypeId) : ∀ j u, (spv (d, r))[j]? = some u → (w.alloc (.cells #[.int .i64 (d : Int), .int .i64 (r : Int)] t)).cell? ((⟨w.heap.size, 0, none⟩ : Addr).add j) = some u := by
  intro j u hj
  have h := heap_alloc_new w (.cells #[.int .i64 (d : Int), .int .i64 (r : Int)] t)
  rw [add_at0]
  match j, hj with
  | 0, hj => rw [cell_of_row _ _ 0 _ _ _ h]; simpa [spv] using hj
  | 1, hj => rw [cell_of_row _ _ 1 _ _ _ h]; simpa [spv] using hj
  | j + 2, hj => simp [spv] at hj
end Go.Proofs.YtilfjahbdlepjaaGreatDoor

/- Two lists of spots are the same: a walk over the program. -/
namespace Go.Proofs.YtilfjahbdlepjaaGreatDoor
open Go.RowKit
set_option maxRecDepth 100000 in
set_option maxHeartbeats 1000000 in
theorem spots_same (u v : Value) (L : List (Nat × Nat)) (w : World) (hL : L.length ≤ 1000) (hu : RdS w u L) (hv : RdS w v L) :
    Calls Tryz.prog 31 #[u, v] w fun e w' => e = .returned (.bool true) ∧ Below w.heap.size w w' := by
  have HU : Hid (RdS w u L) := hu
  have HV : Hid (RdS w v L) := hv
  obtain ⟨a1, c1, rfl⟩ := hu.len
  obtain ⟨a2, c2, rfl⟩ := hv.len
  obtain ⟨n, hn⟩ : ∃ n, L.length = n := ⟨_, rfl⟩
  have HN : Hid (L.length = n) := hn
  rw [hn] at hL HU HV ⊢
  clear hu hv hn
  go_enter Tryz.func31, Tryz.ntmps31
  go_wp2
  go_loopw [5] (fun t wr => ∃ k : Nat, k ≤ n ∧ t = .int .i64 k ∧ Below w.heap.size w wr) (fun t _ => n - (intOf t).toNat)
  case atStart => exact ⟨0, Nat.zero_le _, rfl, Below.refl _ _⟩
  case round =>
    obtain ⟨k, hk, rfl, hB⟩ := hrel
    by_cases hlt : k < n
    · obtain ⟨ad1, rfl, h1, h3⟩ := (HU.out.old hB).at k (by rw [HN.out]; exact hlt)
      obtain ⟨ad2, rfl, h2, h4⟩ := (HV.out.old hB).at k (by rw [HN.out]; exact hlt)
      generalize (L.getD k (0, 0)).1 = y at *
      generalize (L.getD k (0, 0)).2 = z at *
      go_wp2
      go_quiet (fail)
      have hB2 := below_drewN hB nq
      clear hB h1 h2 h3 h4
      go_wp2
      go_roundw
      case rel => exact ⟨k + 1, by omega, by go_num, hB2⟩
      case measure => simp [intOf]; omega
    · go_wp2
      go_ret
      exact ⟨rfl, hB⟩
end Go.Proofs.YtilfjahbdlepjaaGreatDoor

/- The parts of a row of which nothing is lost: walks over the program. -/
namespace Go.Proofs.YtilfjahbdlepjaaGreatDoor
open Go.RowKit El Pol Mx Lay
theorem is_gone (b : Bool) (w : World) : Calls Tryz.prog 76 #[.bool b] w fun e w' => e = .returned (.bool b) ∧ w' = w := by
  go_enter Tryz.func76, Tryz.ntmps76
  go_wp2
  go_ret
  exact ⟨rfl, rfl⟩
set_option maxHeartbeats 400000 in
theorem bindex_some (g n cap : Nat) (p : Nat → Bool) (w : World) (hn : n ≤ 1000) (hc : ∀ i, i < n → w.cell? ⟨g, i, none⟩ = some (.bool (p i))) :
    Calls Tryz.prog 92 #[.slice (some ⟨g, 0, none⟩) n cap, .func (.func 76) #[] #[]] w fun e w' => ∃ z, e = .returned (.int .i64 z) ∧ Fst p n z ∧ w' = w := by
  have HC : Hid (∀ i, i < n → w.cell? ⟨g, i, none⟩ = some (.bool (p i))) := hc
  clear hc
  go_enter Tryz.func92, Tryz.ntmps92
  go_wp2
  go_loop [8] (fun t => ∃ k : Nat, k ≤ n ∧ t = .int .i64 k ∧ Hid (∀ i, i < k → p i = false)) (fun t => n - (intOf t).toNat)
  case atStart => exact ⟨0, Nat.zero_le _, rfl, fun i hi => absurd hi (Nat.not_lt_zero _)⟩
  case round =>
    obtain ⟨k, hk, rfl, HF⟩ := hrel
    by_cases hlt : k < n
    · have hck := HC.out k hlt
      have C := is_gone (p k) w
      obtain ⟨b, hb⟩ : ∃ b, b = p k := ⟨_, rfl⟩
      rw [← hb] at C hck
      have HB : Hid (b = p k) := hb
      clear hb
      cases b
      all_goals
        go_wp2_with fail
        refine C.mono ?_
        rintro e w1 ⟨rfl, hw⟩
        obtain rfl := hw.symm
        clear C
        go_wp2
      · go_round
        case rel => exact ⟨k + 1, by omega, by go_num, fun i hi => by
          by_cases e : i = k
          · rw [e]; exact HB.out.symm
          · exact HF.out i (by omega)⟩
        case measure => simp [intOf]; omega
      · go_ret
        exact ⟨_, rfl, .inr ⟨k, hlt, rfl, HB.out.symm⟩, rfl⟩
    · go_wp2
      go_ret
      exact ⟨_, rfl, .inl ⟨rfl, fun i hi => HF.out i (by omega)⟩, rfl⟩
theorem bcontains_some (g n cap : Nat) (p : Nat → Bool) (w : World) (hn : n ≤ 1000) (hc : ∀ i, i < n → w.cell? ⟨g, i, none⟩ = some (.bool (p i))) :
    Calls Tryz.prog 75 #[.slice (some ⟨g, 0, none⟩) n cap, .func (.func 76) #[] #[]] w fun e w' => e = .returned (.bool (anyB p n)) ∧ w' = w := by
  have C := bindex_some g n cap p w hn hc
  clear hc
  go_enter Tryz.func75, Tryz.ntmps75
  go_wp2_with fail
  refine C.mono ?_
  rintro e w1 ⟨z, rfl, hz, hw⟩
  obtain rfl := hw.symm
  have HZ : Hid (decide (0 ≤ z) = anyB p n) := hz.any
  clear C hz
  go_wp2
  go_ret
  exact ⟨by rw [← HZ.out]; rfl, rfl⟩
theorem any_gn (p : Nat → Bool) (n : Nat) : anyB p n = decide (0 < (gn p n).length) := by
  rw [Bool.eq_iff_iff, decide_eq_true_iff, anyB_true, List.length_pos_iff]
  constructor
  · rintro ⟨i, hi, hp⟩ e
    have : i ∈ gn p n := mem_gn.2 ⟨hi, hp⟩
    rw [e] at this
    cases this
  · intro h
    obtain ⟨i, hi⟩ := List.exists_mem_of_ne_nil _ h
    exact ⟨i, mem_gn.1 hi⟩
namespace Arr
/-- what is wrong with a row that is to be looked at -/
def wholeE (a : Arr) (m r : Int) : Nat := if lbad m ≠ 0 ∨ a.noR r then 1 else if m = a.n then (if 0 < a.nl r.toNat then 6 else 0) else 3
theorem any_lo {a : Arr} (h : a.ok) {r : Nat} (hr : r < a.rows) : anyB (a.lo r) a.n = decide (0 < a.nl r) := by rw [any_gn, nl_lo h hr]
end Arr
set_option maxRecDepth 100000 in
set_option maxHeartbeats 1000000 in
theorem whole_bad {w : World} {x : PAd} {a : Arr} {N : Nat} (h : PA w x a N) (ho : a.ok) (m r : Int) (he : a.wholeE m r ≠ 0) :
    Calls Tryz.prog 55 #[.pointer (some ⟨x.p, 0, none⟩), .int .i64 m, .int .i64 r] w fun e w' => e = .returned (.tuple #[.slice none 0 0, errV (a.wholeE m r)]) ∧ Below w.heap.size w w' := by
  have C := lcheck_any m w
  have hn := ho.1
  by_cases h1 : lbad m = 0
  · rw [h1, errV, if_pos rfl] at C
    by_cases h2 : a.noR r
    · have R := pa_raw_bad h r h2
      have e1 : a.wholeE m r = 1 := by unfold Arr.wholeE; rw [if_pos (.inr h2)]
      rw [e1]
      rw [errV, if_neg (by omega)] at R
      rw [errV, if_neg (by omega)]
      clear h ho he h1 h2 e1
      go_enter Tryz.func55, Tryz.ntmps55
      go_wp2_with fail
      refine C.mono ?_
      rintro e w1 ⟨rfl, hw⟩
      obtain rfl := hw.symm
      clear C hw
      go_wp2_with fail
      refine R.mono ?_
      rintro e w1 ⟨rfl, hw⟩
      obtain rfl := hw.symm
      clear R hw
      go_wp2
      go_ret2
      exact ⟨rfl, Below.refl _ _⟩
    · obtain ⟨s, rfl, hs⟩ := Arr.noR_nat h2
      have R := pa_raw h ho s hs
      by_cases h3 : m = a.n
      · have e1 : a.wholeE m (s : Int) = if 0 < a.nl s then 6 else 0 := by unfold Arr.wholeE; rw [if_neg (by rw [h1]; exact fun z => z.elim (fun q => q rfl) h2), if_pos h3, Int.toNat_natCast]
        have h4 : 0 < a.nl s := by
          rw [e1] at he
          split at he
          · assumption
          · exact absurd rfl he
        rw [e1, if_pos h4, errV, if_neg (by omega)]
        have HA : Hid (anyB (a.lo s) a.n = true) := by (show _ = _); rw [Arr.any_lo ho hs, decide_eq_true h4]
        subst h3
        clear h ho he h1 h2 e1 h4
        go_enter Tryz.func55, Tryz.ntmps55
        go_wp2_with fail
        refine C.mono ?_
        rintro e w1 ⟨rfl, hw⟩
        obtain rfl := hw.symm
        clear C hw
        go_wp2_with fail
        refine R.mono ?_
        rintro e w1 ⟨g1, g2, rfl, hR1, hR2, hg, hB1⟩
        have T := bcontains_some g2 a.n a.n (a.lo s) w1 (by omega) (fun i hi => (hR2.2 i hi).1)
        rw [HA.out] at T
        clear R hR1 hR2 hg
        go_wp2_with fail
        refine T.mono ?_
        rintro e w2 ⟨rfl, hw⟩
        obtain rfl := hw.symm
        clear T hw
        go_wp2
        go_ret2
        exact ⟨rfl, hB1⟩
      · have e1 : a.wholeE m (s : Int) = 3 := by unfold Arr.wholeE; rw [if_neg (by rw [h1]; exact fun z => z.elim (fun q => q rfl) h2), if_neg h3]
        rw [e1, errV, if_neg (by omega)]
        have hne : ((a.n : Int) != m) = true := by rw [bne_iff_ne]; exact fun e => h3 e.symm
        clear h ho he h1 h2 e1 h3
        go_enter Tryz.func55, Tryz.ntmps55
        go_wp2_with fail
        refine C.mono ?_
        rintro e w1 ⟨rfl, hw⟩
        obtain rfl := hw.symm
        clear C hw
        go_wp2_with fail
        refine R.mono ?_
        rintro e w1 ⟨g1, g2, rfl, hR1, hR2, hg, hB1⟩
        clear R hR1 hR2 hg
        go_wp2
        go_ret2
        exact ⟨rfl, hB1⟩
  · have h2 : lbad m = 1 := by unfold lbad at h1 ⊢; split at h1 <;> simp_all
    have e1 : a.wholeE m r = 1 := by unfold Arr.wholeE; rw [if_pos (.inl h1)]
    rw [e1]
    rw [h2, errV, if_neg (by omega)] at C
    rw [errV, if_neg (by omega)]
    clear h ho he h1 h2 e1
    go_enter Tryz.func55, Tryz.ntmps55
    go_wp2_with fail
    refine C.mono ?_
    rintro e w1 ⟨rfl, hw⟩
    obtain rfl := hw.symm
    clear C hw
    go_wp2
    go_ret2
    exact ⟨rfl, Below.refl _ _⟩
set_option maxRecDepth 100000 in
set_option maxHeartbeats 1000000 in
theorem whole_ok {w : World} {x : PAd} {a : Arr} {N : Nat} (h : PA w x a N) (ho : a.ok) (s : Nat) (hs : s < a.rows) (h0 : a.nl s = 0) :
    Calls Tryz.prog 55 #[.pointer (some ⟨x.p, 0, none⟩), .int .i64 a.n, .int .i64 s] w fun e w' => ∃ g1, e = .returned (.tuple #[.slice (some ⟨g1, 0, none⟩) a.n a.n, .nilIface]) ∧ RowAt w' g1 a.n (fun i => st (a.part s i)) ∧ w.heap.size ≤ g1 ∧ Below w.heap.size w w' := by
  have C := lcheck_any (a.n : Int) w
  have hn := ho.1
  rw [show lbad (a.n : Int) = 0 from if_neg (by omega), errV, if_pos rfl] at C
  have R := pa_raw h ho s hs
  have HA : Hid (anyB (a.lo s) a.n = false) := by (show _ = _); rw [Arr.any_lo ho hs, decide_eq_false (by omega)]
  clear h ho h0
  go_enter Tryz.func55, Tryz.ntmps55
  go_wp2_with fail
  refine C.mono ?_
  rintro e w1 ⟨rfl, hw⟩
  obtain rfl := hw.symm
  clear C hw
  go_wp2_with fail
  refine R.mono ?_
  rintro e w1 ⟨g1, g2, rfl, hR1, hR2, ⟨hg, _⟩, hB1⟩
  have T := bcontains_some g2 a.n a.n (a.lo s) w1 (by omega) (fun i hi => (hR2.2 i hi).1)
  rw [HA.out] at T
  have HR1 : Hid (RowAt w1 g1 a.n (fun i => st (a.part s i))) := hR1
  clear R hR1 hR2
  go_wp2_with fail
  refine T.mono ?_
  rintro e w2 ⟨rfl, hw⟩
  obtain rfl := hw.symm
  clear T hw
  go_wp2
  go_ret2
  exact ⟨g1, rfl, HR1.out, hg, hB1⟩
end Go.Proofs.YtilfjahbdlepjaaGreatDoor

/- The part of a row that is wrong is mended; a row is looked at: walks over the program. -/
namespace Go.Proofs.YtilfjahbdlepjaaGreatDoor
open Go.RowKit El Pol Mx Lay
set_option maxRecDepth 100000 in
set_option maxHeartbeats 2000000 in
theorem mend_ok {w : World} {x : PAd} {a : Arr} {N : Nat} (h : PA w x a N) (ho : a.ok) (hN : N < 900000) (s : Nat) (hs : s < a.rows) (h0 : a.nl s = 0) (i : Nat) (hi : i < a.n) (g1 : Nat) (h1 : RowAt w g1 a.n (fun i => st (a.part s i))) :
    Calls Tryz.prog 57 #[.pointer (some ⟨x.p, 0, none⟩), .int .i64 s, .slice (some ⟨g1, 0, none⟩) a.n a.n, .int .i64 i] w fun e w' => e = .returned (.tuple #[.int .i64 ((ord a.n s i : Nat) : Int), .nilIface]) ∧
      PA w' x (a.poke ((ord a.n s i : Nat) : Int) (s : Int) (a.heal1 s i i)) (N + 1) ∧ But (x.F a.n) w w' := by
  obtain ⟨hn1, hn2⟩ := ho.1
  have hr2 := ho.2.1.2
  have O := order_ok a.n s hn1 hn2 (by omega) w
  obtain ⟨i0, hi', hz0, hz1, hz2⟩ := info_parts infoB
  obtain ⟨Z, hZ⟩ : ∃ Z, Z = Array.replicate a.n (Value.bool false) := ⟨_, rfl⟩
  have HZ : Hid (Z = Array.replicate a.n (Value.bool false)) := hZ
  have hmk : ∀ W : World, (Instr.makeSlice 49 (.int .i64 (a.n : Int)) (.int .i64 (a.n : Int))).run Tryz.prog W = .ok (.slice (some ⟨W.heap.size, 0, none⟩) a.n a.n) (W.alloc (.cells Z 4)) := fun W => by
    have := run_make (P := Tryz.prog) W 49 4 i0 (.bool false) Tryz.underlying49 hi' hz0 .i64 .i64 (a.n : Int) (a.n : Int) (by omega) (by omega) (by rw [hz2]; omega) (by omega)
    rw [this, hz1, Int.toNat_natCast, Nat.mul_one, hZ]
    simp [Value.cells, made_one]
  have HH : Hid (∀ (w1 : World) (g2 : Nat), RowAt w1 g1 a.n (fun j => st (a.part s j)) → RowAt w1 g2 a.n (fun j => .bool (lost1 i j)) →
      Calls Tryz.prog 68 #[.slice (some ⟨g1, 0, none⟩) a.n a.n, .slice (some ⟨g2, 0, none⟩) a.n a.n] w1 fun e w' => ∃ (gp cp : Nat), e = .returned (.tuple #[.slice (some ⟨gp, 0, none⟩) a.n cp, .nilIface]) ∧ RowAt w' gp a.n (fun j => st (a.heal1 s i j)) ∧ Below w1.heap.size w1 w') := fun w1 g2 h1 h3 => by
    have hk : a.n - 2 + 2 = a.n := by omega
    have r1 := h1.rd (Nat.le_refl _) (by omega)
    have r3 := h3.rd (Nat.le_refl _) (by omega)
    have := pheal_ok (a.n - 2) a.size (by omega) (by omega) (.slice (some ⟨g1, 0, none⟩) a.n a.n) (.slice (some ⟨g2, 0, none⟩) a.n a.n) (a.part s) (lost1 i) w1 (by rw [hk]; exact r1) (by rw [hk]; exact r3) (ix_lost1 i _) (fun _ _ => Arr.part_len ho hs (Arr.lo_none ho h0 _)) ho.2.2.1.2
    refine this.mono fun e w' ⟨v', D, he, hD, hO, hB⟩ => ?_
    rw [hk] at hO
    obtain ⟨gp, cp, rfl, _, _, _, hR⟩ := rowAt_own hO (by omega)
    exact ⟨gp, cp, he, hR.congr (fun j _ => by rw [Arr.heal1_is ho hD j]), hB⟩
  have HPK : Hid (∀ (w5 : World) (m : Nat), PA w5 x a N → Calls Tryz.prog 19 #[.pointer (some ⟨x.p, 0, none⟩), .int .i64 ((ord a.n s i : Nat) : Int), .int .i64 (s : Int), st (a.heal1 s i i)] (w5.drewN m) fun e w' => e = .returned .nilIface ∧ PA w' x (a.poke ((ord a.n s i : Nat) : Int) (s : Int) (a.heal1 s i i)) (N + 1) ∧ But (x.F a.n) w5 w') := fun w5 m hp => by
    have := pa_poke (hp.drewN m) ho hN ((ord a.n s i : Nat) : Int) (s : Int) (a.heal1 s i i)
    rw [(Arr.poke_none hs h0 (ord_lt hn1) (Arr.heal1_len a s i i)).1, errV, if_pos rfl] at this
    exact this.mono fun e w' ⟨h1, h2, h3⟩ => ⟨h1, h2, (But.drewN (But.refl _ _) m).trans h3 (Grows.refl _ _)⟩
  have HP : Hid (PA w x a N) := h
  have HLT : Hid (∀ k, x.F a.n k → k < w.heap.size) := h.lt
  have HR1 : Hid (RowAt w g1 a.n (fun j => st (a.part s j))) := h1
  clear h h1 ho h0 hZ hs
  have hin : (i : Int) < (a.n : Int) := by omega
  generalize a.poke ((ord a.n s i : Nat) : Int) (s : Int) (a.heal1 s i i) = a' at *
  obtain ⟨d, hd⟩ : ∃ d, d = ord a.n s i := ⟨_, rfl⟩
  have HD : Hid (d = ord a.n s i) := hd
  rw [← hd] at HPK ⊢
  clear hd
  go_enter Tryz.func57, Tryz.ntmps57
  go_wp2_with fail
  refine O.mono ?_
  rintro e w1 ⟨v', rfl, hO, hB1⟩
  obtain ⟨g0, cap, rfl, hc1, hc2, hg0, hR0⟩ := rowAt_own hO (by omega)
  have hb2 := al_below w1 (.cells (Array.replicate a.n (Value.bool false)) 4)
  have n2 := RowAt.new w1 a.n (Value.bool false) 4
  have p2 := n2.put i (.bool true)
  have hB12 : Below w1.heap.size w1 ((w1.alloc (.cells (Array.replicate a.n (Value.bool false)) 4)).setCell ⟨w1.heap.size, i, none⟩ (.bool true)) := hb2.setCell (p := ⟨w1.heap.size, i, none⟩) (Nat.le_refl _) _
  have hH := HH.out ((w1.alloc (.cells (Array.replicate a.n (Value.bool false)) 4)).setCell ⟨w1.heap.size, i, none⟩ (.bool true)) w1.heap.size ((HR1.out.old hB1).old hB12) (p2.1.congr (fun j _ => by
    unfold up lost1
    by_cases q : j = i
    · rw [if_pos q, decide_eq_true q]
    · rw [if_neg q, decide_eq_false q]))
  have k2 := (n2.2 i hi)
  dsimp only at k2
  obtain ⟨k2, f2⟩ := k2
  have HB13 : Hid (Below w.heap.size w ((w1.alloc (.cells (Array.replicate a.n (Value.bool false)) 4)).setCell ⟨w1.heap.size, i, none⟩ (.bool true))) := hB1.trans (hB12.mono hB1.size)
  have HR0 : Hid (RowAt ((w1.alloc (.cells (Array.replicate a.n (Value.bool false)) 4)).setCell ⟨w1.heap.size, i, none⟩ (.bool true)) g0 a.n (fun j => vi ((ord a.n s j : Nat) : Int))) := hR0.old hB12
  rw [← HZ.out] at hH k2 f2 HB13 HR0
  clear O hO hb2 n2 p2 hB12 hR0 HH HR1 hB1
  go_upto_region 5 with fail
  generalize w1.alloc (.cells Z 4) = w2 at *
  go_wp2_with fail
  generalize w2.setCell ⟨w1.heap.size, i, none⟩ (.bool true) = w3 at *
  refine hH.mono ?_
  rintro e w4 ⟨gp, cp, rfl, hRp, hB4⟩
  have hB14 := HB13.out.trans (hB4.mono HB13.out.size)
  have hR0 := HR0.out.old hB4
  have kp := (hRp.2 i hi).1
  have k0 := (hR0.2 i hi).1
  dsimp only at kp k0
  rw [← HD.out] at k0
  have P := fun m => HPK.out w4 m (HP.out.old hB14)
  have HK0 : Hid (∀ w5, But (x.F a.n) w4 w5 → w5.cell? ⟨g0, i, none⟩ = some (vi (d : Int))) := fun w5 hb => by rw [HD.out]; exact ((hR0.but hb (fun q => by have := HLT.out g0 q; omega)).2 i hi).1
  have HB14 : Hid (Below w.heap.size w w4) := hB14
  clear hH HB13 HR0 hRp hB4 hR0 HPK HP HZ hmk k2 f2 hB14 HLT
  generalize a.heal1 s i i = t at *
  go_upto_region 9 with fail
  refine region_tail 10 (by kernel_rfl) (by kernel_rfl) ?_
  simp only [List.take_succ_cons, List.take_zero, List.drop_succ_cons, List.drop_zero]
  repeat (go_big_quiet_step (fail))
  refine wpQuiet_nil ?_
  intro w9 hw9
  obtain ⟨nq, rfl⟩ := hw9
  go_wp2_with fail
  refine (P _).mono ?_
  rintro e w5 ⟨rfl, hp5, hb5⟩
  have k5 := HK0.out w5 hb5
  unfold vi at k5
  have HP5 : Hid (PA w5 x a' (N + 1)) := hp5
  have HB5 : Hid (But (x.F a.n) w w5) := (Below.but HB14.out _).trans hb5 (Grows.refl _ _)
  clear P hp5 hb5 HK0 HB14 kp k0
  go_wp2
  go_ret2
  exact ⟨rfl, HP5.out, HB5.out⟩
namespace Arr
/-- a row is looked at: the fault, the answer, and what stands there then -/
noncomputable def rowE (a : Arr) (m r : Int) : Nat := if a.wholeE m r = 0 then a.scrubE r.toNat else a.wholeE m r
noncomputable def rowD (a : Arr) (m r : Int) : Int := if a.wholeE m r = 0 then a.scrubD r.toNat else 0
noncomputable def row' (a : Arr) (m r : Int) : Arr := if a.wholeE m r = 0 then a.scrub r.toNat else a
theorem wholeE_ok {a : Arr} {m r : Int} (h : a.wholeE m r = 0) : m = a.n ∧ ∃ s : Nat, r = s ∧ s < a.rows ∧ a.nl s = 0 := by
  unfold wholeE at h
  split at h
  · omega
  · rename_i q
    obtain ⟨s, rfl, hs⟩ := noR_nat (fun z => q (.inr z))
    split at h
    · rename_i q2
      rw [Int.toNat_natCast] at h
      split at h
      · omega
      · exact ⟨q2, s, rfl, hs, by omega⟩
    · omega
end Arr
set_option maxRecDepth 100000 in
set_option maxHeartbeats 2000000 in
theorem srow_any {w : World} {x : PAd} {a : Arr} {N : Nat} (h : PA w x a N) (ho : a.ok) (hN : N < 900000) (m r : Int) :
    Calls Tryz.prog 29 #[.pointer (some ⟨x.p, 0, none⟩), .int .i64 m, .int .i64 r] w fun e w' => e = .returned (.tuple #[.int .i64 (a.rowD m r), errV (a.rowE m r)]) ∧ PA w' x (a.row' m r) (N + 1) ∧ But (x.F a.n) w w' := by
  by_cases he : a.wholeE m r = 0
  · obtain ⟨rfl, s, rfl, hs, h0⟩ := Arr.wholeE_ok he
    have e1 : a.rowE (a.n : Int) (s : Int) = a.scrubE s := by unfold Arr.rowE; rw [if_pos he, Int.toNat_natCast]
    have e2 : a.rowD (a.n : Int) (s : Int) = a.scrubD s := by unfold Arr.rowD; rw [if_pos he, Int.toNat_natCast]
    have e3 : a.row' (a.n : Int) (s : Int) = a.scrub s := by unfold Arr.row'; rw [if_pos he, Int.toNat_natCast]
    rw [e1, e2, e3]
    have C := whole_ok h ho s hs h0
    have hn := ho.1
    have HL : Hid (∀ (w1 : World) (g1 : Nat), RowAt w1 g1 a.n (fun i => st (a.part s i)) → Calls Tryz.prog 56 #[.slice (some ⟨g1, 0, none⟩) a.n a.n] w1 fun e w' => e = .returned (.tuple #[.int .i64 (a.lz s), errV (a.lf s)]) ∧ Below w1.heap.size w1 w') := fun w1 g1 h1 => by
      have hk : a.n - 2 + 2 = a.n := by omega
      have := plocate_ok (a.n - 2) a.size (by omega) (by omega) (.slice (some ⟨g1, 0, none⟩) a.n a.n) (a.part s) w1 (by rw [hk]; exact h1.rd (Nat.le_refl _) (by omega)) (fun i _ => Arr.part_len ho hs (Arr.lo_none ho h0 _)) ho.2.2.1.2
      refine this.mono fun e w' ⟨z, f, he, hL, hB⟩ => ⟨?_, hB⟩
      obtain ⟨q1, q2⟩ := Arr.l_same ho hL
      rw [he, q1, q2]
    have HP : Hid (PA w x a N) := h
    have HW := Arr.scrub_ways ho s
    have HM : Hid (∀ (w2 : World) (i g1 : Nat), i < a.n → PA w2 x a N → RowAt w2 g1 a.n (fun i => st (a.part s i)) → _) := fun w2 i g1 hi hp h1 => mend_ok hp ho hN s hs h0 i hi g1 h1
    clear h ho e1 e2 e3 he
    rcases HW with ⟨q, _⟩ | ⟨_, ⟨q1, q2⟩, q3, q4, q5⟩ | ⟨_, ⟨q1, q2⟩, q3, q4, q5⟩ | ⟨_, ⟨q1, q2, hli⟩, q3, q4, q5⟩
    · omega
    · rw [q3, q4, q5]
      rw [errV, if_neg (by omega)]
      simp only [q1, q2] at HL
      clear q1 q2 q3 q4 q5 HM
      go_enter Tryz.func29, Tryz.ntmps29
      go_wp2_with fail
      refine C.mono ?_
      rintro e w1 ⟨g1, rfl, hR1, hg, hB1⟩
      have L := HL.out w1 g1 hR1
      rw [errV, if_neg (by omega)] at L
      clear C hR1 HL
      go_wp2_with fail
      refine L.mono ?_
      rintro e w2 ⟨rfl, hB2⟩
      have HB : Hid (Below w.heap.size w w2) := hB1.trans (hB2.mono hB1.size)
      clear L hB1 hB2
      go_wp2
      go_ret2
      exact ⟨rfl, (HP.out.old HB.out).more (by omega), Below.but HB.out _⟩
    · rw [q3, q4, q5]
      rw [errV, if_pos rfl]
      simp only [q1, q2] at HL
      clear q1 q2 q3 q4 q5 HM
      go_enter Tryz.func29, Tryz.ntmps29
      go_wp2_with fail
      refine C.mono ?_
      rintro e w1 ⟨g1, rfl, hR1, hg, hB1⟩
      have L := HL.out w1 g1 hR1
      rw [errV, if_pos rfl] at L
      clear C hR1 HL
      go_wp2_with fail
      refine L.mono ?_
      rintro e w2 ⟨rfl, hB2⟩
      have HB : Hid (Below w.heap.size w w2) := hB1.trans (hB2.mono hB1.size)
      clear L hB1 hB2
      go_wp2
      go_ret2
      exact ⟨rfl, (HP.out.old HB.out).more (by omega), Below.but HB.out _⟩
    · rw [q3, q4, q5]
      rw [errV, if_pos rfl]
      simp only [q1, q2] at HL
      have HM1 := fun (w2 : World) (g1 : Nat) => HM.out w2 (a.li s) g1 hli
      clear q1 q2 q3 q4 q5 HM
      generalize a.poke ((ord a.n s (a.li s) : Nat) : Int) (s : Int) (a.heal1 s (a.li s) (a.li s)) = a' at *
      generalize ord a.n s (a.li s) = d at *
      generalize a.li s = i at *
      have HM : Hid _ := HM1
      have hi1 : ((i : Int) == -1) = false := by rw [beq_eq_false_iff_ne]; omega
      clear HM1
      go_enter Tryz.func29, Tryz.ntmps29
      go_wp2_with fail
      refine C.mono ?_
      rintro e w1 ⟨g1, rfl, hR1, hg, hB1⟩
      have L := HL.out w1 g1 hR1
      rw [errV, if_pos rfl] at L
      have HR1 : Hid (RowAt w1 g1 a.n (fun i => st (a.part s i))) := hR1
      clear C hR1 HL
      go_wp2_with fail
      refine L.mono ?_
      rintro e w2 ⟨rfl, hB2⟩
      have hB := hB1.trans (hB2.mono hB1.size)
      have M := HM.out w2 g1 (HP.out.old hB) (HR1.out.old hB2)
      have HB : Hid (Below w.heap.size w w2) := hB
      clear L hB1 hB2 HM hB HR1
      go_wp2_with fail
      refine M.mono ?_
      rintro e w3 ⟨rfl, hp3, hb3⟩
      have HP3 : Hid (PA w3 x a' (N + 1)) := hp3
      have HB3 : Hid (But (x.F a.n) w w3) := (Below.but HB.out _).trans hb3 (Grows.refl _ _)
      clear M hp3 hb3
      go_wp2
      go_ret2
      exact ⟨rfl, HP3.out, HB3.out⟩
  · have e1 : a.rowE m r = a.wholeE m r := by unfold Arr.rowE; rw [if_neg he]
    have e2 : a.rowD m r = 0 := by unfold Arr.rowD; rw [if_neg he]
    have e3 : a.row' m r = a := by unfold Arr.row'; rw [if_neg he]
    rw [e1, e2, e3]
    have C := whole_bad h ho m r he
    have HP : Hid (PA w x a N) := h
    rw [errV, if_neg he] at C
    rw [errV, if_neg he]
    clear h ho e1 e2 e3 he
    generalize a.wholeE m r = c at *
    go_enter Tryz.func29, Tryz.ntmps29
    go_wp2_with fail
    refine C.mono ?_
    rintro e w1 ⟨rfl, hB1⟩
    have HB : Hid (Below w.heap.size w w1) := hB1
    clear C hB1
    go_wp2
    go_ret2
    exact ⟨rfl, (HP.out.old HB.out).more (by omega), Below.but HB.out _⟩
namespace Arr
theorem row_in {a : Arr} (ho : a.ok) {s : Nat} (hs : s < a.rows) : a.rowD (a.n : Int) (s : Int) = a.scrubD s ∧ a.rowE (a.n : Int) (s : Int) = a.scrubE s ∧ a.row' (a.n : Int) (s : Int) = a.scrub s := by
  have hn := ho.1
  have e : a.wholeE (a.n : Int) (s : Int) = if 0 < a.nl s then 6 else 0 := by
    unfold wholeE
    rw [if_neg (by
      rintro (q | q)
      · exact q (lbad_of (by omega) (by omega))
      · unfold noR at q; omega), if_pos rfl, Int.toNat_natCast]
  unfold rowD rowE row'
  rw [e, Int.toNat_natCast]
  by_cases h : 0 < a.nl s
  · rw [if_pos h, if_neg (by omega), if_neg (by omega), if_neg (by omega)]
    rcases scrub_ways ho s with ⟨_, q1, q2, q3⟩ | ⟨q, _⟩ | ⟨q, _⟩ | ⟨q, _⟩
    · rw [q1, q2, q3]; exact ⟨rfl, rfl, rfl⟩
    · omega
    · omega
    · omega
  · rw [if_neg h, if_pos rfl, if_pos rfl, if_pos rfl]
    exact ⟨rfl, rfl, rfl⟩
end Arr
end Go.Proofs.YtilfjahbdlepjaaGreatDoor

/- Which rows are left as they are, by their errors: a walk over the program. -/
namespace Go.Proofs.YtilfjahbdlepjaaGreatDoor
open Go.RowKit
set_option maxRecDepth 100000 in
set_option maxHeartbeats 1000000 in
theorem isleft_nil (w : World) :
    Calls Tryz.prog 58 #[.nilIface] w fun e w' => e = .returned (.bool false) ∧ Below w.heap.size w w' := by
  go_enter Tryz.func58, Tryz.ntmps58
  go_wp2_with fail
  refine (as_nil _ _).mono ?_
  rintro e w1 ⟨rfl, hw⟩
  obtain rfl := hw.symm
  go_wp2
  go_ret
  exact ⟨rfl, al_below _ _⟩
set_option maxRecDepth 100000 in
set_option maxHeartbeats 1000000 in
theorem isleft_errno (n : Int) (b : Bool) (hb : (n = 6 ∨ n = 8) ↔ b = true) (w : World) (hg : Handle w) :
    Calls Tryz.prog 58 #[.iface 77 (.int .i64 n)] w fun e w' => e = .returned (.bool b) ∧ Below w.heap.size w w' := by
  have hk : Kept w (w.alloc (.cells #[.int .i64 0] 77)) := (Kept.refl w).alloc _ _
  have hgA : Handle (w.alloc (.cells #[.int .i64 0] 77)) := hg.kept hk
  have htA : (w.alloc (.cells #[.int .i64 0] 77)).cell? ⟨w.heap.size, 0, none⟩ = some (.int .i64 0) := by simp
  have hfA : (w.alloc (.cells #[.int .i64 0] 77)).frozen? ⟨w.heap.size, 0, none⟩ = false := by simp
  have A := as_hit n ⟨w.heap.size, 0, none⟩ (.int .i64 0) _ hgA htA hfA
  clear hk hgA htA hfA hg
  by_cases h6 : n = 6
  · subst h6
    obtain rfl : b = true := hb.1 (.inl rfl)
    clear hb
    go_enter Tryz.func58, Tryz.ntmps58
    go_wp2_with fail
    refine A.mono ?_
    rintro e w' ⟨rfl, rfl⟩
    clear A
    go_wp2
    go_ret
    exact ⟨rfl, (show Kept w _ from by repeat (first | exact Kept.refl _ | apply Kept.alloc)).below⟩
  · by_cases h8 : n = 8
    · subst h8
      obtain rfl : b = true := hb.1 (.inr rfl)
      clear hb
      go_enter Tryz.func58, Tryz.ntmps58
      go_wp2_with fail
      refine A.mono ?_
      rintro e w' ⟨rfl, rfl⟩
      clear A
      go_wp2
      go_ret
      exact ⟨rfl, (show Kept w _ from by repeat (first | exact Kept.refl _ | apply Kept.alloc)).below⟩
    · obtain rfl : b = false := by
        cases b with
        | false => rfl
        | true => exact absurd (hb.2 rfl) (by omega)
      clear hb
      have e6 : (n == 6) = false := by simpa using h6
      have e8 : (n == 8) = false := by simpa using h8
      go_enter Tryz.func58, Tryz.ntmps58
      go_wp2_with fail
      refine A.mono ?_
      rintro e w' ⟨rfl, rfl⟩
      clear A
      go_wp2
      go_ret
      exact ⟨rfl, (show Kept w _ from by repeat (first | exact Kept.refl _ | apply Kept.alloc)).below⟩
theorem isleft_any (k : Nat) (w : World) (hg : Handle w) :
    Calls Tryz.prog 58 #[errV k] w fun e w' => e = .returned (.bool (decide (k = 6 ∨ k = 8))) ∧ Below w.heap.size w w' := by
  unfold errV
  split
  · rename_i h
    subst h
    exact isleft_nil w
  · refine isleft_errno (k : Int) (decide (k = 6 ∨ k = 8)) ?_ w hg
    rw [decide_eq_true_iff]
    omega
end Go.Proofs.YtilfjahbdlepjaaGreatDoor

/- All rows are looked at: a walk over the program. -/
namespace Go.Proofs.YtilfjahbdlepjaaGreatDoor
open Go.RowKit El Pol Mx Lay
/-- between two rows -/
structure AllS (w0 w : World) (x : PAd) (a : Arr) (N : Nat) (v : Value) (k : Nat) (wr : World) : Prop where
  al : AL w0 x (a.all k) (N + k) wr
  but : But (x.F a.n) w wr
  own : OwS w.heap.size wr v (a.spots k)
set_option maxRecDepth 100000 in
set_option maxHeartbeats 4000000 in
theorem sall_ok {w0 w : World} {x : PAd} {a : Arr} {N : Nat} (h : AL w0 x a N w) (ho : a.ok) (hN : N < 800000) (HG : Hid (Handle w0)) :
    Calls Tryz.prog 30 #[.pointer (some ⟨x.p, 0, none⟩), .int .i64 a.n, .int .i64 a.rows] w fun e w' => ∃ v, e = .returned (.tuple #[v, .nilIface]) ∧ AL w0 x (a.all a.rows) (N + a.rows) w' ∧ But (x.F a.n) w w' ∧ OwS w.heap.size w' v (a.spots a.rows) := by
  obtain ⟨i0, hi0, hz0, hz1, hz2⟩ := info_parts infoSp
  have hr2 := ho.2.1.2
  have HLT : Hid (∀ k, x.F a.n k → k < w.heap.size) := h.pa.lt
  have h00 : w0.heap.size ≤ w.heap.size := h.low.size
  have HS0 : Hid (AllS w0 w x a N (.slice none 0 0) 0 w) := ⟨h, But.refl _ _, OwS.nil _ _⟩
  have HO : Hid a.ok := ho
  have HR : Hid (∀ (v : Value) (k : Nat) (wr : World), k < a.rows → AllS w0 w x a N v k wr → Calls Tryz.prog 29 #[.pointer (some ⟨x.p, 0, none⟩), .int .i64 a.n, .int .i64 k] wr fun e w' => e = .returned (.tuple #[.int .i64 ((a.all k).scrubD k), errV ((a.all k).scrubE k)]) ∧ AL w0 x (a.all (k + 1)) (N + (k + 1)) w' ∧ But (x.F a.n) w w' ∧ OwS w.heap.size w' v (a.spots k)) := fun v k wr hk hS => by
    obtain ⟨s1, s2, _, _, _⟩ := Arr.all_same a k
    have hok := Arr.all_ok HO.out k
    have := srow_any hS.al.pa hok (by omega) ((a.all k).n : Int) (k : Int)
    obtain ⟨e1, e2, e3⟩ := Arr.row_in hok (s := k) (by rw [s2]; exact hk)
    rw [e1, e2, e3, s1] at this
    refine this.mono fun e w' ⟨he, hp, hb⟩ => ⟨he, ?_, hS.but.trans hb (Grows.refl _ _), ?_⟩
    · refine hS.al.next hp (by rw [s1]; exact hb) ?_
      exact (Arr.scrub_same _ _).1
    · have ho := hS.own
      unfold OwS at ho ⊢
      obtain ⟨h1, h2⟩ := ho
      refine ⟨h1, ?_⟩
      rcases h2 with h2 | ⟨g, cap, cur, rfl, hB, hg, rest⟩
      · exact .inl h2
      · refine .inr ⟨g, cap, cur, rfl, hB, ?_, rest⟩
        rw [hb.block g (by
          rcases Nat.lt_or_ge g wr.heap.size with q | q
          · exact q
          · rw [Array.getElem?_eq_none q] at hg; cases hg) (fun q => by have := HLT.out g q; omega)]
        exact hg
  have HI : Hid (∀ (k m : Nat) (wr : World), AL w0 x (a.all m) (N + m) wr → Calls Tryz.prog 58 #[errV k] wr fun e w' => e = .returned (.bool (decide (k = 6 ∨ k = 8))) ∧ Below wr.heap.size wr w') := fun k m wr hA => isleft_any k wr (HG.out.old hA.low)
  clear h ho
  go_enter Tryz.func30, Tryz.ntmps30
  go_wp2
  go_loopw [8, 13] (fun v t wr => ∃ k : Nat, k ≤ a.rows ∧ t = .int .i64 k ∧ AllS w0 w x a N v k wr) (fun _ t _ => a.rows - (intOf t).toNat)
  case atStart => exact ⟨0, Nat.zero_le _, rfl, HS0.out⟩
  case round =>
    clear HS0
    obtain ⟨k, hk, rfl, hS⟩ := hrel
    obtain ⟨av, cv, hv⟩ := hS.own.len
    subst hv
    by_cases hlt : k < a.rows
    · have C := HR.out _ k wr hlt hS
      have hlt' : (k : Int) < (a.rows : Int) := by omega
      have hW := Arr.scrub_ways (Arr.all_ok HO.out k) k
      have HSp : Hid (a.spots (k + 1) = a.spots k ++ if (a.all k).scrubE k = 0 ∧ 0 ≤ (a.all k).scrubD k then [(((a.all k).scrubD k).toNat, k)] else []) := rfl
      have hlen : (a.spots k).length ≤ k := Arr.spots_len a k
      clear hS HR
      rcases hW with ⟨_, q3, q4, _⟩ | ⟨_, _, q3, q4, _⟩ | ⟨_, _, q3, q4, _⟩ | ⟨_, _, q3, q4, _⟩
      · rw [q3, q4] at C
        have e : a.spots (k + 1) = a.spots k := by rw [HSp.out, q3, if_neg (by omega), List.append_nil]
        have HE : Hid (a.spots (k + 1) = a.spots k) := e
        rw [errV, if_neg (by omega)] at C
        clear q3 q4 HSp e
        go_wp2_with fail
        refine C.mono ?_
        rintro e w1 ⟨rfl, hA, hB, hOw⟩
        have I := HI.out 6 (k + 1) w1 hA
        rw [show decide (6 = 6 ∨ 6 = 8) = true from rfl, errV, if_neg (by omega)] at I
        have HA : Hid (∀ w2, Below w1.heap.size w1 w2 → AllS w0 w x a N (.slice av (a.spots k).length cv) (k + 1) w2) := fun w2 hb => ⟨hA.old hb, hB.trans (Below.but hb (x.F a.n)) (Grows.refl _ _), by rw [HE.out]; exact hOw.old hb⟩
        clear C hA hB hOw HI
        go_wp2_with fail
        refine I.mono ?_
        rintro e w2 ⟨rfl, hb2⟩
        have HA2 : Hid (AllS w0 w x a N (.slice av (a.spots k).length cv) (k + 1) w2) := HA.out w2 hb2
        clear I HA hb2
        go_wp2
        go_roundw
        case rel => exact ⟨k + 1, by omega, by go_num, HA2.out⟩
        case measure => simp [intOf]; omega
      · rw [q3, q4] at C
        have e : a.spots (k + 1) = a.spots k := by rw [HSp.out, q3, if_neg (by omega), List.append_nil]
        have HE : Hid (a.spots (k + 1) = a.spots k) := e
        rw [errV, if_neg (by omega)] at C
        clear q3 q4 HSp e
        go_wp2_with fail
        refine C.mono ?_
        rintro e w1 ⟨rfl, hA, hB, hOw⟩
        have I := HI.out 8 (k + 1) w1 hA
        rw [show decide (8 = 6 ∨ 8 = 8) = true from rfl, errV, if_neg (by omega)] at I
        have HA : Hid (∀ w2, Below w1.heap.size w1 w2 → AllS w0 w x a N (.slice av (a.spots k).length cv) (k + 1) w2) := fun w2 hb => ⟨hA.old hb, hB.trans (Below.but hb (x.F a.n)) (Grows.refl _ _), by rw [HE.out]; exact hOw.old hb⟩
        clear C hA hB hOw HI
        go_wp2_with fail
        refine I.mono ?_
        rintro e w2 ⟨rfl, hb2⟩
        have HA2 : Hid (AllS w0 w x a N (.slice av (a.spots k).length cv) (k + 1) w2) := HA.out w2 hb2
        clear I HA hb2
        go_wp2
        go_roundw
        case rel => exact ⟨k + 1, by omega, by go_num, HA2.out⟩
        case measure => simp [intOf]; omega
      · rw [q3, q4] at C
        have e : a.spots (k + 1) = a.spots k := by rw [HSp.out, q4, if_neg (by omega), List.append_nil]
        have HE : Hid (a.spots (k + 1) = a.spots k) := e
        rw [errV, if_pos rfl] at C
        clear q3 q4 HSp e
        go_wp2_with fail
        refine C.mono ?_
        rintro e w1 ⟨rfl, hA, hB, hOw⟩
        have I := HI.out 0 (k + 1) w1 hA
        rw [show decide (0 = 6 ∨ 0 = 8) = false from rfl, errV, if_pos rfl] at I
        have HA : Hid (∀ w2, Below w1.heap.size w1 w2 → AllS w0 w x a N (.slice av (a.spots k).length cv) (k + 1) w2) := fun w2 hb => ⟨hA.old hb, hB.trans (Below.but hb (x.F a.n)) (Grows.refl _ _), by rw [HE.out]; exact hOw.old hb⟩
        clear C hA hB hOw HI
        go_wp2_with fail
        refine I.mono ?_
        rintro e w2 ⟨rfl, hb2⟩
        have HA2 : Hid (AllS w0 w x a N (.slice av (a.spots k).length cv) (k + 1) w2) := HA.out w2 hb2
        clear I HA hb2
        go_wp2
        go_roundw
        case rel => exact ⟨k + 1, by omega, by go_num, HA2.out⟩
        case measure => simp [intOf]; omega
      · rw [q3, q4] at C
        obtain ⟨d, hd⟩ : ∃ d, d = ord (a.all k).n k ((a.all k).li k) := ⟨_, rfl⟩
        rw [← hd] at q4 C
        have e : a.spots (k + 1) = a.spots k ++ [(d, k)] := by rw [HSp.out, q3, q4, if_pos ⟨rfl, by omega⟩, Int.toNat_natCast]
        have HE : Hid (a.spots (k + 1) = a.spots k ++ [(d, k)]) := e
        rw [errV, if_pos rfl] at C
        clear q3 q4 HSp e hd
        have hd1 : ((d : Int) != -1) = true := by rw [bne_iff_ne]; omega
        go_wp2_with fail
        refine C.mono ?_
        rintro e w1 ⟨rfl, hA, hB, hOw⟩
        have I := HI.out 0 (k + 1) w1 hA
        rw [show decide (0 = 6 ∨ 0 = 8) = false from rfl, errV, if_pos rfl] at I
        have HA : Hid (∀ w2, Below w1.heap.size w1 w2 → AL w0 x (a.all (k + 1)) (N + (k + 1)) w2 ∧ But (x.F a.n) w w2 ∧ w2.ownsRow w.heap.size 60 2 (.slice av (a.spots k).length cv) (a.spots k).length ((a.spots k).flatMap spv)) := fun w2 hb => ⟨hA.old hb, hB.trans (Below.but hb (x.F a.n)) (Grows.refl _ _), hOw.old hb⟩
        clear C hA hB hOw HI
        go_wp2_with fail
        refine I.mono ?_
        rintro e w2 ⟨rfl, hb2⟩
        obtain ⟨hA2, hB2, hO2⟩ := HA.out w2 hb2
        have HA2 : Hid (AL w0 x (a.all (k + 1)) (N + (k + 1)) w2) := hA2
        have HB2 : Hid (But (x.F a.n) w w2) := hB2
        have hsz : w.heap.size ≤ w2.heap.size := hB2.size
        clear I HA hb2 hA2 hB2
        go_wp2_with (first | (at_builtin; refine wpList_append_own _ rfl _ _ 58 rfl w.heap.size 60 i0 (.agg #[.int .i64 0, .int .i64 0]) 2 16 Tryz.underlying58 hi0 hz0 hz1 hz2 rfl (by decide) _ _ _ rfl (World.ownsRow.alloc hO2 _) ⟨w2.heap.size, 0, none⟩ 1 1 (spv (d, k)) rfl rfl (spot_cells d k _) (by intro u hu; simp [spv] at hu; rcases hu with rfl | rfl <;> rfl) (by unfold maxLen; omega) (by omega) (by simp; omega) ?_))
        intro v3 w3 hown3 hgrow3 _
        have HN : Hid (AllS w0 w x a N v3 (k + 1) w3) := by
          have hA3 := HA2.out.old (al_below w2 (.cells #[.int .i64 (d : Int), .int .i64 (k : Int)] 60))
          have hB3 : But (x.F a.n) w (w2.alloc (.cells #[.int .i64 (d : Int), .int .i64 (k : Int)] 60)) := HB2.out.trans (Below.but (al_below w2 _) (x.F a.n)) (Grows.refl _ _)
          have s1 := (Arr.all_same a (k + 1)).1
          have hlow : ∀ g, (Value.slice av (a.spots k).length cv).ownBlock = some g → w.heap.size ≤ g := fun g hg => (World.ownsRow.lt hO2 g hg).1
          have h0 := h00
          refine ⟨hA3.grown hgrow3 (fun g hg => ⟨by have := hlow g hg; omega, fun q => ?_⟩), ?_, by rw [HE.out]; exact OwS.snoc hown3⟩
          · rw [s1] at q
            have := HLT.out g q
            have := hlow g hg
            omega
          · refine hB3.trans (But.grown (F := fun g => (Value.slice av (a.spots k).length cv).ownBlock = some g) hgrow3 (fun g hg => hg)) (fun g hg => .inr (hlow g hg))
        clear hown3 hgrow3 hO2 HA2 HB2
        go_wp2
        go_roundw
        case rel => exact ⟨k + 1, by omega, by go_num, HN.out⟩
        case measure => simp [intOf]; omega
    · have e : k = a.rows := by omega
      subst e
      have HSS : Hid (AllS w0 w x a N (.slice av (a.spots a.rows).length cv) a.rows wr) := hS
      clear hS
      go_wp2
      go_ret2
      exact ⟨_, rfl, HSS.out.al, HSS.out.but, HSS.out.own⟩
theorem sall_is {w0 w : World} {x : PAd} {a : Arr} {N n rows : Nat} (h : AL w0 x a N w) (ho : a.ok) (hN : N < 800000) (HG : Hid (Handle w0)) (hn : a.n = n) (hr : a.rows = rows) :
    Calls Tryz.prog 30 #[.pointer (some ⟨x.p, 0, none⟩), .int .i64 n, .int .i64 rows] w fun e w' => ∃ ao cap, e = .returned (.tuple #[.slice ao (a.spots rows).length cap, .nilIface]) ∧ AL w0 x (a.all rows) (N + rows) w' ∧ But (x.F n) w w' ∧ OwS w.heap.size w' (.slice ao (a.spots rows).length cap) (a.spots rows) := by
  subst hn
  subst hr
  refine (sall_ok h ho hN HG).mono fun e w' ⟨v, he, h1, h2, h3⟩ => ?_
  obtain ⟨ao, cap, rfl⟩ := h3.len
  exact ⟨ao, cap, he, h1, h2, h3⟩
end Go.Proofs.YtilfjahbdlepjaaGreatDoor
