/- slices.IndexFunc, ContainsFunc of locks: walks over the program. -/
import Derived.Test.YtagindfgfamacaaDoorLkW
namespace Go.Proofs.YtagindfgfamacaaDoor
open Go.RowKit
set_option maxRecDepth 100000 in
set_option maxHeartbeats 1000000 in
theorem knowsindex_any (v : Value) (l : List Lk) (z : Int) (h : Nat) (w : World) (hl : l.length ≤ 1000) (hr : RdLk w v l) (hh : w.cell? ⟨h, 0, none⟩ = some (.int .i64 z)) :
    Calls Tryd.prog 71 #[v, .func (.func 58) #[] #[.pointer (some ⟨h, 0, none⟩)]] w fun e w' => ∃ zz, e = .returned (.int .i64 zz) ∧ Fst0 (fun i => isW z (lka l i)) l.length zz ∧ Below w.heap.size w w' := by
  obtain ⟨a1, c1, rfl, _, _⟩ := hr.len
  have HR : Hid (RdLk w (.slice a1 l.length c1) l) := hr
  have HH : Hid (w.cell? ⟨h, 0, none⟩ = some (.int .i64 z)) := hh
  clear hr hh
  obtain ⟨m, hm⟩ : ∃ m, m = l.length := ⟨_, rfl⟩
  rw [← hm] at HR hl ⊢
  have HM : Hid (m = l.length) := hm
  clear hm
  go_enter Tryd.func71, Tryd.ntmps71
  go_wp2
  go_loopw [8] (fun t wr => ∃ k : Nat, k ≤ m ∧ t = .int .i64 k ∧ Hid (∀ i, i < k → isW z (lka l i) = false) ∧ Below w.heap.size w wr) (fun t _ => m - (intOf t).toNat)
  case atStart => exact ⟨0, Nat.zero_le _, rfl, fun i hi => absurd hi (Nat.not_lt_zero _), Below.refl _ _⟩
  case round =>
    obtain ⟨k, hk, rfl, HF, hB⟩ := hrel
    by_cases hlt : k < m
    · obtain ⟨ad, rfl, d0, d1, d2, d3⟩ := (HR.out.old hB).at k (by rw [← HM.out]; exact hlt)
      have C := knows1_any (lka l k) z h wr ((hB.cell (World.block_lt_of_cell? w _ HH.out)).trans HH.out)
      obtain ⟨b, hb⟩ : ∃ b, b = isW z (lka l k) := ⟨_, rfl⟩
      rw [← hb] at C
      unfold alk at C
      have HB : Hid (b = isW z (lka l k)) := hb
      clear hb
      generalize (lka l k).who = e0 at *
      generalize (lka l k).fr = e1 at *
      generalize (lka l k).to = e2 at *
      generalize (lka l k).al = e3 at *
      have hsz := hB.size
      cases b
      all_goals
        go_wp2_with fail
        refine C.mono ?_
        rintro e w1 ⟨rfl, hB1⟩
        have hB2 : Below w.heap.size w w1 := hB.trans (hB1.mono hsz)
        clear C hB hB1 d0 d1 d2 d3
        go_wp2
      · go_roundw
        case rel => exact ⟨k + 1, by omega, by go_num, fun i hi => by
          by_cases e : i = k
          · rw [e]; exact HB.out.symm
          · exact HF.out i (by omega), hB2⟩
        case measure => simp [intOf]; omega
      · go_ret
        exact ⟨_, rfl, .inr ⟨k, hlt, rfl, HB.out.symm, HF.out⟩, hB2⟩
    · go_wp2
      go_ret
      exact ⟨_, rfl, .inl ⟨rfl, fun i hi => HF.out i (by omega)⟩, hB⟩
set_option maxRecDepth 100000 in
set_option maxHeartbeats 1000000 in
theorem withoutindex_any (v : Value) (l : List Lk) (z : Int) (h : Nat) (w : World) (hl : l.length ≤ 1000) (hr : RdLk w v l) (hh : w.cell? ⟨h, 0, none⟩ = some (.int .i64 z)) :
    Calls Tryd.prog 71 #[v, .func (.func 61) #[] #[.pointer (some ⟨h, 0, none⟩)]] w fun e w' => ∃ zz, e = .returned (.int .i64 zz) ∧ Fst0 (fun i => isW z (lka l i)) l.length zz ∧ Below w.heap.size w w' := by
  obtain ⟨a1, c1, rfl, _, _⟩ := hr.len
  have HR : Hid (RdLk w (.slice a1 l.length c1) l) := hr
  have HH : Hid (w.cell? ⟨h, 0, none⟩ = some (.int .i64 z)) := hh
  clear hr hh
  obtain ⟨m, hm⟩ : ∃ m, m = l.length := ⟨_, rfl⟩
  rw [← hm] at HR hl ⊢
  have HM : Hid (m = l.length) := hm
  clear hm
  go_enter Tryd.func71, Tryd.ntmps71
  go_wp2
  go_loopw [8] (fun t wr => ∃ k : Nat, k ≤ m ∧ t = .int .i64 k ∧ Hid (∀ i, i < k → isW z (lka l i) = false) ∧ Below w.heap.size w wr) (fun t _ => m - (intOf t).toNat)
  case atStart => exact ⟨0, Nat.zero_le _, rfl, fun i hi => absurd hi (Nat.not_lt_zero _), Below.refl _ _⟩
  case round =>
    obtain ⟨k, hk, rfl, HF, hB⟩ := hrel
    by_cases hlt : k < m
    · obtain ⟨ad, rfl, d0, d1, d2, d3⟩ := (HR.out.old hB).at k (by rw [← HM.out]; exact hlt)
      have C := without1_any (lka l k) z h wr ((hB.cell (World.block_lt_of_cell? w _ HH.out)).trans HH.out)
      obtain ⟨b, hb⟩ : ∃ b, b = isW z (lka l k) := ⟨_, rfl⟩
      rw [← hb] at C
      unfold alk at C
      have HB : Hid (b = isW z (lka l k)) := hb
      clear hb
      generalize (lka l k).who = e0 at *
      generalize (lka l k).fr = e1 at *
      generalize (lka l k).to = e2 at *
      generalize (lka l k).al = e3 at *
      have hsz := hB.size
      cases b
      all_goals
        go_wp2_with fail
        refine C.mono ?_
        rintro e w1 ⟨rfl, hB1⟩
        have hB2 : Below w.heap.size w w1 := hB.trans (hB1.mono hsz)
        clear C hB hB1 d0 d1 d2 d3
        go_wp2
      · go_roundw
        case rel => exact ⟨k + 1, by omega, by go_num, fun i hi => by
          by_cases e : i = k
          · rw [e]; exact HB.out.symm
          · exact HF.out i (by omega), hB2⟩
        case measure => simp [intOf]; omega
      · go_ret
        exact ⟨_, rfl, .inr ⟨k, hlt, rfl, HB.out.symm, HF.out⟩, hB2⟩
    · go_wp2
      go_ret
      exact ⟨_, rfl, .inl ⟨rfl, fun i hi => HF.out i (by omega)⟩, hB⟩
set_option maxRecDepth 100000 in
set_option maxHeartbeats 1000000 in
theorem oddsindex_any (v : Value) (l : List Lk) (y : Lk) (h : Nat) (w : World) (hl : l.length ≤ 1000) (hr : RdLk w v l) (hh : LkAt w ⟨h, 0, none⟩ y) :
    Calls Tryd.prog 71 #[v, .func (.func 72) #[] #[.pointer (some ⟨h, 0, none⟩)]] w fun e w' => ∃ zz, e = .returned (.int .i64 zz) ∧ Fst0 (fun i => odd y (lka l i)) l.length zz ∧ Below w.heap.size w w' := by
  obtain ⟨a1, c1, rfl, _, _⟩ := hr.len
  have HR : Hid (RdLk w (.slice a1 l.length c1) l) := hr
  have HH : Hid (LkAt w ⟨h, 0, none⟩ y) := hh
  clear hr hh
  obtain ⟨m, hm⟩ : ∃ m, m = l.length := ⟨_, rfl⟩
  rw [← hm] at HR hl ⊢
  have HM : Hid (m = l.length) := hm
  clear hm
  go_enter Tryd.func71, Tryd.ntmps71
  go_wp2
  go_loopw [8] (fun t wr => ∃ k : Nat, k ≤ m ∧ t = .int .i64 k ∧ Hid (∀ i, i < k → odd y (lka l i) = false) ∧ Below w.heap.size w wr) (fun t _ => m - (intOf t).toNat)
  case atStart => exact ⟨0, Nat.zero_le _, rfl, fun i hi => absurd hi (Nat.not_lt_zero _), Below.refl _ _⟩
  case round =>
    obtain ⟨k, hk, rfl, HF, hB⟩ := hrel
    by_cases hlt : k < m
    · obtain ⟨ad, rfl, d0, d1, d2, d3⟩ := (HR.out.old hB).at k (by rw [← HM.out]; exact hlt)
      have C := odds1_any (lka l k) y h wr (HH.out.old hB)
      obtain ⟨b, hb⟩ : ∃ b, b = odd y (lka l k) := ⟨_, rfl⟩
      rw [← hb] at C
      unfold alk at C
      have HB : Hid (b = odd y (lka l k)) := hb
      clear hb
      generalize (lka l k).who = e0 at *
      generalize (lka l k).fr = e1 at *
      generalize (lka l k).to = e2 at *
      generalize (lka l k).al = e3 at *
      have hsz := hB.size
      cases b
      all_goals
        go_wp2_with fail
        refine C.mono ?_
        rintro e w1 ⟨rfl, hB1⟩
        have hB2 : Below w.heap.size w w1 := hB.trans (hB1.mono hsz)
        clear C hB hB1 d0 d1 d2 d3
        go_wp2
      · go_roundw
        case rel => exact ⟨k + 1, by omega, by go_num, fun i hi => by
          by_cases e : i = k
          · rw [e]; exact HB.out.symm
          · exact HF.out i (by omega), hB2⟩
        case measure => simp [intOf]; omega
      · go_ret
        exact ⟨_, rfl, .inr ⟨k, hlt, rfl, HB.out.symm, HF.out⟩, hB2⟩
    · go_wp2
      go_ret
      exact ⟨_, rfl, .inl ⟨rfl, fun i hi => HF.out i (by omega)⟩, hB⟩
set_option maxRecDepth 100000 in
theorem knowscontains_any (v : Value) (l : List Lk) (z : Int) (h : Nat) (w : World) (hl : l.length ≤ 1000) (hr : RdLk w v l) (hh : w.cell? ⟨h, 0, none⟩ = some (.int .i64 z)) :
    Calls Tryd.prog 59 #[v, .func (.func 58) #[] #[.pointer (some ⟨h, 0, none⟩)]] w fun e w' => e = .returned (.bool (hasW l z)) ∧ Below w.heap.size w w' := by
  have C := knowsindex_any v l z h w hl hr hh
  obtain ⟨a1, c1, rfl, _, _⟩ := hr.len
  clear hr hh
  have HE : Hid (anyB (fun i => isW z (lka l i)) l.length = hasW l z) := by (show _ = _); exact any_has l z
  rw [← HE.out]
  clear HE
  go_enter Tryd.func59, Tryd.ntmps59
  go_wp2_with fail
  refine C.mono ?_
  rintro e w1 ⟨zz, rfl, hz, hB⟩
  have HZ : Hid (decide (0 ≤ zz) = anyB (fun i => isW z (lka l i)) l.length) := hz.fst.any
  clear C hz
  go_wp2
  go_ret
  exact ⟨by rw [← HZ.out]; rfl, hB⟩
set_option maxRecDepth 100000 in
theorem oddscontains_any (v : Value) (l : List Lk) (y : Lk) (h : Nat) (w : World) (hl : l.length ≤ 1000) (hr : RdLk w v l) (hh : LkAt w ⟨h, 0, none⟩ y) :
    Calls Tryd.prog 59 #[v, .func (.func 72) #[] #[.pointer (some ⟨h, 0, none⟩)]] w fun e w' => e = .returned (.bool (oddL l y)) ∧ Below w.heap.size w w' := by
  have C := oddsindex_any v l y h w hl hr hh
  obtain ⟨a1, c1, rfl, _, _⟩ := hr.len
  clear hr hh
  have HE : Hid (anyB (fun i => odd y (lka l i)) l.length = oddL l y) := by (show _ = _); exact any_odd l y
  rw [← HE.out]
  clear HE
  go_enter Tryd.func59, Tryd.ntmps59
  go_wp2_with fail
  refine C.mono ?_
  rintro e w1 ⟨zz, rfl, hz, hB⟩
  have HZ : Hid (decide (0 ≤ zz) = anyB (fun i => odd y (lka l i)) l.length) := hz.fst.any
  clear C hz
  go_wp2
  go_ret
  exact ⟨by rw [← HZ.out]; rfl, hB⟩
end Go.Proofs.YtagindfgfamacaaDoor
