/- What a redo's check answers of one write, and of a list of them: walks over the program. -/
import Derived.Test.YtacfafbnimhibaaDoorRoC0
namespace Go.Proofs.YtacfafbnimhibaaDoor
open Go.RowKit El Pol
set_option maxRecDepth 100000 in
set_option maxHeartbeats 1000000 in
theorem check1_any (a : Int) (t : List El) (h p n : Nat) (ao : Option Addr) (cap : Nat) (w : World) (hh : w.cell? ⟨h, 0, none⟩ = some (.pointer (some ⟨p, 0, none⟩))) (hp : w.cell? ⟨p, 1, none⟩ = some (.slice ao n cap)) :
    Calls Tryd.prog 44 #[.agg #[.int .i64 a, st t], .pointer (some ⟨h, 0, none⟩)] w fun e w' => e = .returned (.bool (badW n (a, t))) ∧ Below w.heap.size w w' := by
  have L := long_any t
  have hb : Below w.heap.size w (w.alloc (.cells #[.int .i64 a, st t] 50)) := (Below.refl _ w).alloc (Nat.le_refl _) _
  have hh1 := (hb.cell (World.block_lt_of_cell? w _ hh)).trans hh
  have hp1 := (hb.cell (World.block_lt_of_cell? w _ hp)).trans hp
  have hc0 : (w.alloc (.cells #[.int .i64 a, st t] 50)).cell? ⟨w.heap.size, 0, none⟩ = some (.int .i64 a) := by rw [cell_of_row _ _ 0 _ _ _ (heap_alloc_new w _)]; rfl
  have hc1 : (w.alloc (.cells #[.int .i64 a, st t] 50)).cell? ⟨w.heap.size, 1, none⟩ = some (st t) := by rw [cell_of_row _ _ 1 _ _ _ (heap_alloc_new w _)]; rfl
  have HB : Hid (Below w.heap.size w (w.alloc (.cells #[.int .i64 a, st t] 50))) := hb
  obtain ⟨b, hbb⟩ : ∃ b, b = badW n (a, t) := ⟨_, rfl⟩
  rw [← hbb]
  have HBB : Hid (b = badW n (a, t)) := hbb
  clear hbb hb hh hp
  unfold st at L hc0 hc1 hh1 hp1 HB ⊢
  obtain ⟨s, hs⟩ : ∃ s, s = sb t := ⟨_, rfl⟩
  rw [← hs] at L hc0 hc1 hh1 hp1 HB ⊢
  clear hs
  go_enter Tryd.func44, Tryd.ntmps44
  go_wp2
  obtain ⟨w1, hw1⟩ : ∃ w1, w1 = w.alloc (.cells #[.int .i64 a, .string s] 50) := ⟨_, rfl⟩
  rw [← hw1] at HB hp1 hh1 hc0 hc1 ⊢
  clear hw1
  by_cases h1 : a < 0
  · have d1 : decide (a < 0) = true := decide_eq_true h1
    have HE : Hid (b = true) := by (show _ = _); rw [HBB.out]; unfold badW; rw [decide_eq_true h1]; rfl
    clear h1
    go_quiet (fail)
    go_wp2
    go_ret
    exact ⟨by rw [HE.out]; rfl, below_drewN HB.out _⟩
  · have d1 : decide (a < 0) = false := decide_eq_false h1
    by_cases h2 : (n : Int) ≤ a
    · have d2 : decide ((n : Int) ≤ a) = true := decide_eq_true h2
      have HE : Hid (b = true) := by (show _ = _); rw [HBB.out]; unfold badW; rw [decide_eq_false h1, decide_eq_true h2]; rfl
      clear h1 h2
      go_quiet (fail)
      go_wp2
      go_ret
      exact ⟨by rw [HE.out]; rfl, below_drewN HB.out _⟩
    · have d2 : decide ((n : Int) ≤ a) = false := decide_eq_false h2
      have HE : Hid (b = decide (16 < t.length)) := by (show _ = _); rw [HBB.out]; unfold badW; rw [decide_eq_false h1, decide_eq_false h2]; rfl
      clear h1 h2
      generalize decide (16 < t.length) = b2 at *
      go_quiet ((go_at_call 34; exact Calls.quiet_of_same (L _)))
      go_wp2
      go_ret
      exact ⟨by rw [HE.out]; rfl, below_drewN HB.out _⟩
set_option maxRecDepth 100000 in
set_option maxHeartbeats 1000000 in
theorem windex_any (v : Value) (l : List Wr) (h p n : Nat) (ao : Option Addr) (cap : Nat) (w : World) (hl : l.length ≤ 1000) (hr : RdW w v l) (hh : w.cell? ⟨h, 0, none⟩ = some (.pointer (some ⟨p, 0, none⟩))) (hp : w.cell? ⟨p, 1, none⟩ = some (.slice ao n cap)) :
    Calls Tryd.prog 52 #[v, .func (.func 44) #[] #[.pointer (some ⟨h, 0, none⟩)]] w fun e w' => ∃ z, e = .returned (.int .i64 z) ∧ Fst (fun i => badW n (wat l i)) l.length z ∧ Below w.heap.size w w' := by
  obtain ⟨a1, c1, rfl, _, _⟩ := hr.len
  have HR : Hid (RdW w (.slice a1 l.length c1) l) := hr
  have HH : Hid (w.cell? ⟨h, 0, none⟩ = some (.pointer (some ⟨p, 0, none⟩))) := hh
  have HP : Hid (w.cell? ⟨p, 1, none⟩ = some (.slice ao n cap)) := hp
  clear hr hh hp
  obtain ⟨m, hm⟩ : ∃ m, m = l.length := ⟨_, rfl⟩
  rw [← hm] at HR hl ⊢
  have HM : Hid (m = l.length) := hm
  clear hm
  go_enter Tryd.func52, Tryd.ntmps52
  go_wp2
  go_loopw [8] (fun t wr => ∃ k : Nat, k ≤ m ∧ t = .int .i64 k ∧ Hid (∀ i, i < k → badW n (wat l i) = false) ∧ Below w.heap.size w wr) (fun t _ => m - (intOf t).toNat)
  case atStart => exact ⟨0, Nat.zero_le _, rfl, fun i hi => absurd hi (Nat.not_lt_zero _), Below.refl _ _⟩
  case round =>
    obtain ⟨k, hk, rfl, HF, hB⟩ := hrel
    by_cases hlt : k < m
    · obtain ⟨ad, rfl, d0, d1⟩ := (HR.out.old hB).at k (by rw [← HM.out]; exact hlt)
      rw [show (ad.add (k * 2)).add 1 = ⟨(ad.add (k * 2)).block, (ad.add (k * 2)).off + 1, none⟩ from rfl] at d1
      have C := check1_any (wat l k).1 (wat l k).2 h p n ao cap wr ((hB.cell (World.block_lt_of_cell? w _ HH.out)).trans HH.out) ((hB.cell (World.block_lt_of_cell? w _ HP.out)).trans HP.out)
      obtain ⟨b, hb⟩ : ∃ b, b = badW n (wat l k) := ⟨_, rfl⟩
      rw [show badW n ((wat l k).1, (wat l k).2) = b from hb.symm] at C
      have HB : Hid (b = badW n (wat l k)) := hb
      clear hb
      unfold st at C d1
      generalize sb (wat l k).2 = s at *
      generalize (wat l k).1 = a at *
      have hsz := hB.size
      cases b
      all_goals
        go_wp2_with fail
        refine C.mono ?_
        rintro e w1 ⟨rfl, hB1⟩
        have hB2 : Below w.heap.size w w1 := hB.trans (hB1.mono hsz)
        clear C hB hB1 d0 d1
        go_wp2
      · go_roundw
        case rel => exact ⟨k + 1, by omega, by go_num, fun i hi => by
          by_cases e : i = k
          · rw [e]; exact HB.out.symm
          · exact HF.out i (by omega), hB2⟩
        case measure => simp [intOf]; omega
      · go_ret
        exact ⟨_, rfl, .inr ⟨k, hlt, rfl, HB.out.symm⟩, hB2⟩
    · go_wp2
      go_ret
      exact ⟨_, rfl, .inl ⟨rfl, fun i hi => HF.out i (by omega)⟩, hB⟩
theorem wcontains_any (v : Value) (l : List Wr) (h p n : Nat) (ao : Option Addr) (cap : Nat) (w : World) (hl : l.length ≤ 1000) (hr : RdW w v l) (hh : w.cell? ⟨h, 0, none⟩ = some (.pointer (some ⟨p, 0, none⟩))) (hp : w.cell? ⟨p, 1, none⟩ = some (.slice ao n cap)) :
    Calls Tryd.prog 43 #[v, .func (.func 44) #[] #[.pointer (some ⟨h, 0, none⟩)]] w fun e w' => e = .returned (.bool (anyB (fun i => badW n (wat l i)) l.length)) ∧ Below w.heap.size w w' := by
  have C := windex_any v l h p n ao cap w hl hr hh hp
  obtain ⟨a1, c1, rfl, _, _⟩ := hr.len
  clear hr hh hp
  go_enter Tryd.func43, Tryd.ntmps43
  go_wp2_with fail
  refine C.mono ?_
  rintro e w1 ⟨z, rfl, hz, hB⟩
  have HZ : Hid (decide (0 ≤ z) = anyB (fun i => badW n (wat l i)) l.length) := hz.any
  clear C hz
  go_wp2
  go_ret
  exact ⟨by rw [← HZ.out]; rfl, hB⟩
end Go.Proofs.YtacfafbnimhibaaDoor
