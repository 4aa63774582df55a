/- A lock is put behind all: a walk over the program. -/
import Derived.Test.YtagindfgfamacaaDoorLkK
import Derived.Test.YtagindfgfamacaaDoorLkO
import Derived.Deep.RegionHeld3
import Derived.Deep.RegionLawGrows
namespace Go.Proofs.YtagindfgfamacaaDoor
open Go.RowKit
theorem lk_box (w : World) (y : Lk) (t : TypeId) : ∀ j u, (vlk y)[j]? = some u → (w.alloc (.cells #[.int .i64 y.who, .int .i64 y.fr, .int .i64 y.to, .bool y.al] t)).cell? ((⟨w.heap.size, 0, none⟩ : Addr).add j) = some u := by
  intro j u hj
  have hl : j < 4 := (List.getElem?_eq_some_iff.1 hj).1
  obtain ⟨c0, c1, c2, c3⟩ := LkAt.new w y t
  rw [own_add]
  have q : ∀ k v, k < 4 → (vlk y)[k]? = some v → (w.alloc (.cells #[.int .i64 y.who, .int .i64 y.fr, .int .i64 y.to, .bool y.al] t)).cell? ⟨w.heap.size, k, none⟩ = some v := by
    intro k v hk hv
    match k, hk with
    | 0, _ => cases hv; exact c0
    | 1, _ => cases hv; exact c1
    | 2, _ => cases hv; exact c2
    | 3, _ => cases hv; exact c3
  exact q j u hl hj
set_option maxRecDepth 100000 in
set_option maxHeartbeats 2000000 in
theorem put_any {B : Nat} {w : World} {x : LP} {t : Lks} (h : IsK 76 B w x t) (hn : t.many ≤ 1000) (hB : B ≤ w.heap.size) (y : Lk) :
    Calls Tryd.prog 46 #[.pointer (some ⟨x.p, 0, none⟩), alk y] w fun e w' => ∃ x' : LP, x'.p = x.p ∧ e = .returned (.bool (t.free' y)) ∧ IsK 76 B w' x' (t.add y) ∧ But x.F w w' ∧ Grows x.F x'.F w := by
  unfold Lks.many at hn
  obtain ⟨j0, hj, hy0, hy1, hy2⟩ := info_parts infoLk
  have hb : Below w.heap.size w (w.alloc (.cells #[.int .i64 y.who, .int .i64 y.fr, .int .i64 y.to, .bool y.al] 57)) := al_below _ _
  have HN := LkAt.new w y 57
  obtain ⟨wa, hwa⟩ : ∃ wa, wa = w.alloc (.cells #[.int .i64 y.who, .int .i64 y.fr, .int .i64 y.to, .bool y.al] 57) := ⟨_, rfl⟩
  rw [← hwa] at hb HN
  have HK : Hid (IsK 76 B wa x t) := h.old hb
  have HBA : Hid (Below w.heap.size w wa) := hb
  obtain ⟨a1, k1, hv1⟩ := OwLk.len h.hd
  obtain ⟨a2, k2, hv2⟩ := OwLk.len h.wt
  have HV1 : Hid (x.vh = .slice a1 t.h.length k1) := hv1
  have HV2 : Hid (x.vw = .slice a2 t.w.length k2) := hv2
  have HS : Hid (∀ W, Below wa.heap.size wa W → (W.cell? ⟨x.p, 0, none⟩ = some (.slice a1 t.h.length k1) ∧ W.cell? ⟨x.p, 1, none⟩ = some (.slice a2 t.w.length k2)) ∧ LkAt W ⟨w.heap.size, 0, none⟩ y) := fun W hW =>
    ⟨⟨by rw [(HK.out.old hW).c0, hv1], by rw [(HK.out.old hW).c1, hv2]⟩, HN.old hW⟩
  have H1 : Hid (∀ W, Below wa.heap.size wa W → Calls Tryd.prog 62 #[.slice a1 t.h.length k1, alk y] W fun e w' => e = .returned (.bool (oddL t.h y)) ∧ Below wa.heap.size wa w') := fun W hW => by
    have := odds_any x.vh t.h y W (by omega) (OwLk.rd (HK.out.old hW).hd)
    rw [hv1] at this
    refine this.mono ?_
    rintro e w' ⟨rfl, hB⟩
    exact ⟨rfl, hW.trans (hB.mono hW.size)⟩
  have H2 : Hid (∀ W, Below wa.heap.size wa W → Calls Tryd.prog 62 #[.slice a2 t.w.length k2, alk y] W fun e w' => e = .returned (.bool (oddL t.w y)) ∧ Below wa.heap.size wa w') := fun W hW => by
    have := odds_any x.vw t.w y W (by omega) (OwLk.rd (HK.out.old hW).wt)
    rw [hv2] at this
    refine this.mono ?_
    rintro e w' ⟨rfl, hB⟩
    exact ⟨rfl, hW.trans (hB.mono hW.size)⟩
  have HF : Hid (t.free' y = (!oddL t.h y && !oddL t.w y)) := rfl
  have HA : Hid (t.add y = if t.free' y = true then ⟨t.h ++ [y], t.w⟩ else ⟨t.h, t.w ++ [y]⟩) := rfl
  obtain ⟨b1, e1⟩ : ∃ b, oddL t.h y = b := ⟨_, rfl⟩
  obtain ⟨b2, e2⟩ : ∃ b, oddL t.w y = b := ⟨_, rfl⟩
  rw [HA.out, HF.out]
  rw [e1] at H1 ⊢
  rw [e2] at H2 ⊢
  rw [← Bool.not_or]
  obtain ⟨b, hbb⟩ : ∃ b, (b1 || b2) = b := ⟨_, rfl⟩
  rw [hbb]
  have HBB : Hid ((b1 || b2) = b) := hbb
  clear hbb
  have hw0 : Below wa.heap.size wa wa.drew := ⟨rfl, rfl, rfl, Nat.le_refl _, fun _ _ => rfl⟩
  have S0 := HS.out _ hw0
  clear h hb HN HF HA e1 e2 hv1 hv2
  go_enter Tryd.func46, Tryd.ntmps46
  unfold LkAt at S0 HS
  unfold alk at H1 H2
  dsimp only at S0 HS
  go_wp2
  rw [← hwa]
  clear hwa
  have hs0 := HBA.out.size
  refine Code.wp_mono (Q := fun e a' w' => e = .normal ∧ Below wa.heap.size wa w' ∧ ∃ u5 u6 u7 u8 u9 u10 u11 u12 u13 u14 u15 u16 u17 : Value, a' = ⟨#[.pointer (some ⟨x.p, 0, none⟩), alk y, undef, .pointer (some ⟨w.heap.size, 0, none⟩), .bool false, u5, u6, u7, u8, u9, u10, u11, u12, u13, u14, u15, u16, u17, .bool b, undef, undef, undef, undef, undef, undef, undef, undef, undef, undef, undef, undef, undef, undef, undef, undef, undef, undef, undef, undef], []⟩) ?_ ?_
  case refine_2 =>
    cases b1
    · obtain rfl : b2 = b := HBB.out
      go_region_held3 (fun W => (W.cell? ⟨x.p, 0, none⟩ = some (.slice a1 t.h.length k1) ∧ W.cell? ⟨x.p, 1, none⟩ = some (.slice a2 t.w.length k2)) ∧ W.cell? ⟨w.heap.size, 0, none⟩ = some (.int .i64 y.who) ∧ W.cell? ⟨w.heap.size, 0 + 1, none⟩ = some (.int .i64 y.fr) ∧ W.cell? ⟨w.heap.size, 0 + 2, none⟩ = some (.int .i64 y.to) ∧ W.cell? ⟨w.heap.size, 0 + 3, none⟩ = some (.bool y.al)) (first | exact S3 | exact S2 | exact S0) ((first
        | (go_at_call 62; refine (H2.out w2 hB2).mono ?_; rintro e w3 ⟨rfl, hB3⟩; have S3 := HS.out w3 hB3)
        | (go_at_call 62; refine (H1.out _ hw0).mono ?_; rintro e w2 ⟨rfl, hB2⟩; have S2 := HS.out w2 hB2)))
      exact ⟨rfl, hB3, _, _, _, _, _, _, _, _, _, _, _, _, _, rfl⟩
    · obtain rfl : true = b := HBB.out
      obtain ⟨⟨s0, s1⟩, s2, s3, s4, s5⟩ := S0
      first
      | (go_region_with ((first
          | (go_at_call 62; refine (H1.out _ hw0).mono ?_; rintro e w2 ⟨rfl, hB2⟩; have S2 := HS.out w2 hB2))))
      | fail "no"
      all_goals exact ⟨rfl, hB2, _, _, _, _, _, _, _, _, _, _, _, _, _, rfl⟩
  case refine_1 =>
    rintro e a' w1 ⟨rfl, hB1, u5, u6, u7, u8, u9, u10, u11, u12, u13, u14, u15, u16, u17, rfl⟩
    have S1 := HS.out w1 hB1
    have HK1 : Hid (IsK 76 B w1 x t) := HK.out.old hB1
    have hb1 : Below w.heap.size w w1 := HBA.out.trans (hB1.mono HBA.out.size)
    have hd1 : Below w1.heap.size w1 w1.drew := ⟨rfl, rfl, rfl, Nat.le_refl _, fun _ _ => rfl⟩
    have hbA : Below w.heap.size w w1.drew := hb1.trans (hd1.mono hb1.size)
    have hbs := hb1.size
    clear S0 H1 H2 hw0 hB1 HS
    obtain ⟨⟨s0, s1⟩, s2, s3, s4, s5⟩ := S1
    clear HBB
    cases b
    · go_wp2
      have hown : w1.drew.ownsRow B 57 4 (.slice a1 t.h.length k1) t.h.length (vlks t.h) := by
        have := OwLk.old HK1.out.hd hd1
        rw [HV1.out] at this
        exact this
      have s7 : (w1.alloc (.cells #[.int .i64 y.who, .int .i64 y.fr, .int .i64 y.to, .bool y.al] 57)).cell? ⟨x.p, 0, none⟩ = some (.slice a1 t.h.length k1) := by rw [(HK1.out.old (al_below _ _)).c0, HV1.out]
      have HL : Hid (∀ w4 b, (w1.drew.alloc b).grownBy w4 (Value.slice a1 t.h.length k1).ownBlock → (w4.cell? ⟨x.p, 0, none⟩ = some (.slice a1 t.h.length k1) ∧ w4.frozen? ⟨x.p, 0, none⟩ = false)) := fun w4 b hg => by
        have h5 := (HK1.out.old hd1).old (al_below _ b)
        have hne : some x.p ≠ (Value.slice a1 t.h.length k1).ownBlock := fun e => by rw [← HV1.out] at e; exact HK1.out.hdp e.symm rfl
        exact ⟨by rw [hg.cell_far ⟨x.p, 0, none⟩ h5.plt hne, h5.c0, HV1.out], by rw [hg.frozen_far ⟨x.p, 0, none⟩ h5.plt hne]; exact h5.free 0⟩
      go_region_law ((refine step_append_lies _ (by rfl) _ _ _ (by rfl) B 57 j0 (.agg #[.int .i64 0, .int .i64 0, .int .i64 0, .bool false]) 4 32 Tryd.underlying44 hj hy0 hy1 hy2 rfl (by decide) _ _ _ (by rfl) (World.ownsRow.alloc hown _) ⟨w1.heap.size, 0, none⟩ 1 1 (vlk y) (by rfl) rfl (lk_box _ y _) (vlk_one y) (by omega) (by unfold maxLen; omega) (by omega) (by simp; omega) _ rfl ?_; intro g cap w4 hO4 hg4 ha4 hl4; have j2 := (HL.out w4 _ hg4).1; have jf := (HL.out w4 _ hg4).2))
      all_goals
        have M := ((HK1.out.old hd1).old (al_below _ (.cells #[.int .i64 y.who, .int .i64 y.fr, .int .i64 y.to, .bool y.al] 57))).moreH (y := y) hO4 (by rw [HV1.out]; exact hg4) (by rw [HV1.out]; rcases ha4 with q | q; exact .inl q; exact .inr (by rw [q]; simp))
        have HM : Hid (IsK 76 B (w4.setCell ⟨x.p, 0, none⟩ (.slice (some ⟨g, 0, none⟩) (t.h.length + 1) cap)) ⟨x.p, .slice (some ⟨g, 0, none⟩) (t.h.length + 1) cap, x.vw⟩ ⟨t.h ++ [y], t.w⟩ ∧ But x.F w (w4.setCell ⟨x.p, 0, none⟩ (.slice (some ⟨g, 0, none⟩) (t.h.length + 1) cap)) ∧ Grows x.F (LP.F ⟨x.p, .slice (some ⟨g, 0, none⟩) (t.h.length + 1) cap, x.vw⟩) w) :=
          ⟨M.1, ((Below.but (hbA.trans ((al_below _ _).mono hbA.size)) _).trans M.2.1 (Grows.refl _ _)), fun q hq => (M.2.2 q hq).imp id (fun z => Nat.le_trans (hbA.trans ((al_below _ _).mono hbA.size)).size z)⟩
        clear M hO4 hg4 ha4 hl4 hown HL
        go_wp2
        go_ret
        exact ⟨⟨x.p, .slice (some ⟨g, 0, none⟩) (t.h.length + 1) cap, x.vw⟩, rfl, rfl, HM.out.1, HM.out.2.1, HM.out.2.2⟩
    · go_wp2
      have hown : w1.drew.ownsRow B 57 4 (.slice a2 t.w.length k2) t.w.length (vlks t.w) := by
        have := OwLk.old HK1.out.wt hd1
        rw [HV2.out] at this
        exact this
      have s7 : (w1.alloc (.cells #[.int .i64 y.who, .int .i64 y.fr, .int .i64 y.to, .bool y.al] 57)).cell? ⟨x.p, 1, none⟩ = some (.slice a2 t.w.length k2) := by rw [(HK1.out.old (al_below _ _)).c1, HV2.out]
      have HL : Hid (∀ w4 b, (w1.drew.alloc b).grownBy w4 (Value.slice a2 t.w.length k2).ownBlock → (w4.cell? ⟨x.p, 1, none⟩ = some (.slice a2 t.w.length k2) ∧ w4.frozen? ⟨x.p, 1, none⟩ = false)) := fun w4 b hg => by
        have h5 := (HK1.out.old hd1).old (al_below _ b)
        have hne : some x.p ≠ (Value.slice a2 t.w.length k2).ownBlock := fun e => by rw [← HV2.out] at e; exact HK1.out.wtp e.symm rfl
        exact ⟨by rw [hg.cell_far ⟨x.p, 1, none⟩ h5.plt hne, h5.c1, HV2.out], by rw [hg.frozen_far ⟨x.p, 1, none⟩ h5.plt hne]; exact h5.free 1⟩
      go_region_law ((refine step_append_lies _ (by rfl) _ _ _ (by rfl) B 57 j0 (.agg #[.int .i64 0, .int .i64 0, .int .i64 0, .bool false]) 4 32 Tryd.underlying44 hj hy0 hy1 hy2 rfl (by decide) _ _ _ (by rfl) (World.ownsRow.alloc hown _) ⟨w1.heap.size, 0, none⟩ 1 1 (vlk y) (by rfl) rfl (lk_box _ y _) (vlk_one y) (by omega) (by unfold maxLen; omega) (by omega) (by simp; omega) _ rfl ?_; intro g cap w4 hO4 hg4 ha4 hl4; have j2 := (HL.out w4 _ hg4).1; have jf := (HL.out w4 _ hg4).2))
      all_goals
        have M := ((HK1.out.old hd1).old (al_below _ (.cells #[.int .i64 y.who, .int .i64 y.fr, .int .i64 y.to, .bool y.al] 57))).moreW (y := y) hO4 (by rw [HV2.out]; exact hg4) (by rw [HV2.out]; rcases ha4 with q | q; exact .inl q; exact .inr (by rw [q]; simp))
        have HM : Hid (IsK 76 B (w4.setCell ⟨x.p, 1, none⟩ (.slice (some ⟨g, 0, none⟩) (t.w.length + 1) cap)) ⟨x.p, x.vh, .slice (some ⟨g, 0, none⟩) (t.w.length + 1) cap⟩ ⟨t.h, t.w ++ [y]⟩ ∧ But x.F w (w4.setCell ⟨x.p, 1, none⟩ (.slice (some ⟨g, 0, none⟩) (t.w.length + 1) cap)) ∧ Grows x.F (LP.F ⟨x.p, x.vh, .slice (some ⟨g, 0, none⟩) (t.w.length + 1) cap⟩) w) :=
          ⟨M.1, ((Below.but (hbA.trans ((al_below _ _).mono hbA.size)) _).trans M.2.1 (Grows.refl _ _)), fun q hq => (M.2.2 q hq).imp id (fun z => Nat.le_trans (hbA.trans ((al_below _ _).mono hbA.size)).size z)⟩
        clear M hO4 hg4 ha4 hl4 hown HL
        go_wp2
        go_ret
        exact ⟨⟨x.p, x.vh, .slice (some ⟨g, 0, none⟩) (t.w.length + 1) cap⟩, rfl, rfl, HM.out.1, HM.out.2.1, HM.out.2.2⟩
end Go.Proofs.YtagindfgfamacaaDoor
