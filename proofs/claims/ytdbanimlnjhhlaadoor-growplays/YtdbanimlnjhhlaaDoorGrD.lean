/- A grow's disks: a walk over the program. -/
import Derived.Test.YtdbanimlnjhhlaaDoorGrP
import Derived.Deep.Cut
import Derived.Deep.CutRange
import Derived.BigCall
import Derived.BigGuard
namespace Go.Proofs.YtdbanimlnjhhlaaDoor
open Go.RowKit El Pol
variable {B : Nat} {w : World} {x : GP} {g : Grw}
theorem ght_next {n t d k : Nat} : ght n t d (k + 1) = up (fun d => ght n t d k) (gd n t k) (max (ght n t (gd n t k) k) (gr n t k + 1)) d := by
  show (if gd n t k = d then max (ght n t d k) (gr n t k + 1) else ght n t d k) = _
  by_cases e : d = gd n t k
  · rw [if_pos e.symm, e, up_at]
  · rw [if_neg (fun z => e z.symm), up_ne _ _ e]
theorem gen_next {c : Nat → List El} {n t d r k : Nat} : gen [] c n t d r (k + 1) = up (fun d r => gen [] c n t d r k) (gd n t k) (up (padT (ght n t (gd n t k) k) (fun r => gen [] c n t (gd n t k) r k)) (gr n t k) (c k)) d r := by
  show (if gd n t k = d ∧ gr n t k = r then c k else gen [] c n t d r k) = _
  by_cases e : d = gd n t k
  · rw [e, up_at]
    by_cases e2 : r = gr n t k
    · rw [if_pos ⟨rfl, e2.symm⟩, e2, up_at]
    · rw [if_neg (fun z => e2 z.2.symm), up_ne _ _ e2]
      unfold padT
      split
      · rfl
      · exact gen_past (by omega)
  · rw [if_neg (fun z => e z.1.symm), up_ne _ _ e]
set_option maxRecDepth 100000 in
set_option maxHeartbeats 2000000 in
theorem gdisks_any (h : IsG B w x g) (ho : g.ok) :
    Calls Tryd.prog 14 #[.pointer (some ⟨x.p, 0, none⟩)] w fun e w' => ∃ q, e = .returned (.slice (some ⟨q, 0, none⟩) (g.n + 1) (g.n + 1)) ∧ RdTT w' (.slice (some ⟨q, 0, none⟩) (g.n + 1) (g.n + 1)) (g.n + 1) g.ht g.row ∧ Below w.heap.size w w' := by
  obtain ⟨i0, hi, hz0, hz1, hz2⟩ := info_parts infoST
  have c1 := h.c1
  have hn1 := ho.n1
  have hn9 := ho.n9
  have hm := ho.m40
  obtain ⟨a1, k1, hv⟩ := OwT.len h.cls
  have HI : Hid (IsG B w x g) := h
  have HO : Hid g.ok := ho
  have HV : Hid (x.v = .slice a1 g.m k1) := hv
  have c0 : ∀ W, Below w.heap.size w W → W.cell? ⟨x.p, 0, none⟩ = some (.slice a1 g.m k1) := fun W hB => by rw [← hv]; exact (HI.out.old hB).c0
  have HC0 : Hid _ := c0
  clear h ho hv c0
  go_enter Tryd.func14, Tryd.ntmps14
  go_wp2_with (first | (at_make; refine wpList_make_full _ rfl _ _ 42 rfl w.heap.size 33 i0 (.slice none 0 0) 1 Tryd.underlying42 hi hz0 hz1 _ _ _ _ (g.n + 1) rfl rfl (by simp) (by simp) (by rw [hz2]; omega) (by unfold maxLen; omega) (Nat.le_refl _) ?_))
  intro w1 hown hgrow
  obtain ⟨q, hq⟩ : ∃ q, q = w.heap.size := ⟨_, rfl⟩
  have HT1 : Hid (∃ rv, OTT w.heap.size w1 q (g.n + 1) (g.n + 1) rv (fun d => ght g.n g.t d 0) (fun d r => gen [] g.c g.n g.t d r 0)) := by rw [hq]; exact ⟨_, OTT.made hown _⟩
  have HB1 : Hid (Below w.heap.size w w1) := below_of_grown hgrow
  have c0 := HC0.out w1 HB1.out
  rw [← hq]
  clear hown hgrow hq c1
  go_wp2
  go_loopw [18] (fun c wr => ∃ k : Nat, k ≤ g.m ∧ c = .int .i64 k ∧ (∃ rv, OTT w.heap.size wr q (g.n + 1) (g.n + 1) rv (fun d => ght g.n g.t d k) (fun d r => gen [] g.c g.n g.t d r k)) ∧ Below w.heap.size w wr) (fun c _ => g.m - (intOf c).toNat)
  case atStart => exact ⟨0, Nat.zero_le _, rfl, HT1.out, HB1.out⟩
  case round =>
    clear HT1 HB1 c0
    obtain ⟨k, hk, rfl, ⟨rv, hT⟩, hB⟩ := hrel
    have hsz := hB.size
    by_cases hlt : k < g.m
    · have hkz : (k : Int) < (g.m : Int) := by omega
      have hG := HI.out.old hB
      obtain ⟨gb, cap, hv, _, hgl, hcap, _⟩ := OwT.at hG.cls (by omega)
      have hcl := hG.cls
      have e1 := HV.out
      rw [hv] at e1
      cases e1
      rw [hv] at hcl
      have hx := OwT.cell hcl k hlt
      have C := gspot_any hG HO.out k hlt
      have hl := HO.out.short k hlt
      obtain ⟨d, hd⟩ : ∃ d, gd g.n g.t k = d := ⟨_, rfl⟩
      obtain ⟨r, hr⟩ : ∃ r, gr g.n g.t k = r := ⟨_, rfl⟩
      have hdn : d < g.n + 1 := by rw [← hd]; exact gd_lt hn1
      have hrk : r ≤ 40 := by have := gr_le g.n g.t k; omega
      have HDR : Hid (gd g.n g.t k = d ∧ gr g.n g.t k = r) := ⟨hd, hr⟩
      rw [hd, hr] at C
      have HT : Hid (OTT w.heap.size wr q (g.n + 1) (g.n + 1) rv (fun d => ght g.n g.t d k) (fun d r => gen [] g.c g.n g.t d r k)) := hT
      have HB : Hid (Below w.heap.size w wr) := hB
      unfold st at hx
      obtain ⟨s, hs⟩ : ∃ s, s = sb (g.c k) := ⟨_, rfl⟩
      have HS : Hid (s = sb (g.c k)) := hs
      rw [← hs] at hx
      clear hs hd hr hT hB hG hcl
      go_wp2_with fail
      refine C.mono ?_
      rintro e w2 ⟨rfl, hB2⟩
      have HT2 : Hid _ := HT.out.old hB2
      have HB2 : Hid (Below w.heap.size w w2) := HB.out.trans (hB2.mono hsz)
      clear C hx hB2 HT HB
      go_upto_region 6 with fail
      have HL0 : Hid ((w2.alloc (.cells #[.int .i64 (d : Int), .int .i64 (r : Int)] 81)).heap[w2.heap.size]? = some (.cells #[.int .i64 (d : Int), .int .i64 (r : Int)] 81 (0, 0))) := heap_alloc_new w2 _
      have hz3 : (w2.alloc (.cells #[.int .i64 (d : Int), .int .i64 (r : Int)] 81)).heap.size = w2.heap.size + 1 := by simp
      have HT3 : Hid _ := HT2.out.old (al_below w2 (.cells #[.int .i64 (d : Int), .int .i64 (r : Int)] 81))
      have HB3 : Hid (Below w.heap.size w (w2.alloc (.cells #[.int .i64 (d : Int), .int .i64 (r : Int)] 81))) := HB2.out.alloc HB2.out.size _
      have HFar : Hid ((rv d).ownBlock ≠ some w2.heap.size ∧ q ≠ w2.heap.size) := ⟨fun e => by have := (World.ownsRow.lt (HT2.out.each d hdn) _ e).2; omega, by have := HT2.out.qlt.2; omega⟩
      clear HT2 HB2
      generalize hp3 : w2.heap.size = p3 at *
      generalize w2.alloc (.cells #[.int .i64 (d : Int), .int .i64 (r : Int)] 81) = w3 at *
      have hdr : Below w3.heap.size w3 w3.drew := ⟨rfl, rfl, rfl, Nat.le_refl _, fun _ _ => rfl⟩
      have HT4 : Hid (OTT w.heap.size w3.drew q (g.n + 1) (g.n + 1) rv (fun d => ght g.n g.t d k) (fun d r => gen [] g.c g.n g.t d r k)) := HT3.out.old hdr
      have HB4 : Hid (Below w.heap.size w w3.drew) := HB3.out.trans (hdr.mono HB3.out.size)
      have HL4 : Hid (w3.drew.heap[p3]? = some (.cells #[.int .i64 (d : Int), .int .i64 (r : Int)] 81 (0, 0))) := HL0.out
      have hp4 : p3 < w3.drew.heap.size := by (show p3 < w3.heap.size); omega
      clear HT3 HB3 HL0 hdr hp3 hz3
      have s0 : w3.drew.cell? ⟨p3, 0, none⟩ = some (.int .i64 (d : Int)) := by rw [cell_of_row _ _ _ _ _ _ HL4.out]; rfl
      have s1 : w3.drew.cell? ⟨p3, 1, none⟩ = some (.int .i64 (r : Int)) := by rw [cell_of_row _ _ _ _ _ _ HL4.out]; rfl
      have hqd := HT4.out.cell hdn
      have hEd := HT4.out.each d hdn
      obtain ⟨ad, cd, hvd⟩ := OwT.len hEd
      have hgh : ght g.n g.t d k ≤ 40 := by have := ght_max (n := g.n) (t := g.t) (d := d) (m := k); omega
      have D := gput_any (r := r) (b := g.c k) HB4.out.size hEd (by omega) (by omega) (by omega)
      have HP : Hid (∀ w4 q2 cap2, OwT w.heap.size w4 (.slice (some ⟨q2, 0, none⟩) (max (ght g.n g.t d k) (r + 1)) cap2) (max (ght g.n g.t d k) (r + 1)) (up (padT (ght g.n g.t d k) (fun r => gen [] g.c g.n g.t d r k)) r (g.c k)) → w3.drew.grownBy w4 (rv d).ownBlock → ((rv d).ownBlock = some q2 ∨ w3.drew.heap.size ≤ q2) →
          (w4.cell? ⟨p3, 0, none⟩ = some (.int .i64 (d : Int)) ∧ w4.cell? ⟨p3, 1, none⟩ = some (.int .i64 (r : Int))) ∧ w4.cell? ⟨q, d, none⟩ = some (rv d) ∧ w4.frozen? ⟨q, d, none⟩ = false ∧
          ((w4.setCell ⟨q, d, none⟩ (.slice (some ⟨q2, 0, none⟩) (max (ght g.n g.t d k) (r + 1)) cap2)).cell? ⟨p3, 0, none⟩ = some (.int .i64 (d : Int)) ∧ (w4.setCell ⟨q, d, none⟩ (.slice (some ⟨q2, 0, none⟩) (max (ght g.n g.t d k) (r + 1)) cap2)).cell? ⟨p3, 1, none⟩ = some (.int .i64 (r : Int))) ∧
          (∃ rv, OTT w.heap.size (w4.setCell ⟨q, d, none⟩ (.slice (some ⟨q2, 0, none⟩) (max (ght g.n g.t d k) (r + 1)) cap2)) q (g.n + 1) (g.n + 1) rv (fun d => ght g.n g.t d (k + 1)) (fun d r => gen [] g.c g.n g.t d r (k + 1))) ∧
          Below w.heap.size w (w4.setCell ⟨q, d, none⟩ (.slice (some ⟨q2, 0, none⟩) (max (ght g.n g.t d k) (r + 1)) cap2))) := fun w4 q2 cap2 hO hg hl => by
        have hb4 : w4.heap[p3]? = w3.drew.heap[p3]? := hg.block p3 hp4 (fun e => HFar.out.1 e.symm)
        have hrow := hb4.trans HL4.out
        have T := HT4.out.on hdn hO hg (fun k hk => by rw [← Option.some.inj hk]; exact hl)
        have hq0 : w4.ownsRow w.heap.size 33 1 (.slice (some ⟨q, 0, none⟩) (g.n + 1) (g.n + 1)) (g.n + 1) ((List.range (g.n + 1)).map rv) := World.ownsRow.kept HT4.out.row hg (.inr (fun e => HT4.out.vq hdn e.symm rfl))
        have hset : (w4.setCell ⟨q, d, none⟩ (.slice (some ⟨q2, 0, none⟩) (max (ght g.n g.t d k) (r + 1)) cap2)).heap[p3]? = some (.cells #[.int .i64 (d : Int), .int .i64 (r : Int)] 81 (0, 0)) := by
          rw [← hrow]
          exact ((But.refl (· = q) w4).setCell (p := ⟨q, d, none⟩) rfl _).block p3 (lt_of_block hrow) (fun e => HFar.out.2 e.symm)
        refine ⟨⟨by rw [cell_of_row _ _ _ _ _ _ hrow]; rfl, by rw [cell_of_row _ _ _ _ _ _ hrow]; rfl⟩, ?_, World.ownsRow.frozenAt hq0 d, ⟨by rw [cell_of_row _ _ _ _ _ _ hset]; rfl, by rw [cell_of_row _ _ _ _ _ _ hset]; rfl⟩, ⟨_, T.1.congr (fun i _ => ?_) (fun i j _ _ => ?_)⟩, HB4.out.trans (T.2.mono (Nat.le_refl _))⟩
        · rw [World.ownsRow.cellAt hq0 d (by omega)]
          exact range_map_at _ (g.n + 1) d hdn
        · show _ = ght g.n g.t i (k + 1)
          rw [ght_next, HDR.out.1, HDR.out.2]
        · show _ = gen [] g.c g.n g.t i j (k + 1)
          rw [gen_next, HDR.out.1, HDR.out.2]
      rw [show st (g.c k) = .string s by rw [HS.out]] at D
      rw [hvd] at D hqd
      simp only [hvd] at HP
      clear hEd HFar HL4 HT4 HB4 HDR HS hvd
      generalize ght g.n g.t d k = ld at *
      generalize up (padT ld (fun r => gen [] g.c g.n g.t d r k)) r (g.c k) = fR at *
      generalize max ld (r + 1) = M at *
      have hdz : (d : Int) < (g.n : Int) + 1 := by omega
      go_region_with (first | (go_at_call 40; refine D.mono ?_; rintro e w4 ⟨q2, cap2, rfl, hO4, hg4, hl4⟩; have d0 := (HP.out w4 q2 cap2 hO4 hg4 hl4).1.1; have d3 := (HP.out w4 q2 cap2 hO4 hg4 hl4).1.2; have d1 := (HP.out w4 q2 cap2 hO4 hg4 hl4).2.1; have d2 := (HP.out w4 q2 cap2 hO4 hg4 hl4).2.2.1))
      all_goals
        have HE : Hid _ := (HP.out w4 q2 cap2 hO4 hg4 hl4).2.2.2.2
        clear d0 d1 d2 d3 s0 s1 hO4 hg4 hl4 HP D hqd
        go_wp2
        go_roundw
        case rel => exact ⟨k + 1, by omega, by go_num, HE.out.1, HE.out.2⟩
        case measure => simp [intOf]; omega
    · have e : k = g.m := by omega
      have HR : Hid (RdTT wr (.slice (some ⟨q, 0, none⟩) (g.n + 1) (g.n + 1)) (g.n + 1) g.ht g.row) := by
        have := hT.rd
        rw [e] at this
        exact this
      clear hT e
      go_wp2
      go_ret
      exact ⟨q, rfl, HR.out, hB⟩
end Go.Proofs.YtdbanimlnjhhlaaDoor
