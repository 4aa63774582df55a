/- The document's clear, whose, drop over locks: walks over the program. -/
import Derived.Test.YtagindfgfamacaaDoorLdO
import Derived.Deep.RegionHeld3
namespace Go.Proofs.YtagindfgfamacaaDoor
open Go.RowKit
theorem any_next (l : List Lk) (p : Lk → Bool) (k : Nat) (h : k < l.length) : (l.take (k + 1)).any p = ((l.take k).any p || p (lka l k)) := by
  rw [lka_get l k h, (List.take_append_getElem h).symm, List.any_append]
  simp
set_option maxRecDepth 100000 in
set_option maxHeartbeats 2000000 in
theorem dclear_any (v : Value) (l : List Lk) (y : Lk) (w : World) (hl : l.length ≤ 1000) (hr : RdLk w v l) :
    Calls Tryd.prog 43 #[v, alk y] w fun e w' => e = .returned (.bool (!oddL l y)) ∧ Below w.heap.size w w' := by
  have hb := al_below w (.cells #[.int .i64 y.who, .int .i64 y.fr, .int .i64 y.to, .bool y.al] 57)
  have hn := LkAt.new w y 57
  obtain ⟨a1, c1, rfl, hc1, hc2⟩ := hr.len
  clear hc1 hc2
  obtain ⟨wa, hwa⟩ : ∃ wa, wa = w.alloc (.cells #[.int .i64 y.who, .int .i64 y.fr, .int .i64 y.to, .bool y.al] 57) := ⟨_, rfl⟩
  rw [← hwa] at hb hn
  have HR : Hid (RdLk wa (.slice a1 l.length c1) l) := hr.old hb
  have HN : Hid (LkAt wa ⟨w.heap.size, 0, none⟩ y) := hn
  have HB : Hid (Below w.heap.size w wa) := hb
  have HO : Hid (∀ k, oddL (l.take k) y = (l.take k).any (fun z => odd z y)) := fun _ => rfl
  have HX : Hid (oddL l y = oddL (l.take l.length) y) := by (show _ = _); rw [List.take_length]
  rw [HX.out]
  obtain ⟨m, hm⟩ : ∃ m, l.length = m := ⟨_, rfl⟩
  have HM : Hid (l.length = m) := hm
  rw [hm] at HR hl ⊢
  have D := fun (a : Lk) (W : World) => dodds_any a y W
  unfold alk at D
  clear hr hb hn hm HX
  go_enter Tryd.func43, Tryd.ntmps43
  go_wp2
  rw [← hwa]
  clear hwa
  go_loopw [5] (fun t wr => ∃ k : Nat, k ≤ m ∧ t = .int .i64 k ∧ Hid (oddL (l.take k) y = false) ∧ Hid (Below wa.heap.size wa wr)) (fun t _ => m - (intOf t).toNat)
  case atStart => exact ⟨0, Nat.zero_le _, rfl, rfl, Below.refl _ _⟩
  case round =>
    obtain ⟨k, hk, rfl, HF, hB⟩ := hrel
    by_cases hlt : k < m
    · obtain ⟨ad, rfl, hx⟩ := (HR.out.old hB.out).at k (by rw [HM.out]; exact hlt)
      have HNX : Hid (oddL (l.take (k + 1)) y = odd (lka l k) y) := by
        (show _ = _)
        have := HF.out
        unfold oddL at this ⊢
        rw [any_next l _ k (by rw [HM.out]; exact hlt), this, Bool.false_or]
      have hkm : (k : Int) < (m : Int) := by omega
      obtain ⟨x, hxx⟩ : ∃ x, lka l k = x := ⟨_, rfl⟩
      have HXX : Hid (lka l k = x) := hxx
      rw [hxx] at hx HNX
      clear hxx
      obtain ⟨b, hb⟩ : ∃ b, odd x y = b := ⟨_, rfl⟩
      have C := D x
      rw [hb] at C HNX
      clear hb
      have hw0 : Below wr.heap.size wr wr.drew := ⟨rfl, rfl, rfl, Nat.le_refl _, fun _ _ => rfl⟩
      have HS : Hid (∀ W, Below wr.heap.size wr W → LkAt W (ad.add (k * 4)) x ∧ LkAt W ⟨w.heap.size, 0, none⟩ y) := fun W hW => ⟨hx.old hW, (HN.out.old hB.out).old hW⟩
      have S0 := HS.out _ hw0
      unfold LkAt at S0 HS
      clear hx
      go_wp2
      go_region_held3 (fun W => (W.cell? (ad.add (k * 4)) = some (.int .i64 x.who) ∧ W.cell? ⟨(ad.add (k * 4)).block, (ad.add (k * 4)).off + 1, none⟩ = some (.int .i64 x.fr) ∧ W.cell? ⟨(ad.add (k * 4)).block, (ad.add (k * 4)).off + 2, none⟩ = some (.int .i64 x.to) ∧ W.cell? ⟨(ad.add (k * 4)).block, (ad.add (k * 4)).off + 3, none⟩ = some (.bool x.al)) ∧ W.cell? ⟨w.heap.size, 0, none⟩ = some (.int .i64 y.who) ∧ W.cell? ⟨w.heap.size, 0 + 1, none⟩ = some (.int .i64 y.fr) ∧ W.cell? ⟨w.heap.size, 0 + 2, none⟩ = some (.int .i64 y.to) ∧ W.cell? ⟨w.heap.size, 0 + 3, none⟩ = some (.bool y.al)) (first | exact S2 | exact S0) ((first
        | (go_at_call 57; refine (C _).mono ?_; rintro e w2 ⟨rfl, hB2⟩; have hB3 := hw0.trans (hB2.mono hw0.size); have S2 := HS.out w2 hB3)))
      have HB2 : Hid (Below wa.heap.size wa w2) := hB.out.trans (hB3.mono hB.out.size)
      clear C HS S0 S2 hB2 hB3 hw0 hB
      cases b
      · go_wp2
        go_roundw
        case rel => exact ⟨k + 1, by omega, by go_num, HNX.out, HB2.out⟩
        case measure => simp [intOf]; omega
      · have HE : Hid (oddL (l.take m) y = true) := by
          have h1 : oddL (l.take (k + 1)) y = true := HNX.out
          obtain ⟨z, hz, q⟩ := oddL_true.1 h1
          exact oddL_true.2 ⟨z, (List.take_subset_take_left l (by omega : k + 1 ≤ m)) hz, q⟩
        go_wp2
        go_ret
        exact ⟨by rw [HE.out]; rfl, HB.out.trans (HB2.out.mono HB.out.size)⟩
    · obtain rfl : k = m := by omega
      go_wp2
      go_ret
      exact ⟨by rw [HF.out]; rfl, HB.out.trans (hB.out.mono HB.out.size)⟩
set_option maxRecDepth 100000 in
set_option maxHeartbeats 1000000 in
theorem dwhose_any (v : Value) (l : List Lk) (z : Int) (w : World) (hl : l.length ≤ 1000) (hr : RdLk w v l) :
    Calls Tryd.prog 41 #[v, .int .i64 z] w fun e w' => e = .returned (.bool (hasW l z)) ∧ w' = w := by
  obtain ⟨a1, c1, rfl, hc1, hc2⟩ := hr.len
  clear hc1 hc2
  have HR : Hid (RdLk w (.slice a1 l.length c1) l) := hr
  have HX : Hid (hasW l z = hasW (l.take l.length) z) := by (show _ = _); rw [List.take_length]
  rw [HX.out]
  obtain ⟨m, hm⟩ : ∃ m, l.length = m := ⟨_, rfl⟩
  have HM : Hid (l.length = m) := hm
  rw [hm] at HR hl ⊢
  clear hr hm HX
  go_enter Tryd.func41, Tryd.ntmps41
  go_wp2
  go_loop [5] (fun t => ∃ k : Nat, k ≤ m ∧ t = .int .i64 k ∧ Hid (hasW (l.take k) z = false)) (fun t => m - (intOf t).toNat)
  case atStart => exact ⟨0, Nat.zero_le _, rfl, rfl⟩
  case round =>
    obtain ⟨k, hk, rfl, HF⟩ := hrel
    by_cases hlt : k < m
    · obtain ⟨ad, rfl, hx, _, _, _⟩ := HR.out.at k (by rw [HM.out]; exact hlt)
      have HNX : Hid (hasW (l.take (k + 1)) z = decide ((lka l k).who = z)) := by
        (show _ = _)
        have := HF.out
        unfold hasW at this ⊢
        rw [any_next l _ k (by rw [HM.out]; exact hlt), this, Bool.false_or]
      have hkm : (k : Int) < (m : Int) := by omega
      generalize (lka l k).who = q at *
      by_cases hq : q = z
      · have HE : Hid (hasW (l.take m) z = true) := by
          have h1 : hasW (l.take (k + 1)) z = true := by rw [HNX.out, decide_eq_true hq]
          obtain ⟨u, hu, q⟩ := hasW_true.1 h1
          exact hasW_true.2 ⟨u, (List.take_subset_take_left l (by omega : k + 1 ≤ m)) hu, q⟩
        subst hq
        go_wp2
        go_ret
        exact ⟨by rw [HE.out]; rfl, rfl⟩
      · have hne : (q == z) = false := beq_eq_false_iff_ne.2 hq
        have HE : Hid (hasW (l.take (k + 1)) z = false) := by (show _ = _); rw [HNX.out, decide_eq_false hq]
        clear HNX
        go_wp2
        go_round
        case rel => exact ⟨k + 1, by omega, by go_num, HE.out⟩
        case measure => simp [intOf]; omega
    · obtain rfl : k = m := by omega
      go_wp2
      go_ret
      exact ⟨by rw [HF.out]; rfl, rfl⟩
theorem drop_next (l : List Lk) (z : Int) (k : Nat) (h : k < l.length) : Lks.drop (l.take (k + 1)) z = Lks.drop (l.take k) z ++ (if (lka l k).who = z then [] else [lka l k]) := by
  rw [lka_get l k h, (List.take_append_getElem h).symm]
  unfold Lks.drop
  rw [List.filter_append]
  congr 1
  by_cases q : l[k].who = z
  · simp [q]
  · simp [q]
theorem row_news (w : World) (y : Lk) (t : TypeId) : ∀ j u, (vlk y)[j]? = some u → (w.alloc (.cells #[.int .i64 y.who, .int .i64 y.fr, .int .i64 y.to, .bool y.al] t)).cell? ((⟨w.heap.size, 0, none⟩ : Addr).add j) = some u := by
  intro j u hj
  have hl : j < 4 := (List.getElem?_eq_some_iff.1 hj).1
  obtain ⟨c0, c1, c2, c3⟩ := LkAt.new w y t
  rw [own_add]
  have q : ∀ k v, k < 4 → (vlk y)[k]? = some v → (w.alloc (.cells #[.int .i64 y.who, .int .i64 y.fr, .int .i64 y.to, .bool y.al] t)).cell? ⟨w.heap.size, k, none⟩ = some v := by
    intro k v hk hv
    match k, hk with
    | 0, _ => cases hv; exact c0
    | 1, _ => cases hv; exact c1
    | 2, _ => cases hv; exact c2
    | 3, _ => cases hv; exact c3
  exact q j u hl hj
set_option maxRecDepth 100000 in
set_option maxHeartbeats 2000000 in
theorem ddrop_any (v : Value) (l : List Lk) (z : Int) (w : World) (hl : l.length ≤ 1000) (hr : RdLk w v l) :
    Calls Tryd.prog 42 #[v, .int .i64 z] w fun e w' => ∃ u, e = .returned u ∧ OwLk w.heap.size w' u (Lks.drop l z) ∧ Below w.heap.size w w' := by
  obtain ⟨j0, hj, hy0, hy1, hy2⟩ := info_parts infoLk
  obtain ⟨a1, c1, rfl, hc1, hc2⟩ := hr.len
  clear hc1 hc2
  have HR : Hid (RdLk w (.slice a1 l.length c1) l) := hr
  have HX : Hid (Lks.drop l z = Lks.drop (l.take l.length) z) := by (show _ = _); rw [List.take_length]
  rw [HX.out]
  obtain ⟨m, hm⟩ : ∃ m, l.length = m := ⟨_, rfl⟩
  have HM : Hid (l.length = m) := hm
  rw [hm] at HR hl ⊢
  clear hr hm HX
  go_enter Tryd.func42, Tryd.ntmps42
  go_wp2
  go_loopw [5, 6] (fun s t wr => ∃ k : Nat, k ≤ m ∧ t = .int .i64 k ∧ Hid (OwLk w.heap.size wr s (Lks.drop (l.take k) z)) ∧ Hid (Below w.heap.size w wr)) (fun _ t _ => m - (intOf t).toNat)
  case atStart => exact ⟨0, Nat.zero_le _, rfl, OwLk.nil _ _, Below.refl _ _⟩
  case round =>
    obtain ⟨k, hk, rfl, HO, hB⟩ := hrel
    by_cases hlt : k < m
    · obtain ⟨ad, rfl, hx0, hx1, hx2, hx3⟩ := (HR.out.old hB.out).at k (by rw [HM.out]; exact hlt)
      have HNX : Hid (Lks.drop (l.take (k + 1)) z = Lks.drop (l.take k) z ++ (if (lka l k).who = z then [] else [lka l k])) := drop_next l z k (by rw [HM.out]; exact hlt)
      have HLe : Hid ((Lks.drop (l.take k) z).length ≤ 1000) := by
        have := Lks.drop_le (l.take k) z
        rw [List.length_take] at this
        (show _ ≤ _)
        omega
      have hkm : (k : Int) < (m : Int) := by omega
      obtain ⟨x, hxx⟩ : ∃ x, lka l k = x := ⟨_, rfl⟩
      rw [hxx] at hx0 hx1 hx2 hx3 HNX
      clear hxx
      obtain ⟨dl, hdl⟩ : ∃ d, Lks.drop (l.take k) z = d := ⟨_, rfl⟩
      rw [hdl] at HO HNX HLe
      clear hdl
      by_cases hq : x.who = z
      · have HE : Hid (Lks.drop (l.take (k + 1)) z = dl) := by (show _ = _); rw [HNX.out, if_pos hq, List.append_nil]
        clear HNX
        subst hq
        go_wp2
        go_roundw
        case rel => exact ⟨k + 1, by omega, by go_num, by rw [HE.out]; exact HO.out, hB.out⟩
        case measure => simp [intOf]; omega
      · have hne : (x.who != z) = true := by rw [bne_iff_ne]; exact hq
        have HE : Hid (Lks.drop (l.take (k + 1)) z = dl ++ [x]) := by (show _ = _); rw [HNX.out, if_neg hq]
        have hown : wr.ownsRow w.heap.size 57 4 u5 dl.length (vlks dl) := HO.out
        have hle := HLe.out
        have hsz := hB.out.size
        have HL : Hid (∀ g, u5.ownBlock = some g → w.heap.size ≤ g) := fun g hg => (OwLk.lt HO.out g hg).1
        obtain ⟨az, kz, hs⟩ := OwLk.len HO.out
        have HS : Hid (u5 = .slice az dl.length kz) := hs
        rw [hs] at hown ⊢
        clear HNX hs hq HO
        go_wp2_with (first | (at_builtin; refine wpList_append_own _ rfl _ _ 44 rfl w.heap.size 57 j0 (.agg #[.int .i64 0, .int .i64 0, .int .i64 0, .bool false]) 4 32 Tryd.underlying44 hj hy0 hy1 hy2 rfl (by decide) _ _ _ rfl (World.ownsRow.alloc hown _) ⟨wr.heap.size, 0, none⟩ 1 1 (vlk x) rfl rfl (row_news _ x _) (vlk_one x) (by unfold maxLen; omega) (by omega) (by simp; omega) ?_))
        intro v' w3 hw3 hgrow _
        have HO3 : Hid (OwLk w.heap.size w3 v' (dl ++ [x])) := OwLk.snoc hw3
        have HB3 : Hid (Below w.heap.size w w3) := (hB.out.alloc hsz _).grown hgrow (by simp; omega) (fun g hg => HL.out g (by rw [HS.out]; exact hg))
        clear hw3 hgrow hown hB hx0 hx1 hx2 hx3 HL
        go_wp2
        go_roundw
        case rel => exact ⟨k + 1, by omega, by go_num, by rw [HE.out]; exact HO3.out, HB3.out⟩
        case measure => simp [intOf]; omega
    · obtain rfl : k = m := by omega
      go_wp2
      go_ret
      exact ⟨u5, rfl, HO.out, hB.out⟩
end Go.Proofs.YtagindfgfamacaaDoor
