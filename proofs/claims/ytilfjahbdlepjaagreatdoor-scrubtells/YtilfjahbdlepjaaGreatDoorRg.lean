/- Texts of plain mathematics, of memory and of walks, in one. -/
import Derived.Test.YtilfjahbdlepjaaGreatDoorRf
import Derived.Test.YtilfjahbdlepjaaGreatDoorCd
import Derived.BigQuiet
import Derived.Test.YtilfjahbdlepjaaGreatDoorMa
import Derived.Test.YtilfjahbdlepjaaGreatDoorMt
import Derived.Deep.Cut
import Derived.Deep.CutRange
import Derived.BigRegion
import Derived.BigCall
/- What the document's own Mix answers: by a walk over the program. -/
namespace Go.Proofs.YtilfjahbdlepjaaGreatDoor
open Go.ChangeShapes Go.WideShapes Go.ChangeAt Go.RowKit El Pol Mx
set_option maxRecDepth 100000 in
set_option maxHeartbeats 2000000 in
theorem rmix_any (v u : Value) (n L : Nat) (D : M) (f : Nat → El) (w : World) (h : RdF w v n (fun i => st (row (D i) L))) (hu : Rd w u (row f n)) (hn : 1 ≤ n) (hn2 : n ≤ 12) (hL : L ≤ 16) :
    Calls Tryz.prog 62 #[v, u] w fun e w' => e = .returned (st (row (fun l => sm n (fun i => ti (f i) (D i l))) L)) ∧ Below w.heap.size w w' := by
  obtain ⟨i0, hi0, hz0, hz1, hz2⟩ := info_parts info8
  have HH : Hid (RdF w v n (fun i => st (row (D i) L))) := h
  have HU : Hid (Rd w u (row f n)) := hu
  obtain ⟨ao, cap, rfl, _, _⟩ := h.len
  obtain ⟨ad, rfl, _⟩ := h.at 0 (by omega)
  obtain ⟨au, cu, rfl, _, _⟩ := hu.len
  rw [row_length] at *
  clear h hu
  have H0 : Hid (∀ wq, Below w.heap.size w wq → wq.cell? ad = some (.string (sb (row (D 0) L)))) := fun wq hq => by
    obtain ⟨ad', e, hc⟩ := (HH.out.old hq).at 0 (by omega)
    cases e
    rw [add_zero] at hc
    exact hc
  have hs0 := sb_size (row (D 0) L)
  rw [row_length] at hs0
  generalize sb (row (D 0) L) = s0 at *
  have hne0 : ((n : Int) == 0) = false := by rw [beq_eq_false_iff_ne]; omega
  have hn0' : (0 : Int) < (n : Int) := by omega
  go_enter Tryz.func62, Tryz.ntmps62
  go_wp2
  go_loopw [5, 6] (fun o t wr => ∃ k : Nat, k ≤ L ∧ t = .int .i64 k ∧ Ow w.heap.size wr o (row (fun l => sm n (fun i => ti (f i) (D i l))) k) ∧ Below w.heap.size w wr) (fun _ t _ => L - (intOf t).toNat)
  case atStart => exact ⟨0, Nat.zero_le _, rfl, World.ownsRow_nil _ _ _ _, Below.refl _ _⟩
  case round =>
    obtain ⟨k, hk, rfl, hO, hB⟩ := hrel
    obtain ⟨ar, cr, rfl, _, _⟩ := hO.rd.len
    rw [row_length] at *
    have hc0 := H0.out _ hB
    by_cases hlt : k < L
    · have HO : Hid (Ow w.heap.size wr (.slice ar k cr) (row (fun l => sm n (fun i => ti (f i) (D i l))) k)) := hO
      have HB : Hid (Below w.heap.size w wr) := hB
      have hsw := hB.size
      clear hO hB
      rename World => wo
      go_wp2
      clear hc0
      go_loopw [7, 8] (fun o t wq => ∃ (i : Nat) (y : El), i ≤ n ∧ o = .int .u8 ((y.val : Nat) : Int) ∧ t = .int .i64 i ∧ Hid (y = sm i (fun x => ti (f x) (D x k))) ∧ Below wo.heap.size wo wq) (fun _ t _ => n - (intOf t).toNat)
      case atStart => exact ⟨0, 0, Nat.zero_le _, rfl, rfl, rfl, Below.refl _ _⟩
      case round =>
        obtain ⟨i, y, hi, rfl, rfl, HY, hB⟩ := hrel
        have hBw := HB.out.trans (hB.mono hsw)
        by_cases hin : i < n
        · obtain ⟨ad1, rfl, hx⟩ := (HU.out.old hBw).at i (by rw [row_length]; exact hin)
          rw [co_row_lt _ hin] at hx
          obtain ⟨ad2, e2, hc⟩ := (HH.out.old hBw).at i hin
          cases e2
          have hs := sb_size (row (D i) L)
          rw [row_length] at hs
          have HSK : Hid (∀ hk : k < (sb (row (D i) L)).size, ((sb (row (D i) L))[k]'hk).toNat = (D i k).val) := fun hk => sb_row (D i) L k hk
          have HY2 : Hid (pl y (ti (f i) (D i k)) = sm (i + 1) (fun x => ti (f x) (D x k))) := by (show _ = _); rw [sm, ← HY.out]
          unfold st at hc
          generalize sb (row (D i) L) = s at *
          have hks : k < s.size := by omega
          have hsk := HSK.out hks
          generalize f i = xa at *
          generalize D i k = xb at *
          have hin' : (i : Int) < (n : Int) := by omega
          clear hBw
          go_wp2
          go_quiet ((first | (go_at_call 66; exact Calls.quiet_of (timesQ2 xa xb _)) | (go_at_call 65; exact Calls.quiet_of (plusQ2 y (ti xa xb) _))))
          have hB9 := below_drewN hB nq
          clear hB hx hc hsk
          go_wp2
          go_roundw
          case rel => exact ⟨i + 1, _, by omega, rfl, by go_num, HY2.out, hB9⟩
          case measure => simp [intOf]; omega
        · have HS : Hid (y = sm n (fun i => ti (f i) (D i k))) := by (show y = _); rw [HY.out, show i = n by omega]
          have hO := HO.out.old hB
          have hs2 := hBw.size
          go_wp2_with (first | (at_builtin; refine wpList_append_own _ rfl _ _ 82 rfl w.heap.size 5 i0 (.int .u8 0) 1 1 Tryz.underlying82 hi0 hz0 hz1 hz2 rfl (by decide) _ _ _ rfl (World.ownsRow.alloc hO _) ⟨wr.heap.size, 0, none⟩ 1 1 [.int .u8 ((y.val : Nat) : Int)] rfl rfl (one_cell _) (one_one _) (by rw [row_length]; unfold maxLen; omega) (by rw [row_length]; omega) (by simp; omega) ?_))
          intro v' w3 hown hgrow _
          have hO3 := own_snoc hown HS.out
          have hB3 : Below w.heap.size w w3 := (hBw.alloc hs2 _).grown hgrow (by simp; omega) (fun g hg => (hO.lt g hg).1)
          clear hown hgrow hO hB hBw
          go_wp2
          go_roundw
          case rel => exact ⟨k + 1, by omega, by go_num, hO3, hB3⟩
          case measure => simp [intOf]; omega
    · have hE : row (fun l => sm n (fun i => ti (f i) (D i l))) k = row (fun l => sm n (fun i => ti (f i) (D i l))) L := by rw [show k = L by omega]
      rw [hE] at hO
      have hconv := run_text hO.rd 82 9 Tryz.underlying82 Tryz.underlying9
      clear hO hE
      unfold st at hconv
      obtain ⟨s, hs⟩ : ∃ s, s = sb (row (fun l => sm n (fun i => ti (f i) (D i l))) L) := ⟨_, rfl⟩
      have HSS : Hid (s = sb (row (fun l => sm n (fun i => ti (f i) (D i l))) L)) := hs
      rw [← hs] at hconv
      clear hs
      go_wp2
      go_ret
      exact ⟨congrArg (fun s => Ending.returned (.string s)) HSS.out, hB⟩
end Go.Proofs.YtilfjahbdlepjaaGreatDoor

/- What the document's own PQ answers: by a walk over the program. -/
namespace Go.Proofs.YtilfjahbdlepjaaGreatDoor
open Go.ChangeShapes Go.WideShapes Go.ChangeAt Go.RowKit El Pol Mx
theorem twoQ (x : El) (w : World) : Calls Tryz.prog 66 #[.int .u8 ((x.val : Nat) : Int), .int .u8 2] w fun e w' => e = .returned (.int .u8 (((ti x 2).val : Nat) : Int)) ∧ ∃ q, w' = w.drewN q := timesQ2 x 2 w
set_option maxRecDepth 100000 in
set_option maxHeartbeats 2000000 in
theorem rpq_any (v : Value) (n L : Nat) (D : M) (w : World) (h : RdF w v n (fun i => st (row (D i) L))) (hn : 1 ≤ n) (hn2 : n ≤ 10) (hL : L ≤ 16) :
    Calls Tryz.prog 37 #[v] w fun e w' => e = .returned (.tuple #[st (row (pp n D) L), st (row (qq n D) L)]) ∧ Below w.heap.size w w' := by
  obtain ⟨i0, hi0, hz0, hz1, hz2⟩ := info_parts info8
  have HH : Hid (RdF w v n (fun i => st (row (D i) L))) := h
  obtain ⟨ao, cap, rfl, _, _⟩ := h.len
  clear h
  go_enter Tryz.func37, Tryz.ntmps37
  go_wp2
  go_loopw [4, 5, 6, 7] (fun o q x t wr => ∃ i : Nat, i ≤ n ∧ x = .int .u8 (((g2 i).val : Nat) : Int) ∧ t = .int .i64 i ∧ Ow w.heap.size wr o (row (fun _ => 1) i) ∧ Ow w.heap.size wr q (row g2 i) ∧ (o.ownBlock = none ∨ o.ownBlock ≠ q.ownBlock) ∧ Below w.heap.size w wr) (fun _ _ _ t _ => n - (intOf t).toNat)
  case atStart => exact ⟨0, Nat.zero_le _, by rw [g2_zero]; rfl, rfl, World.ownsRow_nil _ _ _ _, World.ownsRow_nil _ _ _ _, .inl rfl, Below.refl _ _⟩
  case round =>
    obtain ⟨i, hi, rfl, rfl, hO, hQ, hne, hB⟩ := hrel
    obtain ⟨a1, c1, e1, _, _⟩ := hO.rd.len
    obtain ⟨a2, c2, e2, _, _⟩ := hQ.rd.len
    rw [row_length] at e1 e2
    subst e1
    subst e2
    by_cases hlt : i < n
    · have hsz := hB.size
      have HQ : Hid (Ow w.heap.size wr (.slice a2 i c2) (row g2 i)) := hQ
      have HNE : Hid ((Value.slice a1 i c1).ownBlock = none ∨ (Value.slice a1 i c1).ownBlock ≠ (Value.slice a2 i c2).ownBlock) := hne
      have HG : Hid (ti (g2 i) 2 = g2 (i + 1)) := g2_succ i (by omega)
      have HX : Hid (g2 i = g2 i) := rfl
      have hlt' : (i : Int) < (n : Int) := by omega
      clear hQ hne
      go_wp2_with (first | (at_builtin; refine wpList_append_two rfl _ _ 82 rfl w.heap.size 5 i0 (.int .u8 0) 1 Tryz.underlying82 hi0 hz0 hz1 hz2 rfl _ _ _ rfl (World.ownsRow.alloc hO _) ⟨wr.heap.size, 0, none⟩ 1 1 [.int .u8 1] rfl rfl (one_cell _) (by intro u hu; simp at hu; subst hu; rfl) (by rw [row_length]; unfold maxLen; omega) (by rw [row_length]; omega) (by simp; omega) ?_))
      intro v3 w3 hown3 hgrow3 hsn3
      have hal : Below wr.heap.size wr (wr.alloc (.cells #[.int .u8 1] 5)) := (Below.refl _ _).alloc (Nat.le_refl _) _
      have hO3 : Ow w.heap.size w3 v3 (row (fun _ => (1 : El)) (i + 1)) := own_snoc (s := 1) hown3 rfl
      have hQa := HQ.out.old hal
      have hQ3 : Ow w.heap.size w3 (.slice a2 i c2) (row g2 i) := World.ownsRow.kept hQa hgrow3 (by
        rcases HNE.out with e | e
        · rw [e]; cases (Value.slice a2 i c2).ownBlock <;> simp
        · exact .inr (fun q => e q.symm))
      have hne3 : v3.ownBlock = none ∨ v3.ownBlock ≠ (Value.slice a2 i c2).ownBlock := hsn3.ne (fun k hk => (World.ownsRow.lt hQa k hk).2) HNE.out
      have hB3 : Below w.heap.size w w3 := (hB.alloc hsz _).grown hgrow3 (by simp; omega) (fun g hg => (World.ownsRow.lt hO g hg).1)
      have hsz3 := hB3.size
      obtain ⟨a3, c3, e3, _, _⟩ := hO3.rd.len
      rw [row_length] at e3
      subst e3
      have HO3 : Hid (Ow w.heap.size w3 (.slice a3 (i + 1) c3) (row (fun _ => (1 : El)) (i + 1))) := hO3
      have HNE3 : Hid ((Value.slice a3 (i + 1) c3).ownBlock = none ∨ (Value.slice a3 (i + 1) c3).ownBlock ≠ (Value.slice a2 i c2).ownBlock) := hne3
      clear hown3 hgrow3 hsn3 hQa hO3 hne3 hB hO HQ HNE hal
      obtain ⟨x, hx⟩ : ∃ x, x = g2 i := ⟨_, rfl⟩
      have HXX : Hid (x = g2 i) := hx
      rw [← hx]
      have HG2 : Hid (ti x 2 = g2 (i + 1)) := by (show _ = _); rw [hx]; exact HG.out
      clear hx HG HX
      go_wp2_with (first | (at_builtin; refine wpList_append_two rfl _ _ 82 rfl w.heap.size 5 i0 (.int .u8 0) 1 Tryz.underlying82 hi0 hz0 hz1 hz2 rfl _ _ _ rfl (World.ownsRow.alloc hQ3 _) ⟨w3.heap.size, 0, none⟩ 1 1 [.int .u8 ((x.val : Nat) : Int)] rfl rfl (one_cell _) (one_one _) (by rw [row_length]; unfold maxLen; omega) (by rw [row_length]; omega) (by simp; omega) ?_))
      intro v4 w4 hown4 hgrow4 hsn4
      have hal : Below w3.heap.size w3 (w3.alloc (.cells #[.int .u8 ((x.val : Nat) : Int)] 5)) := (Below.refl _ _).alloc (Nat.le_refl _) _
      have hQ4 : Ow w.heap.size w4 v4 (row g2 (i + 1)) := own_snoc (s := x) hown4 HXX.out
      have hOa := HO3.out.old hal
      have hO4 : Ow w.heap.size w4 (.slice a3 (i + 1) c3) (row (fun _ => (1 : El)) (i + 1)) := World.ownsRow.kept hOa hgrow4 (by
        rcases HNE3.out with e | e
        · exact .inl e
        · exact .inr e)
      have hne4 : (Value.slice a3 (i + 1) c3).ownBlock = none ∨ (Value.slice a3 (i + 1) c3).ownBlock ≠ v4.ownBlock := by
        have := hsn4.ne (u := .slice a3 (i + 1) c3) (fun k hk => (World.ownsRow.lt hOa k hk).2) (by
          rcases HNE3.out with e | e
          · cases h2 : (Value.slice a2 i c2).ownBlock with
            | none => exact .inl rfl
            | some b => rw [e]; exact .inr (by simp)
          · exact .inr (fun q => e q.symm))
        rcases this with e | e
        · cases h3 : (Value.slice a3 (i + 1) c3).ownBlock with
          | none => exact .inl rfl
          | some b => rw [e]; exact .inr (by simp)
        · exact .inr (fun q => e q.symm)
      have hB4 : Below w.heap.size w w4 := (hB3.alloc hsz3 _).grown hgrow4 (by simp; omega) (fun g hg => (World.ownsRow.lt hQ3 g hg).1)
      obtain ⟨a4, c4, e4, _, _⟩ := hQ4.rd.len
      rw [row_length] at e4
      subst e4
      clear hown4 hgrow4 hsn4 hOa hal hB3 hQ3 HO3 HNE3
      go_wp2_with fail
      refine (twoQ x _).mono ?_
      rintro e w5 ⟨rfl, q5, rfl⟩
      have hB5 := below_drewN hB4 q5
      have hO5 := hO4.old (below_drewN (Below.refl _ _) q5)
      have hQ5 := hQ4.old (below_drewN (Below.refl _ _) q5)
      clear hO4 hQ4 hB4
      rw [HG2.out]
      go_wp2
      go_roundw
      case rel => exact ⟨i + 1, by omega, rfl, by go_num, hO5, hQ5, hne4, hB5⟩
      case measure => simp [intOf]; omega
    · obtain rfl : i = n := by omega
      have C1 := rmix_any (.slice ao i cap) (.slice a1 i c1) i L D (fun _ => 1) wr (HH.out.old hB) hO.rd hn (by omega) hL
      rw [row_congr (g := pp i D) (fun l _ => sm_congr i (fun j _ => one_ti _))] at C1
      have HQ : Hid (Ow w.heap.size wr (.slice a2 i c2) (row g2 i)) := hQ
      obtain ⟨s0, hs0⟩ : ∃ s, s = st (row (pp i D) L) := ⟨_, rfl⟩
      have HS0 : Hid (s0 = st (row (pp i D) L)) := hs0
      rw [← hs0] at C1
      clear hO hQ hs0 hne
      go_wp2_with fail
      refine C1.mono ?_
      rintro e w3 ⟨rfl, hB3⟩
      have hB03 := hB.trans (hB3.mono hB.size)
      have C2 := rmix_any (.slice ao i cap) (.slice a2 i c2) i L D g2 w3 (HH.out.old hB03) (HQ.out.old hB3).rd hn (by omega) hL
      obtain ⟨s1, hs1⟩ : ∃ s, s = st (row (qq i D) L) := ⟨_, rfl⟩
      have HS1 : Hid (s1 = st (row (qq i D) L)) := hs1
      rw [show (fun l => sm i (fun j => ti (g2 j) (D j l))) = qq i D from rfl, ← hs1] at C2
      clear C1 hB3 hB hs1
      go_wp2_with fail
      refine C2.mono ?_
      rintro e w4 ⟨rfl, hB4⟩
      have hB04 := hB03.trans (hB4.mono hB03.size)
      clear C2 hB4 hB03
      go_wp2
      go_ret2
      exact ⟨by rw [HS0.out, HS1.out]; rfl, hB04⟩
end Go.Proofs.YtilfjahbdlepjaaGreatDoor

/- What the document's own Heal answers: by a walk over the program: its beginnings. -/
namespace Go.Proofs.YtilfjahbdlepjaaGreatDoor
open Go.ChangeShapes Go.WideShapes Go.ChangeAt Go.RowKit El Pol Mx
theorem infoI : (Tryz.prog.info? 3).map (fun i => (i.zero, i.size, i.bytes)) = some (some (.int .i64 0), 1, 8) := by kernel_rfl
theorem gn_more {lost : Nat → Bool} {k : Nat} (h : lost k = true) : gn lost (k + 1) = gn lost k ++ [k] := by
  unfold gn
  rw [List.range_succ, List.filter_append]
  simp [h]
theorem gn_same {lost : Nat → Bool} {k : Nat} (h : lost k = false) : gn lost (k + 1) = gn lost k := by
  unfold gn
  rw [List.range_succ, List.filter_append]
  simp [h]
theorem gmin_same {lost : Nat → Bool} {i k : Nat} (h : lost i = false ∨ k ≤ i) : gn lost (min (i + 1) k) = gn lost (min i k) := by
  by_cases hk : i < k
  · rw [Nat.min_eq_left (by omega), Nat.min_eq_left (by omega)]
    rcases h with h | h
    · exact gn_same h
    · omega
  · rw [Nat.min_eq_right (by omega), Nat.min_eq_right (by omega)]
theorem gmin_more {lost : Nat → Bool} {i k : Nat} (h : lost i = true) (hk : i < k) : gn lost (min (i + 1) k) = gn lost (min i k) ++ [i] := by
  rw [Nat.min_eq_left (by omega), Nat.min_eq_left (by omega)]
  exact gn_more h
theorem gn_len (lost : Nat → Bool) (k : Nat) : (gn lost k).length ≤ k := by
  have := ix_gn lost k
  omega
theorem left_long {lost : Nat → Bool} {n L : Nat} {a : Nat → List El} (hL : ∀ i, i < (ix lost n).length → (a (at' lost n i)).length = L) : ∀ x, x < n → lost x = false → (a x).length = L := fun x hx hl => by
  have h := at_pos hl n hx
  have := hL _ h.1
  rwa [h.2] at this
theorem zed_text_lost {lost : Nat → Bool} {A : M} {x L : Nat} (h : lost x = true) : List.replicate L 0 = row (zed A lost x) L := by
  rw [replicate_row]
  exact row_congr (fun l _ => (zed_lost h l).symm)
theorem zed_text_left {lost : Nat → Bool} {a : Nat → List El} {x L : Nat} (h : lost x = false) (hl : (a x).length = L) : a x = row (zed (mx a) lost x) L := by
  rw [row_congr (g := co (a x)) (fun l _ => zed_left h l), ← hl, row_co]
/-- the texts so far -/
abbrev zts (A : M) (lost : Nat → Bool) (L i : Nat) : List Value := (List.range i).map (fun x => st (row (zed A lost x) L))
theorem zts_succ (A : M) (lost : Nat → Bool) (L i : Nat) : zts A lost L (i + 1) = zts A lost L i ++ [st (row (zed A lost i) L)] := by
  show (List.range (i + 1)).map _ = (List.range i).map _ ++ _
  rw [List.range_succ, List.map_append]
  rfl
theorem OwL.as {B n : Nat} {T : TypeId} {w : World} {v : Value} {xs ys : List Value} (h : OwL B T w v xs) (e : xs = ys) (hn : ys.length = n) : w.ownsRow B T 1 v n ys := by
  subst e
  subst hn
  exact h
/-- numbers as values -/
abbrev nvs (xs : List Nat) : List Value := xs.map (fun x => .int .i64 ((x : Nat) : Int))
/-- two texts, each so many times: the two lists laid out in either order -/
def tw (P R : Nat → El) : M := fun i => if i = 0 then P else R
theorem tw_rd (W : World) (P R : Nat → El) (L : Nat) (sp sr : ByteArray) (hp : sp = sb (row P L)) (hr : sr = sb (row R L)) : RdF (W.alloc (.cells #[.string sp, .string sr] 9)) (.slice (some ⟨W.heap.size, 0, none⟩) 2 2) 2 (fun i => st (row (tw P R i) L)) := by
  subst hp
  subst hr
  exact OwL.rdF (own_lit (B := W.heap.size) [st (row P L), st (row R L)] (Nat.le_refl _) (by simp)) (fun i hi => by
    match i, hi with
    | 0, _ => rfl
    | 1, _ => rfl)
def tb (b c : El) : Nat → El := fun i => if i = 0 then b else c
theorem tb_rd (W : World) (b c : El) (vb vc : Int) (hb : vb = ((b.val : Nat) : Int)) (hc : vc = ((c.val : Nat) : Int)) : Rd (W.alloc (.cells #[.int .u8 vb, .int .u8 vc] 5)) (.slice (some ⟨W.heap.size, 0, none⟩) 2 2) (row (tb b c) 2) := by
  subst hb
  subst hc
  exact (own_bytes (B := W.heap.size) (w := W) [b, c] (Nat.le_refl _) (by simp)).rd
theorem tw_sum (P R : Nat → El) (b c : El) (L : Nat) : row (fun l => sm 2 (fun i => ti (tb b c i) (tw P R i l))) L = row (fun l => pl (ti b (P l)) (ti c (R l))) L := row_congr (fun l _ => by
  show pl (pl 0 (ti b (P l))) (ti c (R l)) = _
  rw [zero_pl])
theorem mix2_any (W W' : World) (v u : Value) (P R : Nat → El) (b c : El) (L : Nat) (hL : L ≤ 16) (hv : RdF W' v 2 (fun i => st (row (tw P R i) L))) (hu : Rd W' u (row (tb b c) 2)) (hB : Below W.heap.size W W') :
    Calls Tryz.prog 62 #[v, u] W' fun e w' => e = .returned (.string (sb (row (fun l => pl (ti b (P l)) (ti c (R l))) L))) ∧ Below W.heap.size W w' := by
  have := rmix_any v u 2 L (tw P R) (tb b c) W' hv hu (by omega) (by omega) hL
  rw [tw_sum] at this
  exact this.mono fun e w' ⟨he, hb⟩ => ⟨he, hB.trans (hb.mono hB.size)⟩
theorem mix_ab (W : World) (P R : Nat → El) (b c : El) (L : Nat) (hL : L ≤ 16) (sp sr : ByteArray) (hp : sp = sb (row P L)) (hr : sr = sb (row R L)) (vb vc : Int) (hb : vb = ((b.val : Nat) : Int)) (hc : vc = ((c.val : Nat) : Int)) (q : Nat) :
    Calls Tryz.prog 62 #[.slice (some ⟨W.heap.size, 0, none⟩) 2 2, .slice (some ⟨W.heap.size + 1, 0, none⟩) 2 2] (((W.alloc (.cells #[.string sp, .string sr] 9)).alloc (.cells #[.int .u8 vb, .int .u8 vc] 5)).drewN q) fun e w' => e = .returned (.string (sb (row (fun l => pl (ti b (P l)) (ti c (R l))) L))) ∧ Below W.heap.size W w' := by
  have b1 := al_below W (.cells #[.string sp, .string sr] 9)
  have b2 := al_below (W.alloc (.cells #[.string sp, .string sr] 9)) (.cells #[.int .u8 vb, .int .u8 vc] 5)
  have b3 : Below ((W.alloc (.cells #[.string sp, .string sr] 9)).alloc (.cells #[.int .u8 vb, .int .u8 vc] 5)).heap.size ((W.alloc (.cells #[.string sp, .string sr] 9)).alloc (.cells #[.int .u8 vb, .int .u8 vc] 5)) (((W.alloc (.cells #[.string sp, .string sr] 9)).alloc (.cells #[.int .u8 vb, .int .u8 vc] 5)).drewN q) := below_drewN (Below.refl _ _) q
  have r2 := tb_rd (W.alloc (.cells #[.string sp, .string sr] 9)) b c vb vc hb hc
  rw [show (W.alloc (.cells #[.string sp, .string sr] 9)).heap.size = W.heap.size + 1 by simp] at r2
  have b12 := b1.trans (b2.mono b1.size)
  exact mix2_any W _ _ _ P R b c L hL (((tw_rd W P R L sp sr hp hr).old b2).old b3) (r2.old b3) (b12.trans (b3.mono b12.size))
theorem mix_ba (W : World) (P R : Nat → El) (b c : El) (L : Nat) (hL : L ≤ 16) (sp sr : ByteArray) (hp : sp = sb (row P L)) (hr : sr = sb (row R L)) (vb vc : Int) (hb : vb = ((b.val : Nat) : Int)) (hc : vc = ((c.val : Nat) : Int)) (q : Nat) :
    Calls Tryz.prog 62 #[.slice (some ⟨W.heap.size + 1, 0, none⟩) 2 2, .slice (some ⟨W.heap.size, 0, none⟩) 2 2] (((W.alloc (.cells #[.int .u8 vb, .int .u8 vc] 5)).alloc (.cells #[.string sp, .string sr] 9)).drewN q) fun e w' => e = .returned (.string (sb (row (fun l => pl (ti b (P l)) (ti c (R l))) L))) ∧ Below W.heap.size W w' := by
  have b1 := al_below W (.cells #[.int .u8 vb, .int .u8 vc] 5)
  have b2 := al_below (W.alloc (.cells #[.int .u8 vb, .int .u8 vc] 5)) (.cells #[.string sp, .string sr] 9)
  have b3 : Below ((W.alloc (.cells #[.int .u8 vb, .int .u8 vc] 5)).alloc (.cells #[.string sp, .string sr] 9)).heap.size ((W.alloc (.cells #[.int .u8 vb, .int .u8 vc] 5)).alloc (.cells #[.string sp, .string sr] 9)) (((W.alloc (.cells #[.int .u8 vb, .int .u8 vc] 5)).alloc (.cells #[.string sp, .string sr] 9)).drewN q) := below_drewN (Below.refl _ _) q
  have r2 := tw_rd (W.alloc (.cells #[.int .u8 vb, .int .u8 vc] 5)) P R L sp sr hp hr
  rw [show (W.alloc (.cells #[.int .u8 vb, .int .u8 vc] 5)).heap.size = W.heap.size + 1 by simp] at r2
  have b12 := b1.trans (b2.mono b1.size)
  exact mix2_any W _ _ _ P R b c L hL (r2.old b3) (((tb_rd W b c vb vc hb hc).old b2).old b3) (b12.trans (b3.mono b12.size))
theorem mix_abD (W : World) (P R : Nat → El) (b c : El) (L : Nat) (hL : L ≤ 16) (sp sr : ByteArray) (hp : sp = sb (row P L)) (hr : sr = sb (row R L)) (vb vc : Int) (hb : vb = ((b.val : Nat) : Int)) (hc : vc = ((c.val : Nat) : Int)) :
    Calls Tryz.prog 62 #[.slice (some ⟨W.heap.size, 0, none⟩) 2 2, .slice (some ⟨W.heap.size + 1, 0, none⟩) 2 2] (((W.alloc (.cells #[.string sp, .string sr] 9)).alloc (.cells #[.int .u8 vb, .int .u8 vc] 5)).drew) fun e w' => e = .returned (.string (sb (row (fun l => pl (ti b (P l)) (ti c (R l))) L))) ∧ Below W.heap.size W w' := mix_ab W P R b c L hL sp sr hp hr vb vc hb hc 1
theorem mix_baD (W : World) (P R : Nat → El) (b c : El) (L : Nat) (hL : L ≤ 16) (sp sr : ByteArray) (hp : sp = sb (row P L)) (hr : sr = sb (row R L)) (vb vc : Int) (hb : vb = ((b.val : Nat) : Int)) (hc : vc = ((c.val : Nat) : Int)) :
    Calls Tryz.prog 62 #[.slice (some ⟨W.heap.size + 1, 0, none⟩) 2 2, .slice (some ⟨W.heap.size, 0, none⟩) 2 2] (((W.alloc (.cells #[.int .u8 vb, .int .u8 vc] 5)).alloc (.cells #[.string sp, .string sr] 9)).drew) fun e w' => e = .returned (.string (sb (row (fun l => pl (ti b (P l)) (ti c (R l))) L))) ∧ Below W.heap.size W w' := mix_ba W P R b c L hL sp sr hp hr vb vc hb hc 1
theorem mix_abN (W : World) (P R : Nat → El) (b c : El) (L : Nat) (hL : L ≤ 16) (sp sr : ByteArray) (hp : sp = sb (row P L)) (hr : sr = sb (row R L)) (vb vc : Int) (hb : vb = ((b.val : Nat) : Int)) (hc : vc = ((c.val : Nat) : Int)) :
    Calls Tryz.prog 62 #[.slice (some ⟨W.heap.size, 0, none⟩) 2 2, .slice (some ⟨W.heap.size + 1, 0, none⟩) 2 2] ((W.alloc (.cells #[.string sp, .string sr] 9)).alloc (.cells #[.int .u8 vb, .int .u8 vc] 5)) fun e w' => e = .returned (.string (sb (row (fun l => pl (ti b (P l)) (ti c (R l))) L))) ∧ Below W.heap.size W w' := mix_ab W P R b c L hL sp sr hp hr vb vc hb hc 0
/-- the same, by the cells -/
theorem mix2_c (W W' : World) (g h : Nat) (P R : Nat → El) (b c : El) (L : Nat) (hL : L ≤ 16) (sp sr : ByteArray) (hp : sp = sb (row P L)) (hr : sr = sb (row R L)) (vb vc : Int) (hb : vb = ((b.val : Nat) : Int)) (hc : vc = ((c.val : Nat) : Int))
    (c0 : W'.cell? ⟨g, 0, none⟩ = some (.string sp)) (c1 : W'.cell? ⟨g, 1, none⟩ = some (.string sr)) (d0 : W'.cell? ⟨h, 0, none⟩ = some (.int .u8 vb)) (d1 : W'.cell? ⟨h, 1, none⟩ = some (.int .u8 vc)) (hB : Below W.heap.size W W') :
    Calls Tryz.prog 62 #[.slice (some ⟨g, 0, none⟩) 2 2, .slice (some ⟨h, 0, none⟩) 2 2] W' fun e w' => e = .returned (.string (sb (row (fun l => pl (ti b (P l)) (ti c (R l))) L))) ∧ Below W.heap.size W w' := by
  subst hp
  subst hr
  subst hb
  subst hc
  have at0 : ∀ x : Nat, (⟨x, 0, none⟩ : Addr).add 0 = ⟨x, 0, none⟩ := fun x => rfl
  have at1 : ∀ x : Nat, (⟨x, 0, none⟩ : Addr).add 1 = ⟨x, 1, none⟩ := fun x => by unfold Addr.add; simp
  refine mix2_any W W' _ _ P R b c L hL (.inr ⟨⟨g, 0, none⟩, 2, rfl, Nat.le_refl _, by omega, fun i hi => ?_⟩) (.inr ⟨⟨h, 0, none⟩, 2, by rw [row_length], by rw [row_length]; omega, by omega, fun i hi => ?_⟩) hB
  · match i, hi with
    | 0, _ => rw [at0]; exact c0
    | 1, _ => rw [at1]; exact c1
  · rw [row_length] at hi
    match i, hi with
    | 0, _ => rw [at0, d0]; rfl
    | 1, _ => rw [at1, d1]; rfl
theorem rpowQ (x : Nat) (hx : x ≤ 1000) (w : World) : Calls Tryz.prog 64 #[.int .u8 2, .int .i64 x] w fun e w' => e = .returned (.int .u8 (((g2 x).val : Nat) : Int)) ∧ ∃ q, w' = w.drewN q := rpow_any 2 x (by omega) (by omega) w
theorem rinvQ (x : El) (h : x ≠ 0) (w : World) : Calls Tryz.prog 63 #[.int .u8 ((x.val : Nat) : Int)] w fun e w' => e = .returned (.int .u8 (((iv x).val : Nat) : Int)) ∧ ∃ q, w' = w.drewN q := rinv_any x.val x.isLt (val_ne h) w
/-- P and Q laid over the last two -/
theorem last_two (k L : Nat) (E : M) : (((List.range (k + 2)).map (fun x => st (row (E x) L))).set k (st (row (pp k E) L))).set (k + 1) (st (row (qq k E) L)) = (List.range (k + 2)).map (fun x => st (row (pqp k E x) L)) := by
  rw [set_map_up, set_map_up]
  refine List.map_congr_left (fun x hx => ?_)
  have hx' := List.mem_range.1 hx
  by_cases e1 : x = k + 1
  · rw [e1, up_at, pqp_q]
  · rw [up_ne _ _ e1]
    by_cases e2 : x = k
    · rw [e2, up_at, pqp_p]
    · rw [up_ne _ _ e2, pqp_data (by omega)]
theorem set_upd (k L x : Nat) (E : M) (f : Nat → El) : ((List.range (k + 2)).map (fun y => st (row (E y) L))).set x (st (row f L)) = (List.range (k + 2)).map (fun y => st (row (upd E x f y) L)) := by
  rw [set_map_up]
  refine List.map_congr_left (fun y _ => ?_)
  by_cases e : y = x
  · rw [e, up_at, upd_at]
  · rw [up_ne _ _ e, upd_ne _ _ e]
end Go.Proofs.YtilfjahbdlepjaaGreatDoor
