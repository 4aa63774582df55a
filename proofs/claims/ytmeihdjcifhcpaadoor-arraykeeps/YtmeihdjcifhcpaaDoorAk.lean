/- Texts of plain mathematics, of memory and of walks, in one. -/
import Derived.Test.YtmeihdjcifhcpaaDoorPa
import Derived.Test.YtmeihdjcifhcpaaDoorGe
import Derived.Test.YtmeihdjcifhcpaaDoorMe
import Derived.Test.YtmeihdjcifhcpaaDoorEr
import Derived.Deep.Cut
import Derived.Deep.CutRange
import Derived.BigCall
import Derived.BigGuard
import Derived.Test.YtmeihdjcifhcpaaDoorVw
/- An array that is played with, and what was written into it: the state between the steps, and what keeps it. -/
namespace Go.Proofs.YtmeihdjcifhcpaaDoor
open Go.RowKit El Pol Mx Lay
theorem owns_len3 {B : Nat} {T : TypeId} {w : World} {v : Value} {n : Nat} {xs : List Value} (h : w.ownsRow B T 1 v n xs) : ∃ ao cap, v = .slice ao n cap := by
  rcases h.2 with ⟨rfl, e⟩ | ⟨g, cap, cur, rfl, _⟩
  · exact ⟨none, 0, by rw [e]⟩
  · exact ⟨_, cap, rfl⟩
theorem rowAt_rep {B : Nat} {T : TypeId} {w : World} {v : Value} {n : Nat} {z : Value} (h : w.ownsRow B T 1 v n (List.replicate n z)) (hn : 0 < n) : ∃ g cap, v = .slice (some ⟨g, 0, none⟩) n cap ∧ B ≤ g ∧ RowAt w g n (fun _ => z) := by
  have h0 := h
  rcases h.2 with ⟨_, e⟩ | ⟨g, cap, cur, rfl, hB, hg, _⟩
  · omega
  · refine ⟨g, cap, rfl, hB, lt_of_block hg, fun i hi => ⟨?_, frozen_of_row _ _ _ _ _ hg⟩⟩
    rw [World.ownsRow.cellAt h0 i (by omega)]
    simp [hi]
/-- a step's numbers, those that are not told being 0 -/
def vG (L : Nat → Nat) (F : Nat → Nat → Int) (k : Nat) : Nat → Int := fun j => if j < L k then F k j else 0
structure KS (w : World) (x : PAd) (g n rows size : Nat) (A : Arr) (c : Nat → List El) (N : Nat) (wc : World) : Prop where
  al : AL w x A N wc
  keep : Keep A c
  nrs : A.n = n ∧ A.rows = rows ∧ A.size = size
  row : RowAt wc g (rows * (n - 2)) (fun b => st (c b))
  hg : w.heap.size ≤ g
  ng : ¬ x.F n g
/-- a step's numbers at q -/
structure VG (w : World) (x : PAd) (n g M q : Nat) (wc : World) (v : Nat → Int) : Prop where
  row : RowAt wc q M (fun j => .int .i64 (v j))
  hq : w.heap.size ≤ q
  ng : q ≠ g
  nf : ¬ x.F n q
section
variable {w wc w1 : World} {x : PAd} {g n rows size M q : Nat} {A A' : Arr} {c c' : Nat → List El} {N N' : Nat} {v : Nat → Int}
theorem VG.old (h : VG w x n g M q wc v) (hb : Below wc.heap.size wc w1) : VG w x n g M q w1 v := ⟨h.row.old hb, h.hq, h.ng, h.nf⟩
theorem VG.but (h : VG w x n g M q wc v) (hb : But (x.F n) wc w1) : VG w x n g M q w1 v := ⟨h.row.but hb h.nf, h.hq, h.ng, h.nf⟩
theorem VG.onCell (h : VG w x n g M q wc v) (i : Nat) (u : Value) : VG w x n g M q (wc.setCell ⟨g, i, none⟩ u) v := ⟨h.row.apart h.ng i u, h.hq, h.ng, h.nf⟩
theorem VG.at (h : VG w x n g M q wc v) (j : Nat) (hj : j < M) : wc.cell? ⟨q, j, none⟩ = some (.int .i64 (v j)) := (h.row.2 j hj).1
theorem VG.put (h : VG w x n g M q wc v) (i : Nat) (y : Int) (u : Nat → Int) (hu : ∀ k, k < M → u k = if k = i then y else v k) : VG w x n g M q (wc.setCell ⟨q, i, none⟩ (.int .i64 y)) u :=
  ⟨(h.row.put i _).1.congr (fun k hk => by
    rw [hu k hk]
    by_cases e : k = i
    · subst e; rw [up_at, if_pos rfl]
    · rw [up_ne _ _ e, if_neg e]), h.hq, h.ng, h.nf⟩
theorem KS.old (h : KS w x g n rows size A c N wc) (hb : Below wc.heap.size wc w1) : KS w x g n rows size A c N w1 :=
  ⟨h.al.old hb, h.keep, h.nrs, h.row.old hb, h.hg, h.ng⟩
theorem KS.step (h : KS w x g n rows size A c N wc) (hp : PA w1 x A' N') (hb : But (x.F A.n) wc w1) (hk : Keep A' c) (hs : A'.n = A.n ∧ A'.rows = A.rows ∧ A'.size = A.size) : KS w x g n rows size A' c N' w1 := by
  obtain ⟨s1, s2, s3⟩ := hs
  obtain ⟨h1, h2, h3⟩ := h.nrs
  have hb' := hb
  rw [h1] at hb'
  exact ⟨h.al.next hp hb s1, hk, ⟨s1.trans h1, s2.trans h2, s3.trans h3⟩, h.row.but hb' h.ng, h.hg, h.ng⟩
theorem KS.onQ (h : KS w x g n rows size A c N wc) (hv : VG w x n g M q wc v) (i : Nat) (u : Value) : KS w x g n rows size A c N (wc.setCell ⟨q, i, none⟩ u) := by
  have hb := but_cell wc q i u
  refine ⟨⟨h.al.low.trans (hb.below h.al.low.size (fun k hk => by rw [hk]; exact hv.hq)), h.al.pa.but hb (fun k hk e => ?_), h.al.out⟩, h.keep, h.nrs, h.row.but hb (fun e => hv.ng e.symm), h.hg, h.ng⟩
  rw [h.nrs.1, e] at hk
  exact hv.nf hk
theorem KS.store (h : KS w x g n rows size A c N wc) (hp : PA w1 x A' N') (hb : But (x.F A.n) wc w1) (b : Nat) (t : List El) (hk : Keep A' (up c b t)) (hs : A'.n = A.n ∧ A'.rows = A.rows ∧ A'.size = A.size) :
    KS w x g n rows size A' (up c b t) N' (w1.setCell ⟨g, b, none⟩ (st t)) := by
  obtain ⟨s1, s2, s3⟩ := hs
  obtain ⟨h1, h2, h3⟩ := h.nrs
  have hb' := hb
  rw [h1] at hb'
  have hr := (h.row.but hb' h.ng).put b (st t)
  have hb2 := but_cell w1 g b (st t)
  have ha := h.al.next hp hb s1
  refine ⟨⟨ha.low.trans (hb2.below ha.low.size (fun k hk => by rw [hk]; exact h.hg)), ha.pa.but hb2 (fun k hk e => ?_), ha.out⟩, hk, ⟨s1.trans h1, s2.trans h2, s3.trans h3⟩, hr.1.congr (fun i _ => ?_), h.hg, h.ng⟩
  · rw [s1, h1, e] at hk
    exact h.ng hk
  · by_cases e : i = b
    · subst e; rw [up_at, up_at]
    · rw [up_ne _ _ e, up_ne _ _ e]
theorem KS.cell (h : KS w x g n rows size A c N wc) (b : Nat) (hb : b < rows * (n - 2)) : wc.cell? ⟨g, b, none⟩ = some (st (c b)) ∧ wc.frozen? ⟨g, b, none⟩ = false := h.row.2 b hb
theorem VG.new (h : KS w x g n rows size A c N wc) (M : Nat) (t : TypeId) : VG w x n g M wc.heap.size (wc.alloc (.cells (Array.replicate M (.int .i64 0)) t)) (fun _ => 0) :=
  ⟨RowAt.new wc M (.int .i64 0) t, h.al.low.size, Nat.ne_of_gt h.row.1, fun hf => by have := h.al.pa.lt wc.heap.size (by rw [h.nrs.1]; exact hf); omega⟩
theorem same_write (A : Arr) (b : Int) (t : List El) : (A.write b t).n = A.n ∧ (A.write b t).rows = A.rows ∧ (A.write b t).size = A.size := by unfold Arr.write; split <;> exact ⟨rfl, rfl, rfl⟩
theorem same_fail (A : Arr) (d : Int) : (A.fail d).n = A.n ∧ (A.fail d).rows = A.rows ∧ (A.fail d).size = A.size := by unfold Arr.fail; split <;> exact ⟨rfl, rfl, rfl⟩
theorem same_replace (A : Arr) (d : Int) : (A.replace d).n = A.n ∧ (A.replace d).rows = A.rows ∧ (A.replace d).size = A.size := by unfold Arr.replace; split <;> exact ⟨rfl, rfl, rfl⟩
theorem same_rebuild (A : Arr) (d : Int) : (A.rebuild d).n = A.n ∧ (A.rebuild d).rows = A.rows ∧ (A.rebuild d).size = A.size := by unfold Arr.rebuild; split <;> exact ⟨rfl, rfl, rfl⟩
/-- a write of a block that there is -/
theorem KS.write (h : KS w x g n rows size A c N wc) (hN : N < 900000) (hr20 : rows ≤ 20) (hn10 : n ≤ 10) (b : Nat) (hb : b < rows * (n - 2)) (t : List El) (ht : t.length = size) :
    Calls Tryd.prog 19 #[.pointer (some ⟨x.p, 0, none⟩), .int .i64 b, st t] wc fun e w1 => e = .returned .nilIface ∧ (w1.cell? ⟨g, b, none⟩ = some (st (c b)) ∧ w1.frozen? ⟨g, b, none⟩ = false) ∧ (KS w x g n rows size (A.write (b : Int) t) (up c b t) (N + 3) (w1.setCell ⟨g, b, none⟩ (st t))) ∧ But (x.F n) wc w1 := by
  obtain ⟨h1, h2, h3⟩ := h.nrs
  have hbig : rows * (n - 2) ≤ 20 * 8 := Nat.mul_le_mul hr20 (by omega)
  have hno : ¬ A.noB (b : Int) := by unfold Arr.noB; rw [h1, h2]; omega
  have hE := h.keep.writeE hno (show t.length = A.size by rw [h3]; exact ht)
  have hK := h.keep.write hno (show t.length = A.size by rw [h3]; exact ht)
  rw [Int.toNat_natCast] at hK
  have := pa_write h.al.pa h.keep.ok hN (b : Int) (by omega) t
  rw [hE, errV, if_pos rfl] at this
  refine this.mono fun e w1 ⟨he, hp, hbt⟩ => ?_
  have hb' := hbt
  rw [h1] at hb'
  exact ⟨he, (h.row.but hb' h.ng).2 b hb, h.store hp hbt b t hK (same_write _ _ _), hb'⟩
theorem KS.read (h : KS w x g n rows size A c N wc) (hr20 : rows ≤ 20) (hn10 : n ≤ 10) (b : Nat) (hb : b < rows * (n - 2)) :
    Calls Tryd.prog 21 #[.pointer (some ⟨x.p, 0, none⟩), .int .i64 b] wc fun e w1 => e = .returned (.tuple #[st (c b), .nilIface]) ∧ Below wc.heap.size wc w1 := by
  obtain ⟨h1, h2, h3⟩ := h.nrs
  have hbig : rows * (n - 2) ≤ 20 * 8 := Nat.mul_le_mul hr20 (by omega)
  have hno : ¬ A.noB (b : Int) := by unfold Arr.noB; rw [h1, h2]; omega
  obtain ⟨e1, e2⟩ := h.keep.read hno
  rw [Int.toNat_natCast] at e2
  have := pa_read h.al.pa h.keep.ok (b : Int) (by omega)
  rw [e1, e2, errV, if_pos rfl] at this
  exact this
theorem KS.fail (h : KS w x g n rows size A c N wc) (d : Int) (hf : ∀ r, r < rows → A.nl r ≤ 1) :
    Calls Tryd.prog 20 #[.pointer (some ⟨x.p, 0, none⟩), .int .i64 d] wc fun e w1 => ∃ k, e = .returned (errV k) ∧ KS w x g n rows size (A.fail d) c N w1 ∧ But (x.F n) wc w1 :=
  (pa_fail h.al.pa d).mono fun e w1 ⟨he, hp, hb⟩ => ⟨_, he, h.step hp hb (h.keep.fail d (by rw [h.nrs.2.1]; exact hf)) (same_fail _ _), by rw [h.nrs.1] at hb; exact hb⟩
theorem KS.replace (h : KS w x g n rows size A c N wc) (d : Int) :
    Calls Tryd.prog 24 #[.pointer (some ⟨x.p, 0, none⟩), .int .i64 d] wc fun e w1 => ∃ k, e = .returned (errV k) ∧ KS w x g n rows size (A.replace d) c N w1 ∧ But (x.F n) wc w1 :=
  (pa_replace h.al.pa d).mono fun e w1 ⟨he, hp, hb⟩ => ⟨_, he, h.step hp hb (h.keep.replace d) (same_replace _ _), by rw [h.nrs.1] at hb; exact hb⟩
theorem rebuildE_not8 (h : Keep A c) (d : Int) : A.rebuildE d ≠ 8 := by
  unfold Arr.rebuildE
  split
  · omega
  · rename_i q
    obtain ⟨k, rfl, hk⟩ := Arr.noD_nat q
    rw [Int.toNat_natCast]
    split
    · omega
    · rename_i q2
      have hb := h.ok.2.2.2.2 k hk
      have : A.nl (A.built k) ≤ 2 := h.few _ (by
        rcases Nat.lt_or_ge (A.built k) A.rows with z | z
        · exact z
        · exact absurd (.inr (by omega)) q2)
      rw [if_neg (by omega)]
      omega
theorem KS.rebuild (h : KS w x g n rows size A c N wc) (hN : N < 900000) (d : Int) :
    Calls Tryd.prog 25 #[.pointer (some ⟨x.p, 0, none⟩), .int .i64 d] wc fun e w1 => ∃ (z : Int) (k : Nat), (e = .returned (.tuple #[.int .i64 z, errV k]) ∧ k ≠ 8) ∧ KS w x g n rows size (A.rebuild d) c (N + 1) w1 ∧ But (x.F n) wc w1 :=
  (pa_rebuild h.al.pa h.keep.ok hN d).mono fun e w1 ⟨he, hp, hb⟩ => ⟨_, _, ⟨he, rebuildE_not8 h.keep d⟩, h.step hp hb (h.keep.rebuild d) (same_rebuild _ _), by rw [h.nrs.1] at hb; exact hb⟩
end
end Go.Proofs.YtmeihdjcifhcpaaDoor

/- The statements' own block of a size: some text of that size, or of one byte more: a walk over the program. -/
namespace Go.Proofs.YtmeihdjcifhcpaaDoor
open Go.RowKit El Pol
def blkN (size : Nat) (n : Int) : Nat := if n < 0 then size + 1 else size
theorem el_of (z : Int) : ∃ x : El, z % 256 = ((x.val : Nat) : Int) := ⟨⟨(z % 256).toNat, by omega⟩, by
  show z % 256 = (((z % 256).toNat : Nat) : Int)
  omega⟩
set_option maxRecDepth 100000 in
set_option maxHeartbeats 1000000 in
theorem block_any (size : Nat) (n : Int) (hs : size ≤ 16) (w : World) :
    Calls Tryd.prog 22 #[.int .i64 size, .int .i64 n] w fun e w' => ∃ t : List El, e = .returned (st t) ∧ t.length = blkN size n ∧ Below w.heap.size w w' := by
  obtain ⟨i0, hi0, hz0, hz1, hz2⟩ := info_parts info8
  go_enter Tryd.func22, Tryd.ntmps22
  go_wp2
  go_loopw [5, 6] (fun v t wr => ∃ (k : Nat) (xs : List El), k ≤ size ∧ t = .int .i64 k ∧ xs.length = k ∧ Ow w.heap.size wr v xs ∧ Below w.heap.size w wr) (fun _ t _ => size - (intOf t).toNat)
  case atStart => exact ⟨0, [], Nat.zero_le _, rfl, rfl, World.ownsRow_nil _ _ _ _, Below.refl _ _⟩
  case round =>
    obtain ⟨k, xs, hk, rfl, hx, hO, hB⟩ := hrel
    obtain ⟨a1, c1, e1, _, _⟩ := hO.rd.len
    rw [hx] at e1
    subst e1
    have HO : Hid (Ow w.heap.size wr (.slice a1 k c1) xs) := hO
    have HXL : Hid (xs.length = k) := hx
    have hsz := hB.size
    have HB : Hid (Below w.heap.size w wr) := hB
    clear hx hB
    by_cases hlt : k < size
    · obtain ⟨x, hxv⟩ := el_of (wrap64 (n + (k : Int)))
      have hO' : wr.ownsRow w.heap.size 5 1 (.slice a1 k c1) k (xs.map eb) := by have := HO.out; unfold Ow at this; rw [HXL.out] at this; exact this
      clear hO
      go_wp2_with (first | (at_builtin; refine wpList_append_own _ rfl _ _ 44 rfl w.heap.size 5 i0 (.int .u8 0) 1 1 Tryd.underlying44 hi0 hz0 hz1 hz2 rfl (by decide) _ _ _ rfl (World.ownsRow.alloc hO' _) ⟨wr.heap.size, 0, none⟩ 1 1 [.int .u8 ((x.val : Nat) : Int)] rfl rfl (one_cell _) (by intro u hu; simp at hu; subst hu; rfl) (by unfold maxLen; omega) (by omega) (by simp; omega) ?_))
      intro v3 w3 hown3 hgrow3 _
      have HO3 : Hid (Ow w.heap.size w3 v3 (xs ++ [x])) := by
        (show World.ownsRow _ _ _ _ _ _ _)
        rw [List.length_append, HXL.out, List.map_append]
        exact hown3
      have HB3 : Hid (Below w.heap.size w w3) := (HB.out.alloc hsz _).grown hgrow3 (by simp; omega) (fun g hg => (World.ownsRow.lt hO' g hg).1)
      have HL3 : Hid ((xs ++ [x]).length = k + 1) := by (show _ = _); rw [List.length_append, HXL.out]; rfl
      clear hown3 hgrow3 hO' hxv
      go_wp2
      go_roundw
      case rel => exact ⟨k + 1, xs ++ [x], by omega, by go_num, HL3.out, HO3.out, HB3.out⟩
      case measure => simp [intOf]; omega
    · have hks : k = size := by omega
      by_cases hn : n < 0
      · have hO' : wr.ownsRow w.heap.size 5 1 (.slice a1 k c1) k (xs.map eb) := by have := HO.out; unfold Ow at this; rw [HXL.out] at this; exact this
        have HF : Hid ((xs ++ [(1 : El)]).length = blkN size n) := by (show _ = _); unfold blkN; rw [if_pos hn, List.length_append, HXL.out, hks]; rfl
        clear hO hks
        go_wp2_with (first | (at_builtin; refine wpList_append_own _ rfl _ _ 44 rfl w.heap.size 5 i0 (.int .u8 0) 1 1 Tryd.underlying44 hi0 hz0 hz1 hz2 rfl (by decide) _ _ _ rfl (World.ownsRow.alloc hO' _) ⟨wr.heap.size, 0, none⟩ 1 1 [.int .u8 1] rfl rfl (one_cell _) (by intro u hu; simp at hu; subst hu; rfl) (by unfold maxLen; omega) (by omega) (by simp; omega) ?_))
        intro v3 w3 hown3 hgrow3 _
        have hO3 : Ow w.heap.size w3 v3 (xs ++ [(1 : El)]) := by
          unfold Ow
          rw [List.length_append, HXL.out, List.map_append]
          exact hown3
        have HB3 : Hid (Below w.heap.size w w3) := (HB.out.alloc hsz _).grown hgrow3 (by simp; omega) (fun g hg => (World.ownsRow.lt hO' g hg).1)
        have hcv := run_text hO3.rd 44 9 Tryd.underlying44 Tryd.underlying9
        obtain ⟨a3, c3, e3, _, _⟩ := hO3.rd.len
        subst e3
        clear hown3 hgrow3 hO' hO3
        generalize xs ++ [(1 : El)] = ys at *
        go_wp2
        go_ret
        exact ⟨ys, rfl, HF.out, HB3.out⟩
      · have HF : Hid (xs.length = blkN size n) := by (show _ = _); unfold blkN; rw [if_neg hn, HXL.out, hks]
        have hcv := run_text hO.rd 44 9 Tryd.underlying44 Tryd.underlying9
        clear hO hks
        go_wp2
        go_ret
        exact ⟨xs, rfl, HF.out, HB.out⟩
end Go.Proofs.YtmeihdjcifhcpaaDoor

/- ArrayKeeps, a piece: walks over the program. -/
namespace Go.Proofs.YtmeihdjcifhcpaaDoor
open Go.RowKit El Pol Mx Lay
set_option maxRecDepth 1000000 in
/-- between two steps -/
def WK (n rows size n3 c3 g cap m : Nat) (a3 : Option Addr) (x : PAd) (w : World) (k M : Nat) (a : Act) (w' : World) : Prop := ∃ (u4 u5 u6 u7 u8 u9 u10 u11 u13 u15 u17 u18 u19 u20 u21 u22 u23 u24 u25 u26 u27 u28 u29 u30 u31 u32 u33 u34 u35 u36 u37 u38 u39 u40 u41 u42 u43 u44 u45 u46 u47 u48 u49 u50 u51 u52 u53 u54 u55 u56 u57 u58 u59 u60 u61 u62 u63 u64 u65 u66 u67 u68 u69 u70 u71 u72 u73 u74 u75 u76 u77 u78 u79 u80 u81 u82 u83 u84 u85 u86 u87 u88 u89 u90 u91 u92 u93 u94 u95 u96 u97 u98 u99 u100 u101 u102 u103 u104 u105 u106 u107 u108 u109 u110 u111 u112 u113 u114 u115 u116 u117 u118 u119 u120 u121 u122 u123 u124 u125 u126 u127 u128 u129 u130 u131 u132 u133 u134 u135 u136 u137 u138 u139 u140 u141 u142 u143 u144 u145 u146 u147 u148 u149 u150 u151 u152 u153 u154 u155 u156 u157 u158 u159 u160 u161 u162 u163 u164 u165 u166 u167 u168 u169 u170 u171 u172 u173 u174 u175 u176 u177 u178 u179 u180 u181 u182 u183 u184 u185 u186 u187 u188 u189 u190 u191 u192 u193 u194 u195 u196 u197 u198 u199 u200 u201 u202 u203 u204 u205 u206 u207 u208 u209 u210 u211 u212 u213 u214 u215 u216 u217 u218 u219 u220 u221 u222 u223 u224 u225 u226 u227 u228 u229 u230 u231 u232 u233 u234 u235 u236 u237 u238 u239 u240 u241 u242 u243 u244 u245 u246 u247 u248 u249 u250 u251 u252 u253 u254 u255 u256 u257 u258 u259 u260 u261 u262 u263 u264 u265 u266 u267 u268 : Value) (A : Arr) (c : Nat → List El) (N : Nat), (KS w x g n rows size A c N w' ∧ N ≤ M) ∧ a = ⟨#[.int .i64 n, .int .i64 rows, .int .i64 size, .slice a3 n3 c3, u4, u5, u6, u7, u8, u9, u10, u11, .pointer (some ⟨x.p, 0, none⟩), u13, .slice (some ⟨g, 0, none⟩) m cap, u15, .int .i64 ((k : Nat) : Int), u17, u18, u19, u20, u21, u22, u23, u24, u25, u26, u27, u28, u29, u30, u31, u32, u33, u34, u35, u36, u37, u38, u39, u40, u41, u42, u43, u44, u45, u46, u47, u48, u49, u50, u51, u52, u53, u54, u55, u56, u57, u58, u59, u60, u61, u62, u63, u64, u65, u66, u67, u68, u69, u70, u71, u72, u73, u74, u75, u76, u77, u78, u79, u80, u81, u82, u83, u84, u85, u86, u87, u88, u89, u90, u91, u92, u93, u94, u95, u96, u97, u98, u99, u100, u101, u102, u103, u104, u105, u106, u107, u108, u109, u110, u111, u112, u113, u114, u115, u116, u117, u118, u119, u120, u121, u122, u123, u124, u125, u126, u127, u128, u129, u130, u131, u132, u133, u134, u135, u136, u137, u138, u139, u140, u141, u142, u143, u144, u145, u146, u147, u148, u149, u150, u151, u152, u153, u154, u155, u156, u157, u158, u159, u160, u161, u162, u163, u164, u165, u166, u167, u168, u169, u170, u171, u172, u173, u174, u175, u176, u177, u178, u179, u180, u181, u182, u183, u184, u185, u186, u187, u188, u189, u190, u191, u192, u193, u194, u195, u196, u197, u198, u199, u200, u201, u202, u203, u204, u205, u206, u207, u208, u209, u210, u211, u212, u213, u214, u215, u216, u217, u218, u219, u220, u221, u222, u223, u224, u225, u226, u227, u228, u229, u230, u231, u232, u233, u234, u235, u236, u237, u238, u239, u240, u241, u242, u243, u244, u245, u246, u247, u248, u249, u250, u251, u252, u253, u254, u255, u256, u257, u258, u259, u260, u261, u262, u263, u264, u265, u266, u267, u268], []⟩

set_option linter.unusedVariables false in
set_option maxRecDepth 1000000 in
set_option maxHeartbeats 4000000 in
theorem k_read (n rows size n3 c3 g cap m : Nat) (a3 : Option Addr) (x : PAd) (w : World) (k M q N : Nat) (A : Arr) (c : Nat → List El) (v : Nat → Int) (u4 u5 u6 u7 u8 u9 u10 u11 u13 u15 u18 u19 u20 u21 u22 u23 u24 u25 u26 u27 u28 u29 u30 u31 u32 u33 u34 u35 u36 u37 u38 u39 u40 u41 u42 u43 u44 u45 u46 u47 u48 u49 u50 u51 u52 u53 u54 u55 u56 u57 u58 u59 u60 u61 u62 u63 u64 u65 u66 u67 u68 u69 u70 u71 u72 u73 u74 u75 u76 u77 u78 u79 u80 u81 u82 u83 u84 u85 u86 u87 u88 u89 u90 u91 u92 u93 u94 u95 u96 u97 u98 u99 u100 u101 u102 u103 u104 u105 u106 u107 u108 u109 u110 u111 u112 u113 u114 u115 u116 u117 u118 u119 u120 u121 u122 u123 u124 u125 u126 u127 u128 u129 u130 u131 u132 u133 u134 u135 u136 u137 u138 u139 u140 u141 u142 u143 u144 u145 u146 u147 u148 u149 u150 u151 u152 u153 u154 u155 u156 u157 u158 u159 u160 u161 u162 u163 u164 u165 u166 u167 u168 u169 u170 u171 u172 u173 u174 u175 u176 u177 u178 u179 u180 u181 u182 u183 u184 u185 u186 u187 u188 u189 u190 u191 u192 u193 u194 u195 u196 u197 u198 u199 u200 u201 u202 u203 u204 u205 u206 u207 u208 u209 u210 u211 u212 u213 u214 u215 u216 u217 u218 u219 u220 u221 u222 u223 u224 u225 u226 u227 u228 u229 u230 u231 u232 u233 u234 u235 u236 u237 u238 u239 u240 u241 u242 u243 u244 u245 u246 u247 u248 u249 u250 u251 u252 u253 u254 u255 u256 u257 u258 u259 u260 u261 u262 u263 u264 u265 u266 u267 u268 : Value) (wc : World) (Q : Exit → Act → World → Prop)
    (hm : Hid (m = rows * (n - 2))) (hn : 3 ≤ n ∧ n ≤ 10) (hr : 1 ≤ rows ∧ rows ≤ 20) (hz : 1 ≤ size ∧ size ≤ 16) (HG : Hid (Handle w)) (hM : M ≤ 1000) (hS : KS w x g n rows size A c N wc) (hV : VG w x n g 3 q wc v) (hN : N ≤ M)
    (hQ : ∀ e a w1, (e = Exit.normal ∨ e = .exit 3) → WK n rows size n3 c3 g cap m a3 x w k M a w1 → Q e a w1) :
    Code.wp Tryd.prog (cut [1, 1, 1, 1, 1, 1, 1, 1, 1, 1, 0, 1, 2, 5, 1, 0, 2, 1, 1, 1] (Tryd.f6.body.getD .skip)) Q ⟨#[.int .i64 n, .int .i64 rows, .int .i64 size, .slice a3 n3 c3, u4, u5, u6, u7, u8, u9, u10, u11, .pointer (some ⟨x.p, 0, none⟩), u13, .slice (some ⟨g, 0, none⟩) m cap, u15, .int .i64 ((k : Nat) : Int), .pointer (some ⟨q, 0, none⟩), u18, u19, u20, u21, u22, u23, u24, u25, u26, u27, u28, u29, u30, u31, u32, u33, u34, u35, u36, u37, u38, u39, u40, u41, u42, u43, u44, u45, u46, u47, u48, u49, u50, u51, u52, u53, u54, u55, u56, u57, u58, u59, u60, u61, u62, u63, u64, u65, u66, u67, u68, u69, u70, u71, u72, u73, u74, u75, u76, u77, u78, u79, u80, u81, u82, u83, u84, u85, u86, u87, u88, u89, u90, u91, u92, u93, u94, u95, u96, u97, u98, u99, u100, u101, u102, u103, u104, u105, u106, u107, u108, u109, u110, u111, u112, u113, u114, u115, u116, u117, u118, u119, u120, u121, u122, u123, u124, u125, u126, u127, u128, u129, u130, u131, u132, u133, u134, u135, u136, u137, u138, u139, u140, u141, u142, u143, u144, u145, u146, u147, u148, u149, u150, u151, u152, u153, u154, u155, u156, u157, u158, u159, u160, u161, u162, u163, u164, u165, u166, u167, u168, u169, u170, u171, u172, u173, u174, u175, u176, u177, u178, u179, u180, u181, u182, u183, u184, u185, u186, u187, u188, u189, u190, u191, u192, u193, u194, u195, u196, u197, u198, u199, u200, u201, u202, u203, u204, u205, u206, u207, u208, u209, u210, u211, u212, u213, u214, u215, u216, u217, u218, u219, u220, u221, u222, u223, u224, u225, u226, u227, u228, u229, u230, u231, u232, u233, u234, u235, u236, u237, u238, u239, u240, u241, u242, u243, u244, u245, u246, u247, u248, u249, u250, u251, u252, u253, u254, u255, u256, u257, u258, u259, u260, u261, u262, u263, u264, u265, u266, u267, u268], []⟩ wc := by
  conv => arg 2; whnf
  have c1 := hV.at 1 (by omega)
  have HQ : Hid _ := hQ
  have HS : Hid (KS w x g n rows size A c N wc) := hS
  have HV : Hid (VG w x n g 3 q wc v) := hV
  clear hQ hS hV
  by_cases h1 : v 1 < 0
  · generalize v 1 = y at *
    go_wp2
    exact HQ.out _ _ _ (.inr rfl) (by unfold WK; exact ⟨_, _, _, _, _, _, _, _, _, _, _, _, _, _, _, _, _, _, _, _, _, _, _, _, _, _, _, _, _, _, _, _, _, _, _, _, _, _, _, _, _, _, _, _, _, _, _, _, _, _, _, _, _, _, _, _, _, _, _, _, _, _, _, _, _, _, _, _, _, _, _, _, _, _, _, _, _, _, _, _, _, _, _, _, _, _, _, _, _, _, _, _, _, _, _, _, _, _, _, _, _, _, _, _, _, _, _, _, _, _, _, _, _, _, _, _, _, _, _, _, _, _, _, _, _, _, _, _, _, _, _, _, _, _, _, _, _, _, _, _, _, _, _, _, _, _, _, _, _, _, _, _, _, _, _, _, _, _, _, _, _, _, _, _, _, _, _, _, _, _, _, _, _, _, _, _, _, _, _, _, _, _, _, _, _, _, _, _, _, _, _, _, _, _, _, _, _, _, _, _, _, _, _, _, _, _, _, _, _, _, _, _, _, _, _, _, _, _, _, _, _, _, _, _, _, _, _, _, _, _, _, _, _, _, _, _, _, _, _, _, _, _, _, _, _, _, _, _, _, _, _, _, _, _, _, _, _, _, _, _, _, _, _, _, _, ⟨HS.out, hN⟩, rfl⟩)
  · by_cases h2 : (m : Int) ≤ v 1
    · generalize v 1 = y at *
      go_wp2
      exact HQ.out _ _ _ (.inr rfl) (by unfold WK; exact ⟨_, _, _, _, _, _, _, _, _, _, _, _, _, _, _, _, _, _, _, _, _, _, _, _, _, _, _, _, _, _, _, _, _, _, _, _, _, _, _, _, _, _, _, _, _, _, _, _, _, _, _, _, _, _, _, _, _, _, _, _, _, _, _, _, _, _, _, _, _, _, _, _, _, _, _, _, _, _, _, _, _, _, _, _, _, _, _, _, _, _, _, _, _, _, _, _, _, _, _, _, _, _, _, _, _, _, _, _, _, _, _, _, _, _, _, _, _, _, _, _, _, _, _, _, _, _, _, _, _, _, _, _, _, _, _, _, _, _, _, _, _, _, _, _, _, _, _, _, _, _, _, _, _, _, _, _, _, _, _, _, _, _, _, _, _, _, _, _, _, _, _, _, _, _, _, _, _, _, _, _, _, _, _, _, _, _, _, _, _, _, _, _, _, _, _, _, _, _, _, _, _, _, _, _, _, _, _, _, _, _, _, _, _, _, _, _, _, _, _, _, _, _, _, _, _, _, _, _, _, _, _, _, _, _, _, _, _, _, _, _, _, _, _, _, _, _, _, _, _, _, _, _, _, _, _, _, _, _, _, _, _, _, _, _, _, ⟨HS.out, hN⟩, rfl⟩)
    · obtain ⟨b, hb⟩ : ∃ b : Nat, v 1 = b := ⟨(v 1).toNat, by omega⟩
      have hbm : b < rows * (n - 2) := by rw [← hm.out]; omega
      have R := HS.out.read hr.2 hn.2 b hbm
      have HV1 : Hid (∀ w1, Below wc.heap.size wc w1 → w1.cell? ⟨q, 1, none⟩ = some (.int .i64 (b : Int))) := fun w1 hB => by rw [(HV.out.old hB).at 1 (by omega), hb]
      have HC : Hid (∀ w1, Below wc.heap.size wc w1 → w1.cell? ⟨g, b, none⟩ = some (st (c b))) := fun w1 hB => ((HS.out.old hB).cell b hbm).1
      rw [hb] at c1 h1 h2
      have hbm' : (b : Int) < (m : Int) := by omega
      obtain ⟨s, hs⟩ : ∃ s, s = sb (c b) := ⟨_, rfl⟩
      unfold st at R HC
      rw [← hs] at R HC
      clear hb hs h2
      go_wp2_with fail
      refine R.mono ?_
      rintro e w1 ⟨rfl, hB⟩
      have k1 := HV1.out w1 hB
      have k2 := HC.out w1 hB
      have HS1 : Hid (KS w x g n rows size A c N w1) := HS.out.old hB
      clear R hB HV1 HC c1 HS HV
      go_wp2
      exact HQ.out _ _ _ (.inl rfl) (by unfold WK; exact ⟨_, _, _, _, _, _, _, _, _, _, _, _, _, _, _, _, _, _, _, _, _, _, _, _, _, _, _, _, _, _, _, _, _, _, _, _, _, _, _, _, _, _, _, _, _, _, _, _, _, _, _, _, _, _, _, _, _, _, _, _, _, _, _, _, _, _, _, _, _, _, _, _, _, _, _, _, _, _, _, _, _, _, _, _, _, _, _, _, _, _, _, _, _, _, _, _, _, _, _, _, _, _, _, _, _, _, _, _, _, _, _, _, _, _, _, _, _, _, _, _, _, _, _, _, _, _, _, _, _, _, _, _, _, _, _, _, _, _, _, _, _, _, _, _, _, _, _, _, _, _, _, _, _, _, _, _, _, _, _, _, _, _, _, _, _, _, _, _, _, _, _, _, _, _, _, _, _, _, _, _, _, _, _, _, _, _, _, _, _, _, _, _, _, _, _, _, _, _, _, _, _, _, _, _, _, _, _, _, _, _, _, _, _, _, _, _, _, _, _, _, _, _, _, _, _, _, _, _, _, _, _, _, _, _, _, _, _, _, _, _, _, _, _, _, _, _, _, _, _, _, _, _, _, _, _, _, _, _, _, _, _, _, _, _, _, ⟨HS1.out, hN⟩, rfl⟩)
end Go.Proofs.YtmeihdjcifhcpaaDoor

/- ArrayKeeps, a piece: walks over the program. -/
namespace Go.Proofs.YtmeihdjcifhcpaaDoor
open Go.RowKit El Pol Mx Lay
set_option linter.unusedVariables false in
set_option maxRecDepth 1000000 in
set_option maxHeartbeats 4000000 in
theorem kv (n rows size n3 c3 g cap m : Nat) (a3 : Option Addr) (x : PAd) (w : World) (k q N : Nat) (A : Arr) (c : Nat → List El) (LL : Nat → Nat) (F : Nat → Nat → Int) (u4 u5 u6 u7 u8 u9 u10 u11 u13 u15 u18 u19 u20 u21 u22 u23 u24 u25 u26 u27 u28 u29 u30 u31 u32 u33 u34 u35 u36 u37 u38 u39 u40 u41 u42 u43 u44 u45 u46 u47 u48 u49 u50 u51 u52 u53 u54 u55 u56 u57 u58 u59 u60 u61 u62 u63 u64 u65 u66 u67 u68 u69 u70 u71 u72 u73 u74 u75 u76 u77 u78 u79 u80 u81 u82 u83 u84 u85 u86 u87 u88 u89 u90 u91 u92 u93 u94 u95 u96 u97 u98 u99 u100 u101 u102 u103 u104 u105 u106 u107 u108 u109 u110 u111 u112 u113 u114 u115 u116 u117 u118 u119 u120 u121 u122 u123 u124 u125 u126 u127 u128 u129 u130 u131 u132 u133 u134 u135 u136 u137 u138 u139 u140 u141 u142 u143 u144 u145 u146 u147 u148 u149 u150 u151 u152 u153 u154 u155 u156 u157 u158 u159 u160 u161 u162 u163 u164 u165 u166 u167 u168 u169 u170 u171 u172 u173 u174 u175 u176 u177 u178 u179 u180 u181 u182 u183 u184 u185 u186 u187 u188 u189 u190 u191 u192 u193 u194 u195 u196 u197 u198 u199 u200 u201 u202 u203 u204 u205 u206 u207 u208 u209 u210 u211 u212 u213 u214 u215 u216 u217 u218 u219 u220 u221 u222 u223 u224 u225 u226 u227 u228 u229 u230 u231 u232 u233 u234 u235 u236 u237 u238 u239 u240 u241 u242 u243 u244 u245 u246 u247 u248 u249 u250 u251 u252 u253 u254 u255 u256 u257 u258 u259 u260 u261 u262 u263 u264 u265 u266 u267 u268 : Value) (wc : World) (Q : Exit → Act → World → Prop)
    (hS : KS w x g n rows size A c N wc) (hV : VG w x n g 3 q wc (fun _ => 0)) (r3 : RdII w (.slice a3 n3 c3) n3 LL F) (hk : k < n3)
    (hQ : ∀ (x18 x119 x120 x121 x122 x123 x124 x125 x126 x127 x128 x129 x130 x131 x132 x133 x134 x135 x136 x137 x138 x139 x140 : Value)  (w1 : World), KS w x g n rows size A c N w1 → VG w x n g 3 q w1 (vG LL F k) → Q .normal ⟨#[.int .i64 n, .int .i64 rows, .int .i64 size, .slice a3 n3 c3, u4, u5, u6, u7, u8, u9, u10, u11, .pointer (some ⟨x.p, 0, none⟩), u13, .slice (some ⟨g, 0, none⟩) m cap, u15, .int .i64 ((k : Nat) : Int), .pointer (some ⟨q, 0, none⟩), x18, u19, u20, u21, u22, u23, u24, u25, u26, u27, u28, u29, u30, u31, u32, u33, u34, u35, u36, u37, u38, u39, u40, u41, u42, u43, u44, u45, u46, u47, u48, u49, u50, u51, u52, u53, u54, u55, u56, u57, u58, u59, u60, u61, u62, u63, u64, u65, u66, u67, u68, u69, u70, u71, u72, u73, u74, u75, u76, u77, u78, u79, u80, u81, u82, u83, u84, u85, u86, u87, u88, u89, u90, u91, u92, u93, u94, u95, u96, u97, u98, u99, u100, u101, u102, u103, u104, u105, u106, u107, u108, u109, u110, u111, u112, u113, u114, u115, u116, u117, u118, x119, x120, x121, x122, x123, x124, x125, x126, x127, x128, x129, x130, x131, x132, x133, x134, x135, x136, x137, x138, x139, x140, u141, u142, u143, u144, u145, u146, u147, u148, u149, u150, u151, u152, u153, u154, u155, u156, u157, u158, u159, u160, u161, u162, u163, u164, u165, u166, u167, u168, u169, u170, u171, u172, u173, u174, u175, u176, u177, u178, u179, u180, u181, u182, u183, u184, u185, u186, u187, u188, u189, u190, u191, u192, u193, u194, u195, u196, u197, u198, u199, u200, u201, u202, u203, u204, u205, u206, u207, u208, u209, u210, u211, u212, u213, u214, u215, u216, u217, u218, u219, u220, u221, u222, u223, u224, u225, u226, u227, u228, u229, u230, u231, u232, u233, u234, u235, u236, u237, u238, u239, u240, u241, u242, u243, u244, u245, u246, u247, u248, u249, u250, u251, u252, u253, u254, u255, u256, u257, u258, u259, u260, u261, u262, u263, u264, u265, u266, u267, u268], []⟩ w1) :
    Code.wp Tryd.prog (cut [1, 1, 1, 1, 1, 1, 1, 1, 1, 1, 0, 1, 2, 5, 1, 0, 2, 1, 0] (Tryd.f6.body.getD .skip)) Q ⟨#[.int .i64 n, .int .i64 rows, .int .i64 size, .slice a3 n3 c3, u4, u5, u6, u7, u8, u9, u10, u11, .pointer (some ⟨x.p, 0, none⟩), u13, .slice (some ⟨g, 0, none⟩) m cap, u15, .int .i64 ((k : Nat) : Int), .pointer (some ⟨q, 0, none⟩), u18, u19, u20, u21, u22, u23, u24, u25, u26, u27, u28, u29, u30, u31, u32, u33, u34, u35, u36, u37, u38, u39, u40, u41, u42, u43, u44, u45, u46, u47, u48, u49, u50, u51, u52, u53, u54, u55, u56, u57, u58, u59, u60, u61, u62, u63, u64, u65, u66, u67, u68, u69, u70, u71, u72, u73, u74, u75, u76, u77, u78, u79, u80, u81, u82, u83, u84, u85, u86, u87, u88, u89, u90, u91, u92, u93, u94, u95, u96, u97, u98, u99, u100, u101, u102, u103, u104, u105, u106, u107, u108, u109, u110, u111, u112, u113, u114, u115, u116, u117, u118, u119, u120, u121, u122, u123, u124, u125, u126, u127, u128, u129, u130, u131, u132, u133, u134, u135, u136, u137, u138, u139, u140, u141, u142, u143, u144, u145, u146, u147, u148, u149, u150, u151, u152, u153, u154, u155, u156, u157, u158, u159, u160, u161, u162, u163, u164, u165, u166, u167, u168, u169, u170, u171, u172, u173, u174, u175, u176, u177, u178, u179, u180, u181, u182, u183, u184, u185, u186, u187, u188, u189, u190, u191, u192, u193, u194, u195, u196, u197, u198, u199, u200, u201, u202, u203, u204, u205, u206, u207, u208, u209, u210, u211, u212, u213, u214, u215, u216, u217, u218, u219, u220, u221, u222, u223, u224, u225, u226, u227, u228, u229, u230, u231, u232, u233, u234, u235, u236, u237, u238, u239, u240, u241, u242, u243, u244, u245, u246, u247, u248, u249, u250, u251, u252, u253, u254, u255, u256, u257, u258, u259, u260, u261, u262, u263, u264, u265, u266, u267, u268], []⟩ wc := by
  conv => arg 2; whnf
  have HQ : Hid _ := hQ
  clear hQ
  obtain ⟨rv, h1, h2⟩ := r3
  obtain ⟨ad, ha, hc⟩ := h1.at k hk
  subst ha
  have h3 := h2 k hk
  obtain ⟨ao, cap', hrv, hl1, hl2⟩ := h3.len
  rw [hrv] at h3 hc
  have HC : Hid (∀ j, j < LL k → ∃ ad', ao = some ad' ∧ w.cell? (ad'.add j) = some (.int .i64 (F k j))) := fun j hj => h3.at j hj
  have hcl := World.block_lt_of_cell? w _ hc
  have HS : Hid (KS w x g n rows size A c N wc) := hS
  have HV : Hid (VG w x n g 3 q wc (fun _ => 0)) := hV
  have hkn : (k : Int) < (n3 : Int) := by omega
  clear h1 h2 h3 hS hV hrv
  obtain ⟨mm, hmm⟩ : ∃ mm, LL k = mm := ⟨_, rfl⟩
  rw [hmm] at hc HC hl1
  go_wp2
  go_loopw [18] (fun t wr => ∃ (j : Nat) (u : Nat → Int), j ≤ mm ∧ j ≤ 3 ∧ t = .int .i64 j ∧ KS w x g n rows size A c N wr ∧ VG w x n g 3 q wr u ∧ ∀ y, y < 3 → u y = if y < j then F k y else 0) (fun t _ => 3 - (intOf t).toNat)
  case atStart => exact ⟨0, _, Nat.zero_le _, Nat.zero_le _, rfl, HS.out, HV.out, fun y _ => by rw [if_neg (by omega)]⟩
  case round =>
    obtain ⟨j, u, hj1, hj2, rfl, hS1, hV1, hu⟩ := hrel
    have HU : Hid (∀ y, y < 3 → u y = if y < j then F k y else 0) := hu
    have hc1 := (hS1.al.low.cell hcl).trans hc
    have HS1 : Hid (KS w x g n rows size A c N wr) := hS1
    have HV1 : Hid (VG w x n g 3 q wr u) := hV1
    clear hu
    by_cases hlt : j < mm
    · by_cases hlt3 : j < 3
      · obtain ⟨ad', he, hc2⟩ := HC.out j hlt
        subst he
        have hc3 := (hS1.al.low.cell (World.block_lt_of_cell? w _ hc2)).trans hc2
        obtain ⟨q1, q2⟩ := hV1.row.2 j hlt3
        have S2 := hS1.onQ hV1 j (.int .i64 (F k j))
        have V2 := hV1.put j (F k j) (fun y => if y = j then F k j else u y) (fun _ _ => rfl)
        have HS2 : Hid (KS w x g n rows size A c N (wr.setCell ⟨q, j, none⟩ (.int .i64 (F k j)))) := S2
        have HV2 : Hid (VG w x n g 3 q (wr.setCell ⟨q, j, none⟩ (.int .i64 (F k j))) (fun y => if y = j then F k j else u y)) := V2
        have HU2 : Hid (∀ y, y < 3 → (fun y => if y = j then F k j else u y) y = if y < j + 1 then F k y else 0) := fun y hy => by
          show (if y = j then F k j else u y) = _
          by_cases e : y = j
          · rw [if_pos e, if_pos (by omega), e]
          · rw [if_neg e, HU.out y hy]
            by_cases e2 : y < j
            · rw [if_pos e2, if_pos (by omega)]
            · rw [if_neg e2, if_neg (by omega)]
        have hjm : (j : Int) < (mm : Int) := by omega
        have hj3 : (j : Int) < 3 := by omega
        have hl1' : (mm : Int) ≤ 9223372036854775807 := by omega
        clear S2 V2 hS1 hV1 hc hc2 hmm
        generalize F k j = y at *
        go_wp2
        go_roundw
        case rel => exact ⟨j + 1, _, by omega, by omega, by go_num, HS2.out, HV2.out, HU2.out⟩
        case measure => simp [intOf]; omega
      · have HV3 : Hid (VG w x n g 3 q wr (vG LL F k)) := ⟨hV1.row.congr (fun y hy => by
          show Value.int .i64 (u y) = .int .i64 (if y < LL k then F k y else 0)
          rw [HU.out y hy, if_pos (by omega), if_pos (by omega)]), hV1.hq, hV1.ng, hV1.nf⟩
        clear hS1 hV1 hc hmm
        have hj3 : (3 : Int) ≤ (j : Int) := by omega
        have hjm : (j : Int) < (mm : Int) := by omega
        go_wp2
        exact HQ.out _ _ _ _ _ _ _ _ _ _ _ _ _ _ _ _ _ _ _ _ _ _ _ _ HS1.out HV3.out
    · have HV3 : Hid (VG w x n g 3 q wr (vG LL F k)) := ⟨hV1.row.congr (fun y hy => by
        show Value.int .i64 (u y) = .int .i64 (if y < LL k then F k y else 0)
        rw [HU.out y hy]
        by_cases e : y < j
        · rw [if_pos e, if_pos (by omega)]
        · rw [if_neg e, if_neg (by omega)]), hV1.hq, hV1.ng, hV1.nf⟩
      clear hS1 hV1 hc hmm
      have hjm : (mm : Int) ≤ (j : Int) := by omega
      go_wp2
      exact HQ.out _ _ _ _ _ _ _ _ _ _ _ _ _ _ _ _ _ _ _ _ _ _ _ _ HS1.out HV3.out
end Go.Proofs.YtmeihdjcifhcpaaDoor

/- A small array, two of whose disks fail: what was written is read. -/
namespace Go.Proofs.YtmeihdjcifhcpaaDoor
open Go.RowKit El Pol Mx Lay
theorem nl_fail (A : Arr) (d : Int) (r : Nat) : (A.fail d).nl r ≤ A.nl r + 1 := by
  unfold Arr.fail
  split
  · have := gn_one (p := fun e => (up A.failed d.toNat true e || decide (A.built e ≤ r))) (q := fun e => A.gone e r) (d := d.toNat) (m := A.n) (fun i _ hid hi => by
      rw [up_ne _ _ hid] at hi
      exact hi)
    unfold Arr.nl
    show (gn (fun e => (up A.failed d.toNat true e || decide (A.built e ≤ r))) A.n).length ≤ _
    split at this <;> omega
  · omega
noncomputable def o1 : Arr := (Arr.fresh 3 1 1).write 0 [7]
noncomputable def o2 : Arr := o1.fail 0
noncomputable def o3 : Arr := o2.fail 1
theorem o_keep : Keep o1 (up (fun _ => List.replicate 1 0) 0 [7]) ∧ (Arr.fresh 3 1 1).writeE 0 [(7 : El)].length = 0 := by
  have h := Keep.fresh (n := 3) (rows := 1) (size := 1) (by omega) (by omega) (by omega)
  have hb : ¬ (Arr.fresh 3 1 1).noB 0 := by
    show ¬ ((0 : Int) < 0 ∨ ((1 * (3 - 2) : Nat) : Int) ≤ 0)
    omega
  exact ⟨h.write hb (x := [7]) rfl, h.writeE hb rfl⟩
theorem o1_full : ∀ e, o1.failed e = false ∧ o1.built e = 1 := fun e => by
  unfold o1 Arr.write
  split <;> exact ⟨rfl, rfl⟩
theorem o1_same : o1.n = 3 ∧ o1.rows = 1 ∧ o1.size = 1 := same_write _ _ _
theorem o1_nl (r : Nat) (hr : r < 1) : o1.nl r = 0 := by
  unfold Arr.nl gn
  rw [List.length_eq_zero_iff, List.filter_eq_nil_iff]
  intro i _
  show ¬ (o1.failed i || decide (o1.built i ≤ r)) = true
  rw [(o1_full i).1, (o1_full i).2]
  simp
  omega
theorem o2_keep : Keep o2 (up (fun _ => List.replicate 1 0) 0 [7]) := o_keep.1.fail 0 (fun r hr => by rw [o1_nl r (by rw [o1_same.2.1] at hr; exact hr)]; omega)
theorem o2_same : o2.n = 3 ∧ o2.rows = 1 ∧ o2.size = 1 := ⟨(same_fail _ _).1.trans o1_same.1, (same_fail _ _).2.1.trans o1_same.2.1, (same_fail _ _).2.2.trans o1_same.2.2⟩
theorem o3_keep : Keep o3 (up (fun _ => List.replicate 1 0) 0 [7]) := o2_keep.fail 1 (fun r hr => by
  have := nl_fail o1 0 r
  rw [o1_nl r (by rw [o2_same.2.1] at hr; exact hr)] at this
  exact this)
theorem o_fail : o1.failE 0 = 0 ∧ o2.failE 1 = 0 := by
  have h1 : o1.failE ((0 : Nat) : Int) = 0 := by rw [Arr.failE_nat (by rw [o1_same.1]; omega), (o1_full 0).1]; rfl
  have h2 : o2.failE ((1 : Nat) : Int) = 0 := by
    rw [Arr.failE_nat (by rw [o2_same.1]; omega)]
    have e : o2.failed 1 = up o1.failed 0 true 1 := Arr.fail_failed (a := o1) (k := 0) (by rw [o1_same.1]; omega) 1
    rw [e, up_ne _ _ (by omega), (o1_full 1).1]
    rfl
  exact ⟨h1, h2⟩
theorem o_read : o3.readE 0 = 0 ∧ o3.readT 0 = [7] := by
  have s : o3.n = 3 ∧ o3.rows = 1 := ⟨(same_fail _ _).1.trans o2_same.1, (same_fail _ _).2.1.trans o2_same.2.1⟩
  have := o3_keep.read (b := 0) (by unfold Arr.noB; rw [s.1, s.2]; omega)
  exact this
section
variable {w wr : World} {x : PAd} {N : Nat}
theorem one_write (h : AL w x (Arr.fresh 3 1 1) 0 wr) :
    Calls Tryd.prog 19 #[.pointer (some ⟨x.p, 0, none⟩), .int .i64 0, .string ⟨#[7]⟩] wr fun e w' => e = .returned .nilIface ∧ AL w x o1 3 w' := by
  have := pa_write h.pa (Arr.fresh_ok (by omega) (by omega) (by omega)) (by omega) 0 (by omega) [(7 : El)]
  rw [o_keep.2, errV, if_pos rfl] at this
  exact this.mono fun e w' ⟨he, hp, hb⟩ => ⟨he, h.next hp hb (same_write _ _ _).1⟩
theorem one_fail1 (h : AL w x o1 3 wr) :
    Calls Tryd.prog 20 #[.pointer (some ⟨x.p, 0, none⟩), .int .i64 0] wr fun e w' => e = .returned .nilIface ∧ AL w x o2 3 w' := by
  have := pa_fail h.pa 0
  rw [o_fail.1, errV, if_pos rfl] at this
  exact this.mono fun e w' ⟨he, hp, hb⟩ => ⟨he, h.next hp hb (same_fail _ _).1⟩
theorem one_fail2 (h : AL w x o2 3 wr) :
    Calls Tryd.prog 20 #[.pointer (some ⟨x.p, 0, none⟩), .int .i64 1] wr fun e w' => e = .returned .nilIface ∧ AL w x o3 3 w' := by
  have := pa_fail h.pa 1
  rw [o_fail.2, errV, if_pos rfl] at this
  exact this.mono fun e w' ⟨he, hp, hb⟩ => ⟨he, h.next hp hb (same_fail _ _).1⟩
theorem one_read (h : AL w x o3 3 wr) :
    Calls Tryd.prog 21 #[.pointer (some ⟨x.p, 0, none⟩), .int .i64 0] wr fun e w' => e = .returned (.tuple #[.string ⟨#[7]⟩, .nilIface]) ∧ AL w x o3 3 w' := by
  have := pa_read h.pa o3_keep.ok 0 (by omega)
  rw [o_read.1, o_read.2, errV, if_pos rfl] at this
  exact this.mono fun e w' ⟨he, hb⟩ => ⟨he, h.old hb⟩
end
end Go.Proofs.YtmeihdjcifhcpaaDoor
