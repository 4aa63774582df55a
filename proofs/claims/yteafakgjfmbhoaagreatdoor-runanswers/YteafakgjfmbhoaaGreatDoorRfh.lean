/- Texts of plain mathematics, of memory and of walks, in one. -/
import Derived.Test.YteafakgjfmbhoaaGreatDoorRg
import Derived.Test.YteafakgjfmbhoaaGreatDoorRf
import Derived.Test.YteafakgjfmbhoaaGreatDoorMa
import Derived.Test.YteafakgjfmbhoaaGreatDoorCd
import Derived.Deep.Cut
import Derived.Deep.CutRange
import Derived.BigRegion
import Derived.BigCall
/- What the document's own Heal answers: by a walk over the program: its beginnings. -/
namespace Go.Proofs.YteafakgjfmbhoaaGreatDoor
open Go.ChangeShapes Go.WideShapes Go.ChangeAt Go.RowKit El Pol Mx
theorem infoI : (Tryz.prog.info? 3).map (fun i => (i.zero, i.size, i.bytes)) = some (some (.int .i64 0), 1, 8) := by kernel_rfl
theorem gn_more {lost : Nat → Bool} {k : Nat} (h : lost k = true) : gn lost (k + 1) = gn lost k ++ [k] := by
  unfold gn
  rw [List.range_succ, List.filter_append]
  simp [h]
theorem gn_same {lost : Nat → Bool} {k : Nat} (h : lost k = false) : gn lost (k + 1) = gn lost k := by
  unfold gn
  rw [List.range_succ, List.filter_append]
  simp [h]
theorem gmin_same {lost : Nat → Bool} {i k : Nat} (h : lost i = false ∨ k ≤ i) : gn lost (min (i + 1) k) = gn lost (min i k) := by
  by_cases hk : i < k
  · rw [Nat.min_eq_left (by omega), Nat.min_eq_left (by omega)]
    rcases h with h | h
    · exact gn_same h
    · omega
  · rw [Nat.min_eq_right (by omega), Nat.min_eq_right (by omega)]
theorem gmin_more {lost : Nat → Bool} {i k : Nat} (h : lost i = true) (hk : i < k) : gn lost (min (i + 1) k) = gn lost (min i k) ++ [i] := by
  rw [Nat.min_eq_left (by omega), Nat.min_eq_left (by omega)]
  exact gn_more h
theorem gn_len (lost : Nat → Bool) (k : Nat) : (gn lost k).length ≤ k := by
  have := ix_gn lost k
  omega
theorem left_long {lost : Nat → Bool} {n L : Nat} {a : Nat → List El} (hL : ∀ i, i < (ix lost n).length → (a (at' lost n i)).length = L) : ∀ x, x < n → lost x = false → (a x).length = L := fun x hx hl => by
  have h := at_pos hl n hx
  have := hL _ h.1
  rwa [h.2] at this
theorem zed_text_lost {lost : Nat → Bool} {A : M} {x L : Nat} (h : lost x = true) : List.replicate L 0 = row (zed A lost x) L := by
  rw [replicate_row]
  exact row_congr (fun l _ => (zed_lost h l).symm)
theorem zed_text_left {lost : Nat → Bool} {a : Nat → List El} {x L : Nat} (h : lost x = false) (hl : (a x).length = L) : a x = row (zed (mx a) lost x) L := by
  rw [row_congr (g := co (a x)) (fun l _ => zed_left h l), ← hl, row_co]
/-- the texts so far -/
abbrev zts (A : M) (lost : Nat → Bool) (L i : Nat) : List Value := (List.range i).map (fun x => st (row (zed A lost x) L))
theorem zts_succ (A : M) (lost : Nat → Bool) (L i : Nat) : zts A lost L (i + 1) = zts A lost L i ++ [st (row (zed A lost i) L)] := by
  show (List.range (i + 1)).map _ = (List.range i).map _ ++ _
  rw [List.range_succ, List.map_append]
  rfl
theorem OwL.as {B n : Nat} {T : TypeId} {w : World} {v : Value} {xs ys : List Value} (h : OwL B T w v xs) (e : xs = ys) (hn : ys.length = n) : w.ownsRow B T 1 v n ys := by
  subst e
  subst hn
  exact h
/-- numbers as values -/
abbrev nvs (xs : List Nat) : List Value := xs.map (fun x => .int .i64 ((x : Nat) : Int))
/-- two texts, each so many times: the two lists laid out in either order -/
def tw (P R : Nat → El) : M := fun i => if i = 0 then P else R
theorem tw_rd (W : World) (P R : Nat → El) (L : Nat) (sp sr : ByteArray) (hp : sp = sb (row P L)) (hr : sr = sb (row R L)) : RdF (W.alloc (.cells #[.string sp, .string sr] 9)) (.slice (some ⟨W.heap.size, 0, none⟩) 2 2) 2 (fun i => st (row (tw P R i) L)) := by
  subst hp
  subst hr
  exact OwL.rdF (own_lit (B := W.heap.size) [st (row P L), st (row R L)] (Nat.le_refl _) (by simp)) (fun i hi => by
    match i, hi with
    | 0, _ => rfl
    | 1, _ => rfl)
def tb (b c : El) : Nat → El := fun i => if i = 0 then b else c
theorem tb_rd (W : World) (b c : El) (vb vc : Int) (hb : vb = ((b.val : Nat) : Int)) (hc : vc = ((c.val : Nat) : Int)) : Rd (W.alloc (.cells #[.int .u8 vb, .int .u8 vc] 5)) (.slice (some ⟨W.heap.size, 0, none⟩) 2 2) (row (tb b c) 2) := by
  subst hb
  subst hc
  exact (own_bytes (B := W.heap.size) (w := W) [b, c] (Nat.le_refl _) (by simp)).rd
theorem tw_sum (P R : Nat → El) (b c : El) (L : Nat) : row (fun l => sm 2 (fun i => ti (tb b c i) (tw P R i l))) L = row (fun l => pl (ti b (P l)) (ti c (R l))) L := row_congr (fun l _ => by
  show pl (pl 0 (ti b (P l))) (ti c (R l)) = _
  rw [zero_pl])
theorem mix2_any (W W' : World) (v u : Value) (P R : Nat → El) (b c : El) (L : Nat) (hL : L ≤ 16) (hv : RdF W' v 2 (fun i => st (row (tw P R i) L))) (hu : Rd W' u (row (tb b c) 2)) (hB : Below W.heap.size W W') :
    Calls Tryz.prog 75 #[v, u] W' fun e w' => e = .returned (.string (sb (row (fun l => pl (ti b (P l)) (ti c (R l))) L))) ∧ Below W.heap.size W w' := by
  have := rmix_any v u 2 L (tw P R) (tb b c) W' hv hu (by omega) (by omega) hL
  rw [tw_sum] at this
  exact this.mono fun e w' ⟨he, hb⟩ => ⟨he, hB.trans (hb.mono hB.size)⟩
theorem mix_ab (W : World) (P R : Nat → El) (b c : El) (L : Nat) (hL : L ≤ 16) (sp sr : ByteArray) (hp : sp = sb (row P L)) (hr : sr = sb (row R L)) (vb vc : Int) (hb : vb = ((b.val : Nat) : Int)) (hc : vc = ((c.val : Nat) : Int)) (q : Nat) :
    Calls Tryz.prog 75 #[.slice (some ⟨W.heap.size, 0, none⟩) 2 2, .slice (some ⟨W.heap.size + 1, 0, none⟩) 2 2] (((W.alloc (.cells #[.string sp, .string sr] 9)).alloc (.cells #[.int .u8 vb, .int .u8 vc] 5)).drewN q) fun e w' => e = .returned (.string (sb (row (fun l => pl (ti b (P l)) (ti c (R l))) L))) ∧ Below W.heap.size W w' := by
  have b1 := al_below W (.cells #[.string sp, .string sr] 9)
  have b2 := al_below (W.alloc (.cells #[.string sp, .string sr] 9)) (.cells #[.int .u8 vb, .int .u8 vc] 5)
  have b3 : Below ((W.alloc (.cells #[.string sp, .string sr] 9)).alloc (.cells #[.int .u8 vb, .int .u8 vc] 5)).heap.size ((W.alloc (.cells #[.string sp, .string sr] 9)).alloc (.cells #[.int .u8 vb, .int .u8 vc] 5)) (((W.alloc (.cells #[.string sp, .string sr] 9)).alloc (.cells #[.int .u8 vb, .int .u8 vc] 5)).drewN q) := below_drewN (Below.refl _ _) q
  have r2 := tb_rd (W.alloc (.cells #[.string sp, .string sr] 9)) b c vb vc hb hc
  rw [show (W.alloc (.cells #[.string sp, .string sr] 9)).heap.size = W.heap.size + 1 by simp] at r2
  have b12 := b1.trans (b2.mono b1.size)
  exact mix2_any W _ _ _ P R b c L hL (((tw_rd W P R L sp sr hp hr).old b2).old b3) (r2.old b3) (b12.trans (b3.mono b12.size))
theorem mix_ba (W : World) (P R : Nat → El) (b c : El) (L : Nat) (hL : L ≤ 16) (sp sr : ByteArray) (hp : sp = sb (row P L)) (hr : sr = sb (row R L)) (vb vc : Int) (hb : vb = ((b.val : Nat) : Int)) (hc : vc = ((c.val : Nat) : Int)) (q : Nat) :
    Calls Tryz.prog 75 #[.slice (some ⟨W.heap.size + 1, 0, none⟩) 2 2, .slice (some ⟨W.heap.size, 0, none⟩) 2 2] (((W.alloc (.cells #[.int .u8 vb, .int .u8 vc] 5)).alloc (.cells #[.string sp, .string sr] 9)).drewN q) fun e w' => e = .returned (.string (sb (row (fun l => pl (ti b (P l)) (ti c (R l))) L))) ∧ Below W.heap.size W w' := by
  have b1 := al_below W (.cells #[.int .u8 vb, .int .u8 vc] 5)
  have b2 := al_below (W.alloc (.cells #[.int .u8 vb, .int .u8 vc] 5)) (.cells #[.string sp, .string sr] 9)
  have b3 : Below ((W.alloc (.cells #[.int .u8 vb, .int .u8 vc] 5)).alloc (.cells #[.string sp, .string sr] 9)).heap.size ((W.alloc (.cells #[.int .u8 vb, .int .u8 vc] 5)).alloc (.cells #[.string sp, .string sr] 9)) (((W.alloc (.cells #[.int .u8 vb, .int .u8 vc] 5)).alloc (.cells #[.string sp, .string sr] 9)).drewN q) := below_drewN (Below.refl _ _) q
  have r2 := tw_rd (W.alloc (.cells #[.int .u8 vb, .int .u8 vc] 5)) P R L sp sr hp hr
  rw [show (W.alloc (.cells #[.int .u8 vb, .int .u8 vc] 5)).heap.size = W.heap.size + 1 by simp] at r2
  have b12 := b1.trans (b2.mono b1.size)
  exact mix2_any W _ _ _ P R b c L hL (r2.old b3) (((tb_rd W b c vb vc hb hc).old b2).old b3) (b12.trans (b3.mono b12.size))
theorem mix_abD (W : World) (P R : Nat → El) (b c : El) (L : Nat) (hL : L ≤ 16) (sp sr : ByteArray) (hp : sp = sb (row P L)) (hr : sr = sb (row R L)) (vb vc : Int) (hb : vb = ((b.val : Nat) : Int)) (hc : vc = ((c.val : Nat) : Int)) :
    Calls Tryz.prog 75 #[.slice (some ⟨W.heap.size, 0, none⟩) 2 2, .slice (some ⟨W.heap.size + 1, 0, none⟩) 2 2] (((W.alloc (.cells #[.string sp, .string sr] 9)).alloc (.cells #[.int .u8 vb, .int .u8 vc] 5)).drew) fun e w' => e = .returned (.string (sb (row (fun l => pl (ti b (P l)) (ti c (R l))) L))) ∧ Below W.heap.size W w' := mix_ab W P R b c L hL sp sr hp hr vb vc hb hc 1
theorem mix_baD (W : World) (P R : Nat → El) (b c : El) (L : Nat) (hL : L ≤ 16) (sp sr : ByteArray) (hp : sp = sb (row P L)) (hr : sr = sb (row R L)) (vb vc : Int) (hb : vb = ((b.val : Nat) : Int)) (hc : vc = ((c.val : Nat) : Int)) :
    Calls Tryz.prog 75 #[.slice (some ⟨W.heap.size + 1, 0, none⟩) 2 2, .slice (some ⟨W.heap.size, 0, none⟩) 2 2] (((W.alloc (.cells #[.int .u8 vb, .int .u8 vc] 5)).alloc (.cells #[.string sp, .string sr] 9)).drew) fun e w' => e = .returned (.string (sb (row (fun l => pl (ti b (P l)) (ti c (R l))) L))) ∧ Below W.heap.size W w' := mix_ba W P R b c L hL sp sr hp hr vb vc hb hc 1
theorem mix_abN (W : World) (P R : Nat → El) (b c : El) (L : Nat) (hL : L ≤ 16) (sp sr : ByteArray) (hp : sp = sb (row P L)) (hr : sr = sb (row R L)) (vb vc : Int) (hb : vb = ((b.val : Nat) : Int)) (hc : vc = ((c.val : Nat) : Int)) :
    Calls Tryz.prog 75 #[.slice (some ⟨W.heap.size, 0, none⟩) 2 2, .slice (some ⟨W.heap.size + 1, 0, none⟩) 2 2] ((W.alloc (.cells #[.string sp, .string sr] 9)).alloc (.cells #[.int .u8 vb, .int .u8 vc] 5)) fun e w' => e = .returned (.string (sb (row (fun l => pl (ti b (P l)) (ti c (R l))) L))) ∧ Below W.heap.size W w' := mix_ab W P R b c L hL sp sr hp hr vb vc hb hc 0
/-- the same, by the cells -/
theorem mix2_c (W W' : World) (g h : Nat) (P R : Nat → El) (b c : El) (L : Nat) (hL : L ≤ 16) (sp sr : ByteArray) (hp : sp = sb (row P L)) (hr : sr = sb (row R L)) (vb vc : Int) (hb : vb = ((b.val : Nat) : Int)) (hc : vc = ((c.val : Nat) : Int))
    (c0 : W'.cell? ⟨g, 0, none⟩ = some (.string sp)) (c1 : W'.cell? ⟨g, 1, none⟩ = some (.string sr)) (d0 : W'.cell? ⟨h, 0, none⟩ = some (.int .u8 vb)) (d1 : W'.cell? ⟨h, 1, none⟩ = some (.int .u8 vc)) (hB : Below W.heap.size W W') :
    Calls Tryz.prog 75 #[.slice (some ⟨g, 0, none⟩) 2 2, .slice (some ⟨h, 0, none⟩) 2 2] W' fun e w' => e = .returned (.string (sb (row (fun l => pl (ti b (P l)) (ti c (R l))) L))) ∧ Below W.heap.size W w' := by
  subst hp
  subst hr
  subst hb
  subst hc
  have at0 : ∀ x : Nat, (⟨x, 0, none⟩ : Addr).add 0 = ⟨x, 0, none⟩ := fun x => rfl
  have at1 : ∀ x : Nat, (⟨x, 0, none⟩ : Addr).add 1 = ⟨x, 1, none⟩ := fun x => by unfold Addr.add; simp
  refine mix2_any W W' _ _ P R b c L hL (.inr ⟨⟨g, 0, none⟩, 2, rfl, Nat.le_refl _, by omega, fun i hi => ?_⟩) (.inr ⟨⟨h, 0, none⟩, 2, by rw [row_length], by rw [row_length]; omega, by omega, fun i hi => ?_⟩) hB
  · match i, hi with
    | 0, _ => rw [at0]; exact c0
    | 1, _ => rw [at1]; exact c1
  · rw [row_length] at hi
    match i, hi with
    | 0, _ => rw [at0, d0]; rfl
    | 1, _ => rw [at1, d1]; rfl
theorem rpowQ (x : Nat) (hx : x ≤ 1000) (w : World) : Calls Tryz.prog 77 #[.int .u8 2, .int .i64 x] w fun e w' => e = .returned (.int .u8 (((g2 x).val : Nat) : Int)) ∧ ∃ q, w' = w.drewN q := rpow_any 2 x (by omega) (by omega) w
theorem rinvQ (x : El) (h : x ≠ 0) (w : World) : Calls Tryz.prog 76 #[.int .u8 ((x.val : Nat) : Int)] w fun e w' => e = .returned (.int .u8 (((iv x).val : Nat) : Int)) ∧ ∃ q, w' = w.drewN q := rinv_any x.val x.isLt (val_ne h) w
/-- P and Q laid over the last two -/
theorem last_two (k L : Nat) (E : M) : (((List.range (k + 2)).map (fun x => st (row (E x) L))).set k (st (row (pp k E) L))).set (k + 1) (st (row (qq k E) L)) = (List.range (k + 2)).map (fun x => st (row (pqp k E x) L)) := by
  rw [set_map_up, set_map_up]
  refine List.map_congr_left (fun x hx => ?_)
  have hx' := List.mem_range.1 hx
  by_cases e1 : x = k + 1
  · rw [e1, up_at, pqp_q]
  · rw [up_ne _ _ e1]
    by_cases e2 : x = k
    · rw [e2, up_at, pqp_p]
    · rw [up_ne _ _ e2, pqp_data (by omega)]
theorem set_upd (k L x : Nat) (E : M) (f : Nat → El) : ((List.range (k + 2)).map (fun y => st (row (E y) L))).set x (st (row f L)) = (List.range (k + 2)).map (fun y => st (row (upd E x f y) L)) := by
  rw [set_map_up]
  refine List.map_congr_left (fun y _ => ?_)
  by_cases e : y = x
  · rw [e, up_at, upd_at]
  · rw [up_ne _ _ e, upd_ne _ _ e]
end Go.Proofs.YteafakgjfmbhoaaGreatDoor

/- What the document's own Heal does behind its two loops: by walks over the program. -/
namespace Go.Proofs.YteafakgjfmbhoaaGreatDoor
open Go.ChangeShapes Go.WideShapes Go.ChangeAt Go.RowKit El Pol Mx
/-- what stands behind the first n statements -/
def dropS : Nat → Code → Code
  | 0, c => c
  | n + 1, .seq _ b => dropS n b
  | _ + 1, c => c
set_option linter.unusedVariables false in
set_option maxRecDepth 1000000 in
set_option maxHeartbeats 8000000 in
theorem rh_tail (k L : Nat) (h1 : 1 ≤ k) (h2 : k ≤ 10) (hL16 : L ≤ 16) (a : Nat → List El) (lost : Nat → Bool) (w : World) (ad adl : Addr) (cap cl g8 c8 : Nat) (hc8 : k + 2 ≤ c8) (hc8' : c8 ≤ 9223372036854775807) (HL : Hid (RdF w (.slice (some adl) (k + 2) cl) (k + 2) (fun i => .bool (lost i)))) (E : M) (u2 u3 u4 u6 u7 u9 u10 u11 u12 u13 u14 u15 u16 u17 u18 u19 u20 u21 u22 u23 u24 u25 u26 u27 u28 u29 u30 u31 u32 u33 u34 u35 u36 u37 u38 u39 u40 u41 u42 u43 u44 u45 u46 u47 u48 u49 u50 u51 u52 u53 u54 u55 u56 u57 u58 u59 u60 u61 u62 u63 u64 u65 u66 u67 u68 u69 u70 u71 u72 u73 u74 u75 u76 u77 u78 u79 u80 u81 u82 u83 u84 u85 u86 u87 u88 u89 u90 u91 u92 u93 u94 u95 u96 u97 u98 u99 u100 u101 u102 u103 u104 u105 u106 u107 u108 u109 u110 u111 u112 u113 u114 u115 u116 u117 u118 u119 u120 u121 u122 u123 u124 u125 u126 u127 u128 u129 u130 u131 u132 u133 u134 u135 u136 u137 u138 u139 u140 u141 u142 u143 u144 u145 u146 u147 u148 u149 u150 u151 u152 u153 u154 u155 u156 u157 u158 u159 u160 u161 u162 u163 u164 u165 u166 u167 u168 u169 u170 u171 u172 u173 u174 u175 u176 u177 u178 u179 u180 u181 u182 u183 u184 u185 u186 u187 u188 u189 u190 u191 u192 u193 u194 u195 u196 u197 u198 u199 u200 u201 u202 u203 u204 u205 u206 u207 u208 u209 u210 u211 u212 u213 u214 u215 u216 u217 u218 : Value) (wx : World) (HOx : Hid (wx.ownsRow w.heap.size 9 1 (.slice (some ⟨g8, 0, none⟩) (k + 2) c8) (k + 2) ((List.range (k + 2)).map (fun y => st (row (E y) L))))) (hBx : Below w.heap.size w wx) (HHD : Hid (Healed k L (mx a) lost E)) :
    Code.wp Tryz.prog (dropS 8 (Tryz.f47.body.getD .skip)) (bodyPost Tryz.prog Tryz.f47 fun e w' => ∃ (v' : Value) (D : M), e = .returned v' ∧ Healed k L (mx a) lost D ∧ w'.ownsRow w.heap.size 9 1 v' (k + 2) ((List.range (k + 2)).map (fun i => st (row (pqp k D i) L))) ∧ Below w.heap.size w w') ⟨#[.slice (some ad) (k + 2) cap, .slice (some adl) (k + 2) cl, u2, u3, u4, .int .i64 k, u6, u7, .slice (some ⟨g8, 0, none⟩) (k + 2) c8, u9, u10, u11, u12, u13, u14, u15, u16, u17, u18, u19, u20, u21, u22, u23, u24, u25, u26, u27, u28, u29, u30, u31, u32, u33, u34, u35, u36, u37, u38, u39, u40, u41, u42, u43, u44, u45, u46, u47, u48, u49, u50, u51, u52, u53, u54, u55, u56, u57, u58, u59, u60, u61, u62, u63, u64, u65, u66, u67, u68, u69, u70, u71, u72, u73, u74, u75, u76, u77, u78, u79, u80, u81, u82, u83, u84, u85, u86, u87, u88, u89, u90, u91, u92, u93, u94, u95, u96, u97, u98, u99, u100, u101, u102, u103, u104, u105, u106, u107, u108, u109, u110, u111, u112, u113, u114, u115, u116, u117, u118, u119, u120, u121, u122, u123, u124, u125, u126, u127, u128, u129, u130, u131, u132, u133, u134, u135, u136, u137, u138, u139, u140, u141, u142, u143, u144, u145, u146, u147, u148, u149, u150, u151, u152, u153, u154, u155, u156, u157, u158, u159, u160, u161, u162, u163, u164, u165, u166, u167, u168, u169, u170, u171, u172, u173, u174, u175, u176, u177, u178, u179, u180, u181, u182, u183, u184, u185, u186, u187, u188, u189, u190, u191, u192, u193, u194, u195, u196, u197, u198, u199, u200, u201, u202, u203, u204, u205, u206, u207, u208, u209, u210, u211, u212, u213, u214, u215, u216, u217, u218], []⟩ wx := by
  conv => arg 2; whnf
  have C := rpq_any (.slice (some ⟨g8, 0, none⟩) k c8) k L E wx ((OwL.rdM HOx.out).cut (by omega)) h1 h2 hL16
  obtain ⟨sp, hsp⟩ : ∃ s, s = sb (row (pp k E) L) := ⟨_, rfl⟩
  obtain ⟨sq, hsq⟩ : ∃ s, s = sb (row (qq k E) L) := ⟨_, rfl⟩
  have HSP : Hid (sp = sb (row (pp k E) L)) := hsp
  have HSQ : Hid (sq = sb (row (qq k E) L)) := hsq
  unfold st at C
  rw [← hsp, ← hsq] at C
  clear hsp hsq
  go_wp2_with fail
  refine C.mono ?_
  rintro e wy ⟨rfl, hBy⟩
  have hB1 := hBx.trans (hBy.mono hBx.size)
  have hO1 := ownsRow_old HOx.out hBy
  have hg8 := (World.ownsRow.lt hO1 g8 rfl).1
  have c1 := World.ownsRow.cellAt hO1 k (by omega)
  rw [range_map_at _ _ _ (by omega)] at c1
  have f1 := World.ownsRow.frozenAt hO1 k
  have S1 := World.ownsRow.stored hO1 k (.string sp)
  have hB2 := hB1.trans (below_of_grownAt S1.2 hB1.size hg8)
  have HO2 : Hid ((wy.setCell ⟨g8, k, none⟩ (.string sp)).ownsRow w.heap.size 9 1 (.slice (some ⟨g8, 0, none⟩) (k + 2) c8) (k + 2) (((List.range (k + 2)).map (fun x => st (row (E x) L))).set k (.string sp))) := S1.1
  generalize st (row (E k) L) = z1 at c1
  have hkk : (k : Int) < (k : Int) + 2 := by omega
  clear C hBy hBx hB1 hO1 S1
  go_upto_region 38 with fail
  generalize wy.setCell ⟨g8, k, none⟩ (.string sp) = wz at *
  clear c1 f1
  have c2 := World.ownsRow.cellAt HO2.out (k + 1) (by omega)
  obtain ⟨z2, hz2'⟩ : ∃ z, (((List.range (k + 2)).map (fun x => st (row (E x) L))).set k (.string sp))[k + 1]? = some z := ⟨_, List.getElem?_eq_getElem (by simp)⟩
  rw [hz2'] at c2
  have f2 := World.ownsRow.frozenAt HO2.out (k + 1)
  have S2 := World.ownsRow.stored HO2.out (k + 1) (.string sq)
  have hBf := hB2.trans (below_of_grownAt S2.2 hB2.size hg8)
  have HF : Hid ((wz.setCell ⟨g8, k + 1, none⟩ (.string sq)).ownsRow w.heap.size 9 1 (.slice (some ⟨g8, 0, none⟩) (k + 2) c8) (k + 2) ((List.range (k + 2)).map (fun i => st (row (pqp k E i) L)))) := by
    (show World.ownsRow _ _ _ _ _ _ _)
    have S3 := S2.1
    rw [HSP.out, HSQ.out, last_two] at S3
    rw [HSQ.out]
    exact S3
  have hkk1 : (k : Int) + 1 < (k : Int) + 2 := by omega
  clear hz2' S2 HO2 hB2
  go_wp2
  go_ret
  exact ⟨_, E, rfl, HHD.out, HF.out, hBf⟩
set_option linter.unusedVariables false in
set_option maxRecDepth 1000000 in
set_option maxHeartbeats 8000000 in
theorem rh_none (k L : Nat) (h1 : 1 ≤ k) (h2 : k ≤ 10) (hL16 : L ≤ 16) (a : Nat → List El) (lost : Nat → Bool) (w : World) (ad adl : Addr) (cap cl g8 c8 : Nat) (hc8 : k + 2 ≤ c8) (hc8' : c8 ≤ 9223372036854775807) (HL : Hid (RdF w (.slice (some adl) (k + 2) cl) (k + 2) (fun i => .bool (lost i)))) (HGN : Hid (gn lost k = [])) (aq : Option Addr) (cq : Nat) (u2 u3 u4 u6 u7 u10 u11 u12 u13 u14 u15 u16 u17 u18 u19 u20 u21 u22 u23 u24 u25 u26 u27 u28 u29 u30 u31 u32 u33 u34 u35 u36 u37 u38 u39 u40 u41 u42 u43 u44 u45 u46 u47 u48 u49 u50 u51 u52 u53 u54 u55 u56 u57 u58 u59 u60 u61 u62 u63 u64 u65 u66 u67 u68 u69 u70 u71 u72 u73 u74 u75 u76 u77 u78 u79 u80 u81 u82 u83 u84 u85 u86 u87 u88 u89 u90 u91 u92 u93 u94 u95 u96 u97 u98 u99 u100 u101 u102 u103 u104 u105 u106 u107 u108 u109 u110 u111 u112 u113 u114 u115 u116 u117 u118 u119 u120 u121 u122 u123 u124 u125 u126 u127 u128 u129 u130 u131 u132 u133 u134 u135 u136 u137 u138 u139 u140 u141 u142 u143 u144 u145 u146 u147 u148 u149 u150 u151 u152 u153 u154 u155 u156 u157 u158 u159 u160 u161 u162 u163 u164 u165 u166 u167 u168 u169 u170 u171 u172 u173 u174 u175 u176 u177 u178 u179 u180 u181 u182 u183 u184 u185 u186 u187 u188 u189 u190 u191 u192 u193 u194 u195 u196 u197 u198 u199 u200 u201 u202 u203 u204 u205 u206 u207 u208 u209 u210 u211 u212 u213 u214 u215 u216 u217 u218 : Value) (wx : World) (HOx : Hid (wx.ownsRow w.heap.size 9 1 (.slice (some ⟨g8, 0, none⟩) (k + 2) c8) (k + 2) ((List.range (k + 2)).map (fun y => st (row (zed (mx a) lost y) L))))) (hBx : Below w.heap.size w wx) :
    Code.wp Tryz.prog (dropS 7 (Tryz.f47.body.getD .skip)) (bodyPost Tryz.prog Tryz.f47 fun e w' => ∃ (v' : Value) (D : M), e = .returned v' ∧ Healed k L (mx a) lost D ∧ w'.ownsRow w.heap.size 9 1 v' (k + 2) ((List.range (k + 2)).map (fun i => st (row (pqp k D i) L))) ∧ Below w.heap.size w w') ⟨#[.slice (some ad) (k + 2) cap, .slice (some adl) (k + 2) cl, u2, u3, u4, .int .i64 k, u6, u7, .slice (some ⟨g8, 0, none⟩) (k + 2) c8, .slice aq 0 cq, u10, u11, u12, u13, u14, u15, u16, u17, u18, u19, u20, u21, u22, u23, u24, u25, u26, u27, u28, u29, u30, u31, u32, u33, u34, u35, u36, u37, u38, u39, u40, u41, u42, u43, u44, u45, u46, u47, u48, u49, u50, u51, u52, u53, u54, u55, u56, u57, u58, u59, u60, u61, u62, u63, u64, u65, u66, u67, u68, u69, u70, u71, u72, u73, u74, u75, u76, u77, u78, u79, u80, u81, u82, u83, u84, u85, u86, u87, u88, u89, u90, u91, u92, u93, u94, u95, u96, u97, u98, u99, u100, u101, u102, u103, u104, u105, u106, u107, u108, u109, u110, u111, u112, u113, u114, u115, u116, u117, u118, u119, u120, u121, u122, u123, u124, u125, u126, u127, u128, u129, u130, u131, u132, u133, u134, u135, u136, u137, u138, u139, u140, u141, u142, u143, u144, u145, u146, u147, u148, u149, u150, u151, u152, u153, u154, u155, u156, u157, u158, u159, u160, u161, u162, u163, u164, u165, u166, u167, u168, u169, u170, u171, u172, u173, u174, u175, u176, u177, u178, u179, u180, u181, u182, u183, u184, u185, u186, u187, u188, u189, u190, u191, u192, u193, u194, u195, u196, u197, u198, u199, u200, u201, u202, u203, u204, u205, u206, u207, u208, u209, u210, u211, u212, u213, u214, u215, u216, u217, u218], []⟩ wx := by
  conv => arg 2; whnf
  have HHD : Hid (Healed k L (mx a) lost (zed (mx a) lost)) := heal_none HGN.out
  obtain ⟨E, hE⟩ : ∃ E, E = zed (mx a) lost := ⟨_, rfl⟩
  rw [← hE] at HHD HOx
  clear hE
  have C := rpq_any (.slice (some ⟨g8, 0, none⟩) k c8) k L E wx ((OwL.rdM HOx.out).cut (by omega)) h1 h2 hL16
  obtain ⟨sp, hsp⟩ : ∃ s, s = sb (row (pp k E) L) := ⟨_, rfl⟩
  obtain ⟨sq, hsq⟩ : ∃ s, s = sb (row (qq k E) L) := ⟨_, rfl⟩
  have HSP : Hid (sp = sb (row (pp k E) L)) := hsp
  have HSQ : Hid (sq = sb (row (qq k E) L)) := hsq
  unfold st at C
  rw [← hsp, ← hsq] at C
  clear hsp hsq
  go_wp2_with fail
  refine C.mono ?_
  rintro e wy ⟨rfl, hBy⟩
  have hB1 := hBx.trans (hBy.mono hBx.size)
  have hO1 := ownsRow_old HOx.out hBy
  have hg8 := (World.ownsRow.lt hO1 g8 rfl).1
  have c1 := World.ownsRow.cellAt hO1 k (by omega)
  rw [range_map_at _ _ _ (by omega)] at c1
  have f1 := World.ownsRow.frozenAt hO1 k
  have S1 := World.ownsRow.stored hO1 k (.string sp)
  have hB2 := hB1.trans (below_of_grownAt S1.2 hB1.size hg8)
  have HO2 : Hid ((wy.setCell ⟨g8, k, none⟩ (.string sp)).ownsRow w.heap.size 9 1 (.slice (some ⟨g8, 0, none⟩) (k + 2) c8) (k + 2) (((List.range (k + 2)).map (fun x => st (row (E x) L))).set k (.string sp))) := S1.1
  generalize st (row (E k) L) = z1 at c1
  have hkk : (k : Int) < (k : Int) + 2 := by omega
  clear C hBy hBx hB1 hO1 S1
  go_upto_region 38 with fail
  generalize wy.setCell ⟨g8, k, none⟩ (.string sp) = wz at *
  clear c1 f1
  have c2 := World.ownsRow.cellAt HO2.out (k + 1) (by omega)
  obtain ⟨z2, hz2'⟩ : ∃ z, (((List.range (k + 2)).map (fun x => st (row (E x) L))).set k (.string sp))[k + 1]? = some z := ⟨_, List.getElem?_eq_getElem (by simp)⟩
  rw [hz2'] at c2
  have f2 := World.ownsRow.frozenAt HO2.out (k + 1)
  have S2 := World.ownsRow.stored HO2.out (k + 1) (.string sq)
  have hBf := hB2.trans (below_of_grownAt S2.2 hB2.size hg8)
  have HF : Hid ((wz.setCell ⟨g8, k + 1, none⟩ (.string sq)).ownsRow w.heap.size 9 1 (.slice (some ⟨g8, 0, none⟩) (k + 2) c8) (k + 2) ((List.range (k + 2)).map (fun i => st (row (pqp k E i) L)))) := by
    (show World.ownsRow _ _ _ _ _ _ _)
    have S3 := S2.1
    rw [HSP.out, HSQ.out, last_two] at S3
    rw [HSQ.out]
    exact S3
  have hkk1 : (k : Int) + 1 < (k : Int) + 2 := by omega
  clear hz2' S2 HO2 hB2
  go_wp2
  go_ret
  exact ⟨_, E, rfl, HHD.out, HF.out, hBf⟩
end Go.Proofs.YteafakgjfmbhoaaGreatDoor
