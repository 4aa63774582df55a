/- What the document's own Heal answers: by a walk over the program: its beginnings. -/
import Derived.Test.YtjlfaoemejaphacDoorRefPa
import Derived.Test.YtjlfaoemejaphacDoorRf
import Derived.Test.YtjlfaoemejaphacDoorMa
import Derived.Test.YtjlfaoemejaphacDoorBlkG
import Derived.Test.YtjlfaoemejaphacDoorLits
import Derived.Deep.Cut
import Derived.Deep.CutRange
import Derived.BigRegion
import Derived.BigCall
namespace Go.Proofs.YtjlfaoemejaphacDoor
open Go.ChangeShapes Go.WideShapes Go.ChangeAt Go.RowKit El Pol Mx
theorem infoI : (Tryd.prog.info? 3).map (fun i => (i.zero, i.size, i.bytes)) = some (some (.int .i64 0), 1, 8) := by kernel_rfl
theorem gn_more {lost : Nat → Bool} {k : Nat} (h : lost k = true) : gn lost (k + 1) = gn lost k ++ [k] := by
  unfold gn
  rw [List.range_succ, List.filter_append]
  simp [h]
theorem gn_same {lost : Nat → Bool} {k : Nat} (h : lost k = false) : gn lost (k + 1) = gn lost k := by
  unfold gn
  rw [List.range_succ, List.filter_append]
  simp [h]
theorem gmin_same {lost : Nat → Bool} {i k : Nat} (h : lost i = false ∨ k ≤ i) : gn lost (min (i + 1) k) = gn lost (min i k) := by
  by_cases hk : i < k
  · rw [Nat.min_eq_left (by omega), Nat.min_eq_left (by omega)]
    rcases h with h | h
    · exact gn_same h
    · omega
  · rw [Nat.min_eq_right (by omega), Nat.min_eq_right (by omega)]
theorem gmin_more {lost : Nat → Bool} {i k : Nat} (h : lost i = true) (hk : i < k) : gn lost (min (i + 1) k) = gn lost (min i k) ++ [i] := by
  rw [Nat.min_eq_left (by omega), Nat.min_eq_left (by omega)]
  exact gn_more h
theorem gn_len (lost : Nat → Bool) (k : Nat) : (gn lost k).length ≤ k := by
  have := ix_gn lost k
  omega
theorem left_long {lost : Nat → Bool} {n L : Nat} {a : Nat → List El} (hL : ∀ i, i < (ix lost n).length → (a (at' lost n i)).length = L) : ∀ x, x < n → lost x = false → (a x).length = L := fun x hx hl => by
  have h := at_pos hl n hx
  have := hL _ h.1
  rwa [h.2] at this
theorem zed_text_lost {lost : Nat → Bool} {A : M} {x L : Nat} (h : lost x = true) : List.replicate L 0 = row (zed A lost x) L := by
  rw [replicate_row]
  exact row_congr (fun l _ => (zed_lost h l).symm)
theorem zed_text_left {lost : Nat → Bool} {a : Nat → List El} {x L : Nat} (h : lost x = false) (hl : (a x).length = L) : a x = row (zed (mx a) lost x) L := by
  rw [row_congr (g := co (a x)) (fun l _ => zed_left h l), ← hl, row_co]
/-- the texts so far -/
abbrev zts (A : M) (lost : Nat → Bool) (L i : Nat) : List Value := (List.range i).map (fun x => st (row (zed A lost x) L))
theorem zts_succ (A : M) (lost : Nat → Bool) (L i : Nat) : zts A lost L (i + 1) = zts A lost L i ++ [st (row (zed A lost i) L)] := by
  show (List.range (i + 1)).map _ = (List.range i).map _ ++ _
  rw [List.range_succ, List.map_append]
  rfl
theorem OwL.as {B n : Nat} {T : TypeId} {w : World} {v : Value} {xs ys : List Value} (h : OwL B T w v xs) (e : xs = ys) (hn : ys.length = n) : w.ownsRow B T 1 v n ys := by
  subst e
  subst hn
  exact h
/-- numbers as values -/
abbrev nvs (xs : List Nat) : List Value := xs.map (fun x => .int .i64 ((x : Nat) : Int))
/-- two texts, each so many times: the two lists laid out in either order -/
def tw (P R : Nat → El) : M := fun i => if i = 0 then P else R
theorem tw_rd (W : World) (P R : Nat → El) (L : Nat) (sp sr : ByteArray) (hp : sp = sb (row P L)) (hr : sr = sb (row R L)) : RdF (W.alloc (.cells #[.string sp, .string sr] 9)) (.slice (some ⟨W.heap.size, 0, none⟩) 2 2) 2 (fun i => st (row (tw P R i) L)) := by
  subst hp
  subst hr
  exact OwL.rdF (own_lit (B := W.heap.size) [st (row P L), st (row R L)] (Nat.le_refl _) (by simp)) (fun i hi => by
    match i, hi with
    | 0, _ => rfl
    | 1, _ => rfl)
def tb (b c : El) : Nat → El := fun i => if i = 0 then b else c
theorem tb_rd (W : World) (b c : El) (vb vc : Int) (hb : vb = ((b.val : Nat) : Int)) (hc : vc = ((c.val : Nat) : Int)) : Rd (W.alloc (.cells #[.int .u8 vb, .int .u8 vc] 5)) (.slice (some ⟨W.heap.size, 0, none⟩) 2 2) (row (tb b c) 2) := by
  subst hb
  subst hc
  exact (own_bytes (B := W.heap.size) (w := W) [b, c] (Nat.le_refl _) (by simp)).rd
theorem tw_sum (P R : Nat → El) (b c : El) (L : Nat) : row (fun l => sm 2 (fun i => ti (tb b c i) (tw P R i l))) L = row (fun l => pl (ti b (P l)) (ti c (R l))) L := row_congr (fun l _ => by
  show pl (pl 0 (ti b (P l))) (ti c (R l)) = _
  rw [zero_pl])
theorem mix2_any (W W' : World) (v u : Value) (P R : Nat → El) (b c : El) (L : Nat) (hL : L ≤ 16) (hv : RdF W' v 2 (fun i => st (row (tw P R i) L))) (hu : Rd W' u (row (tb b c) 2)) (hB : Below W.heap.size W W') :
    Calls Tryd.prog 18 #[v, u] W' fun e w' => e = .returned (.string (sb (row (fun l => pl (ti b (P l)) (ti c (R l))) L))) ∧ Below W.heap.size W w' := by
  have := rmix_any v u 2 L (tw P R) (tb b c) W' hv hu (by omega) (by omega) hL
  rw [tw_sum] at this
  exact this.mono fun e w' ⟨he, hb⟩ => ⟨he, hB.trans (hb.mono hB.size)⟩
theorem mix_ab (W : World) (P R : Nat → El) (b c : El) (L : Nat) (hL : L ≤ 16) (sp sr : ByteArray) (hp : sp = sb (row P L)) (hr : sr = sb (row R L)) (vb vc : Int) (hb : vb = ((b.val : Nat) : Int)) (hc : vc = ((c.val : Nat) : Int)) (q : Nat) :
    Calls Tryd.prog 18 #[.slice (some ⟨W.heap.size, 0, none⟩) 2 2, .slice (some ⟨W.heap.size + 1, 0, none⟩) 2 2] (((W.alloc (.cells #[.string sp, .string sr] 9)).alloc (.cells #[.int .u8 vb, .int .u8 vc] 5)).drewN q) fun e w' => e = .returned (.string (sb (row (fun l => pl (ti b (P l)) (ti c (R l))) L))) ∧ Below W.heap.size W w' := by
  have b1 := al_below W (.cells #[.string sp, .string sr] 9)
  have b2 := al_below (W.alloc (.cells #[.string sp, .string sr] 9)) (.cells #[.int .u8 vb, .int .u8 vc] 5)
  have b3 : Below ((W.alloc (.cells #[.string sp, .string sr] 9)).alloc (.cells #[.int .u8 vb, .int .u8 vc] 5)).heap.size ((W.alloc (.cells #[.string sp, .string sr] 9)).alloc (.cells #[.int .u8 vb, .int .u8 vc] 5)) (((W.alloc (.cells #[.string sp, .string sr] 9)).alloc (.cells #[.int .u8 vb, .int .u8 vc] 5)).drewN q) := below_drewN (Below.refl _ _) q
  have r2 := tb_rd (W.alloc (.cells #[.string sp, .string sr] 9)) b c vb vc hb hc
  rw [show (W.alloc (.cells #[.string sp, .string sr] 9)).heap.size = W.heap.size + 1 by simp] at r2
  have b12 := b1.trans (b2.mono b1.size)
  exact mix2_any W _ _ _ P R b c L hL (((tw_rd W P R L sp sr hp hr).old b2).old b3) (r2.old b3) (b12.trans (b3.mono b12.size))
theorem mix_ba (W : World) (P R : Nat → El) (b c : El) (L : Nat) (hL : L ≤ 16) (sp sr : ByteArray) (hp : sp = sb (row P L)) (hr : sr = sb (row R L)) (vb vc : Int) (hb : vb = ((b.val : Nat) : Int)) (hc : vc = ((c.val : Nat) : Int)) (q : Nat) :
    Calls Tryd.prog 18 #[.slice (some ⟨W.heap.size + 1, 0, none⟩) 2 2, .slice (some ⟨W.heap.size, 0, none⟩) 2 2] (((W.alloc (.cells #[.int .u8 vb, .int .u8 vc] 5)).alloc (.cells #[.string sp, .string sr] 9)).drewN q) fun e w' => e = .returned (.string (sb (row (fun l => pl (ti b (P l)) (ti c (R l))) L))) ∧ Below W.heap.size W w' := by
  have b1 := al_below W (.cells #[.int .u8 vb, .int .u8 vc] 5)
  have b2 := al_below (W.alloc (.cells #[.int .u8 vb, .int .u8 vc] 5)) (.cells #[.string sp, .string sr] 9)
  have b3 : Below ((W.alloc (.cells #[.int .u8 vb, .int .u8 vc] 5)).alloc (.cells #[.string sp, .string sr] 9)).heap.size ((W.alloc (.cells #[.int .u8 vb, .int .u8 vc] 5)).alloc (.cells #[.string sp, .string sr] 9)) (((W.alloc (.cells #[.int .u8 vb, .int .u8 vc] 5)).alloc (.cells #[.string sp, .string sr] 9)).drewN q) := below_drewN (Below.refl _ _) q
  have r2 := tw_rd (W.alloc (.cells #[.int .u8 vb, .int .u8 vc] 5)) P R L sp sr hp hr
  rw [show (W.alloc (.cells #[.int .u8 vb, .int .u8 vc] 5)).heap.size = W.heap.size + 1 by simp] at r2
  have b12 := b1.trans (b2.mono b1.size)
  exact mix2_any W _ _ _ P R b c L hL (r2.old b3) (((tb_rd W b c vb vc hb hc).old b2).old b3) (b12.trans (b3.mono b12.size))
theorem mix_abD (W : World) (P R : Nat → El) (b c : El) (L : Nat) (hL : L ≤ 16) (sp sr : ByteArray) (hp : sp = sb (row P L)) (hr : sr = sb (row R L)) (vb vc : Int) (hb : vb = ((b.val : Nat) : Int)) (hc : vc = ((c.val : Nat) : Int)) :
    Calls Tryd.prog 18 #[.slice (some ⟨W.heap.size, 0, none⟩) 2 2, .slice (some ⟨W.heap.size + 1, 0, none⟩) 2 2] (((W.alloc (.cells #[.string sp, .string sr] 9)).alloc (.cells #[.int .u8 vb, .int .u8 vc] 5)).drew) fun e w' => e = .returned (.string (sb (row (fun l => pl (ti b (P l)) (ti c (R l))) L))) ∧ Below W.heap.size W w' := mix_ab W P R b c L hL sp sr hp hr vb vc hb hc 1
theorem mix_baD (W : World) (P R : Nat → El) (b c : El) (L : Nat) (hL : L ≤ 16) (sp sr : ByteArray) (hp : sp = sb (row P L)) (hr : sr = sb (row R L)) (vb vc : Int) (hb : vb = ((b.val : Nat) : Int)) (hc : vc = ((c.val : Nat) : Int)) :
    Calls Tryd.prog 18 #[.slice (some ⟨W.heap.size + 1, 0, none⟩) 2 2, .slice (some ⟨W.heap.size, 0, none⟩) 2 2] (((W.alloc (.cells #[.int .u8 vb, .int .u8 vc] 5)).alloc (.cells #[.string sp, .string sr] 9)).drew) fun e w' => e = .returned (.string (sb (row (fun l => pl (ti b (P l)) (ti c (R l))) L))) ∧ Below W.heap.size W w' := mix_ba W P R b c L hL sp sr hp hr vb vc hb hc 1
theorem mix_abN (W : World) (P R : Nat → El) (b c : El) (L : Nat) (hL : L ≤ 16) (sp sr : ByteArray) (hp : sp = sb (row P L)) (hr : sr = sb (row R L)) (vb vc : Int) (hb : vb = ((b.val : Nat) : Int)) (hc : vc = ((c.val : Nat) : Int)) :
    Calls Tryd.prog 18 #[.slice (some ⟨W.heap.size, 0, none⟩) 2 2, .slice (some ⟨W.heap.size + 1, 0, none⟩) 2 2] ((W.alloc (.cells #[.string sp, .string sr] 9)).alloc (.cells #[.int .u8 vb, .int .u8 vc] 5)) fun e w' => e = .returned (.string (sb (row (fun l => pl (ti b (P l)) (ti c (R l))) L))) ∧ Below W.heap.size W w' := mix_ab W P R b c L hL sp sr hp hr vb vc hb hc 0
/-- the same, by the cells -/
theorem mix2_c (W W' : World) (g h : Nat) (P R : Nat → El) (b c : El) (L : Nat) (hL : L ≤ 16) (sp sr : ByteArray) (hp : sp = sb (row P L)) (hr : sr = sb (row R L)) (vb vc : Int) (hb : vb = ((b.val : Nat) : Int)) (hc : vc = ((c.val : Nat) : Int))
    (c0 : W'.cell? ⟨g, 0, none⟩ = some (.string sp)) (c1 : W'.cell? ⟨g, 1, none⟩ = some (.string sr)) (d0 : W'.cell? ⟨h, 0, none⟩ = some (.int .u8 vb)) (d1 : W'.cell? ⟨h, 1, none⟩ = some (.int .u8 vc)) (hB : Below W.heap.size W W') :
    Calls Tryd.prog 18 #[.slice (some ⟨g, 0, none⟩) 2 2, .slice (some ⟨h, 0, none⟩) 2 2] W' fun e w' => e = .returned (.string (sb (row (fun l => pl (ti b (P l)) (ti c (R l))) L))) ∧ Below W.heap.size W w' := by
  subst hp
  subst hr
  subst hb
  subst hc
  have at0 : ∀ x : Nat, (⟨x, 0, none⟩ : Addr).add 0 = ⟨x, 0, none⟩ := fun x => rfl
  have at1 : ∀ x : Nat, (⟨x, 0, none⟩ : Addr).add 1 = ⟨x, 1, none⟩ := fun x => by unfold Addr.add; simp
  refine mix2_any W W' _ _ P R b c L hL (.inr ⟨⟨g, 0, none⟩, 2, rfl, Nat.le_refl _, by omega, fun i hi => ?_⟩) (.inr ⟨⟨h, 0, none⟩, 2, by rw [row_length], by rw [row_length]; omega, by omega, fun i hi => ?_⟩) hB
  · match i, hi with
    | 0, _ => rw [at0]; exact c0
    | 1, _ => rw [at1]; exact c1
  · rw [row_length] at hi
    match i, hi with
    | 0, _ => rw [at0, d0]; rfl
    | 1, _ => rw [at1, d1]; rfl
theorem rpowQ (x : Nat) (hx : x ≤ 1000) (w : World) : Calls Tryd.prog 19 #[.int .u8 2, .int .i64 x] w fun e w' => e = .returned (.int .u8 (((g2 x).val : Nat) : Int)) ∧ ∃ q, w' = w.drewN q := rpow_any 2 x (by omega) (by omega) w
theorem rinvQ (x : El) (h : x ≠ 0) (w : World) : Calls Tryd.prog 39 #[.int .u8 ((x.val : Nat) : Int)] w fun e w' => e = .returned (.int .u8 (((iv x).val : Nat) : Int)) ∧ ∃ q, w' = w.drewN q := rinv_any x.val x.isLt (val_ne h) w
/-- P and Q laid over the last two -/
theorem last_two (k L : Nat) (E : M) : (((List.range (k + 2)).map (fun x => st (row (E x) L))).set k (st (row (pp k E) L))).set (k + 1) (st (row (qq k E) L)) = (List.range (k + 2)).map (fun x => st (row (pqp k E x) L)) := by
  rw [set_map_up, set_map_up]
  refine List.map_congr_left (fun x hx => ?_)
  have hx' := List.mem_range.1 hx
  by_cases e1 : x = k + 1
  · rw [e1, up_at, pqp_q]
  · rw [up_ne _ _ e1]
    by_cases e2 : x = k
    · rw [e2, up_at, pqp_p]
    · rw [up_ne _ _ e2, pqp_data (by omega)]
theorem set_upd (k L x : Nat) (E : M) (f : Nat → El) : ((List.range (k + 2)).map (fun y => st (row (E y) L))).set x (st (row f L)) = (List.range (k + 2)).map (fun y => st (row (upd E x f y) L)) := by
  rw [set_map_up]
  refine List.map_congr_left (fun y _ => ?_)
  by_cases e : y = x
  · rw [e, up_at, upd_at]
  · rw [up_ne _ _ e, upd_ne _ _ e]
end Go.Proofs.YtjlfaoemejaphacDoor
