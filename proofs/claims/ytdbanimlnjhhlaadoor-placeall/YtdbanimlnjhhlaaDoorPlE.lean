/- Which disks have the fewest blocks: walks over the program. -/
import Derived.Test.YtdbanimlnjhhlaaDoorSroB
import Derived.Test.YtdbanimlnjhhlaaDoorCloI
import Derived.Test.YtdbanimlnjhhlaaDoorPlC
import Derived.Deep.Cut
import Derived.Deep.CutRange
import Derived.BigCall
import Derived.BigGuard
namespace Go.Proofs.YtdbanimlnjhhlaaDoor
open Go.RowKit
theorem ownsRow_low {A B n : Nat} {w : World} {e : TypeId} {v : Value} {xs : List Value} (h : w.ownsRow B e 1 v n xs) (hA : A ≤ B) : w.ownsRow A e 1 v n xs := by
  obtain ⟨h1, h2⟩ := h
  refine ⟨h1, ?_⟩
  rcases h2 with h2 | ⟨g, cap, cur, rfl, hB, rest⟩
  · exact .inl h2
  · exact .inr ⟨g, cap, cur, rfl, by omega, rest⟩
/-- what the closure needs: its box, and the loads behind it -/
def KpE (q1 : Nat) (ad : Addr) (n cap : Nat) (F : Nat → Nat) (W : World) : Prop := W.cell? ⟨q1, 0, none⟩ = some (.slice (some ad) n cap) ∧ ∀ i, i < n → W.cell? (ad.add i) = some (.int .i64 ((F i : Nat) : Int))
theorem KpE.but {q1 n cap b : Nat} {ad : Addr} {F : Nat → Nat} {W W' : World} (h1 : q1 ≠ b) (h2 : ad.block ≠ b) (h : KpE q1 ad n cap F W) (hb : But (· = b) W W') : KpE q1 ad n cap F W' :=
  ⟨(hb.cell (World.block_lt_of_cell? W _ h.1) h1).trans h.1, fun i hi => (hb.cell (World.block_lt_of_cell? W _ (h.2 i hi)) (by rw [add_block]; exact h2)).trans (h.2 i hi)⟩
theorem cmpE (q1 : Nat) (ad : Addr) (n cap : Nat) (F : Nat → Nat) : CmpF (KpE q1 ad n cap F) q1 n F := by
  intro W x y hx hy hk
  have hq := hk.1
  have hcx := hk.2 x hx
  have hcy := hk.2 y hy
  have hxz : (x : Int) < (n : Int) := by omega
  have hyz : (y : Int) < (n : Int) := by omega
  clear hk
  have L := compare_any (F x) (F y)
  generalize cmpN (F x) (F y) = z at *
  generalize F x = a at *
  generalize F y = b at *
  go_enter Tryd.func47, Tryd.ntmps47
  go_wp2_with fail
  go_quiet ((go_at_call 48; exact Calls.quiet_of_same (L _)))
  go_wp2
  go_ret
  exact ⟨rfl, below_drewN (Below.refl _ _) _⟩
/-- the disks that have the fewest blocks -/
def tkL (F : Nat → Nat) (n w : Nat) : List Nat := (List.range n).filter (tkn F n w)
theorem tkL_len {F : Nat → Nat} {n w : Nat} (hw : w ≤ n) : (tkL F n w).length = w := by
  unfold tkL
  rw [cn_filter, tkn_cn hw]
set_option maxRecDepth 100000 in
set_option maxHeartbeats 2000000 in
theorem emptiest_any {w : World} {ad : Addr} {n cap wd : Nat} {F : Nat → Nat} (h : RdF w (.slice (some ad) n cap) n (fun i => vi ((F i : Nat) : Int))) (hn : n ≤ 10) (h1 : 1 ≤ wd) (h2 : wd ≤ n) :
    Calls Tryd.prog 29 #[.slice (some ad) n cap, .int .i64 (wd : Int)] w fun e w' => ∃ g cap', e = .returned (.slice (some ⟨g, 0, none⟩) wd cap') ∧ OwC w.heap.size w' g wd cap' (fun j => (tkL F n wd).getD j 0) ∧ Below w.heap.size w w' := by
  obtain ⟨j0, hj, hy0, hy1, hy2⟩ := info_parts infoI
  have hz1 : (wd : Int) ≤ (n : Int) := by omega
  have hcap : n ≤ cap ∧ cap ≤ 9223372036854775807 := by obtain ⟨_, _, e, q1, q2⟩ := h.len; cases e; exact ⟨q1, q2⟩
  have hbl : ad.block < w.heap.size := by
    obtain ⟨ad', e, hc⟩ := h.at 0 (by omega)
    cases e
    have := World.block_lt_of_cell? w _ hc
    rw [add_block] at this
    exact this
  have HB0 : Hid (Below w.heap.size w (w.alloc (.cells #[.slice (some ad) n cap] 27))) := al_below _ _
  have hq := cell_new w (.slice (some ad) n cap) 27
  have HK0 : Hid (KpE w.heap.size ad n cap F (w.alloc (.cells #[.slice (some ad) n cap] 27))) := ⟨hq, fun i hi => by
    obtain ⟨ad', e, hc⟩ := h.at i hi
    cases e
    exact (HB0.out.cell (World.block_lt_of_cell? w _ hc)).trans hc⟩
  have hs0 : (w.alloc (.cells #[.slice (some ad) n cap] 27)).heap.size = w.heap.size + 1 := by simp
  clear h
  go_enter Tryd.func29, Tryd.ntmps29
  go_upto_region 1 with fail
  generalize hw0 : w.alloc (.cells #[.slice (some ad) n cap] 27) = w0 at *
  clear hw0
  go_wp2_with (first | (at_make; refine wpList_make_full _ rfl _ _ 27 rfl w.heap.size 3 j0 (.int .i64 0) 1 Tryd.underlying27 hj hy0 hy1 _ _ _ _ n rfl rfl rfl rfl (by rw [hy2]; omega) (by unfold maxLen; omega) (by omega) ?_))
  intro w1 hown hgrow
  obtain ⟨b, hb⟩ : ∃ b, b = w.heap.size + 1 := ⟨_, rfl⟩
  rw [← hb] at hown ⊢
  have hqb : w.heap.size ≠ b := by omega
  have hab : ad.block ≠ b := by omega
  have HO1 : Hid (OwI w.heap.size w1 (.slice (some ⟨b, 0, none⟩) n n) n (fun i => if i < 0 then (i : Int) else 0)) := (OwI.made hown).congr (fun i _ => by rw [if_neg (Nat.not_lt_zero _)])
  have HB1 : Hid (But (· = b) w0 w1) := Below.but (below_of_grown hgrow) _
  have hwb : w.heap.size ≤ b := by omega
  clear hown hgrow hb hq hs0
  go_wp2
  go_loopw [13] (fun t wr => ∃ k : Nat, k ≤ n ∧ t = .int .i64 k ∧ OwI w.heap.size wr (.slice (some ⟨b, 0, none⟩) n n) n (fun i => if i < k then (i : Int) else 0) ∧ But (· = b) w0 wr) (fun t _ => n - (intOf t).toNat)
  case atStart => exact ⟨0, Nat.zero_le _, rfl, HO1.out, HB1.out⟩
  case round =>
    clear HO1 HB1
    obtain ⟨k, hk, rfl, hO, hB⟩ := hrel
    by_cases hlt : k < n
    · have hc := OwI.cell hO k hlt
      have hf := OwI.free hO k
      have S := OwI.stored hO k (k : Int)
      have HS : Hid (OwI w.heap.size (wr.setCell ⟨b, k, none⟩ (.int .i64 (k : Int))) (.slice (some ⟨b, 0, none⟩) n n) n (fun i => if i < k + 1 then (i : Int) else 0)) := S.1.congr (fun i _ => by
        unfold up
        by_cases e : i = k
        · rw [if_pos e, if_pos (by omega), e]
        · rw [if_neg e]
          show (if i < k then (i : Int) else 0) = _
          by_cases e2 : i < k
          · rw [if_pos e2, if_pos (by omega)]
          · rw [if_neg e2, if_neg (by omega)])
      have HB : Hid (But (· = b) w0 (wr.setCell ⟨b, k, none⟩ (.int .i64 (k : Int)))) := hB.setCell (p := ⟨b, k, none⟩) rfl _
      generalize (if k < k then (k : Int) else 0) = y at hc
      clear S hO hB
      have hkz : (k : Int) < (n : Int) := by omega
      go_wp2
      generalize wr.setCell ⟨b, k, none⟩ (.int .i64 (k : Int)) = w2 at *
      go_roundw
      case rel => exact ⟨k + 1, by omega, by go_num, HS.out, HB.out⟩
      case measure => simp [intOf]; omega
    · have HW : SrW (KpE w.heap.size ad n cap F) (gk F) n w.heap.size b n n (fun i => i) wr (fun i => i) wr :=
        ⟨OwI.congr hO (fun i hi => by rw [if_pos (by omega)]), HK0.out.but hqb hab hB, But.refl _ _, SameN.refl _ _, gk_inj F (by omega), fun i hi => hi⟩
      have C := sortStable_any (fun W W' => KpE.but hqb hab) (cmpE w.heap.size ad n cap F) (by omega) HW
      have HB : Hid (Below w.heap.size w wr) := HB0.out.trans (hB.below HB0.out.size (fun q hq => by rw [hq]; exact hwb))
      have hsz := HB.out.size
      have hkz : ¬ (k : Int) < (n : Int) := by omega
      clear HW hO hB HK0 HB0
      go_wp2_with fail
      refine C.mono ?_
      rintro e w2 ⟨rfl, s, hS, hW⟩
      have HS : Hid (SrtN (gk F) n s) := hS
      have HN : Hid (SameN n (fun i => i) s) := hW.same
      have HI : Hid (InjN (gk F) n s) := hW.inj
      have HB2 : Hid (Below w.heap.size w w2) := HB.out.trans (hW.but.below hsz (fun q hq => by rw [hq]; exact hwb))
      have K := clone_ints (n := wd) (f := fun i => ((s i : Nat) : Int)) (RdF.cut (OwI.rd hW.own) h2) (by omega)
      have hsz2 := HB2.out.size
      have HL : Hid (∀ i, i < n → s i < n) := hW.lt
      clear C hS hW HB
      go_wp2_with fail
      refine K.mono ?_
      rintro e w3 ⟨v3, rfl, hO3, hB3⟩
      have HB3 : Hid (Below w.heap.size w w3) := HB2.out.trans (hB3.mono hsz2)
      obtain ⟨g, cap3, rfl, hg⟩ := OwI.hd hO3 h1
      have W3 : SrW (fun _ => True) (fun x => x) n w2.heap.size g wd cap3 s w3 s w3 :=
        ⟨hO3, trivial, But.refl _ _, SameN.refl _ _, fun p q hp hq hne e => HI.out p q (by omega) (by omega) hne (by show gk F (s p) = gk F (s q); rw [show s p = s q from e]), fun i hi => HL.out i (by omega)⟩
      have T := sortO_any (by omega) W3
      have hsz3 := HB3.out.size
      clear K hO3 hB3 W3 HB2 HI
      go_wp2_with fail
      refine T.mono ?_
      rintro e w4 ⟨rfl, f, hS4, hW4⟩
      have HB4 : Hid (Below w.heap.size w w4) := HB3.out.trans (hW4.but.below hsz3 (fun q hq => by rw [hq]; omega))
      have HE : Hid ((List.range wd).map f = tkL F n wd) := taken_is hn h2 HS.out HN.out hS4 hW4.same
      have HO4 : Hid (OwC w.heap.size w4 g wd cap3 (fun j => (tkL F n wd).getD j 0)) := by
        have q : OwC w2.heap.size w4 g wd cap3 (fun j => (tkL F n wd).getD j 0) := OwI.congr hW4.own (fun i hi => by
          show ((f i : Nat) : Int) = (((tkL F n wd).getD i 0 : Nat) : Int)
          rw [← HE.out, List.getD_eq_getElem?_getD, List.getElem?_map, List.getElem?_range hi]
          rfl)
        exact ownsRow_low q hsz2
      clear T hS4 hW4 HB3 HS HN HL HE
      go_wp2
      go_ret
      exact ⟨g, cap3, rfl, HO4.out, HB4.out⟩
end Go.Proofs.YtdbanimlnjhhlaaDoor
