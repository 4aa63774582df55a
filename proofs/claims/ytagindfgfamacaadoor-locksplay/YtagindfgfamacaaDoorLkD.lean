/- slices.DeleteFunc of locks, by a Who: a walk over the program. -/
import Derived.Test.YtagindfgfamacaaDoorLkC
import Derived.Test.YtagindfgfamacaaDoorLkI
namespace Go.Proofs.YtagindfgfamacaaDoor
open Go.RowKit
theorem drop_none {l : List Lk} {z : Int} (h : ∀ i, i < l.length → isW z (lka l i) = false) : Lks.drop l z = l := by
  unfold Lks.drop
  refine List.filter_eq_self.2 (fun y hy => ?_)
  obtain ⟨i, hi, rfl⟩ := List.getElem_of_mem hy
  have := h i hi
  rw [lka_get l i hi, isW_dec] at this
  simpa using this
theorem drop_succ {l : List Lk} (z : Int) {j : Nat} (hj : j < l.length) : Lks.drop (l.take (j + 1)) z = Lks.drop (l.take j) z ++ (if isW z (lka l j) = true then [] else [lka l j]) := by
  have e : l.take (j + 1) = l.take j ++ [lka l j] := by rw [lka_get l j hj]; exact (List.take_append_getElem hj).symm
  rw [e]
  unfold Lks.drop
  rw [List.filter_append, isW_dec]
  congr 1
  by_cases q : (lka l j).who = z
  · simp [q]
  · simp [q]
theorem drop_first {l : List Lk} {z : Int} {i : Nat} (hi : i < l.length) (h1 : isW z (lka l i) = true) (h : ∀ j, j < i → isW z (lka l j) = false) : Lks.drop (l.take (i + 1)) z = l.take i := by
  rw [drop_succ z hi, if_pos h1, List.append_nil]
  refine drop_none (fun j hj => ?_)
  rw [List.length_take] at hj
  have := h j (by omega)
  rw [lka_get l j (by omega)] at this
  rw [lka_get _ j (by rw [List.length_take]; exact hj), List.getElem_take]
  exact this
/-- behind so many that were looked at: those that are kept stand ahead, those that were not looked at where they stood -/
structure Kpt (l : List Lk) (z : Int) (i j : Nat) (c : List Lk) : Prop where
  len : c.length = l.length
  lt : i < j
  le : j ≤ l.length
  low : c.take i = Lks.drop (l.take j) z
  high : ∀ k, j ≤ k → lka c k = lka l k
theorem Kpt.start {l : List Lk} {z : Int} {i : Nat} (hi : i < l.length) (h1 : isW z (lka l i) = true) (h : ∀ j, j < i → isW z (lka l j) = false) : Kpt l z i (i + 1) l :=
  ⟨rfl, by omega, by omega, (drop_first hi h1 h).symm, fun _ _ => rfl⟩
theorem Kpt.skip {l c : List Lk} {z : Int} {i j : Nat} (h : Kpt l z i j c) (hj : j < l.length) (h1 : isW z (lka l j) = true) : Kpt l z i (j + 1) c :=
  ⟨h.len, by have := h.lt; omega, hj, by rw [drop_succ z hj, if_pos h1, List.append_nil]; exact h.low, fun k hk => h.high k (by omega)⟩
theorem Kpt.keep {l c : List Lk} {z : Int} {i j : Nat} (h : Kpt l z i j c) (hj : j < l.length) (h1 : isW z (lka l j) = false) : Kpt l z (i + 1) (j + 1) (c.set i (lka l j)) := by
  have hl := h.lt
  have hc := h.len
  refine ⟨by simp [hc], by omega, hj, ?_, fun k hk => ?_⟩
  · rw [drop_succ z hj, if_neg (by rw [h1]; exact Bool.false_ne_true), ← h.low]
    have e := List.take_append_getElem (l := c.set i (lka l j)) (i := i) (by simp; omega)
    rw [← e, List.take_set_of_le (Nat.le_refl _), List.getElem_set_self]
  · rw [← h.high k (by omega)]
    (show (c.set i (lka l j)).getD k _ = c.getD k _)
    rw [List.getD_eq_getElem?_getD, List.getD_eq_getElem?_getD, List.getElem?_set_ne (by omega)]
theorem Kpt.done {l c : List Lk} {z : Int} {i : Nat} (h : Kpt l z i l.length c) : c.take i = Lks.drop l z := by
  have := h.low
  rwa [List.take_length] at this
set_option maxRecDepth 100000 in
set_option maxHeartbeats 4000000 in
theorem delete_some {B g cap : Nat} {w : World} {l : List Lk} (hO : OwLk B w (.slice (some ⟨g, 0, none⟩) l.length cap) l) (z : Int) (h : Nat) (hl : l.length ≤ 1000) (hh : w.cell? ⟨h, 0, none⟩ = some (.int .i64 z)) (hn : h ≠ g) :
    Calls Tryd.prog 60 #[.slice (some ⟨g, 0, none⟩) l.length cap, .func (.func 61) #[] #[.pointer (some ⟨h, 0, none⟩)]] w fun e w' =>
      e = .returned (.slice (some ⟨g, 0, none⟩) (Lks.drop l z).length cap) ∧ OwLk B w' (.slice (some ⟨g, 0, none⟩) (Lks.drop l z).length cap) (Lks.drop l z) ∧ But (· = g) w w' := by
  have C := withoutindex_any _ l z h w hl (OwLk.rd hO) hh
  have HO : Hid (OwLk B w (.slice (some ⟨g, 0, none⟩) l.length cap) l) := hO
  have HH : Hid (w.cell? ⟨h, 0, none⟩ = some (.int .i64 z)) := hh
  obtain ⟨hlc, hcap⟩ : l.length ≤ cap ∧ cap ≤ 9223372036854775807 := by
    obtain ⟨ao, cp, e, q1, q2⟩ := (OwLk.rd hO).len
    cases e
    exact ⟨q1, q2⟩
  clear hO hh
  obtain ⟨m, hm⟩ : ∃ m, m = l.length := ⟨_, rfl⟩
  have HM : Hid (m = l.length) := hm
  rw [← hm] at C HO hl hlc ⊢
  clear hm
  go_enter Tryd.func60, Tryd.ntmps60
  go_wp2_with fail
  refine C.mono ?_
  rintro e w1 ⟨zz, rfl, hz, hB1⟩
  have HB1 : Hid (But (· = g) w w1) := Below.but hB1 _
  have HO1 : Hid (OwLk B w1 (.slice (some ⟨g, 0, none⟩) m cap) l) := OwLk.old HO.out hB1
  clear C hB1
  rcases hz with ⟨rfl, hz⟩ | ⟨k0, hk0, rfl, hz1, hz2⟩
  · have e := drop_none (by rw [← HM.out]; exact hz)
    have HE : Hid (Lks.drop l z = l) := e
    clear hz e
    go_wp2
    go_ret
    rw [HE.out, ← HM.out]
    exact ⟨rfl, HO1.out, HB1.out⟩
  · have HK0 : Hid (Kpt l z k0 (k0 + 1) l) := Kpt.start (by rw [← HM.out]; exact hk0) hz1 hz2
    have hne : ((k0 : Int) == -1) = false := beq_eq_false_iff_ne.2 (by omega)
    clear hz1 hz2
    go_wp2
    go_loopw [5, 6, 7] (fun s5 s6 _ wr => ∃ (i j : Nat) (c : List Lk), s5 = .int .i64 i ∧ s6 = .int .i64 j ∧ j ≤ m ∧ i < j ∧ Hid (Kpt l z i j c) ∧ Hid (OwLk B wr (.slice (some ⟨g, 0, none⟩) m cap) c) ∧ Hid (But (· = g) w wr)) (fun _ s6 _ _ => m - (intOf s6).toNat)
    case atStart => exact ⟨k0, k0 + 1, l, rfl, by go_num, by omega, by omega, HK0.out, HO1.out, HB1.out⟩
    case round =>
      obtain ⟨i, j, c, rfl, rfl, hjm, hij, HK, HC, HB⟩ := hrel
      have hcl : c.length = m := by rw [HK.out.len, HM.out]
      by_cases hlt : j < m
      · have hc : wr.ownsRow B 57 4 (.slice (some ⟨g, 0, none⟩) m cap) c.length (vlks c) := HC.out
        obtain ⟨x, hx⟩ : ∃ x, x = lka c j := ⟨_, rfl⟩
        have hd := OwLk.at hc j (by omega)
        rw [← hx] at hd
        obtain ⟨d0, d1, d2, d3⟩ := hd
        have HX : Hid (x = lka l j) := hx.trans (HK.out.high j (Nat.le_refl _))
        have hb : Below wr.heap.size wr (wr.alloc (.cells #[.int .i64 x.who, .int .i64 x.fr, .int .i64 x.to, .bool x.al] 57)) := al_below _ _
        have hw : (wr.alloc (.cells #[.int .i64 x.who, .int .i64 x.fr, .int .i64 x.to, .bool x.al] 57)).cell? ⟨h, 0, none⟩ = some (.int .i64 z) := by
          have h0 := World.block_lt_of_cell? w _ HH.out
          rw [hb.cell (p := ⟨h, 0, none⟩) (Nat.lt_of_lt_of_le h0 HB.out.size), HB.out.cell (p := ⟨h, 0, none⟩) h0 hn]
          exact HH.out
        have D := without1_any x z h _ hw
        unfold alk at D
        have hnew := LkAt.new wr x 57
        have HLt : Hid (g < wr.heap.size) := (OwLk.lt HC.out g rfl).2
        obtain ⟨b, hbb⟩ : ∃ b, b = isW z x := ⟨_, rfl⟩
        rw [← hbb] at D
        have HBB : Hid (b = isW z x) := hbb
        obtain ⟨wa, hwa⟩ : ∃ wa, wa = wr.alloc (.cells #[.int .i64 x.who, .int .i64 x.fr, .int .i64 x.to, .bool x.al] 57) := ⟨_, rfl⟩
        have HWA : Hid (wa = wr.alloc (.cells #[.int .i64 x.who, .int .i64 x.fr, .int .i64 x.to, .bool x.al] 57)) := hwa
        rw [← hwa] at D hnew hb
        have HN : Hid (LkAt wa ⟨wr.heap.size, 0, none⟩ x) := hnew
        have HBA : Hid (Below wr.heap.size wr wa) := hb
        clear hx hbb hw hnew hb
        go_wp2_with fail
        rw [← hwa]
        clear hwa d0 d1 d2 d3 hc
        refine D.mono ?_
        rintro e w2 ⟨rfl, hB2⟩
        have HC2 : Hid (OwLk B w2 (.slice (some ⟨g, 0, none⟩) m cap) c) := OwLk.old (OwLk.old HC.out HBA.out) hB2
        have HB2 : Hid (But (· = g) w w2) := HB.out.trans ((Below.but HBA.out _).trans (Below.but hB2 _) (Grows.refl _ _)) (Grows.refl _ _)
        cases b
        · obtain ⟨e0, e1, e2, e3⟩ := HN.out.old hB2
          have hc2 : w2.ownsRow B 57 4 (.slice (some ⟨g, 0, none⟩) m cap) c.length (vlks c) := HC2.out
          have hc3 := hc2
          rw [hcl] at hc3
          have f := fun k => World.ownsRow.frozenAt hc3 (i * 4 + k)
          have f0 : w2.frozen? ⟨g, i * 4, none⟩ = false := f 0
          have f1 := f 1
          have f2 := f 2
          have f3 := f 3
          obtain ⟨y, hy⟩ : ∃ y, y = lka c i := ⟨_, rfl⟩
          have hi := OwLk.at hc2 i (by omega)
          rw [← hy] at hi
          obtain ⟨g0, g1, g2, g3⟩ := hi
          have him : (i : Int) < (m : Int) := by omega
          have HT : Hid (OwLk B (putLk w2 g (i * 4) x) (.slice (some ⟨g, 0, none⟩) m cap) (c.set i x) ∧ But (· = g) w2 (putLk w2 g (i * 4) x)) := OwLk.put hc3 hcl i (by omega) x
          clear D hB2 f hy hc2 hc3
          go_wp2
          go_roundw
          case rel => exact ⟨i + 1, j + 1, c.set i x, by go_num, by go_num, by omega, by omega, by
            have := HK.out.keep (by rw [← HM.out]; exact hlt) (by rw [← HX.out]; exact HBB.out.symm)
            rw [← HX.out] at this
            exact this, HT.out.1, HB2.out.trans HT.out.2 (Grows.refl _ _)⟩
          case measure => simp [intOf]; omega
        · clear D hB2
          go_wp2
          go_roundw
          case rel => exact ⟨i, j + 1, c, rfl, by go_num, by omega, by omega, HK.out.skip (by rw [← HM.out]; exact hlt) (by rw [← HX.out]; exact HBB.out.symm), HC2.out, HB2.out⟩
          case measure => simp [intOf]; omega
      · have hjm2 : j = m := by omega
        have hc : wr.ownsRow B 57 4 (.slice (some ⟨g, 0, none⟩) m cap) c.length (vlks c) := HC.out
        have hc3 := hc
        rw [hcl] at hc3
        have hcl3 : ∀ ty, (Builtin.clear_ #[44] ty #[.slice (some ⟨g, i * 4, none⟩) (m - i) (cap - i)]).run Tryd.prog wr = .ok (.tuple #[]) (wr.setCells g (i * 4) (zlk (m - i))) := fun ty =>
          run_clear_lk wr ty g (i * 4) (m - i) (cap - i) (by omega) (fun k hk => by
            rw [World.ownsRow.cellAt hc3 (i * 4 + k) (by omega)]
            rw [List.getElem?_eq_getElem (by rw [vlks_len]; omega)]
            rfl) (fun k _ => World.ownsRow.frozenAt hc3 _)
        have HF : Hid (OwLk B (wr.setCells g (i * 4) (zlk (m - i))) (.slice (some ⟨g, 0, none⟩) i cap) (c.take i)) := OwLk.cut hc3 hcl i (by omega) (zlk (m - i))
        have HF2 : Hid (But (· = g) wr (wr.setCells g (i * 4) (zlk (m - i)))) := but_setCells g (zlk (m - i)) (i * 4) wr
        have HD : Hid (c.take i = Lks.drop l z) := by
          have := HK.out
          rw [hjm2, HM.out] at this
          exact this.done
        have HI : Hid ((Lks.drop l z).length = i) := by (show _ = _); rw [← HD.out, List.length_take]; omega
        clear hc hc3 hjm2
        go_wp2
        go_ret
        rw [HI.out, ← HD.out]
        exact ⟨rfl, HF.out, HB.out.trans HF2.out (Grows.refl _ _)⟩
end Go.Proofs.YtagindfgfamacaaDoor
