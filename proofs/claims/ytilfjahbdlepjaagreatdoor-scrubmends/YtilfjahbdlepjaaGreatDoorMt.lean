/- Texts of plain mathematics, of memory and of walks, in one. -/
import Derived.Test.YtilfjahbdlepjaaGreatDoorMe
import Derived.Test.YtilfjahbdlepjaaGreatDoorGe
import Derived.Test.YtilfjahbdlepjaaGreatDoorMatEp
import Derived.Deep.RegionWith
import Derived.Test.YtilfjahbdlepjaaGreatDoorWalkI
import Derived.BigRegion
import Derived.Deep.RegionLaw
import Derived.Test.YtilfjahbdlepjaaGreatDoorMxx
import Derived.Test.YtilfjahbdlepjaaGreatDoorMa
import Derived.Lib.AppendZerosOnto
/- What matrix.tooMany, width, anyNotOf and Check answer, whatever lists of bytes they are given: by walks over the program. -/
namespace Go.Proofs.YtilfjahbdlepjaaGreatDoor
open Go.ChangeShapes Go.WideShapes Go.ChangeAt Go.RowKit El Pol
theorem many_any (n : Nat) (w : World) : Calls Tryz.prog 109 #[.int .i64 n] w fun e w' => e = .returned (.bool (decide (12 < n))) ∧ w' = w := by
  by_cases h : 12 < n
  all_goals
    go_enter Tryz.func109, Tryz.ntmps109
    go_wp2
    go_ret
    exact ⟨by simp; omega, rfl⟩
/-- of the first row; none: 0 -/
def wd (n : Nat) (R : Nat → List El) : Nat := if n = 0 then 0 else (R 0).length
theorem width_any (v : Value) (n : Nat) (R : Nat → List El) (w : World) (h : RdM w v n R) :
    Calls Tryz.prog 112 #[v] w fun e w' => e = .returned (.int .i64 ((wd n R : Nat) : Int)) ∧ w' = w := by
  obtain ⟨ao, cap, rfl, _, _⟩ := h.len
  by_cases h0 : n = 0
  · subst h0
    clear h
    go_enter Tryz.func112, Tryz.ntmps112
    go_wp2
    go_ret
    exact ⟨rfl, rfl⟩
  · obtain ⟨ad, av, cv, rfl, hc, _⟩ := h.some 0 (by omega)
    have hw : wd n R = (R 0).length := if_neg h0
    rw [hw]
    have hz : ((n : Int) == 0) = false := by rw [beq_eq_false_iff_ne]; omega
    have hc0 : w.cell? ad = some (.slice av (R 0).length cv) := by rw [add_zero] at hc; exact hc
    clear h hw hc
    generalize (R 0).length = l at *
    go_enter Tryz.func112, Tryz.ntmps112
    go_wp2
    go_ret
    exact ⟨rfl, rfl⟩
set_option maxHeartbeats 400000 in
theorem index_many (ad : Addr) (n cap : Nat) (p : Nat → Bool) (w : World) (hn : n ≤ 1000)
    (hc : ∀ i, i < n → ∃ rv, w.cell? (ad.add i) = some rv ∧ Calls Tryz.prog 117 #[rv] w fun e w' => e = .returned (.bool (p i)) ∧ w' = w) :
    Calls Tryz.prog 119 #[.slice (some ad) n cap, .func (.func 117) #[] #[]] w fun e w' => ∃ z, e = .returned (.int .i64 z) ∧ Fst p n z ∧ w' = w := by
  have HC : Hid (∀ i, i < n → ∃ rv, w.cell? (ad.add i) = some rv ∧ Calls Tryz.prog 117 #[rv] w fun e w' => e = .returned (.bool (p i)) ∧ w' = w) := hc
  clear hc
  go_enter Tryz.func119, Tryz.ntmps119
  go_wp2
  go_loop [8] (fun t => ∃ k : Nat, k ≤ n ∧ t = .int .i64 k ∧ Hid (∀ i, i < k → p i = false)) (fun t => n - (intOf t).toNat)
  case atStart => exact ⟨0, Nat.zero_le _, rfl, fun i hi => absurd hi (Nat.not_lt_zero _)⟩
  case round =>
    obtain ⟨k, hk, rfl, HF⟩ := hrel
    by_cases hlt : k < n
    · obtain ⟨rv, hc, C⟩ := HC.out k hlt
      obtain ⟨b, hb⟩ : ∃ b, b = p k := ⟨_, rfl⟩
      rw [← hb] at C
      have HB : Hid (b = p k) := hb
      clear hb
      cases b
      all_goals
        go_wp2_with fail
        refine C.mono ?_
        rintro e w1 ⟨rfl, hw⟩
        obtain rfl := hw.symm
        clear C
        go_wp2
      · go_round
        case rel => exact ⟨k + 1, by omega, by go_num, fun i hi => by
          by_cases e : i = k
          · rw [e]; exact HB.out.symm
          · exact HF.out i (by omega)⟩
        case measure => simp [intOf]; omega
      · go_ret
        exact ⟨_, rfl, .inr ⟨k, hlt, rfl, HB.out.symm⟩, rfl⟩
    · go_wp2
      go_ret
      exact ⟨_, rfl, .inl ⟨rfl, fun i hi => HF.out i (by omega)⟩, rfl⟩
set_option maxHeartbeats 400000 in
theorem index_notof (ad : Addr) (n cap : Nat) (c : Value) (p : Nat → Bool) (w : World) (hn : n ≤ 1000)
    (hc : ∀ i, i < n → ∃ rv, w.cell? (ad.add i) = some rv ∧ Calls Tryz.prog 122 #[rv, c] w fun e w' => e = .returned (.bool (p i)) ∧ w' = w) :
    Calls Tryz.prog 119 #[.slice (some ad) n cap, .func (.func 122) #[] #[c]] w fun e w' => ∃ z, e = .returned (.int .i64 z) ∧ Fst p n z ∧ w' = w := by
  have HC : Hid (∀ i, i < n → ∃ rv, w.cell? (ad.add i) = some rv ∧ Calls Tryz.prog 122 #[rv, c] w fun e w' => e = .returned (.bool (p i)) ∧ w' = w) := hc
  clear hc
  go_enter Tryz.func119, Tryz.ntmps119
  go_wp2
  go_loop [8] (fun t => ∃ k : Nat, k ≤ n ∧ t = .int .i64 k ∧ Hid (∀ i, i < k → p i = false)) (fun t => n - (intOf t).toNat)
  case atStart => exact ⟨0, Nat.zero_le _, rfl, fun i hi => absurd hi (Nat.not_lt_zero _)⟩
  case round =>
    obtain ⟨k, hk, rfl, HF⟩ := hrel
    by_cases hlt : k < n
    · obtain ⟨rv, hc, C⟩ := HC.out k hlt
      obtain ⟨b, hb⟩ : ∃ b, b = p k := ⟨_, rfl⟩
      rw [← hb] at C
      have HB : Hid (b = p k) := hb
      clear hb
      cases b
      all_goals
        go_wp2_with fail
        refine C.mono ?_
        rintro e w1 ⟨rfl, hw⟩
        obtain rfl := hw.symm
        clear C
        go_wp2
      · go_round
        case rel => exact ⟨k + 1, by omega, by go_num, fun i hi => by
          by_cases e : i = k
          · rw [e]; exact HB.out.symm
          · exact HF.out i (by omega)⟩
        case measure => simp [intOf]; omega
      · go_ret
        exact ⟨_, rfl, .inr ⟨k, hlt, rfl, HB.out.symm⟩, rfl⟩
    · go_wp2
      go_ret
      exact ⟨_, rfl, .inl ⟨rfl, fun i hi => HF.out i (by omega)⟩, rfl⟩
set_option maxHeartbeats 400000 in
theorem index_begin (ad : Addr) (n cap : Nat) (c : Value) (p : Nat → Bool) (w : World) (hn : n ≤ 1000)
    (hc : ∀ i, i < n → ∃ rv, w.cell? (ad.add i) = some rv ∧ Calls Tryz.prog 120 #[rv, c] w fun e w' => e = .returned (.bool (p i)) ∧ w' = w) :
    Calls Tryz.prog 119 #[.slice (some ad) n cap, .func (.func 120) #[] #[c]] w fun e w' => ∃ z, e = .returned (.int .i64 z) ∧ Fst p n z ∧ w' = w := by
  have HC : Hid (∀ i, i < n → ∃ rv, w.cell? (ad.add i) = some rv ∧ Calls Tryz.prog 120 #[rv, c] w fun e w' => e = .returned (.bool (p i)) ∧ w' = w) := hc
  clear hc
  go_enter Tryz.func119, Tryz.ntmps119
  go_wp2
  go_loop [8] (fun t => ∃ k : Nat, k ≤ n ∧ t = .int .i64 k ∧ Hid (∀ i, i < k → p i = false)) (fun t => n - (intOf t).toNat)
  case atStart => exact ⟨0, Nat.zero_le _, rfl, fun i hi => absurd hi (Nat.not_lt_zero _)⟩
  case round =>
    obtain ⟨k, hk, rfl, HF⟩ := hrel
    by_cases hlt : k < n
    · obtain ⟨rv, hc, C⟩ := HC.out k hlt
      obtain ⟨b, hb⟩ : ∃ b, b = p k := ⟨_, rfl⟩
      rw [← hb] at C
      have HB : Hid (b = p k) := hb
      clear hb
      cases b
      all_goals
        go_wp2_with fail
        refine C.mono ?_
        rintro e w1 ⟨rfl, hw⟩
        obtain rfl := hw.symm
        clear C
        go_wp2
      · go_round
        case rel => exact ⟨k + 1, by omega, by go_num, fun i hi => by
          by_cases e : i = k
          · rw [e]; exact HB.out.symm
          · exact HF.out i (by omega)⟩
        case measure => simp [intOf]; omega
      · go_ret
        exact ⟨_, rfl, .inr ⟨k, hlt, rfl, HB.out.symm⟩, rfl⟩
    · go_wp2
      go_ret
      exact ⟨_, rfl, .inl ⟨rfl, fun i hi => HF.out i (by omega)⟩, rfl⟩
theorem index_many0 (cap : Nat) (p : Nat → Bool) (w : World) :
    Calls Tryz.prog 119 #[.slice none 0 cap, .func (.func 117) #[] #[]] w fun e w' => ∃ z, e = .returned (.int .i64 z) ∧ Fst p 0 z ∧ w' = w := by
  go_enter Tryz.func119, Tryz.ntmps119
  go_wp2
  refine wp_loop_rounds 1 ?_
  rw [rounds_succ]
  go_wp2
  go_ret
  exact ⟨_, rfl, .inl ⟨rfl, fun i hi => absurd hi (Nat.not_lt_zero _)⟩, rfl⟩
theorem index_notof0 (cap : Nat) (c : Value) (p : Nat → Bool) (w : World) :
    Calls Tryz.prog 119 #[.slice none 0 cap, .func (.func 122) #[] #[c]] w fun e w' => ∃ z, e = .returned (.int .i64 z) ∧ Fst p 0 z ∧ w' = w := by
  go_enter Tryz.func119, Tryz.ntmps119
  go_wp2
  refine wp_loop_rounds 1 ?_
  rw [rounds_succ]
  go_wp2
  go_ret
  exact ⟨_, rfl, .inl ⟨rfl, fun i hi => absurd hi (Nat.not_lt_zero _)⟩, rfl⟩
theorem is_many (v : Value) (xs : List El) (w : World) (h : Rd w v xs) :
    Calls Tryz.prog 117 #[v] w fun e w' => e = .returned (.bool (decide (12 < xs.length))) ∧ w' = w := by
  obtain ⟨a1, c1, rfl, _, _⟩ := h.len
  have C := many_any xs.length w
  clear h
  generalize xs.length = l at *
  generalize decide (12 < l) = b at *
  go_enter Tryz.func117, Tryz.ntmps117
  go_wp2_with fail
  refine C.mono ?_
  rintro e w1 ⟨rfl, hw⟩
  obtain rfl := hw.symm
  go_wp2
  go_ret
  exact ⟨rfl, rfl⟩
theorem is_notof (v : Value) (xs : List El) (ad : Addr) (n : Nat) (w : World) (h : Rd w v xs) (hc : w.cell? ad = some (.int .i64 n)) :
    Calls Tryz.prog 122 #[v, .pointer (some ad)] w fun e w' => e = .returned (.bool (decide (xs.length ≠ n))) ∧ w' = w := by
  obtain ⟨a1, c1, rfl, _, _⟩ := h.len
  clear h
  generalize xs.length = l at *
  by_cases hl : l = n
  · subst hl
    go_enter Tryz.func122, Tryz.ntmps122
    go_wp2
    go_ret
    exact ⟨by simp, rfl⟩
  · have hb : ((l : Int) != (n : Int)) = true := by rw [bne_iff_ne]; omega
    go_enter Tryz.func122, Tryz.ntmps122
    go_wp2
    go_ret
    exact ⟨by simp [hl], rfl⟩
theorem RdM.row_at {w : World} {ad : Addr} {n cap : Nat} {R : Nat → List El} (h : RdM w (.slice (Option.some ad) n cap) n R) (i : Nat) (hi : i < n) : ∃ rv, w.cell? (ad.add i) = Option.some rv ∧ Rd w rv (R i) := by
  obtain ⟨ad', av, cv, e, hc, hr⟩ := h.some i hi
  cases e
  exact ⟨_, hc, hr⟩
theorem index_many_any (v : Value) (n : Nat) (R : Nat → List El) (w : World) (h : RdM w v n R) (hn : n ≤ 1000) :
    Calls Tryz.prog 119 #[v, .func (.func 117) #[] #[]] w fun e w' => ∃ z, e = .returned (.int .i64 z) ∧ Fst (fun i => decide (12 < (R i).length)) n z ∧ w' = w := by
  obtain ⟨ao, cap, rfl, _, _⟩ := h.len
  cases ao with
  | none =>
    rcases h with ⟨e, rfl⟩ | ⟨ad, cp, rv, e, _⟩
    · exact index_many0 cap _ w
    · cases e
  | some ad => exact index_many ad n cap _ w hn (fun i hi => by obtain ⟨rv, hc, hr⟩ := h.row_at i hi; exact ⟨rv, hc, is_many rv _ w hr⟩)
theorem index_notof_any (v : Value) (n : Nat) (R : Nat → List El) (ad : Addr) (l : Nat) (w : World) (h : RdM w v n R) (hn : n ≤ 1000) (hl : w.cell? ad = some (.int .i64 l)) :
    Calls Tryz.prog 119 #[v, .func (.func 122) #[] #[.pointer (some ad)]] w fun e w' => ∃ z, e = .returned (.int .i64 z) ∧ Fst (fun i => decide ((R i).length ≠ l)) n z ∧ w' = w := by
  obtain ⟨ao, cap, rfl, _, _⟩ := h.len
  cases ao with
  | none =>
    rcases h with ⟨e, rfl⟩ | ⟨ad, cp, rv, e, _⟩
    · exact index_notof0 cap _ _ w
    · cases e
  | some ad' => exact index_notof ad' n cap _ _ w hn (fun i hi => by obtain ⟨rv, hc, hr⟩ := h.row_at i hi; exact ⟨rv, hc, is_notof rv _ ad l w hr hl⟩)
theorem contains_many (v : Value) (n : Nat) (R : Nat → List El) (w : World) (h : RdM w v n R) (hn : n ≤ 1000) :
    Calls Tryz.prog 116 #[v, .func (.func 117) #[] #[]] w fun e w' => e = .returned (.bool (anyB (fun i => decide (12 < (R i).length)) n)) ∧ w' = w := by
  have C := index_many_any v n R w h hn
  obtain ⟨ao, cap, rfl, _, _⟩ := h.len
  clear h
  go_enter Tryz.func116, Tryz.ntmps116
  go_wp2_with fail
  refine C.mono ?_
  rintro e w1 ⟨z, rfl, hz, hw⟩
  obtain rfl := hw.symm
  have HZ : Hid (decide (0 ≤ z) = anyB (fun i => decide (12 < (R i).length)) n) := hz.any
  clear C hz
  go_wp2
  go_ret
  exact ⟨by rw [← HZ.out]; rfl, rfl⟩
theorem contains_notof (v : Value) (n : Nat) (R : Nat → List El) (ad : Addr) (l : Nat) (w : World) (h : RdM w v n R) (hn : n ≤ 1000) (hl : w.cell? ad = some (.int .i64 l)) :
    Calls Tryz.prog 116 #[v, .func (.func 122) #[] #[.pointer (some ad)]] w fun e w' => e = .returned (.bool (anyB (fun i => decide ((R i).length ≠ l)) n)) ∧ w' = w := by
  have C := index_notof_any v n R ad l w h hn hl
  obtain ⟨ao, cap, rfl, _, _⟩ := h.len
  clear h
  go_enter Tryz.func116, Tryz.ntmps116
  go_wp2_with fail
  refine C.mono ?_
  rintro e w1 ⟨z, rfl, hz, hw⟩
  obtain rfl := hw.symm
  have HZ : Hid (decide (0 ≤ z) = anyB (fun i => decide ((R i).length ≠ l)) n) := hz.any
  clear C hz
  go_wp2
  go_ret
  exact ⟨by rw [← HZ.out]; rfl, rfl⟩
theorem notof_any (v : Value) (n : Nat) (R : Nat → List El) (l : Nat) (w : World) (h : RdM w v n R) (hn : n ≤ 1000) :
    Calls Tryz.prog 118 #[v, .int .i64 l] w fun e w' => e = .returned (.bool (anyB (fun i => decide ((R i).length ≠ l)) n)) ∧ Below w.heap.size w w' := by
  have hB : Below w.heap.size w (w.alloc (.cells #[.int .i64 (l : Int)] 3)) := (Below.refl _ _).alloc (Nat.le_refl _) _
  have C := contains_notof v n R ⟨w.heap.size, 0, none⟩ l _ (h.old hB) hn (cell_new w (.int .i64 l) 3)
  generalize anyB (fun i => decide ((R i).length ≠ l)) n = b at *
  obtain ⟨ao, cap, rfl, _, _⟩ := h.len
  clear h
  go_enter Tryz.func118, Tryz.ntmps118
  go_wp2_with fail
  refine C.mono ?_
  rintro e w1 ⟨rfl, hw⟩
  obtain rfl := hw.symm
  clear C
  go_wp2
  go_ret
  exact ⟨rfl, hB⟩
/-- what is wrong with it: 0, 3, 4 -/
def bad (n : Nat) (R : Nat → List El) : Nat := if 12 < n then 4 else if anyB (fun i => decide (12 < (R i).length)) n then 4 else if anyB (fun i => decide ((R i).length ≠ wd n R)) n then 3 else 0
set_option maxHeartbeats 400000 in
theorem check_any (v : Value) (n : Nat) (R : Nat → List El) (w : World) (h : RdM w v n R) :
    Calls Tryz.prog 111 #[v] w fun e w' => e = .returned (errV (bad n R)) ∧ Below w.heap.size w w' := by
  have M := many_any n w
  by_cases h12 : 12 < n
  · rw [decide_eq_true h12] at M
    have hb : bad n R = 4 := if_pos h12
    rw [hb]
    obtain ⟨ao, cap, rfl, _, _⟩ := h.len
    clear h hb
    go_enter Tryz.func111, Tryz.ntmps111
    go_wp2_with fail
    refine M.mono ?_
    rintro e w1 ⟨rfl, hw⟩
    obtain rfl := hw.symm
    go_wp2
    go_ret
    exact ⟨rfl, Below.refl _ _⟩
  · rw [decide_eq_false h12] at M
    have hb0 : bad n R = if anyB (fun i => decide (12 < (R i).length)) n then 4 else if anyB (fun i => decide ((R i).length ≠ wd n R)) n then 3 else 0 := if_neg h12
    rw [hb0]
    have C := contains_many v n R w h (by omega)
    have W := width_any v n R w h
    have N := notof_any v n R (wd n R) w h (by omega)
    obtain ⟨ao, cap, rfl, _, _⟩ := h.len
    clear h hb0
    generalize anyB (fun i => decide (12 < (R i).length)) n = b1 at *
    generalize anyB (fun i => decide ((R i).length ≠ wd n R)) n = b2 at *
    generalize wd n R = l at *
    cases b1 with
    | true =>
      go_enter Tryz.func111, Tryz.ntmps111
      go_wp2_with fail
      refine M.mono ?_
      rintro e w1 ⟨rfl, hw⟩
      obtain rfl := hw.symm
      go_wp2_with fail
      refine C.mono ?_
      rintro e w1 ⟨rfl, hw⟩
      obtain rfl := hw.symm
      go_wp2
      go_ret
      exact ⟨rfl, Below.refl _ _⟩
    | false =>
      cases b2
      all_goals
        go_enter Tryz.func111, Tryz.ntmps111
        go_wp2_with fail
        refine M.mono ?_
        rintro e w1 ⟨rfl, hw⟩
        obtain rfl := hw.symm
        go_wp2_with fail
        refine C.mono ?_
        rintro e w1 ⟨rfl, hw⟩
        obtain rfl := hw.symm
        go_wp2_with fail
        refine W.mono ?_
        rintro e w1 ⟨rfl, hw⟩
        obtain rfl := hw.symm
        go_wp2_with fail
        refine N.mono ?_
        rintro e w1 ⟨rfl, hB⟩
        clear M C W N
        go_wp2
        go_ret
        exact ⟨rfl, hB⟩
end Go.Proofs.YtilfjahbdlepjaaGreatDoor

/- What matrix.noughts, addTimes and clearColumn do, on rows of the call's own: by walks over the program. -/
namespace Go.Proofs.YtilfjahbdlepjaaGreatDoor
open Go.ChangeShapes Go.WideShapes Go.ChangeAt Go.RowKit El Pol
theorem infoS : (Tryz.prog.info? 82).map (fun i => (i.zero, i.size, i.bytes)) = some (some (.slice none 0 0), 1, 24) := by kernel_rfl
theorem OwM.made {B n : Nat} {w : World} {v : Value} (h : w.ownsRow B 82 1 v n (madeCells #[Value.slice none 0 0] n).toList) : OwM B w v n (fun _ => []) (fun _ => .slice none 0 0) := by
  rw [toList_madeCells_one] at h
  refine ⟨?_, fun i _ => World.ownsRow_nil _ _ _ _, fun i j _ _ _ => .inl rfl⟩
  rw [show (List.range n).map (fun _ => Value.slice none 0 0) = List.replicate n (Value.slice none 0 0) from by
    apply List.ext_getElem <;> simp]
  exact h
/-- the first k rows are made -/
def mk (q k : Nat) : Nat → List El := fun i => if i < k then row (fun _ => 0) q else []
theorem mk_up (q k : Nat) : up (mk q k) k (row (fun _ => 0) q) = mk q (k + 1) := by
  funext i
  unfold up mk
  by_cases e : i = k
  · rw [if_pos e, if_pos (by omega)]
  · rw [if_neg e]
    by_cases h : i < k
    · rw [if_pos h, if_pos (by omega)]
    · rw [if_neg h, if_neg (by omega)]
set_option maxRecDepth 100000 in
set_option maxHeartbeats 1000000 in
theorem noughts_any (p q : Nat) (w : World) (hp : p ≤ 1000) (hq : q ≤ 1000) :
    Calls Tryz.prog 110 #[.int .i64 p, .int .i64 q] w fun e w' => ∃ rv, e = .returned (.slice (some ⟨w.heap.size, 0, none⟩) p p) ∧ OwM w.heap.size w' (.slice (some ⟨w.heap.size, 0, none⟩) p p) p (rws (fun _ _ => 0) q) rv ∧ Below w.heap.size w w' := by
  obtain ⟨i0, hi, hz0, hz1, hz2⟩ := info_parts info8
  obtain ⟨j0, hj, hy0, hy1, hy2⟩ := info_parts infoS
  go_enter Tryz.func110, Tryz.ntmps110
  go_wp2_with (first | (at_make; refine wpList_make_full _ rfl _ _ 121 rfl w.heap.size 82 j0 (.slice none 0 0) 1 Tryz.underlying121 hj hy0 hy1 _ _ _ _ p rfl rfl rfl rfl (by rw [hy2]; omega) (by unfold maxLen; omega) (Nat.le_refl _) ?_))
  intro w1 hown hgrow
  have hA : OwM w.heap.size w1 (.slice (some ⟨w.heap.size, 0, none⟩) p p) p (mk q 0) (fun _ => .slice none 0 0) := (OwM.made hown).congr (fun i _ => rfl)
  have hB : Below w.heap.size w w1 := below_of_grown hgrow
  clear hown hgrow
  go_wp2
  go_loopw [11] (fun t wr => ∃ (k : Nat) (rv : Nat → Value), k ≤ p ∧ t = .int .i64 k ∧ OwM w.heap.size wr (.slice (some ⟨w.heap.size, 0, none⟩) p p) p (mk q k) rv ∧ Below w.heap.size w wr) (fun t _ => p - (intOf t).toNat)
  case atStart => exact ⟨0, _, Nat.zero_le _, rfl, hA, hB⟩
  case round =>
    clear hA hB
    obtain ⟨k, rv, hk, rfl, hA, hB⟩ := hrel
    by_cases hlt : k < p
    · have hs := hB.size
      have hgl := hA.lt
      go_wp2_with (first | (at_make; refine wpList_make_full _ rfl _ _ 82 rfl wr.heap.size 5 i0 (.int .u8 0) 1 Tryz.underlying82 hi hz0 hz1 _ _ _ _ q rfl rfl rfl rfl (by rw [hz2]; omega) (by unfold maxLen; omega) (Nat.le_refl _) ?_))
      intro w2 hown hgrow
      have hO : Ow wr.heap.size w2 (.slice (some ⟨wr.heap.size, 0, none⟩) q q) (row (fun _ => 0) q) := by rw [← replicate_row]; exact Ow.made hown
      have hB2 := below_of_grown hgrow
      have hA2 := hA.old hB2
      have hP := hA2.put k (.slice (some ⟨wr.heap.size, 0, none⟩) q q) (hO.mono hs) (fun i hi _ => by
        right
        intro e
        have := ((hA.row i hi).lt wr.heap.size (by rw [e]; rfl)).2
        omega)
      rw [mk_up] at hP
      have hcell := hA2.cell k hlt
      have hfree := hA2.free k
      have hBw : Below w.heap.size w w2 := hB.trans (hB2.mono hs)
      have hBs := hBw.trans (below_of_grownAt hP.2 hBw.size (Nat.le_refl _))
      have hP1 := hP.1
      clear hP hown hgrow hB2 hA2 hO hA hB hBw
      go_wp2
      go_roundw
      case rel => exact ⟨k + 1, _, by omega, by go_num, hP1, hBs⟩
      case measure => simp [intOf]; omega
    · have hF : OwM w.heap.size wr (.slice (some ⟨w.heap.size, 0, none⟩) p p) p (rws (fun _ _ => 0) q) rv := hA.congr (fun i hi => by (show mk q k i = _); unfold mk; rw [if_pos (by omega)])
      clear hA
      go_wp2
      go_ret
      exact ⟨_, rfl, hF, hB⟩
set_option maxHeartbeats 1000000 in
theorem mtimes_some (B g cp q : Nat) (f h : Nat → El) (ad : Addr) (cv : Nat) (c : El) (w : World) (hq : q ≤ 1000) (hO : Ow B w (.slice (some ⟨g, 0, none⟩) q cp) (row f q))
    (hc : ∀ i, i < q → w.cell? (ad.add i) = some (.int .u8 (((h i).val : Nat) : Int))) (hne : ad.block ≠ g) :
    Calls Tryz.prog 124 #[.slice (some ⟨g, 0, none⟩) q cp, .slice (some ad) q cv, .int .u8 ((c.val : Nat) : Int)] w fun e w' => e = .returned (.tuple #[]) ∧ Ow B w' (.slice (some ⟨g, 0, none⟩) q cp) (row (fun j => pl (f j) (ti (h j) c)) q) ∧ w.grownBy w' (some g) := by
  have HC : Hid (∀ i, i < q → w.cell? (ad.add i) = some (.int .u8 (((h i).val : Nat) : Int))) := hc
  clear hc
  have hB : w.grownBy w (some g) := grownBy_refl _ _
  have hA : Ow B w (.slice (some ⟨g, 0, none⟩) q cp) (row (part f h c 0) q) := by rw [part_zero]; exact hO
  clear hO
  go_enter Tryz.func124, Tryz.ntmps124
  go_wp2
  go_loopw [10] (fun t wr => ∃ k : Nat, k ≤ q ∧ t = .int .i64 k ∧ Ow B wr (.slice (some ⟨g, 0, none⟩) q cp) (row (part f h c k) q) ∧ w.grownBy wr (some g)) (fun t _ => q - (intOf t).toNat)
  case atStart => exact ⟨0, Nat.zero_le _, rfl, hA, hB⟩
  case round =>
    clear hA hB
    obtain ⟨k, hk, rfl, hA, hB⟩ := hrel
    by_cases hlt : k < q
    · have hcell0 := HC.out k hlt
      have hcell : wr.cell? (ad.add k) = some (.int .u8 (((h k).val : Nat) : Int)) := hB.cell hcell0 (by rw [add_block]; simp; exact hne)
      have hcell2 := hA.cell (by rw [row_length]) k hlt
      rw [co_row_lt _ hlt, part_at] at hcell2
      have hfree := hA.free (by rw [row_length]) k
      have R := put_el hA hB (part_step f h c q k)
      clear hcell0 hA hB
      generalize f k = y at *
      generalize h k = x at *
      go_wp2
      go_region_with (first | (go_at_call 95; refine (mul_any _ _ x.isLt c.isLt _).mono ?_; rintro e w1 ⟨rfl, rfl⟩) | (go_at_call 107; refine (add_any _ _ y.isLt (ti x c).isLt _).mono ?_; rintro e w1 ⟨rfl, rfl⟩))
      all_goals
        have R1 : Ow B (wr.setCell ⟨g, k, none⟩ (.int .u8 ((y.val ^^^ (ti x c).val : Nat) : Int))).drew (.slice (some ⟨g, 0, none⟩) q cp) (row (part f h c (k + 1)) q) := R.1.old ⟨rfl, rfl, rfl, Nat.le_refl _, fun _ _ => rfl⟩
        have R2 : w.grownBy (wr.setCell ⟨g, k, none⟩ (.int .u8 ((y.val ^^^ (ti x c).val : Nat) : Int))).drew (some g) := grownBy_drew R.2
        clear hcell hcell2 hfree R
        go_wp2
        go_roundw
        case rel => exact ⟨k + 1, by omega, by go_num, R1, R2⟩
        case measure => simp [intOf]; omega
    · have hF : Ow B wr (.slice (some ⟨g, 0, none⟩) q cp) (row (fun j => pl (f j) (ti (h j) c)) q) := by
        rw [row_congr (g := part f h c k) (fun j hj => by unfold part; rw [if_pos (by omega)])]; exact hA
      clear hA
      go_wp2
      go_end0
      exact ⟨rfl, hF, hB⟩
theorem mtimes_none (a1 a2 : Option Addr) (c1 c2 : Nat) (c : El) (w : World) :
    Calls Tryz.prog 124 #[.slice a1 0 c1, .slice a2 0 c2, .int .u8 ((c.val : Nat) : Int)] w fun e w' => e = .returned (.tuple #[]) ∧ w' = w := by
  go_enter Tryz.func124, Tryz.ntmps124
  go_wp2
  refine wp_loop_rounds 1 ?_
  rw [rounds_succ]
  go_wp2
  go_end0
  exact ⟨rfl, rfl⟩
theorem mtimes_any (B q : Nat) (u v : Value) (f h : Nat → El) (c : El) (w : World) (hq : q ≤ 1000) (hO : Ow B w u (row f q)) (hR : Rd w v (row h q)) (hne : q ≠ 0 → u.ownBlock = none ∨ u.ownBlock ≠ v.ownBlock) :
    Calls Tryz.prog 124 #[u, v, .int .u8 ((c.val : Nat) : Int)] w fun e w' => e = .returned (.tuple #[]) ∧ Ow B w' u (row (fun j => pl (f j) (ti (h j) c)) q) ∧ w.grownBy w' u.ownBlock := by
  by_cases h0 : q = 0
  · subst h0
    obtain ⟨a1, c1, rfl, _, _⟩ := hO.rd.len
    obtain ⟨a2, c2, rfl, _, _⟩ := hR.len
    exact (mtimes_none a1 a2 c1 c2 c w).mono fun e w' ⟨he, hw⟩ => ⟨he, by rw [hw]; exact hO, by rw [hw]; exact grownBy_refl _ _⟩
  · obtain ⟨g, cp, rfl, _, _, _, _⟩ := hO.at (by intro e; have := congrArg List.length e; rw [row_length] at this; exact h0 this)
    rcases hR with ⟨_, e⟩ | ⟨ad, cv, rfl, _, _, hc⟩
    · have := congrArg List.length e; rw [row_length] at this; exact absurd this h0
    · rw [row_length] at hO hc hne ⊢
      rw [row_length]
      refine mtimes_some B g cp q f h ad cv c w hq hO (fun i hi => by have := hc i hi; rwa [co_row_lt _ hi] at this) ?_
      rcases hne h0 with e | e
      · simp [Value.ownBlock] at e
      · simp [Value.ownBlock] at e; exact fun q => e q.symm
end Go.Proofs.YtilfjahbdlepjaaGreatDoor

/- What matrix.clearColumn and reduce do, on rows of the call's own: by walks over the program. -/
namespace Go.Proofs.YtilfjahbdlepjaaGreatDoor
open Go.ChangeShapes Go.WideShapes Go.ChangeAt Go.RowKit El Pol Mx
/-- the first k are multiplied -/
def scaled (f : Nat → El) (c : El) (k : Nat) : Nat → El := fun j => if j < k then ti (f j) c else f j
theorem scaled_zero (f : Nat → El) (c : El) : scaled f c 0 = f := by funext j; unfold scaled; rw [if_neg (by omega)]
theorem scaled_at (f : Nat → El) (c : El) (k : Nat) : scaled f c k k = f k := by unfold scaled; rw [if_neg (by omega)]
theorem scaled_step (f : Nat → El) (c : El) (q k : Nat) : (row (scaled f c k) q).set k (ti (f k) c) = row (scaled f c (k + 1)) q := by
  refine row_set _ _ q k _ (fun j hj => ?_) ?_
  · unfold scaled
    by_cases h : j < k
    · rw [if_pos h, if_pos (by omega)]
    · rw [if_neg h, if_neg (by omega)]
  · unfold scaled; rw [if_pos (by omega)]
/-- row a is P; of the first k rows P is taken as often as stands at column c -/
def swept (A : M) (P : Nat → El) (a c k : Nat) : M := fun i j => if i = a then P j else if i < k then pl (A i j) (ti (P j) (A i c)) else A i j
theorem swept_zero (A : M) (P : Nat → El) (a c : Nat) : swept A P a c 0 = up A a P := by
  funext i j
  unfold swept up
  by_cases e : i = a
  · rw [if_pos e, if_pos e]
  · rw [if_neg e, if_neg e, if_neg (by omega)]
theorem swept_same (A : M) (P : Nat → El) (a c : Nat) : swept A P a c a = swept A P a c (a + 1) := by
  funext i j
  unfold swept
  by_cases e : i = a
  · rw [if_pos e, if_pos e]
  · rw [if_neg e, if_neg e]
    by_cases h : i < a
    · rw [if_pos h, if_pos (by omega)]
    · rw [if_neg h, if_neg (by omega)]
theorem swept_next (A : M) (P : Nat → El) (a c k : Nat) (h : k ≠ a) : up (swept A P a c k) k (fun j => pl (A k j) (ti (P j) (A k c))) = swept A P a c (k + 1) := by
  funext i j
  unfold swept up
  by_cases e : i = k
  · subst e; rw [if_pos rfl, if_neg h, if_pos (by omega)]
  · rw [if_neg e]
    dsimp only
    by_cases e2 : i = a
    · rw [if_pos e2, if_pos e2]
    · rw [if_neg e2, if_neg e2]
      by_cases h3 : i < k
      · rw [if_pos h3, if_pos (by omega)]
      · rw [if_neg h3, if_neg (by omega)]
def cleared (A : M) (a c : Nat) : M := fun i j => if i = a then ti (A a j) (iv (A a c)) else pl (A i j) (ti (ti (A a j) (iv (A a c))) (A i c))
theorem ne_nil_row (f : Nat → El) {q : Nat} (h : 0 < q) : row f q ≠ [] := by intro e; have := congrArg List.length e; rw [row_length] at this; simp at this; omega
set_option maxRecDepth 100000 in
set_option maxHeartbeats 2000000 in
theorem clear_any (B g p cp q a c : Nat) (A : M) (rv : Nat → Value) (w : World) (hp : p ≤ 1000) (hq : q ≤ 1000) (hB0 : B ≤ w.heap.size) (hA : OwM B w (.slice (some ⟨g, 0, none⟩) p cp) p (rws A q) rv) (ha : a < p) (hc : c < q) (hne : A a c ≠ 0) :
    Calls Tryz.prog 121 #[.slice (some ⟨g, 0, none⟩) p cp, .int .i64 a, .int .i64 c] w fun e w' => e = .returned (.tuple #[]) ∧ OwM B w' (.slice (some ⟨g, 0, none⟩) p cp) p (rws (cleared A a c) q) rv ∧ Below B w w' := by
  have hrow := hA.row a ha
  obtain ⟨gp, c2, hrv, hgp1, hgp2, hcc, hcm⟩ := hrow.at (ne_nil_row _ (by omega))
  rw [row_length] at hrv hcc
  have hcell := hA.cell a ha
  rw [hrv] at hcell
  have hrow' := hrow
  rw [hrv] at hrow'
  have hpc := hrow'.cell (by rw [row_length]) c hc
  rw [co_row_lt _ hc] at hpc
  obtain ⟨x, hx⟩ : ∃ x : El, x = A a c := ⟨_, rfl⟩
  rw [← hx] at hpc hne
  have HX : Hid (x = A a c) := hx
  have HNE : Hid (x.val ≠ 0) := val_ne hne
  have HA : Hid (OwM B w (.slice (some ⟨g, 0, none⟩) p cp) p (rws A q) rv) := hA
  have HRV : Hid (rv a = .slice (some ⟨gp, 0, none⟩) q c2) := hrv
  have hS : Ow B w (.slice (some ⟨gp, 0, none⟩) q c2) (row (scaled (A a) (iv x) 0) q) := by rw [scaled_zero]; exact hrow'
  clear hx hne hA hrv hrow hrow'
  go_enter Tryz.func121, Tryz.ntmps121
  go_wp2_with fail
  refine (inv_some _ x.isLt HNE.out _).mono ?_
  rintro e w1 ⟨rfl, hw⟩
  obtain rfl := hw.symm
  clear hcell hpc
  go_wp2
  go_loopw [27] (fun t wr => ∃ k : Nat, k ≤ q ∧ t = .int .i64 k ∧ Ow B wr (.slice (some ⟨gp, 0, none⟩) q c2) (row (scaled (A a) (iv x) k) q) ∧ w.grownBy wr (some gp)) (fun t _ => q - (intOf t).toNat)
  case atStart => exact ⟨0, Nat.zero_le _, rfl, hS, grownBy_refl _ _⟩
  case round =>
    clear hS
    obtain ⟨k, hk, rfl, hS, hG⟩ := hrel
    by_cases hlt : k < q
    · have hcell := hS.cell (by rw [row_length]) k hlt
      rw [co_row_lt _ hlt, scaled_at] at hcell
      have hfree := hS.free (by rw [row_length]) k
      have R := put_el hS hG (scaled_step (A a) (iv x) q k)
      clear hS hG
      generalize A a k = y at *
      go_wp2_with fail
      refine (mul_any _ _ y.isLt (iv x).isLt _).mono ?_
      rintro e w1 ⟨rfl, hw⟩
      obtain rfl := hw.symm
      have R1 := R.1
      have R2 := R.2
      clear R
      go_wp2
      go_roundw
      case rel => exact ⟨k + 1, by omega, by go_num, R1, R2⟩
      case measure => simp [intOf]; omega
    · have hF : Ow B wr (rv a) (row (fun j => ti (A a j) (iv x)) q) := by
        rw [HRV.out, row_congr (g := scaled (A a) (iv x) k) (fun j hj => by unfold scaled; rw [if_pos (by omega)])]; exact hS
      have hG' : w.grownBy wr (rv a).ownBlock := by rw [HRV.out]; exact hG
      have hM := HA.out.turned a ha hG' hF
      have hBw := HA.out.below hB0 a ha hG'
      rw [rws_up, ← swept_zero A _ a c] at hM
      clear hS hG hF hG'
      go_wp2
      clear hk hlt
      go_loopw [41] (fun t wr => ∃ k : Nat, k ≤ p ∧ t = .int .i64 k ∧ OwM B wr (.slice (some ⟨g, 0, none⟩) p cp) p (rws (swept A (fun j => ti (A a j) (iv x)) a c k) q) rv ∧ Below B w wr) (fun t _ => p - (intOf t).toNat)
      case atStart => exact ⟨0, Nat.zero_le _, rfl, hM, hBw⟩
      case round =>
        clear hM hBw
        obtain ⟨k, hk, rfl, hM, hBw⟩ := hrel
        by_cases hlt : k < p
        · have hcell := hM.cell k hlt
          have hrowk := hM.row k hlt
          obtain ⟨gk, ck, hrk, _, _, _, _⟩ := hrowk.at (ne_nil_row _ (by omega))
          rw [row_length] at hrk
          rw [hrk] at hcell
          by_cases hka : k = a
          · have hb : ((k : Int) != (a : Int)) = false := by rw [hka]; simp
            rw [show swept A (fun j => ti (A a j) (iv x)) a c k = swept A (fun j => ti (A a j) (iv x)) a c (k + 1) from by rw [hka]; exact swept_same _ _ _ _] at hM
            clear hka hrk hrowk
            go_wp2
            go_roundw
            case rel => exact ⟨k + 1, by omega, by go_num, hM, hBw⟩
            case measure => simp [intOf]; omega
          · have hb : ((k : Int) != (a : Int)) = true := by rw [bne_iff_ne]; omega
            have hsk : ∀ j, swept A (fun j => ti (A a j) (iv x)) a c k k j = A k j := fun j => by unfold swept; rw [if_neg hka, if_neg (by omega)]
            have hrowk2 := hrowk
            rw [hrk] at hrowk2
            have hcc2 := hrowk2.cell (by rw [row_length]) c hc
            rw [co_row_lt _ hc, hsk] at hcc2
            have hsa : row (swept A (fun j => ti (A a j) (iv x)) a c k a) q = row (fun j => ti (A a j) (iv x)) q := row_congr (fun j _ => by unfold swept; rw [if_pos rfl])
            have hpr := (hM.row a ha).rd
            rw [show rws (swept A (fun j => ti (A a j) (iv x)) a c k) q a = row (fun j => ti (A a j) (iv x)) q from hsa] at hpr
            have hrk3 : row (swept A (fun j => ti (A a j) (iv x)) a c k k) q = row (A k) q := row_congr (fun j _ => hsk j)
            rw [show rws (swept A (fun j => ti (A a j) (iv x)) a c k) q k = row (A k) q from hrk3] at hrowk
            have T := mtimes_any B q _ _ (A k) (fun j => ti (A a j) (iv x)) (A k c) wr hq hrowk hpr (fun _ => hM.apart k a hlt ha hka)
            have HT : Hid (∀ w', Ow B w' (rv k) (row (fun j => pl (A k j) (ti (ti (A a j) (iv x)) (A k c))) q) → wr.grownBy w' (rv k).ownBlock → OwM B w' (.slice (some ⟨g, 0, none⟩) p cp) p (rws (swept A (fun j => ti (A a j) (iv x)) a c (k + 1)) q) rv ∧ Below B w w') := by
              intro w' h1 h2
              have h3 := hM.turned k hlt h2 h1
              rw [rws_up, swept_next A _ a c k hka] at h3
              exact ⟨h3, hBw.trans (hM.below (Nat.le_trans hB0 hBw.size) k hlt h2)⟩
            rw [hrk, HRV.out] at T
            rw [hrk] at HT
            clear hM hBw hrowk hrowk2 hpr hsa hrk3 hsk hrk
            generalize A k c = y at *
            go_wp2_with fail
            refine T.mono ?_
            rintro e w2 ⟨rfl, h1, h2⟩
            have h3 := HT.out w2 h1 h2
            have hM2 := h3.1
            have hB2 := h3.2
            clear T HT h1 h2 h3 hcell hcc2
            go_wp2
            go_roundw
            case rel => exact ⟨k + 1, by omega, by go_num, hM2, hB2⟩
            case measure => simp [intOf]; omega
        · have hF : OwM B wr (.slice (some ⟨g, 0, none⟩) p cp) p (rws (cleared A a c) q) rv := hM.congr (fun i hi => row_congr (fun j hj => by
            unfold swept cleared
            by_cases e : i = a
            · rw [if_pos e, if_pos e, HX.out]
            · rw [if_neg e, if_neg e, if_pos (by omega), HX.out]))
          clear hM
          go_wp2
          go_end0
          exact ⟨rfl, hF, hBw⟩
end Go.Proofs.YtilfjahbdlepjaaGreatDoor

/- What matrix.reduce does, on rows of the call's own: stairs: by a walk over the program. -/
namespace Go.Proofs.YtilfjahbdlepjaaGreatDoor
open Go.ChangeShapes Go.WideShapes Go.ChangeAt Go.RowKit El Pol Mx
theorem bne_zero (x : El) : (((x.val : Nat) : Int) != 0) = decide (x ≠ 0) := by
  rw [Bool.eq_iff_iff, bne_iff_ne, decide_eq_true_iff]
  constructor
  · intro h e; subst e; exact h rfl
  · intro h e; exact h (Fin.ext (by (show x.val = 0); omega))
theorem is_begin (v : Value) (f : Nat → El) (q c : Nat) (ad : Addr) (w : World) (h : Rd w v (row f q)) (hc : c < q) (hl : w.cell? ad = some (.int .i64 c)) :
    Calls Tryz.prog 120 #[v, .pointer (some ad)] w fun e w' => e = .returned (.bool (decide (f c ≠ 0))) ∧ w' = w := by
  obtain ⟨a1, c1, rfl, _, _⟩ := h.len
  obtain ⟨ar, rfl, hcell⟩ := h.at c (by rw [row_length]; exact hc)
  rw [row_length] at *
  rw [co_row_lt _ hc] at hcell
  have hb := bne_zero (f c)
  generalize f c = x at *
  generalize decide (x ≠ 0) = b at *
  clear h
  go_enter Tryz.func120, Tryz.ntmps120
  go_wp2
  go_ret
  exact ⟨rfl, rfl⟩
theorem add_off (g r i : Nat) : (⟨g, r, none⟩ : Addr).add i = ⟨g, r + i, none⟩ := by unfold Addr.add; split <;> simp_all
theorem stepped_cleared (R : M) (p q r k C : Nat) : Eqm p q (stepped R r k C) (cleared (fun i => R (sw r k i)) r C) := by
  intro i j _ _
  have swr : sw r k r = k := by unfold sw; rw [if_pos rfl]
  unfold stepped cleared
  dsimp only
  rw [swr]
  by_cases e : i = r
  · rw [if_pos e, if_pos e, ti_comm]
  · rw [if_neg e, if_neg e, ti_comm (R (sw r k i) C), ti_comm (iv _)]
set_option maxRecDepth 100000 in
set_option maxHeartbeats 2000000 in
theorem reduce_any (B g p q cols : Nat) (A : M) (rv0 : Nat → Value) (w : World) (hp : p ≤ 1000) (hq : q ≤ 1000) (hcols : cols ≤ q) (hB0 : B ≤ w.heap.size) (hA : OwM B w (.slice (some ⟨g, 0, none⟩) p p) p (rws A q) rv0) :
    Calls Tryz.prog 114 #[.slice (some ⟨g, 0, none⟩) p p, .int .i64 cols] w fun e w' => ∃ (r : Nat) (R : M) (piv : Nat → Nat) (rv : Nat → Value), e = .returned (.int .i64 r) ∧ GJ p q A R cols r piv ∧ OwM B w' (.slice (some ⟨g, 0, none⟩) p p) p (rws R q) rv ∧ Below B w w' := by
  go_enter Tryz.func114, Tryz.ntmps114
  go_wp2
  go_loopw [5, 9] (fun s t wr => ∃ (C r : Nat) (R : M) (piv : Nat → Nat) (rv : Nat → Value), C ≤ cols ∧ r ≤ p ∧ s = .int .i64 r ∧ t = .int .i64 C ∧ OwM B wr (.slice (some ⟨g, 0, none⟩) p p) p (rws R q) rv ∧ Hid (GJ p q A R C r piv) ∧ Below B w wr) (fun _ t _ => cols - (intOf t).toNat)
  case atStart => exact ⟨0, 0, A, fun _ => 0, rv0, Nat.zero_le _, Nat.zero_le _, rfl, rfl, hA, gj_start p q A, Below.refl _ _⟩
  case round =>
    clear hA
    obtain ⟨C, r, R, piv, rv, hC, hr, rfl, rfl, hM, HG, hBw⟩ := hrel
    by_cases hlt : C < cols
    ·
      have hn0 := cell_new wr (.int .i64 (C : Int)) 3
      have hBa : Below wr.heap.size wr (wr.alloc (.cells #[.int .i64 (C : Int)] 3)) := (Below.refl _ _).alloc (Nat.le_refl _) _
      have hMa := hM.old hBa
      have hFa := hMa.free
      have hWs : (wr.alloc (.cells #[.int .i64 (C : Int)] 3)).heap.size = wr.heap.size + 1 := by simp
      have hgl := hM.lt
      have hBw2 := hBw.trans (hBa.mono (Nat.le_trans hB0 hBw.size))
      have HI : Hid (∀ i, i < p - r → ∃ v, (wr.alloc (.cells #[.int .i64 (C : Int)] 3)).cell? ((⟨g, r, none⟩ : Addr).add i) = some v ∧ Calls Tryz.prog 120 #[v, .pointer (some ⟨wr.heap.size, 0, none⟩)] (wr.alloc (.cells #[.int .i64 (C : Int)] 3)) fun e w' => e = .returned (.bool (decide (R (r + i) C ≠ 0))) ∧ w' = (wr.alloc (.cells #[.int .i64 (C : Int)] 3))) := fun i hi =>
        ⟨rv (r + i), by rw [add_off]; exact hMa.cell (r + i) (by omega), is_begin _ (R (r + i)) q C _ _ (hMa.row (r + i) (by omega)).rd (by omega) hn0⟩
      by_cases hrp : r = p
      · have HZ : Hid (GJ p q A R (C + 1) r piv) := gj_skip HG.out (by omega) (fun i h1 h2 => by omega)
        subst hrp
        clear HI
        go_wp2_with fail
        refine (index_begin _ 0 _ _ (fun _ => false) _ (by omega) (fun i hi => absurd hi (Nat.not_lt_zero _))).mono ?_
        rintro e w2 ⟨z, rfl, hz, hw⟩
        obtain rfl := hw.symm
        have hz1 : z = -1 := by
          rcases hz with ⟨h, _⟩ | ⟨i, hi, _⟩
          · exact h
          · omega
        subst hz1
        go_wp2
        go_roundw
        case rel => exact ⟨C + 1, r, R, piv, rv, by omega, Nat.le_refl _, rfl, by go_num, hMa, HZ.out, hBw2⟩
        case measure => simp [intOf]; omega
      · have hrlt : r < p := by omega
        go_wp2_with fail
        refine (index_begin _ (p - r) _ _ (fun i => decide (R (r + i) C ≠ 0)) _ (by omega) HI.out).mono ?_
        rintro e w2 ⟨z, rfl, hz, hw⟩
        obtain rfl := hw.symm
        clear HI
        rcases hz with ⟨rfl, hz⟩ | ⟨i, hi, rfl, hz⟩
        · have HZ : Hid (GJ p q A R (C + 1) r piv) := gj_skip HG.out (by omega) (fun i h1 h2 => by
            have := hz (i - r) (by omega)
            rw [decide_eq_false_iff_not, show r + (i - r) = i by omega] at this
            exact Classical.not_not.1 this)
          clear hz
          go_wp2
          go_roundw
          case rel => exact ⟨C + 1, r, R, piv, rv, by omega, hr, rfl, by go_num, hMa, HZ.out, hBw2⟩
          case measure => simp [intOf]; omega
        · have hne : R (r + i) C ≠ 0 := of_decide_eq_true hz
          have HZ : Hid (GJ p q A (cleared (fun l => R (sw r (r + i) l)) r C) (C + 1) (r + 1) (fun m => if m = r then C else piv m)) :=
            (gj_pivot HG.out (by omega) (r + i) (by omega) (by omega) hne).congr (stepped_cleared R p q r (r + i) C)
          have hc1 := hMa.cell r hrlt
          have hc2 := hMa.cell (r + i) (by omega)
          have hf1 := hFa r
          have hf2 := hFa (r + i)
          have hS := hMa.swap r (r + i) hrlt (by omega)
          have hgl2 : g < (wr.alloc (.cells #[.int .i64 (C : Int)] 3)).heap.size := hMa.lt.2
          have hNC : (R (sw r (r + i) r) C) ≠ 0 := by unfold sw; rw [if_pos rfl]; exact hne
          have HNC : Hid (R (sw r (r + i) r) C ≠ 0) := hNC
          obtain ⟨a1, d1, e1, _, _⟩ := (hMa.row r hrlt).rd.len
          obtain ⟨a2, d2, e2, _, _⟩ := (hMa.row (r + i) (by omega)).rd.len
          rw [row_length] at e1 e2
          rw [e1] at hc1 hS
          rw [e2] at hc2 hS
          clear e1 e2 hz hne hNC HG hFa hM hMa hBa
          generalize wr.alloc (.cells #[.int .i64 (C : Int)] 3) = W at *
          have hc3 : (W.setCell ⟨g, r, none⟩ (.slice a2 q d2)).cell? ⟨g, r + i, none⟩ = some (.slice a2 q d2) := by
            by_cases e : i = 0
            · subst e; exact World.cell?_setCell_same _ _ _ hc1
            · rw [World.cell?_setCell_other _ _ _ _ (by simp)]; exact hc2
          go_wp2
          go_region
          all_goals
            have hdr : Below ((W.setCell ⟨g, r, none⟩ (.slice a2 q d2)).setCell ⟨g, r + i, none⟩ (.slice a1 q d1)).heap.size ((W.setCell ⟨g, r, none⟩ (.slice a2 q d2)).setCell ⟨g, r + i, none⟩ (.slice a1 q d1)) ((W.setCell ⟨g, r, none⟩ (.slice a2 q d2)).setCell ⟨g, r + i, none⟩ (.slice a1 q d1)).drew := ⟨rfl, rfl, rfl, Nat.le_refl _, fun _ _ => rfl⟩
            have hM2 := hS.1.old hdr
            have hBs := hBw2.trans (below_of_grownAt hS.2 (Nat.le_trans hB0 hBw2.size) hgl.1)
            have hB2 := hBs.trans (hdr.mono (Nat.le_trans hB0 hBs.size))
            have hcol : ((W.setCell ⟨g, r, none⟩ (.slice a2 q d2)).setCell ⟨g, r + i, none⟩ (.slice a1 q d1)).drew.cell? ⟨wr.heap.size, 0, none⟩ = some (.int .i64 (C : Int)) := hS.2.cell hn0 (by simp; omega)
            clear hc1 hc2 hc3 hf1 hf2 hS hdr hBs hBw2 hn0 hWs
            generalize ((W.setCell ⟨g, r, none⟩ (.slice a2 q d2)).setCell ⟨g, r + i, none⟩ (.slice a1 q d1)).drew = W2 at *
            go_wp2_with fail
            refine (clear_any B g p p q r C (fun l => R (sw r (r + i) l)) _ _ hp hq (Nat.le_trans hB0 hB2.size) hM2 hrlt (by omega) HNC.out).mono ?_
            rintro e w3 ⟨rfl, hM3, hB3⟩
            have hB3' := hB2.trans hB3
            clear hM2 hB2 hB3 hcol
            go_wp2
            go_roundw
            case rel => exact ⟨C + 1, r + 1, _, _, _, by omega, by omega, by go_num, by go_num, hM3, HZ.out, hB3'⟩
            case measure => simp [intOf]; omega
    · have hCe : C = cols := by omega
      have HE : Hid (GJ p q A R cols r piv) := by rw [← hCe]; exact HG.out
      clear hCe HG
      go_wp2
      go_ret
      exact ⟨_, _, _, _, rfl, HE.out, hM, hBw⟩
end Go.Proofs.YtilfjahbdlepjaaGreatDoor

/- What is read as a matrix, and what matrix.Check and width answer of it. -/
namespace Go.Proofs.YtilfjahbdlepjaaGreatDoor
open Go.ChangeShapes Go.WideShapes Go.ChangeAt Go.RowKit El Pol Mx
/-- what is read is a matrix of p rows and q columns -/
structure Mt (w : World) (v : Value) (p q : Nat) (A : M) : Prop where
  rd : RdM w v p (rws A q)
  hp : p ≤ 12
  hq : q ≤ 12
  h0 : p = 0 → q = 0
theorem Mt.old {w w' : World} {v : Value} {p q : Nat} {A : M} (h : Mt w v p q A) (hb : Below w.heap.size w w') : Mt w' v p q A := ⟨h.rd.old hb, h.hp, h.hq, h.h0⟩
theorem Mt.wd {w : World} {v : Value} {p q : Nat} {A : M} (h : Mt w v p q A) : wd p (rws A q) = q := by
  unfold Go.Proofs.YtilfjahbdlepjaaGreatDoor.wd
  by_cases e : p = 0
  · rw [if_pos e, h.h0 e]
  · rw [if_neg e, row_length]
theorem Mt.bad {w : World} {v : Value} {p q : Nat} {A : M} (h : Mt w v p q A) : bad p (rws A q) = 0 := by
  unfold Go.Proofs.YtilfjahbdlepjaaGreatDoor.bad
  rw [if_neg (by have := h.hp; omega), anyB_false.2 (fun i _ => by rw [row_length]; have := h.hq; exact decide_eq_false (by omega)), anyB_false.2 (fun i _ => by rw [row_length, h.wd]; exact decide_eq_false (fun k => k rfl))]
  rfl
theorem Mt.congr {w : World} {v : Value} {p q : Nat} {A A' : M} (h : Mt w v p q A) (e : Eqm p q A A') : Mt w v p q A' := ⟨h.rd.congr (fun i hi => row_congr (fun j hj => e i j hi hj)), h.hp, h.hq, h.h0⟩
/-- what has no fault is a matrix -/
theorem mt_of {w : World} {v : Value} {n : Nat} {R : Nat → List El} (h : RdM w v n R) (hb : Go.Proofs.YtilfjahbdlepjaaGreatDoor.bad n R = 0) : Mt w v n (Go.Proofs.YtilfjahbdlepjaaGreatDoor.wd n R) (fun i j => co (R i) j) := by
  unfold Go.Proofs.YtilfjahbdlepjaaGreatDoor.bad at hb
  by_cases h12 : 12 < n
  · rw [if_pos h12] at hb; omega
  · rw [if_neg h12] at hb
    cases hl : anyB (fun i => decide (12 < (R i).length)) n with
    | true => rw [hl, if_pos rfl] at hb; omega
    | false =>
      rw [hl, if_neg (by simp)] at hb
      cases hs : anyB (fun i => decide ((R i).length ≠ Go.Proofs.YtilfjahbdlepjaaGreatDoor.wd n R)) n with
      | true => rw [hs, if_pos rfl] at hb; omega
      | false =>
        have h1 : ∀ i, i < n → (R i).length = Go.Proofs.YtilfjahbdlepjaaGreatDoor.wd n R := fun i hi => by
          have := anyB_false.1 hs i hi
          rw [decide_eq_false_iff_not] at this
          exact Classical.not_not.1 this
        refine ⟨h.congr (fun i hi => ?_), by omega, ?_, fun e => by unfold Go.Proofs.YtilfjahbdlepjaaGreatDoor.wd; rw [if_pos e]⟩
        · show R i = row (co (R i)) (Go.Proofs.YtilfjahbdlepjaaGreatDoor.wd n R)
          rw [← h1 i hi, row_co]
        · by_cases e : n = 0
          · unfold Go.Proofs.YtilfjahbdlepjaaGreatDoor.wd; rw [if_pos e]; omega
          · have := anyB_false.1 hl 0 (by omega)
            rw [decide_eq_false_iff_not, h1 0 (by omega)] at this
            omega
theorem check_ok {w : World} {v : Value} {p q : Nat} {A : M} (h : Mt w v p q A) :
    Calls Tryz.prog 111 #[v] w fun e w' => e = .returned .nilIface ∧ Below w.heap.size w w' := by
  have := check_any v p _ w h.rd
  rw [h.bad] at this
  exact this
theorem width_ok {w : World} {v : Value} {p q : Nat} {A : M} (h : Mt w v p q A) :
    Calls Tryz.prog 112 #[v] w fun e w' => e = .returned (.int .i64 q) ∧ w' = w := by
  have := width_any v p _ w h.rd
  rw [h.wd] at this
  exact this
theorem check_bad {w : World} {v : Value} {n k : Nat} {R : Nat → List El} (h : RdM w v n R) (hk : Go.Proofs.YtilfjahbdlepjaaGreatDoor.bad n R = k) (h0 : k ≠ 0) :
    Calls Tryz.prog 111 #[v] w fun e w' => e = .returned (.iface 77 (.int .i64 k)) ∧ Below w.heap.size w w' := by
  have := check_any v n _ w h
  rw [hk, show errV k = .iface 77 (.int .i64 k) from if_neg h0] at this
  exact this
/-- the first k rows are those of A -/
def first (A : M) (k : Nat) : M := fun i j => if i < k then A i j else 0
theorem first_up (A : M) (k : Nat) : up (first A k) k (A k) = first A (k + 1) := by
  funext i j
  unfold up first
  by_cases e : i = k
  · subst e; rw [if_pos rfl, if_pos (by omega)]
  · rw [if_neg e]
    by_cases h : i < k
    · rw [if_pos h, if_pos (by omega)]
    · rw [if_neg h, if_neg (by omega)]
theorem size8 : (Tryz.prog.info? 5).map (·.size) = some 1 := by kernel_rfl
theorem drop_all (f g : Nat → El) (q : Nat) : row f q ++ (row g q).drop (row f q).length = row f q := by
  rw [row_length, List.drop_eq_nil_of_le (by rw [row_length]; omega), List.append_nil]
end Go.Proofs.YtilfjahbdlepjaaGreatDoor

/- Small laws of matrices that are read. -/
namespace Go.Proofs.YtilfjahbdlepjaaGreatDoor
open Go.ChangeShapes Go.WideShapes Go.ChangeAt Go.RowKit El Pol Mx
theorem OwM.mt {B : Nat} {w : World} {v : Value} {p q : Nat} {A : M} {rv : Nat → Value} (h : OwM B w v p (rws A q) rv) (hp : p ≤ 12) (hq : q ≤ 12) (h0 : p = 0 → q = 0) : Mt w v p q A := ⟨h.rd, hp, hq, h0⟩
theorem OwM.at {B : Nat} {w : World} {v : Value} {n : Nat} {a : Nat → List El} {rv : Nat → Value} (h : OwM B w v n a rv) (h0 : n ≠ 0) : ∃ g cap, v = .slice (some ⟨g, 0, none⟩) n cap := by
  rcases h.out.2 with ⟨_, hn⟩ | ⟨g, cap, cur, rfl, _⟩
  · exact absurd hn h0
  · exact ⟨g, cap, rfl⟩
end Go.Proofs.YtilfjahbdlepjaaGreatDoor

/- What matrix.withIdentity and Inverse answer, whatever lists of bytes they are given: by walks over the program. -/
namespace Go.Proofs.YtilfjahbdlepjaaGreatDoor
open Go.ChangeShapes Go.WideShapes Go.ChangeAt Go.RowKit El Pol Mx
/-- the first k rows stand beside the identity -/
def wide (A : M) (n k : Nat) : M := fun i j => if i < k then beside n A i j else 0
theorem wide_up (A : M) (n k : Nat) : up (wide A n k) k (beside n A k) = wide A n (k + 1) := by
  funext i j
  unfold up wide
  by_cases e : i = k
  · subst e; rw [if_pos rfl, if_pos (by omega)]
  · rw [if_neg e]
    by_cases h : i < k
    · rw [if_pos h, if_pos (by omega)]
    · rw [if_neg h, if_neg (by omega)]
/-- a row, noughts behind it -/
def halff (f : Nat → El) (n : Nat) : Nat → El := fun j => if j < n then f j else 0
theorem half_row (f g : Nat → El) (n : Nat) (hg : ∀ j, g j = 0) : row f n ++ (row g (n + n)).drop (row f n).length = row (halff f n) (n + n) := by
  apply List.ext_getElem (by simp [row])
  intro i h1 h2
  rw [List.getElem_append]
  split
  · rename_i h
    have hi : i < n := by rw [row_length] at h; exact h
    simp [row, halff, hi]
  · rename_i h
    have hi : ¬ i < n := by rw [row_length] at h; exact h
    simp [row, halff, hg, hi]
theorem half_set (A : M) (n k : Nat) : (row (halff (A k) n) (n + n)).set (n + k) 1 = row (beside n A k) (n + n) := by
  refine row_set _ _ (n + n) (n + k) 1 (fun j hj => ?_) ?_
  · unfold halff beside one
    by_cases h : j < n
    · rw [if_pos h, if_pos h]
    · rw [if_neg h, if_neg h, if_neg (by omega)]
  · unfold beside one; rw [if_neg (by omega), if_pos (by omega)]
set_option maxRecDepth 100000 in
set_option maxHeartbeats 1000000 in
theorem wide_any (v : Value) (n : Nat) (A : M) (w : World) (h : Mt w v n n A) :
    Calls Tryz.prog 113 #[v] w fun e w' => ∃ rv, e = .returned (.slice (some ⟨w.heap.size, 0, none⟩) n n) ∧ OwM w.heap.size w' (.slice (some ⟨w.heap.size, 0, none⟩) n n) n (rws (beside n A) (n + n)) rv ∧ Below w.heap.size w w' := by
  have HM : Hid (Mt w v n n A) := h
  have hp := h.hp
  obtain ⟨ao, cap, rfl, _, _⟩ := h.rd.len
  clear h
  go_enter Tryz.func113, Tryz.ntmps113
  go_wp2_with fail
  rw [show (2 * (n : Int)) = ((n + n : Nat) : Int) by omega]
  refine (noughts_any n (n + n) w (by omega) (by omega)).mono ?_
  rintro e w2 ⟨rv0, rfl, hN, hB2⟩
  go_wp2
  go_loopw [15] (fun t wr => ∃ k : Nat, k ≤ n ∧ t = .int .i64 k ∧ OwM w.heap.size wr (.slice (some ⟨w.heap.size, 0, none⟩) n n) n (rws (wide A n k) (n + n)) rv0 ∧ Below w.heap.size w wr) (fun t _ => n - (intOf t).toNat)
  case atStart => exact ⟨0, Nat.zero_le _, rfl, hN.congr (fun i _ => row_congr (fun j _ => by unfold wide; rw [if_neg (by omega)])), hB2⟩
  case round =>
    clear hN hB2
    obtain ⟨k, hk, rfl, hN, hB⟩ := hrel
    by_cases hlt : k < n
    · obtain ⟨ad, av, cv, rfl, hcell, hrd⟩ := (HM.out.rd.old hB).some k hlt
      rw [row_length] at hcell hrd
      have hcell2 := hN.cell k hlt
      have hrow := hN.row k hlt
      obtain ⟨gk, ck, ek, _, _, _, _⟩ := hrow.at (ne_nil_row _ (by omega))
      rw [row_length] at ek
      obtain ⟨w3, hrun, h1, h2⟩ := run_copy_ow (P := Tryz.prog) 82 82 3 Tryz.underlying82 size8 _ _ w.heap.size _ _ hrow hrd (by rw [row_length, row_length]; omega)
      rw [row_length] at hrun
      rw [half_row _ _ _ (fun j => by unfold wide; rw [if_neg (by omega)])] at h1
      have hN3 := hN.turned k hlt h2 h1
      rw [rws_up] at hN3
      have hB3 := hB.trans (hN.below hB.size k hlt h2)
      have hcell3 := hN3.cell k hlt
      have h1' := h1
      rw [ek] at h1' hcell3 hcell2 hrun
      have hst := h1'.stored (by rw [row_length]) (n + k) 1
      rw [half_set] at hst
      have hc4 := h1'.cell (by rw [row_length]) (n + k) (by omega)
      have hf4 := h1'.free (by rw [row_length]) (n + k)
      have hN4 := hN3.turned k hlt (by rw [ek]; exact hst.2) (by rw [ek]; exact hst.1)
      have hB4 := hB3.trans (hN3.below hB3.size k hlt (w' := w3.setCell ⟨gk, n + k, none⟩ (.int .u8 (((1 : El).val : Nat) : Int))) (by rw [ek]; exact hst.2))
      rw [rws_up, show up (up (wide A n k) k (halff (A k) n)) k (beside n A k) = wide A n (k + 1) from by
        rw [← wide_up]; funext i; unfold up; by_cases e : i = k
        · rw [if_pos e, if_pos e]
        · rw [if_neg e, if_neg e, if_neg e]] at hN4
      generalize co (row (halff (A k) n) (n + n)) (n + k) = old at *
      clear hN hB h1 h1' h2 hN3 hB3 hst ek hrd hrow
      go_wp2
      go_roundw
      case rel => exact ⟨k + 1, by omega, by go_num, hN4, hB4⟩
      case measure => simp [intOf]; omega
    · have hF : OwM w.heap.size wr (.slice (some ⟨w.heap.size, 0, none⟩) n n) n (rws (beside n A) (n + n)) rv0 := hN.congr (fun i hi => row_congr (fun j _ => by unfold wide; rw [if_pos (by omega)]))
      clear hN
      go_wp2
      go_ret
      exact ⟨_, rfl, hF, hB⟩
set_option maxHeartbeats 400000 in
theorem inverse_bad (v : Value) (n k : Nat) (R : Nat → List El) (w : World) (h : RdM w v n R) (hk : Go.Proofs.YtilfjahbdlepjaaGreatDoor.bad n R = k) (h0 : k ≠ 0) :
    Calls Tryz.prog 102 #[v] w fun e w' => e = .returned (.tuple #[.slice none 0 0, .iface 77 (.int .i64 k)]) ∧ Below w.heap.size w w' := by
  have C := check_bad h hk h0
  obtain ⟨ao, cap, rfl, _, _⟩ := h.len
  clear h hk
  go_enter Tryz.func102, Tryz.ntmps102
  go_wp2_with fail
  refine C.mono ?_
  rintro e w1 ⟨rfl, hB⟩
  clear C
  go_wp2
  go_ret2
  exact ⟨rfl, hB⟩
set_option maxHeartbeats 400000 in
theorem inverse_shape (v : Value) (p q : Nat) (A : M) (w : World) (h : Mt w v p q A) (hs : p = 0 ∨ q ≠ p) :
    Calls Tryz.prog 102 #[v] w fun e w' => e = .returned (.tuple #[.slice none 0 0, eshape]) ∧ Below w.heap.size w w' := by
  have C := check_ok h
  have HM : Hid (Mt w v p q A) := h
  have hp := h.hp
  have hq := h.hq
  obtain ⟨ao, cap, rfl, _, _⟩ := h.rd.len
  clear h
  by_cases h0 : p = 0
  · subst h0
    go_enter Tryz.func102, Tryz.ntmps102
    go_wp2_with fail
    refine C.mono ?_
    rintro e w1 ⟨rfl, hB⟩
    clear C
    go_wp2
    go_ret2
    exact ⟨rfl, hB⟩
  · have hz : ((p : Int) == 0) = false := by rw [beq_eq_false_iff_ne]; omega
    have hn : ((q : Int) != (p : Int)) = true := by rw [bne_iff_ne]; omega
    clear hs
    go_enter Tryz.func102, Tryz.ntmps102
    go_wp2_with fail
    refine C.mono ?_
    rintro e w1 ⟨rfl, hB⟩
    clear C
    go_wp2_with fail
    refine (width_ok (HM.out.old hB)).mono ?_
    rintro e w2 ⟨rfl, hw⟩
    obtain rfl := hw.symm
    go_wp2
    go_ret2
    exact ⟨rfl, hB⟩
theorem Rd.drop {w : World} {g q cap n : Nat} {f : Nat → El} (h : Rd w (.slice (Option.some ⟨g, 0, none⟩) q cap) (row f q)) (hn : n < q) : Rd w (.slice (Option.some ⟨g, n, none⟩) (q - n) (cap - n)) (row (fun j => f (n + j)) (q - n)) := by
  rcases h with ⟨e, _⟩ | ⟨ad', cap', e, h1, h2, h3⟩
  · cases e
  · simp only [Value.slice.injEq, Option.some.injEq] at e
    obtain ⟨rfl, _, rfl⟩ := e
    rw [row_length] at h1 h3
    refine .inr ⟨⟨g, n, none⟩, cap - n, by rw [row_length], by rw [row_length]; omega, by omega, fun i hi => ?_⟩
    rw [row_length] at hi
    have := h3 (n + i) (by omega)
    rw [co_row_lt _ (by omega), add_off, Nat.zero_add] at this
    rw [co_row_lt _ hi, add_off]
    exact this
set_option maxRecDepth 100000 in
set_option maxHeartbeats 1000000 in
theorem inverse_ok (v : Value) (n : Nat) (A : M) (w : World) (h : Mt w v n n A) (h0 : n ≠ 0) :
    Calls Tryz.prog 102 #[v] w fun e w' => (∃ (v' : Value) (T : M) (rv : Nat → Value), e = .returned (.tuple #[v', .nilIface]) ∧ Inv n A T ∧ OwM w.heap.size w' v' n (rws T n) rv ∧ Below w.heap.size w w') ∨ (e = .returned (.tuple #[.slice none 0 0, enone]) ∧ Sing n A ∧ Below w.heap.size w w') := by
  have C := check_ok h
  have HM : Hid (Mt w v n n A) := h
  have hp := h.hp
  obtain ⟨ao, cap, rfl, _, _⟩ := h.rd.len
  clear h
  have hz : ((n : Int) == 0) = false := by rw [beq_eq_false_iff_ne]; omega
  go_enter Tryz.func102, Tryz.ntmps102
  go_wp2_with fail
  refine C.mono ?_
  rintro e w1 ⟨rfl, hB1⟩
  clear C
  have hs1 := hB1.size
  go_wp2_with fail
  refine (width_ok (HM.out.old hB1)).mono ?_
  rintro e w2 ⟨rfl, hw⟩
  obtain rfl := hw.symm
  go_wp2_with fail
  refine (wide_any _ n A _ (HM.out.old hB1)).mono ?_
  rintro e w2 ⟨rv0, rfl, hN, hB2⟩
  have hB2' := hB1.trans (hB2.mono hs1)
  have hs2 := hB2.size
  clear hB2 hB1
  go_wp2_with fail
  refine (reduce_any w1.heap.size w1.heap.size n (n + n) n (beside n A) rv0 w2 (by omega) (by omega) (by omega) hs2 hN).mono ?_
  rintro e w3 ⟨r, R, piv, rv, rfl, hG, hR, hB3⟩
  have hB3' := hB2'.trans (hB3.mono hs1)
  have hs3 := hB3.size
  clear hN hB2' hB3
  by_cases hrn : r < n
  · have HS : Hid (Sing n A) := gj_none hG hrn
    clear hG hR
    go_wp2
    go_ret2
    exact .inr ⟨rfl, HS.out, hB3'⟩
  · have hre : r = n := by have := hG.rp; omega
    rw [hre] at hG
    have HI : Hid (Inv n A (fun i j => R i (n + j))) := gj_inv hG
    have hlt0 : ¬ ((r : Int) < (n : Int)) := by omega
    clear hG hre hrn
    go_wp2_with fail
    refine (noughts_any n n w3 (by omega) (by omega)).mono ?_
    rintro e w4 ⟨rv4, rfl, hN, hB4⟩
    have HR : Hid (OwM w1.heap.size w3 (.slice (some ⟨w1.heap.size, 0, none⟩) n n) n (rws R (n + n)) rv) := hR
    have hs0 := hB3'.size
    clear hR hlt0
    go_wp2
    go_loopw [39] (fun t wr => ∃ k : Nat, k ≤ n ∧ t = .int .i64 k ∧ OwM w3.heap.size wr (.slice (some ⟨w3.heap.size, 0, none⟩) n n) n (rws (first (fun i j => R i (n + j)) k) n) rv4 ∧ Below w3.heap.size w3 wr) (fun t _ => n - (intOf t).toNat)
    case atStart => exact ⟨0, Nat.zero_le _, rfl, hN.congr (fun i _ => row_congr (fun j _ => by unfold first; rw [if_neg (by omega)])), hB4⟩
    case round =>
      clear hN hB4
      obtain ⟨k, hk, rfl, hN, hB⟩ := hrel
      by_cases hlt : k < n
      · have hW := HR.out.old hB
        have hcell := hW.cell k hlt
        have hwr := hW.row k hlt
        obtain ⟨gk, ck, ek, _, _, hck, hck2⟩ := hwr.at (ne_nil_row _ (by omega))
        rw [row_length] at ek hck
        have hwr2 := hwr
        rw [ek] at hcell hwr2
        have hcell2 := hN.cell k hlt
        have hrow := hN.row k hlt
        obtain ⟨a4, c4, e4, _, _⟩ := hrow.rd.len
        rw [row_length] at e4
        have hdr : Below wr.heap.size wr wr.drew := ⟨rfl, rfl, rfl, Nat.le_refl _, fun _ _ => rfl⟩
        have hsrc := (hwr2.rd.old hdr).drop (n := n) (by omega)
        rw [show n + n - n = n by omega] at hsrc
        have hrowd := hrow.old hdr
        have hNd := hN.old hdr
        have hBd := hB.trans (hdr.mono hB.size)
        obtain ⟨w5, hrun, h1, h2⟩ := run_copy_ow (P := Tryz.prog) 82 82 3 Tryz.underlying82 size8 _ _ w3.heap.size _ _ hrowd hsrc (by rw [row_length, row_length]; exact Nat.le_refl _)
        rw [row_length] at hrun
        rw [drop_all] at h1
        have hN5 := hNd.turned k hlt h2 h1
        have hB5 := hBd.trans (hNd.below hBd.size k hlt h2)
        rw [rws_up, first_up] at hN5
        rw [e4] at hrun hcell2
        clear hW hwr hwr2 hrow hdr hsrc hrowd hNd hBd h1 h2 ek e4 hN hB
        have hnn : ((n + n : Nat) : Int) = (n : Int) + (n : Int) := by omega
        go_wp2
        go_region
        all_goals
          clear hrun hcell hcell2
          go_wp2
          go_roundw
          case rel => exact ⟨k + 1, by omega, by go_num, hN5, hB5⟩
          case measure => simp [intOf]; omega
      · have hF : OwM w.heap.size wr (.slice (some ⟨w3.heap.size, 0, none⟩) n n) n (rws (fun i j => R i (n + j)) n) rv4 := (hN.congr (fun i hi => row_congr (fun j _ => by unfold first; rw [if_pos (by omega)]))).mono hs0
        have hB6 := hB3'.trans (hB.mono hs0)
        clear hN
        go_wp2
        go_ret2
        exact .inl ⟨_, _, _, rfl, HI.out, hF, hB6⟩
end Go.Proofs.YtilfjahbdlepjaaGreatDoor

/- What matrix.Identity and Cauchy answer, whatever they are given: by walks over the program. -/
namespace Go.Proofs.YtilfjahbdlepjaaGreatDoor
open Go.ChangeShapes Go.WideShapes Go.ChangeAt Go.RowKit El Pol Mx
theorem many_int (n : Int) (w : World) : Calls Tryz.prog 109 #[.int .i64 n] w fun e w' => e = .returned (.bool (decide (12 < n))) ∧ w' = w := by
  by_cases h : 12 < n
  all_goals
    go_enter Tryz.func109, Tryz.ntmps109
    go_wp2
    go_ret
    exact ⟨by simp; omega, rfl⟩
theorem identity_bad (n : Int) (h : n < 1 ∨ 12 < n) (w : World) :
    Calls Tryz.prog 99 #[.int .i64 n] w fun e w' => e = .returned (.tuple #[.slice none 0 0, erange]) ∧ w' = w := by
  by_cases h1 : n < 1
  · go_enter Tryz.func99, Tryz.ntmps99
    go_wp2
    go_ret2
    exact ⟨rfl, rfl⟩
  · have C := many_int n w
    rw [decide_eq_true (by omega)] at C
    go_enter Tryz.func99, Tryz.ntmps99
    go_wp2_with fail
    refine C.mono ?_
    rintro e w1 ⟨rfl, hw⟩
    obtain rfl := hw.symm
    go_wp2
    go_ret2
    exact ⟨rfl, rfl⟩
/-- the first k rows are those of the identity -/
def ones (k : Nat) : M := fun i j => if i < k then one i j else 0
theorem ones_up (k : Nat) : up (ones k) k (one k) = ones (k + 1) := by
  funext i j
  unfold up ones
  by_cases e : i = k
  · subst e; rw [if_pos rfl, if_pos (by omega)]
  · rw [if_neg e]
    by_cases h : i < k
    · rw [if_pos h, if_pos (by omega)]
    · rw [if_neg h, if_neg (by omega)]
theorem ones_set (n k : Nat) : (row (ones k k) n).set k 1 = row (one k) n := by
  refine row_set _ _ n k 1 (fun j hj => ?_) ?_
  · unfold ones one
    rw [if_neg (Ne.symm hj)]
    split <;> rfl
  · unfold one; rw [if_pos rfl]
set_option maxRecDepth 100000 in
set_option maxHeartbeats 1000000 in
theorem identity_ok (n : Nat) (h1 : 1 ≤ n) (h2 : n ≤ 12) (w : World) :
    Calls Tryz.prog 99 #[.int .i64 n] w fun e w' => ∃ (v' : Value) (rv : Nat → Value), e = .returned (.tuple #[v', .nilIface]) ∧ OwM w.heap.size w' v' n (rws one n) rv ∧ Below w.heap.size w w' := by
  have C := many_any n w
  rw [decide_eq_false (by omega)] at C
  go_enter Tryz.func99, Tryz.ntmps99
  go_wp2_with fail
  refine C.mono ?_
  rintro e w1 ⟨rfl, hw⟩
  obtain rfl := hw.symm
  clear C
  go_wp2_with fail
  refine (noughts_any n n w (by omega) (by omega)).mono ?_
  rintro e w2 ⟨rv0, rfl, hN, hB2⟩
  go_wp2
  go_loopw [19] (fun t wr => ∃ k : Nat, k ≤ n ∧ t = .int .i64 k ∧ OwM w.heap.size wr (.slice (some ⟨w.heap.size, 0, none⟩) n n) n (rws (ones k) n) rv0 ∧ Below w.heap.size w wr) (fun t _ => n - (intOf t).toNat)
  case atStart => exact ⟨0, Nat.zero_le _, rfl, hN.congr (fun i _ => row_congr (fun j _ => by unfold ones; rw [if_neg (by omega)])), hB2⟩
  case round =>
    clear hN hB2
    obtain ⟨k, hk, rfl, hN, hB⟩ := hrel
    by_cases hlt : k < n
    · have hcell := hN.cell k hlt
      have hrow := hN.row k hlt
      obtain ⟨gk, ck, ek, _, _, _, _⟩ := hrow.at (ne_nil_row _ (by omega))
      rw [row_length] at ek
      have hrow2 := hrow
      rw [ek] at hcell hrow2
      have hst := hrow2.stored (by rw [row_length]) k 1
      rw [ones_set] at hst
      have hc4 := hrow2.cell (by rw [row_length]) k hlt
      have hf4 := hrow2.free (by rw [row_length]) k
      have hN4 := hN.turned k hlt (by rw [ek]; exact hst.2) (by rw [ek]; exact hst.1)
      have hB4 := hB.trans (hN.below hB.size k hlt (w' := wr.setCell ⟨gk, k, none⟩ (.int .u8 (((1 : El).val : Nat) : Int))) (by rw [ek]; exact hst.2))
      rw [rws_up, ones_up] at hN4
      generalize co (row (ones k k) n) k = old at *
      clear hN hB hrow hrow2 hst ek
      go_wp2
      go_roundw
      case rel => exact ⟨k + 1, by omega, by go_num, hN4, hB4⟩
      case measure => simp [intOf]; omega
    · have hF : OwM w.heap.size wr (.slice (some ⟨w.heap.size, 0, none⟩) n n) n (rws one n) rv0 := hN.congr (fun i hi => row_congr (fun j _ => by unfold ones; rw [if_pos (by omega)]))
      clear hN
      go_wp2
      go_ret2
      exact ⟨_, _, rfl, hF, hB⟩
end Go.Proofs.YtilfjahbdlepjaaGreatDoor

/- What slices.Grow, slices.Concat, matrix.anyTwice and Identity answer: by walks over the program. -/
namespace Go.Proofs.YtilfjahbdlepjaaGreatDoor
open Go.ChangeShapes Go.WideShapes Go.ChangeAt Go.RowKit El Pol Mx
/-- what is read, behind a row of the call's own -/
theorem wpList_append_rd {w : World} {ops : Array Oper} {rest : List Oper} {o : Oper} {a : Act} {Q : Exit → Act → World → Prop} (hgd : o.guard = none) (s x : Operand)
    (ho : o.op = .call { callee := .builtin .append, args := #[s, x], argTypes := #[82, 82] })
    (B : Nat) (v u : Value) (L xs : List El) (hs : a.eval s = v) (hO : Ow B w v L) (hx : a.eval x = u) (hR : Rd w u xs) (h1 : L.length ≤ 1000) (h2 : xs.length ≤ 1000) (hB : B ≤ w.heap.size)
    (h : ∀ v' w', Ow B w' v' (L ++ xs) → w.grownBy w' v.ownBlock → wpList Tryz.prog ops Q rest (a.put o.dst v') w') : wpList Tryz.prog ops Q (o :: rest) a w := by
  obtain ⟨i0, hi, hz0, hz1, hz2⟩ := info_parts info8
  rcases hR with ⟨rfl, rfl⟩ | ⟨ad, cap, rfl, _, _, hc⟩
  · exact wpList_append_own_none hgd s x _ ho B 5 i0 1 Tryz.underlying82 hi v _ _ hs hO hx (h v w (by rw [List.append_nil]; exact hO) (grownBy_refl _ _))
  · refine wpList_append_own (P := Tryz.prog) w hgd s x _ ho B 5 i0 (.int .u8 0) 1 1 Tryz.underlying82 hi hz0 hz1 hz2 rfl (by decide) v _ _ hs hO ad xs.length cap (xs.map eb) hx (by rw [List.length_map, Nat.mul_one]) (fun j y hj => ?_) (eb_one xs) (by unfold maxLen; omega) (by omega) hB (fun v' w' h3 h4 _ => h v' w' ?_ h4)
    · have := cells_take (m := xs.length) hc j y
      rw [List.take_length] at this
      exact this hj
    · unfold Ow
      rw [List.length_append, List.map_append]
      exact h3
/-- an append whose run is known -/
theorem wpList_append_run {w : World} {ops : Array Oper} {rest : List Oper} {o : Oper} {a : Act} {Q : Exit → Act → World → Prop} (hgd : o.guard = none) (s x : Operand) (t1 t2 : TypeId)
    (ho : o.op = .call { callee := .builtin .append, args := #[s, x], argTypes := #[t1, t2] }) (u1 u2 : Value) (hs : a.eval s = u1) (hx : a.eval x = u2) (v : Value) (W : World)
    (hrun : (Builtin.append_ #[t1, t2] o.type #[u1, u2]).run Tryz.prog w = .ok v W) (h : wpList Tryz.prog ops Q rest (a.put o.dst v) W) : wpList Tryz.prog ops Q (o :: rest) a w := by
  refine wpList_plain hgd fun K hK => ?_
  unfold Oper.wp
  simp [execOp, ho, resolve, invoke, builtin, hs, hx, hrun, Result.andThen]
  exact hK _ _ h
end Go.Proofs.YtilfjahbdlepjaaGreatDoor

/- An append of one's own, and in which block it ends: the row's own, or a new one. -/
namespace Go.Proofs.YtilfjahbdlepjaaGreatDoor
open Go.ChangeShapes Go.WideShapes Go.ChangeAt Go.RowKit El Pol Mx
/-- as it was, or new -/
def SameOrNew (w : World) (v v' : Value) : Prop := v'.ownBlock = v.ownBlock ∨ ∀ k, v'.ownBlock = some k → w.heap.size ≤ k
theorem SameOrNew.ne {w : World} {v v' u : Value} (h : SameOrNew w v v') (hu : ∀ k, u.ownBlock = some k → k < w.heap.size) (hn : v.ownBlock = none ∨ v.ownBlock ≠ u.ownBlock) : v'.ownBlock = none ∨ v'.ownBlock ≠ u.ownBlock := by
  rcases h with h | h
  · rw [h]; exact hn
  · cases hv : v'.ownBlock with
    | none => exact .inl rfl
    | some k =>
      right
      intro e
      have h1 := h k hv
      have h2 := hu k e.symm
      omega
theorem append_block {w w' : World} {v v' : Value} {ty : TypeId} (base : Nat) (t e : TypeId) (i : TypeInfo) (z : Value) (bytes : Nat) (ht : Tryz.prog.underlying t = some (.slice e)) (hi : Tryz.prog.info? e = some i) (hz : i.zero = some z)
    (hsize : i.size = 1) (hby : i.bytes = bytes) (hzs : z.cells.size = 1)
    (n : Nat) (xs : List Value) (hown : w.ownsRow base e 1 v n xs)
    (a : Addr) (m c : Nat) (news : List Value) (hl : news.length = m * 1) (hnews : ∀ j u, news[j]? = some u → w.cell? (a.add j) = some u) (h1 : ∀ u ∈ news, u.oneCell' = true)
    (h63 : n + m ≤ maxLen) (hbytes : (n + m) * bytes ≤ 140737488355328)
    (hr : (Builtin.append_ #[t, t] ty #[v, .slice (some a) m c]).run Tryz.prog w = .ok v' w') : SameOrNew w v v' := by
  rcases hown.2 with ⟨rfl, rfl⟩ | ⟨g, cap, cur, rfl, hbg, hg, hnc, hcm, hcs, htake⟩
  · have hx : xs = [] := List.eq_nil_of_length_eq_zero (by simpa using hown.1)
    subst hx
    obtain ⟨v2, w2, hr2, ho2, _, _⟩ := run_append_own (P := Tryz.prog) w w.heap.size t ty e i z 1 bytes ht hi hz hsize hby hzs (by decide) (.slice none 0 0) 0 [] (World.ownsRow_nil _ _ _ _) a m c news hl hnews h1 h63 hbytes (Nat.le_refl _)
    rw [hr] at hr2
    cases hr2
    exact .inr (fun k hk => (World.ownsRow.lt ho2 k hk).1)
  · by_cases hroom : n + m ≤ cap
    · have hfit : n * i.size + news.length ≤ cur.size := by rw [hl, hcs, hsize]; omega
      have hr2 := run_append_room (P := Tryz.prog) w t ty e i ht hi g n cap cur hg a m c news (by rw [hsize]; exact hl) hnews h1 hroom hfit
      rw [hr] at hr2
      cases hr2
      exact .inl rfl
    · have holds : ∀ j u, xs[j]? = some u → w.cell? ((⟨g, 0, none⟩ : Addr).add j) = some u := World.ownsRow.cells hown (g := g) rfl
      have hr2 := run_append_grow (P := Tryz.prog) w t ty e i z ht hi hz ⟨g, 0, none⟩ n cap xs (by rw [hsize]; exact hown.1) holds a m c news (by rw [hsize]; exact hl) hnews (by unfold maxLen at h63; omega) (by unfold maxLen at h63; omega) (growslice_fits (by unfold maxLen at h63; omega) (by rw [hby]; exact hbytes))
      rw [hr] at hr2
      cases hr2
      exact .inr (fun k hk => by simp [Value.ownBlock] at hk; omega)
/-- an append of one's own, as wpList_append_own, and the block told -/
theorem wpList_append_two {w : World} {ops : Array Oper} {rest : List Oper} {o : Oper} {a : Act} {Q : Exit → Act → World → Prop} (hgd : o.guard = none) (s x : Operand) (t : TypeId)
    (ho : o.op = .call { callee := .builtin .append, args := #[s, x], argTypes := #[t, t] })
    (base : Nat) (e : TypeId) (i : TypeInfo) (z : Value) (bytes : Nat) (ht : Tryz.prog.underlying t = some (.slice e)) (hi : Tryz.prog.info? e = some i) (hz : i.zero = some z)
    (hsize : i.size = 1) (hby : i.bytes = bytes) (hzs : z.cells.size = 1)
    (v : Value) (n : Nat) (xs : List Value) (hs : a.eval s = v) (hown : w.ownsRow base e 1 v n xs)
    (ad : Addr) (m c : Nat) (news : List Value) (hx : a.eval x = .slice (some ad) m c) (hl : news.length = m * 1) (hnews : ∀ j u, news[j]? = some u → w.cell? (ad.add j) = some u) (h1 : ∀ u ∈ news, u.oneCell' = true)
    (h63 : n + m ≤ maxLen) (hbytes : (n + m) * bytes ≤ 140737488355328) (hbase : base ≤ w.heap.size)
    (h : ∀ v' w', w'.ownsRow base e 1 v' (n + m) (xs ++ news) → w.grownBy w' v.ownBlock → SameOrNew w v v' → wpList Tryz.prog ops Q rest (a.put o.dst v') w') : wpList Tryz.prog ops Q (o :: rest) a w := by
  obtain ⟨v', w', hr, h2, h3, _⟩ := run_append_own (P := Tryz.prog) w base t o.type e i z 1 bytes ht hi hz hsize hby hzs (by decide) v n xs hown ad m c news hl hnews h1 h63 hbytes hbase
  exact wpList_append_run hgd s x t t ho v (.slice (some ad) m c) hs hx v' w' hr (h v' w' h2 h3 (append_block base t e i z bytes ht hi hz hsize hby hzs n xs hown ad m c news hl hnews h1 h63 hbytes hr))
end Go.Proofs.YtilfjahbdlepjaaGreatDoor
