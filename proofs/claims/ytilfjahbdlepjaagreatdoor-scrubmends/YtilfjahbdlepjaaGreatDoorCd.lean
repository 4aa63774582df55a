/- Texts of plain mathematics, of memory and of walks, in one. -/
import Derived.Test.YtilfjahbdlepjaaGreatDoorMe
import Derived.Test.YtilfjahbdlepjaaGreatDoorGe
import Derived.Test.YtilfjahbdlepjaaGreatDoorMatEp
import Derived.Deep.RegionWith
import Derived.Test.YtilfjahbdlepjaaGreatDoorMa
import Derived.Test.YtilfjahbdlepjaaGreatDoorMt
import Derived.Test.YtilfjahbdlepjaaGreatDoorMxx
/- What block.sizeOf and block.Check answer: by walks over the program. -/
namespace Go.Proofs.YtilfjahbdlepjaaGreatDoor
open Go.ChangeShapes Go.WideShapes Go.ChangeAt Go.RowKit El Pol
/-- what is wrong with blocks: 0, 1 or 3 -/
def bbad (n : Nat) (a : Nat → List El) : Nat := if anyB (fun i => decide ((a i).length ≠ (a 0).length)) n then 3 else if 16 < (a 0).length then 1 else 0
theorem bbad_ok {n : Nat} {a : Nat → List El} (h : bbad n a = 0) : (∀ i, i < n → (a i).length = (a 0).length) ∧ (a 0).length ≤ 16 := by
  unfold bbad at h
  split at h
  · omega
  · rename_i h1
    split at h
    · omega
    · rename_i h2
      refine ⟨fun i hi => ?_, by omega⟩
      have := anyB_false.1 (Bool.eq_false_iff.2 h1) i hi
      simpa using this
theorem bbad_of {n : Nat} {a : Nat → List El} (h1 : ∀ i, i < n → (a i).length = (a 0).length) (h2 : (a 0).length ≤ 16) : bbad n a = 0 := by
  unfold bbad
  rw [anyB_false.2 (fun i hi => by simpa using h1 i hi), if_neg (by simp), if_neg (by omega)]
theorem is_long (xs : List El) (ad : Addr) (n : Nat) (w : World) (hc : w.cell? ad = some (.int .i64 n)) :
    Calls Tryz.prog 89 #[st xs, .pointer (some ad)] w fun e w' => e = .returned (.bool (decide (xs.length ≠ n))) ∧ w' = w := by
  have hs := sb_size xs
  unfold st
  generalize sb xs = s at *
  generalize xs.length = l at *
  by_cases hl : l = n
  · have hb : ((l : Int) != (n : Int)) = false := by rw [hl]; simp
    go_enter Tryz.func89, Tryz.ntmps89
    go_wp2
    go_ret
    exact ⟨by simp [hl], rfl⟩
  · have hb : ((l : Int) != (n : Int)) = true := by rw [bne_iff_ne]; omega
    go_enter Tryz.func89, Tryz.ntmps89
    go_wp2
    go_ret
    exact ⟨by simp [hl], rfl⟩
set_option maxHeartbeats 400000 in
theorem index_long (ad : Addr) (n cap : Nat) (c : Value) (p : Nat → Bool) (w : World) (hn : n ≤ 8796093021952)
    (hc : ∀ i, i < n → ∃ rv, w.cell? (ad.add i) = some rv ∧ Calls Tryz.prog 89 #[rv, c] w fun e w' => e = .returned (.bool (p i)) ∧ w' = w) :
    Calls Tryz.prog 103 #[.slice (some ad) n cap, .func (.func 89) #[] #[c]] w fun e w' => ∃ z, e = .returned (.int .i64 z) ∧ Fst p n z ∧ w' = w := by
  have HC : Hid (∀ i, i < n → ∃ rv, w.cell? (ad.add i) = some rv ∧ Calls Tryz.prog 89 #[rv, c] w fun e w' => e = .returned (.bool (p i)) ∧ w' = w) := hc
  clear hc
  go_enter Tryz.func103, Tryz.ntmps103
  go_wp2
  go_loop [8] (fun t => ∃ k : Nat, k ≤ n ∧ t = .int .i64 k ∧ Hid (∀ i, i < k → p i = false)) (fun t => n - (intOf t).toNat)
  case atStart => exact ⟨0, Nat.zero_le _, rfl, fun i hi => absurd hi (Nat.not_lt_zero _)⟩
  case round =>
    obtain ⟨k, hk, rfl, HF⟩ := hrel
    by_cases hlt : k < n
    · obtain ⟨rv, hc, C⟩ := HC.out k hlt
      obtain ⟨b, hb⟩ : ∃ b, b = p k := ⟨_, rfl⟩
      rw [← hb] at C
      have HB : Hid (b = p k) := hb
      clear hb
      cases b
      all_goals
        go_wp2_with fail
        refine C.mono ?_
        rintro e w1 ⟨rfl, hw⟩
        obtain rfl := hw.symm
        clear C
        go_wp2
      · go_round
        case rel => exact ⟨k + 1, by omega, by go_num, fun i hi => by
          by_cases e : i = k
          · rw [e]; exact HB.out.symm
          · exact HF.out i (by omega)⟩
        case measure => simp [intOf]; omega
      · go_ret
        exact ⟨_, rfl, .inr ⟨k, hlt, rfl, HB.out.symm⟩, rfl⟩
    · go_wp2
      go_ret
      exact ⟨_, rfl, .inl ⟨rfl, fun i hi => HF.out i (by omega)⟩, rfl⟩
theorem contains_long (ad : Addr) (n cap : Nat) (a : Nat → List El) (c : Addr) (l : Nat) (w : World) (h : RdF w (.slice (some ad) n cap) n (fun i => st (a i))) (hn : n ≤ 8796093021952) (hl : w.cell? c = some (.int .i64 l)) :
    Calls Tryz.prog 88 #[.slice (some ad) n cap, .func (.func 89) #[] #[.pointer (some c)]] w fun e w' => e = .returned (.bool (anyB (fun i => decide ((a i).length ≠ l)) n)) ∧ w' = w := by
  have C := index_long ad n cap (.pointer (some c)) (fun i => decide ((a i).length ≠ l)) w hn (fun i hi => by
    obtain ⟨ad', e, hc⟩ := h.at i hi
    cases e
    exact ⟨_, hc, is_long _ c l w hl⟩)
  clear h
  go_enter Tryz.func88, Tryz.ntmps88
  go_wp2_with fail
  refine C.mono ?_
  rintro e w1 ⟨z, rfl, hz, hw⟩
  obtain rfl := hw.symm
  have HZ : Hid (decide (0 ≤ z) = anyB (fun i => decide ((a i).length ≠ l)) n) := hz.any
  clear C hz
  go_wp2
  go_ret
  exact ⟨by rw [← HZ.out]; rfl, rfl⟩
theorem size_any (v : Value) (n : Nat) (a : Nat → List El) (w : World) (h : RdF w v n (fun i => st (a i))) (h0 : 1 ≤ n) :
    Calls Tryz.prog 87 #[v] w fun e w' => e = .returned (.int .i64 ((a 0).length : Int)) ∧ w' = w := by
  obtain ⟨ao, cap, rfl, _, _⟩ := h.len
  obtain ⟨ad, rfl, hc0⟩ := h.at 0 (by omega)
  rw [add_zero] at hc0
  have hs := sb_size (a 0)
  unfold st at hc0
  generalize sb (a 0) = s at *
  generalize (a 0).length = l at *
  have hn0 : ((n : Int) == 0) = false := by rw [beq_eq_false_iff_ne]; omega
  clear h
  go_enter Tryz.func87, Tryz.ntmps87
  go_wp2
  go_ret
  exact ⟨rfl, rfl⟩
set_option maxHeartbeats 400000 in
theorem blocks_any (v : Value) (n : Nat) (a : Nat → List El) (w : World) (h : RdF w v n (fun i => st (a i))) (hn : n ≤ 8796093021952) (h0 : 1 ≤ n) :
    Calls Tryz.prog 70 #[v] w fun e w' => e = .returned (errV (bbad n a)) ∧ Below w.heap.size w w' := by
  obtain ⟨ao, cap, rfl, _, _⟩ := h.len
  obtain ⟨ad, rfl, hc0⟩ := h.at 0 (by omega)
  rw [add_zero] at hc0
  have hal : Below w.heap.size w (w.alloc (.cells #[.int .i64 ((a 0).length : Int)] 3)) := (Below.refl _ _).alloc (Nat.le_refl _) _
  have C := contains_long ad n cap a ⟨w.heap.size, 0, none⟩ (a 0).length _ (h.old hal) hn (cell_new w _ 3)
  have hcn := cell_new w (.int .i64 ((a 0).length : Int)) 3
  have hs := sb_size (a 0)
  obtain ⟨b, hb⟩ : ∃ b, b = anyB (fun i => decide ((a i).length ≠ (a 0).length)) n := ⟨_, rfl⟩
  have HB : Hid (b = anyB (fun i => decide ((a i).length ≠ (a 0).length)) n) := hb
  rw [← hb] at C
  obtain ⟨l, hl⟩ : ∃ l, l = (a 0).length := ⟨_, rfl⟩
  have HL : Hid (l = (a 0).length) := hl
  have S := size_any (.slice (some ad) n cap) n a w h h0
  rw [← hl] at C hs hal hcn S
  unfold st at hc0
  generalize sb (a 0) = s at *
  clear h hb hl
  cases b with
  | true =>
    have E : Hid (bbad n a = 3) := by (show bbad n a = 3); unfold bbad; rw [← HB.out]; rfl
    go_enter Tryz.func70, Tryz.ntmps70
    go_wp2_with fail
    refine S.mono ?_
    rintro e0 w0 ⟨rfl, hw0⟩
    obtain rfl := hw0.symm
    go_wp2_with fail
    refine C.mono ?_
    rintro e w1 ⟨rfl, hw⟩
    obtain rfl := hw.symm
    clear C
    go_wp2
    go_ret
    exact ⟨by rw [E.out]; rfl, hal⟩
  | false =>
    by_cases h16 : 16 < l
    · have E : Hid (bbad n a = 1) := by (show bbad n a = 1); unfold bbad; rw [← HB.out, ← HL.out, if_neg (by simp), if_pos h16]
      go_enter Tryz.func70, Tryz.ntmps70
      go_wp2_with fail
      refine S.mono ?_
      rintro e0 w0 ⟨rfl, hw0⟩
      obtain rfl := hw0.symm
      go_wp2_with fail
      refine C.mono ?_
      rintro e w1 ⟨rfl, hw⟩
      obtain rfl := hw.symm
      clear C
      go_wp2
      go_ret
      exact ⟨by rw [E.out]; rfl, hal⟩
    · have E : Hid (bbad n a = 0) := by (show bbad n a = 0); unfold bbad; rw [← HB.out, ← HL.out, if_neg (by simp), if_neg h16]
      go_enter Tryz.func70, Tryz.ntmps70
      go_wp2_with fail
      refine S.mono ?_
      rintro e0 w0 ⟨rfl, hw0⟩
      obtain rfl := hw0.symm
      go_wp2_with fail
      refine C.mono ?_
      rintro e w1 ⟨rfl, hw⟩
      obtain rfl := hw.symm
      clear C
      go_wp2
      go_ret
      exact ⟨by rw [E.out]; rfl, hal⟩
end Go.Proofs.YtilfjahbdlepjaaGreatDoor

/- What block.Check answers (BlkB), beside lists of lists in memory. -/

/- What block.addTimes and block.Times do: by walks over the program. -/
namespace Go.Proofs.YtilfjahbdlepjaaGreatDoor
open Go.ChangeShapes Go.WideShapes Go.ChangeAt Go.RowKit El Pol Mx
theorem sb_row (f : Nat → El) (q k : Nat) (h : k < (sb (row f q)).size) : ((sb (row f q))[k]'h).toNat = (f k).val := by
  rw [sb_at]
  rw [sb_size, row_length] at h
  rw [co_row_lt _ h]
set_option maxHeartbeats 1000000 in
theorem cadd_any (B g cp q : Nat) (f h : Nat → El) (c : El) (w : World) (hq : q ≤ 1000) (hO : Ow B w (.slice (some ⟨g, 0, none⟩) q cp) (row f q)) :
    Calls Tryz.prog 104 #[.slice (some ⟨g, 0, none⟩) q cp, st (row h q), .int .u8 ((c.val : Nat) : Int)] w fun e w' => e = .returned (.tuple #[]) ∧ Ow B w' (.slice (some ⟨g, 0, none⟩) q cp) (row (fun j => pl (f j) (ti (h j) c)) q) ∧ w.grownBy w' (some g) := by
  have hs := sb_size (row h q)
  rw [row_length] at hs
  have HS : Hid (∀ k (hk : k < (sb (row h q)).size), ((sb (row h q))[k]'hk).toNat = (h k).val) := fun k hk => sb_row h q k hk
  unfold st
  generalize sb (row h q) = s at *
  have hB : w.grownBy w (some g) := grownBy_refl _ _
  have hA : Ow B w (.slice (some ⟨g, 0, none⟩) q cp) (row (part f h c 0) q) := by rw [part_zero]; exact hO
  clear hO
  go_enter Tryz.func104, Tryz.ntmps104
  go_wp2
  go_loopw [12] (fun t wr => ∃ k : Nat, k ≤ q ∧ t = .int .i64 k ∧ Ow B wr (.slice (some ⟨g, 0, none⟩) q cp) (row (part f h c k) q) ∧ w.grownBy wr (some g)) (fun t _ => q - (intOf t).toNat)
  case atStart => exact ⟨0, Nat.zero_le _, rfl, hA, hB⟩
  case round =>
    clear hA hB
    obtain ⟨k, hk, rfl, hA, hB⟩ := hrel
    by_cases hlt : k < q
    · have hks : k < s.size := by rw [hs]; exact hlt
      have hsk := HS.out k hks
      have hcell2 := hA.cell (by rw [row_length]) k hlt
      rw [co_row_lt _ hlt, part_at] at hcell2
      have hfree := hA.free (by rw [row_length]) k
      have R := put_el hA hB (part_step f h c q k)
      clear hA hB
      generalize f k = y at *
      generalize h k = x at *
      go_wp2
      go_region_with (first | (go_at_call 95; refine (mul_any _ _ x.isLt c.isLt _).mono ?_; rintro e w1 ⟨rfl, rfl⟩) | (go_at_call 107; refine (add_any _ _ y.isLt (ti x c).isLt _).mono ?_; rintro e w1 ⟨rfl, rfl⟩))
      all_goals
        have R1 : Ow B (wr.setCell ⟨g, k, none⟩ (.int .u8 ((y.val ^^^ (ti x c).val : Nat) : Int))).drew (.slice (some ⟨g, 0, none⟩) q cp) (row (part f h c (k + 1)) q) := R.1.old ⟨rfl, rfl, rfl, Nat.le_refl _, fun _ _ => rfl⟩
        have R2 : w.grownBy (wr.setCell ⟨g, k, none⟩ (.int .u8 ((y.val ^^^ (ti x c).val : Nat) : Int))).drew (some g) := grownBy_drew R.2
        clear hsk hcell2 hfree R
        go_wp2
        go_roundw
        case rel => exact ⟨k + 1, by omega, by go_num, R1, R2⟩
        case measure => simp [intOf]; omega
    · have hF : Ow B wr (.slice (some ⟨g, 0, none⟩) q cp) (row (fun j => pl (f j) (ti (h j) c)) q) := by
        rw [row_congr (g := part f h c k) (fun j hj => by unfold part; rw [if_pos (by omega)])]; exact hA
      clear hA
      go_wp2
      go_end0
      exact ⟨rfl, hF, hB⟩
end Go.Proofs.YtilfjahbdlepjaaGreatDoor

/- A part of a list that is read. -/
namespace Go.Proofs.YtilfjahbdlepjaaGreatDoor
open Go.RowKit El Pol Mx
theorem Rd.part {w : World} {g n cap k : Nat} {f : Nat → El} (h : Rd w (.slice (some ⟨g, 0, none⟩) n cap) (row f n)) (hk : k ≤ n) : Rd w (.slice (some ⟨g, 0, none⟩) k cap) (row f k) := by
  rcases h with ⟨e, _⟩ | ⟨ad', cap', e, h1, h2, h3⟩
  · cases e
  · simp only [Value.slice.injEq, Option.some.injEq] at e
    obtain ⟨rfl, _, rfl⟩ := e
    rw [row_length] at h1 h3
    refine .inr ⟨_, cap, by rw [row_length], by rw [row_length]; omega, h2, fun i hi => ?_⟩
    rw [row_length] at hi
    rw [h3 i (by omega), co_row_lt _ (by omega), co_row_lt _ hi]
theorem Rd.none (w : World) (ao : Option Addr) (c : Nat) (f : Nat → El) (h : ao = Option.none → c = 0) (hc : c ≤ 9223372036854775807) : Rd w (.slice ao 0 c) (row f 0) := by
  cases ao with
  | none => exact .inl ⟨by rw [h rfl], rfl⟩
  | some ad => exact .inr ⟨ad, c, rfl, Nat.zero_le _, hc, fun i hi => absurd hi (Nat.not_lt_zero _)⟩
end Go.Proofs.YtilfjahbdlepjaaGreatDoor

/- What block.leftOf answers, of texts and of rows: by walks over the program. -/
namespace Go.Proofs.YtilfjahbdlepjaaGreatDoor
open Go.ChangeShapes Go.WideShapes Go.ChangeAt Go.RowKit El Pol Mx
set_option maxRecDepth 100000 in
set_option maxHeartbeats 1000000 in
theorem left_texts (v lv : Value) (n : Nat) (f : Nat → Value) (lost : Nat → Bool) (w : World) (hv : RdF w v n f) (hl : RdF w lv n (fun i => .bool (lost i))) (hn : n ≤ 12) (hf : ∀ i, i < n → ∃ s, f i = .string s) :
    Calls Tryz.prog 100 #[v, lv] w fun e w' => ∃ v', e = .returned v' ∧ OwL w.heap.size 9 w' v' ((ix lost n).map f) ∧ Below w.heap.size w w' := by
  obtain ⟨j0, hj, hy0, hy1, hy2⟩ := info_parts infoT
  have HV : Hid (RdF w v n f) := hv
  have HL : Hid (RdF w lv n (fun i => .bool (lost i))) := hl
  have HF : Hid (∀ i, i < n → ∃ s, f i = .string s) := hf
  obtain ⟨a1, c1, rfl, _, _⟩ := hv.len
  obtain ⟨a2, c2, rfl, _, _⟩ := hl.len
  clear hv hl hf
  go_enter Tryz.func100, Tryz.ntmps100
  go_wp2
  go_loopw [5, 10] (fun o t wr => ∃ k : Nat, k ≤ n ∧ t = .int .i64 k ∧ OwL w.heap.size 9 wr o ((ix lost k).map f) ∧ Below w.heap.size w wr) (fun _ t _ => n - (intOf t).toNat)
  case atStart => exact ⟨0, Nat.zero_le _, rfl, World.ownsRow_nil _ _ _ _, Below.refl _ _⟩
  case round =>
    obtain ⟨k, hk, rfl, hO, hB⟩ := hrel
    obtain ⟨ao, co0, rfl⟩ := OwL.len hO
    by_cases hlt : k < n
    · obtain ⟨ad, rfl, hc⟩ := (HV.out.old hB).at k hlt
      obtain ⟨ad2, rfl, hc2⟩ := (HL.out.old hB).at k hlt
      obtain ⟨s, hs⟩ := HF.out k hlt
      rw [hs] at hc
      obtain ⟨b, hb⟩ : ∃ b, b = lost k := ⟨_, rfl⟩
      rw [← hb] at hc2
      have HK : Hid (b = lost k) := hb
      have HS : Hid (f k = .string s) := hs
      clear hb hs
      have hle := ix_le lost k
      cases b with
      | true =>
        have hO2 : OwL w.heap.size 9 wr (.slice ao ((ix lost k).map f).length co0) ((ix lost (k + 1)).map f) := by rw [ix, ← HK.out, if_pos rfl]; exact hO
        clear hO
        go_wp2
        go_roundw
        case rel => exact ⟨k + 1, by omega, by go_num, by (first | exact hO2 | (rw [List.length_map] at hO2; exact hO2)), hB⟩
        case measure => simp [intOf]; omega
      | false =>
        have hsz := hB.size
        have HO2 : Hid (∀ (v' : Value) (w' : World), w'.ownsRow w.heap.size 9 1 v' (((ix lost k).map f).length + 1) ((ix lost k).map f ++ [.string s]) → OwL w.heap.size 9 w' v' ((ix lost (k + 1)).map f)) := by
          intro v' w' h
          have e : (ix lost (k + 1)).map f = (ix lost k).map f ++ [.string s] := by rw [ix, ← HK.out, if_neg (by simp), List.map_append, List.map_cons, List.map_nil, HS.out]
          unfold OwL
          rw [e, List.length_append]
          exact h
        have hln : ((ix lost k).map f).length ≤ 12 := by rw [List.length_map]; omega
        generalize (ix lost k).map f = xs at *
        go_wp2_with (first | (at_builtin; refine wpList_append_own _ rfl _ _ 48 rfl w.heap.size 9 j0 (.string ⟨#[]⟩) 1 16 Tryz.underlying48 hj hy0 hy1 hy2 rfl (by decide) _ _ _ rfl (World.ownsRow.alloc hO _) ⟨wr.heap.size, 0, none⟩ 1 1 [.string s] rfl rfl (one_cell _) (by intro u hu; simp at hu; subst hu; rfl) (by unfold maxLen; omega) (by omega) (by simp; omega) ?_))
        intro v' w3 hown hgrow _
        have hO3 := HO2.out v' w3 hown
        have hB3 : Below w.heap.size w w3 := (hB.alloc hsz _).grown hgrow (by simp; omega) (fun g hg => (World.ownsRow.lt hO g hg).1)
        clear hown hgrow hO hB HO2
        go_wp2
        go_roundw
        case rel => exact ⟨k + 1, by omega, by go_num, hO3, hB3⟩
        case measure => simp [intOf]; omega
    · have hF : OwL w.heap.size 9 wr (.slice ao ((ix lost k).map f).length co0) ((ix lost n).map f) := by rw [show n = k by omega]; exact hO
      clear hO
      go_wp2
      go_ret
      exact ⟨_, rfl, hF, hB⟩
set_option maxRecDepth 100000 in
set_option maxHeartbeats 1000000 in
theorem left_rows (v lv : Value) (n : Nat) (f : Nat → Value) (lost : Nat → Bool) (w : World) (hv : RdF w v n f) (hl : RdF w lv n (fun i => .bool (lost i))) (hn : n ≤ 12) (hf : ∀ i, i < n → ∃ a l c, f i = .slice a l c) :
    Calls Tryz.prog 101 #[v, lv] w fun e w' => ∃ v', e = .returned v' ∧ OwL w.heap.size 82 w' v' ((ix lost n).map f) ∧ Below w.heap.size w w' := by
  obtain ⟨j0, hj, hy0, hy1, hy2⟩ := info_parts infoS
  have HV : Hid (RdF w v n f) := hv
  have HL : Hid (RdF w lv n (fun i => .bool (lost i))) := hl
  have HF : Hid (∀ i, i < n → ∃ a l c, f i = .slice a l c) := hf
  obtain ⟨a1, c1, rfl, _, _⟩ := hv.len
  obtain ⟨a2, c2, rfl, _, _⟩ := hl.len
  clear hv hl hf
  go_enter Tryz.func101, Tryz.ntmps101
  go_wp2
  go_loopw [5, 10] (fun o t wr => ∃ k : Nat, k ≤ n ∧ t = .int .i64 k ∧ OwL w.heap.size 82 wr o ((ix lost k).map f) ∧ Below w.heap.size w wr) (fun _ t _ => n - (intOf t).toNat)
  case atStart => exact ⟨0, Nat.zero_le _, rfl, World.ownsRow_nil _ _ _ _, Below.refl _ _⟩
  case round =>
    obtain ⟨k, hk, rfl, hO, hB⟩ := hrel
    obtain ⟨ao, co0, rfl⟩ := OwL.len hO
    by_cases hlt : k < n
    · obtain ⟨ad, rfl, hc⟩ := (HV.out.old hB).at k hlt
      obtain ⟨ad2, rfl, hc2⟩ := (HL.out.old hB).at k hlt
      obtain ⟨av, lv, cv, hs⟩ := HF.out k hlt
      rw [hs] at hc
      obtain ⟨b, hb⟩ : ∃ b, b = lost k := ⟨_, rfl⟩
      rw [← hb] at hc2
      have HK : Hid (b = lost k) := hb
      have HS : Hid (f k = .slice av lv cv) := hs
      clear hb hs
      have hle := ix_le lost k
      cases b with
      | true =>
        have hO2 : OwL w.heap.size 82 wr (.slice ao ((ix lost k).map f).length co0) ((ix lost (k + 1)).map f) := by rw [ix, ← HK.out, if_pos rfl]; exact hO
        clear hO
        go_wp2
        go_roundw
        case rel => exact ⟨k + 1, by omega, by go_num, by (first | exact hO2 | (rw [List.length_map] at hO2; exact hO2)), hB⟩
        case measure => simp [intOf]; omega
      | false =>
        have hsz := hB.size
        have HO2 : Hid (∀ (v' : Value) (w' : World), w'.ownsRow w.heap.size 82 1 v' (((ix lost k).map f).length + 1) ((ix lost k).map f ++ [.slice av lv cv]) → OwL w.heap.size 82 w' v' ((ix lost (k + 1)).map f)) := by
          intro v' w' h
          have e : (ix lost (k + 1)).map f = (ix lost k).map f ++ [.slice av lv cv] := by rw [ix, ← HK.out, if_neg (by simp), List.map_append, List.map_cons, List.map_nil, HS.out]
          unfold OwL
          rw [e, List.length_append]
          exact h
        have hln : ((ix lost k).map f).length ≤ 12 := by rw [List.length_map]; omega
        generalize (ix lost k).map f = xs at *
        go_wp2_with (first | (at_builtin; refine wpList_append_own _ rfl _ _ 121 rfl w.heap.size 82 j0 (.slice none 0 0) 1 24 Tryz.underlying121 hj hy0 hy1 hy2 rfl (by decide) _ _ _ rfl (World.ownsRow.alloc hO _) ⟨wr.heap.size, 0, none⟩ 1 1 [.slice av lv cv] rfl rfl (one_cell _) (by intro u hu; simp at hu; subst hu; rfl) (by unfold maxLen; omega) (by omega) (by simp; omega) ?_))
        intro v' w3 hown hgrow _
        have hO3 := HO2.out v' w3 hown
        have hB3 : Below w.heap.size w w3 := (hB.alloc hsz _).grown hgrow (by simp; omega) (fun g hg => (World.ownsRow.lt hO g hg).1)
        clear hown hgrow hO hB HO2
        go_wp2
        go_roundw
        case rel => exact ⟨k + 1, by omega, by go_num, hO3, hB3⟩
        case measure => simp [intOf]; omega
    · have hF : OwL w.heap.size 82 wr (.slice ao ((ix lost k).map f).length co0) ((ix lost n).map f) := by rw [show n = k by omega]; exact hO
      clear hO
      go_wp2
      go_ret
      exact ⟨_, rfl, hF, hB⟩
end Go.Proofs.YtilfjahbdlepjaaGreatDoor

/- Blocks that are checked, as rows of a matrix. -/
namespace Go.Proofs.YtilfjahbdlepjaaGreatDoor
open Go.RowKit El Pol Mx
theorem blocks_ok (v : Value) (n : Nat) (a : Nat → List El) (w : World) (h : RdF w v n (fun i => st (a i))) (hn : n ≤ 8796093021952) (h0 : 1 ≤ n) (hb : bbad n a = 0) :
    Calls Tryz.prog 70 #[v] w fun e w' => e = .returned .nilIface ∧ Below w.heap.size w w' := by
  have := blocks_any v n a w h hn h0
  rw [hb] at this
  exact this
theorem blocks_bad (v : Value) (n c : Nat) (a : Nat → List El) (w : World) (h : RdF w v n (fun i => st (a i))) (hn : n ≤ 8796093021952) (h0 : 1 ≤ n) (hb : bbad n a = c) (hc : c ≠ 0) :
    Calls Tryz.prog 70 #[v] w fun e w' => e = .returned (.iface 77 (.int .i64 c)) ∧ Below w.heap.size w w' := by
  have := blocks_any v n a w h hn h0
  rw [hb, show errV c = .iface 77 (.int .i64 c) from if_neg hc] at this
  exact this
/-- blocks of one length are rows of a matrix -/
theorem blocks_rows {w : World} {v : Value} {n L : Nat} {a : Nat → List El} (h : RdF w v n (fun i => st (a i))) (hl : ∀ i, i < n → (a i).length = L) : RdF w v n (fun i => st (row (mx a i) L)) :=
  h.congr (fun i hi => by
    show st (a i) = st (row (co (a i)) L)
    rw [← hl i hi, row_co])
end Go.Proofs.YtilfjahbdlepjaaGreatDoor

/- What block.Times answers: by a walk over the program. -/
namespace Go.Proofs.YtilfjahbdlepjaaGreatDoor
open Go.ChangeShapes Go.WideShapes Go.ChangeAt Go.RowKit El Pol Mx
/-- the first k texts are made -/
def made (T : M) (L k : Nat) : Nat → Value := fun i => if i < k then st (row (T i) L) else .string ⟨#[]⟩
theorem made_up (T : M) (L k : Nat) : up (made T L k) k (st (row (T k) L)) = made T L (k + 1) := by
  funext i
  unfold up made
  by_cases e : i = k
  · rw [if_pos e, if_pos (by omega), e]
  · rw [if_neg e]
    by_cases h : i < k
    · rw [if_pos h, if_pos (by omega)]
    · rw [if_neg h, if_neg (by omega)]
theorem made_all (T : M) (L p : Nat) : (List.range p).map (made T L p) = (List.range p).map (fun i => st (row (T i) L)) :=
  List.map_congr_left (fun i hi => by unfold made; rw [if_pos (List.mem_range.1 hi)])
theorem made_none (T : M) (L p : Nat) : (List.range p).map (made T L 0) = List.replicate p (.string ⟨#[]⟩) := by
  apply List.ext_getElem <;> simp [made]
set_option maxRecDepth 100000 in
set_option maxHeartbeats 2000000 in
theorem times_any (u v : Value) (p q n L : Nat) (A D : M) (w : World) (hu : RdM w u p (rws A q)) (hv : RdF w v n (fun i => st (row (D i) L))) (hqn : q ≤ n) (h0 : 0 < p → 0 < n) (hp : p ≤ 12) (hL : L ≤ 16) :
    Calls Tryz.prog 90 #[u, v] w fun e w' => ∃ v', e = .returned v' ∧ w'.ownsRow w.heap.size 9 1 v' p ((List.range p).map (fun i => st (row (mm q A D i) L))) ∧ Below w.heap.size w w' := by
  obtain ⟨i0, hi, hz0, hz1, hz2⟩ := info_parts info8
  obtain ⟨j0, hj, hy0, hy1, hy2⟩ := info_parts infoT
  have HU : Hid (RdM w u p (rws A q)) := hu
  have HV : Hid (RdF w v n (fun i => st (row (D i) L))) := hv
  have H0 : Hid (0 < p → 0 < n) := h0
  obtain ⟨a1, c1, rfl, _, _⟩ := hu.len
  obtain ⟨a2, c2, rfl, _, _⟩ := hv.len
  clear hu hv h0
  go_enter Tryz.func90, Tryz.ntmps90
  go_wp2_with (first | (at_make; refine wpList_make_full _ rfl _ _ 48 rfl w.heap.size 9 j0 (.string ⟨#[]⟩) 1 Tryz.underlying48 hj hy0 hy1 _ _ _ _ p rfl rfl rfl rfl (by rw [hy2]; omega) (by unfold maxLen; omega) (Nat.le_refl _) ?_))
  intro w1 hown hgrow
  have hA : w1.ownsRow w.heap.size 9 1 (.slice (some ⟨w.heap.size, 0, none⟩) p p) p ((List.range p).map (made (mm q A D) L 0)) := by
    rw [made_none]
    have := hown
    rw [toList_madeCells_one] at this
    exact this
  have hB : Below w.heap.size w w1 := below_of_grown hgrow
  clear hown hgrow
  go_wp2
  go_loopw [15] (fun t wr => ∃ k : Nat, k ≤ p ∧ t = .int .i64 k ∧ wr.ownsRow w.heap.size 9 1 (.slice (some ⟨w.heap.size, 0, none⟩) p p) p ((List.range p).map (made (mm q A D) L k)) ∧ Below w.heap.size w wr) (fun t _ => p - (intOf t).toNat)
  case atStart => exact ⟨0, Nat.zero_le _, rfl, hA, hB⟩
  case round =>
    clear hA hB
    obtain ⟨k, hk, rfl, hA, hB⟩ := hrel
    by_cases hlt : k < p
    · have hn0 := H0.out (by omega)
      obtain ⟨ad, av, cv, rfl, hcell, hrd⟩ := (HU.out.old hB).some k hlt
      rw [row_length] at hcell hrd
      obtain ⟨ad2, rfl, hc0⟩ := (HV.out.old hB).at 0 hn0
      have S := size_any (.slice (some ad2) n c2) n (fun i => row (D i) L) wr (HV.out.old hB) hn0
      rw [row_length] at S
      have hsw := hB.size
      rename World => wo
      go_wp2_with fail
      refine S.mono ?_
      rintro e0 w0 ⟨rfl, hw0⟩
      obtain rfl := hw0.symm
      clear S
      go_wp2_with (first | (at_make; refine wpList_make_full _ rfl _ _ 82 rfl wo.heap.size 5 i0 (.int .u8 0) 1 Tryz.underlying82 hi hz0 hz1 _ _ _ _ L rfl rfl rfl rfl (by rw [hz2]; omega) (by unfold maxLen; omega) (Nat.le_refl _) ?_))
      intro w2 hown hgrow
      have hO : Ow wo.heap.size w2 (.slice (some ⟨wo.heap.size, 0, none⟩) L L) (row (fun l => sm 0 (fun x => ti (A k x) (D x l))) L) := by
        rw [show row (fun l => sm 0 (fun x => ti (A k x) (D x l))) L = row (fun _ => 0) L from rfl, ← replicate_row]; exact Ow.made hown
      have hB2 := below_of_grown hgrow
      have HA : Hid (wo.ownsRow w.heap.size 9 1 (.slice (some ⟨w.heap.size, 0, none⟩) p p) p ((List.range p).map (made (mm q A D) L k))) := hA
      have HB : Hid (Below w.heap.size w wo) := hB
      have HR : Hid (Rd wo (.slice av q cv) (row (A k) q)) := hrd
      clear hown hgrow hA hB hcell hc0 hrd
      have hmin : min (q : Int) (n : Int) = (q : Int) := by omega
      go_wp2
      go_loopw [28] (fun t wq => ∃ j : Nat, j ≤ q ∧ t = .int .i64 j ∧ Ow wo.heap.size wq (.slice (some ⟨wo.heap.size, 0, none⟩) L L) (row (fun l => sm j (fun x => ti (A k x) (D x l))) L) ∧ Below wo.heap.size wo wq) (fun t _ => q - (intOf t).toNat)
      case atStart => exact ⟨0, Nat.zero_le _, rfl, hO, hB2⟩
      case round =>
        clear hO hB2
        obtain ⟨j, hj', rfl, hO, hB2⟩ := hrel
        by_cases hjq : j < q
        · have hBw := HB.out.trans (hB2.mono hsw)
          obtain ⟨adr, rfl, hx⟩ := (HR.out.old hB2).at j (by rw [row_length]; exact hjq)
          rw [co_row_lt _ hjq] at hx
          obtain ⟨ad3, e3, hc3⟩ := (HV.out.old hBw).at j (by omega)
          cases e3
          have C := cadd_any wo.heap.size wo.heap.size L L _ (D j) (A k j) wr.drew (by omega) (hO.old ⟨rfl, rfl, rfl, Nat.le_refl _, fun _ _ => rfl⟩)
          have HN : Hid (row (fun l => pl (sm j (fun x => ti (A k x) (D x l))) (ti (D j l) (A k j))) L = row (fun l => sm (j + 1) (fun x => ti (A k x) (D x l))) L) := row_congr (fun l _ => by rw [sm, ti_comm (D j l)])
          have hjn : j < n := by omega
          unfold st at C hc3
          generalize sb (row (D j) L) = s at *
          generalize A k j = y at *
          clear hO
          go_wp2
          go_region_with (first | (go_at_call 104; refine C.mono ?_; rintro e w3 ⟨rfl, h1, h2⟩))
          all_goals
            rw [HN.out] at h1
            have hB3 := hB2.trans (below_of_grownAt (w := wr) ⟨h2.os, h2.tape, h2.output, h2.size, h2.block⟩ hB2.size (Nat.le_refl _))
            clear C h2 hB2 hx hc3 hBw
            go_wp2
            go_roundw
            case rel => exact ⟨j + 1, by omega, by go_num, h1, hB3⟩
            case measure => simp [intOf]; omega
        · have hBw := HB.out.trans (hB2.mono hsw)
          have hE : row (fun l => sm j (fun x => ti (A k x) (D x l))) L = row (mm q A D k) L := row_congr (fun l _ => by rw [show j = q by omega]; rfl)
          rw [hE] at hO
          have hconv := run_text hO.rd 82 9 Tryz.underlying82 Tryz.underlying9
          have hA1 := ownsRow_old HA.out hB2
          have hcell := World.ownsRow.cellAt hA1 k (by omega)
          rw [range_map_at _ _ _ hlt] at hcell
          have hfree := World.ownsRow.frozenAt hA1 k
          have hP := World.ownsRow.stored hA1 k (st (row (mm q A D k) L))
          rw [set_map_up, made_up] at hP
          have hP1 := hP.1
          have hBs := hBw.trans (below_of_grownAt hP.2 hBw.size (Nat.le_refl _))
          unfold st at hconv hP1 hBs
          generalize sb (row (mm q A D k) L) = s at *
          generalize made (mm q A D) L k k = z at *
          clear hP hO hA1 hE hBw hB2
          go_wp2
          go_roundw
          case rel => exact ⟨k + 1, by omega, by go_num, hP1, hBs⟩
          case measure => simp [intOf]; omega
    · have hF : wr.ownsRow w.heap.size 9 1 (.slice (some ⟨w.heap.size, 0, none⟩) p p) p ((List.range p).map (fun i => st (row (mm q A D i) L))) := by
        rw [← made_all, show p = k by omega]
        rw [show p = k by omega] at hA
        exact hA
      clear hA
      go_wp2
      go_ret
      exact ⟨_, rfl, hF, hB⟩
end Go.Proofs.YtilfjahbdlepjaaGreatDoor

/- Rows behind rows, appended; what block.Regain answers: by walks over the program. -/
namespace Go.Proofs.YtilfjahbdlepjaaGreatDoor
open Go.ChangeShapes Go.WideShapes Go.ChangeAt Go.RowKit El Pol Mx
theorem Rd.one {w : World} {v : Value} {xs : List El} (h : Rd w v xs) : v.oneCell' = true := by
  obtain ⟨_, _, rfl, _, _⟩ := h.len
  rfl
/-- two lists whose elements are of two types are two blocks -/
theorem two_types {B B' n n' : Nat} {T T' : TypeId} {w : World} {v u : Value} {xs ys : List Value} (hT : T ≠ T') (h : w.ownsRow B T 1 v n xs) (k : w.ownsRow B' T' 1 u n' ys) : v.ownBlock = none ∨ v.ownBlock ≠ u.ownBlock := by
  rcases h.2 with ⟨rfl, _⟩ | ⟨g, cap, cur, rfl, _, hg, _⟩
  · exact .inl rfl
  · right
    rcases k.2 with ⟨rfl, _⟩ | ⟨g', cap', cur', rfl, _, hg', _⟩
    · simp [Value.ownBlock]
    · simp only [Value.ownBlock]
      intro e
      have : g = g' := Option.some.inj e
      subst this
      rw [hg] at hg'
      simp at hg'
      exact hT hg'.2
theorem keep_type {B B' n n' : Nat} {T T' : TypeId} {w w' : World} {v u : Value} {xs ys : List Value} (hT : T ≠ T') (h : w.ownsRow B T 1 v n xs) (k : w.ownsRow B' T' 1 u n' ys) (hg : w.grownBy w' v.ownBlock) : w'.ownsRow B' T' 1 u n' ys :=
  World.ownsRow.kept k hg (by
    rcases two_types hT h k with e | e
    · rw [e]; cases u.ownBlock <;> simp
    · exact .inr (fun q => e q.symm))
/-- rows behind rows -/
theorem join_rows {B k m : Nat} {w w' : World} {v1 v3 : Value} {a b : Nat → List El} {r1 r2 : Nat → Value} (h1 : OwM B w v1 k a r1) (h2 : ∀ i, i < m → Rd w' (r2 i) (b i)) (hg : w.grownBy w' v1.ownBlock)
    (ho : w'.ownsRow B 82 1 v3 (k + m) ((List.range k).map r1 ++ (List.range m).map r2)) : RdM w' v3 (k + m) (fun i => if i < k then a i else b (i - k)) := by
  have kept : ∀ {u : Value} {ys : List El}, Ow B w u ys → Ow B w' u ys := fun {u ys} q => World.ownsRow.kept q hg (by
    rcases own_types h1.out q with e | e
    · rw [e]; cases u.ownBlock <;> simp
    · exact .inr (fun q => e q.symm))
  refine RdF.rdM (rv := fun i => if i < k then r1 i else r2 (i - k)) (OwL.rdF ho (fun i hi => ?_)) (fun i hi => ?_)
  · by_cases h : i < k
    · rw [if_pos h, List.getElem?_append_left (by simpa using h)]
      exact range_map_at r1 k i h
    · rw [if_neg h, List.getElem?_append_right (by simp; omega)]
      simp only [List.length_map, List.length_range]
      exact range_map_at r2 m (i - k) (by omega)
  · by_cases h : i < k
    · rw [if_pos h, if_pos h]; exact (kept (h1.row i h)).rd
    · rw [if_neg h, if_neg h]; exact h2 (i - k) (by omega)
/-- rows behind rows, appended -/
theorem wpList_append_rows {w : World} {ops : Array Oper} {rest : List Oper} {o : Oper} {a : Act} {Q : Exit → Act → World → Prop} (hgd : o.guard = none) (s x : Operand)
    (ho : o.op = .call { callee := .builtin .append, args := #[s, x], argTypes := #[121, 121] })
    (B : Nat) (v1 v2 : Value) (k m : Nat) (A T : Nat → List El) (r1 r2 : Nat → Value) (hs : a.eval s = v1) (h1 : OwM B w v1 k A r1) (hx : a.eval x = v2) (h2 : RdF w v2 m r2) (h3 : ∀ w', w.grownBy w' v1.ownBlock → ∀ i, i < m → Rd w' (r2 i) (T i)) (hk : k ≤ 1000) (hm : m ≤ 1000) (hB : B ≤ w.heap.size)
    (h : ∀ v' w', RdM w' v' (k + m) (fun i => if i < k then A i else T (i - k)) → w.grownBy w' v1.ownBlock → wpList Tryz.prog ops Q rest (a.put o.dst v') w') : wpList Tryz.prog ops Q (o :: rest) a w := by
  obtain ⟨i0, hi, hz0, hz1, hz2⟩ := info_parts infoS
  rcases h2 with ⟨rfl, e⟩ | ⟨ad, cap, rfl, _, _, hc⟩
  · refine wpList_append_own_none hgd s x _ ho B 82 i0 1 Tryz.underlying121 hi v1 _ _ hs h1.out hx (h v1 w (join_rows h1 (h3 w (grownBy_refl _ _)) (grownBy_refl _ _) ?_) (grownBy_refl _ _))
    subst e
    simpa using h1.out
  · refine wpList_append_own (P := Tryz.prog) w hgd s x _ ho B 82 i0 (.slice none 0 0) 1 24 Tryz.underlying121 hi hz0 hz1 hz2 rfl (by decide) v1 _ _ hs h1.out ad m cap ((List.range m).map r2) hx (by simp) (fun j y hj => ?_) (fun u hu => ?_) (by unfold maxLen; omega) (by omega) hB (fun v' w' h4 h5 _ => h v' w' (join_rows h1 (h3 w' h5) h5 h4) h5)
    · have hjm : j < m := by
        have := (List.getElem?_eq_some_iff.1 hj).1
        simpa using this
      rw [hc j hjm, ← hj]
      simp [hjm]
    · obtain ⟨i, hi', rfl⟩ := List.mem_map.1 hu
      exact (h3 w (grownBy_refl _ _) i (List.mem_range.1 hi')).one
theorem RdM.cut {w : World} {ao : Option Addr} {m n k cap : Nat} {a : Nat → List El} (h : RdM w (.slice ao m cap) n a) (hk : k ≤ n) : RdM w (.slice ao k cap) k a := by
  obtain ⟨rv, h1, h2⟩ := h.rdF
  exact (h1.cut hk).rdM (fun i hi => h2 i (by omega))
/-- the fault of those that are left -/
def df (k n : Nat) (a : Nat → List El) (lost : Nat → Bool) : Nat := if (ix lost n).length < k then 8 else bbad (ix lost n).length (fun i => a (at' lost n i))
theorem left_rd {B n : Nat} {w : World} {v : Value} {T : TypeId} {f : Nat → Value} {lost : Nat → Bool} (h : OwL B T w v ((ix lost n).map f)) : RdF w v (ix lost n).length (fun i => f (at' lost n i)) := by
  have h2 := h
  unfold OwL at h2
  rw [List.length_map] at h2
  exact OwL.rdF h2 (fun i hi => at_map _ hi)
set_option maxRecDepth 100000 in
set_option maxHeartbeats 1000000 in
theorem regain_bad (k m : Nat) (h1 : 1 ≤ k) (h2 : k + m ≤ 12) (u v lv : Value) (R : Nat → List El) (a : Nat → List El) (lost : Nat → Bool) (c : Nat) (w : World) (hu : RdM w u m R) (h : RdF w v (k + m) (fun i => st (a i))) (hl : RdF w lv (k + m) (fun i => .bool (lost i)))
    (hc : df k (k + m) a lost = c) (h0 : c ≠ 0) :
    Calls Tryz.prog 86 #[u, v, lv] w fun e w' => e = .returned (.tuple #[.slice none 0 0, .iface 77 (.int .i64 c)]) ∧ Below w.heap.size w w' := by
  obtain ⟨au, cu, rfl, _, _⟩ := hu.len
  obtain ⟨ao, cap, rfl, _, _⟩ := h.len
  obtain ⟨al, cl, rfl, _, _⟩ := hl.len
  have hle := ix_le lost (k + m)
  unfold df at hc
  by_cases h8 : (ix lost (k + m)).length < k
  · rw [if_pos h8] at hc
    subst hc
    go_enter Tryz.func86, Tryz.ntmps86
    go_wp2_with fail
    refine (identity_ok k h1 (by omega) _).mono ?_
    rintro e w1 ⟨v1, r1, rfl, hO1, hB1⟩
    have hh := h.old hB1
    have hhl := hl.old hB1
    have D := left_texts _ _ (k + m) _ lost w1 hh hhl (by omega) (fun i _ => ⟨_, rfl⟩)
    obtain ⟨a1, c1, rfl, _, _⟩ := hO1.rd.len
    clear hu hh hhl hO1
    go_wp2_with fail
    refine D.mono ?_
    rintro e w2 ⟨v2, rfl, hO, hB⟩
    have hB2 := hB1.trans (hB.mono hB1.size)
    obtain ⟨a2, c2, rfl⟩ := OwL.len hO
    rw [List.length_map] at hO ⊢
    clear D hO h hl hB hB1
    generalize (ix lost (k + m)).length = n at *
    go_wp2
    go_ret2
    exact ⟨rfl, hB2⟩
  · rw [if_neg h8] at hc
    go_enter Tryz.func86, Tryz.ntmps86
    go_wp2_with fail
    refine (identity_ok k h1 (by omega) _).mono ?_
    rintro e w1 ⟨v1, r1, rfl, hO1, hB1⟩
    have hh := h.old hB1
    have hhl := hl.old hB1
    have D := left_texts _ _ (k + m) _ lost w1 hh hhl (by omega) (fun i _ => ⟨_, rfl⟩)
    obtain ⟨a1, c1, rfl, _, _⟩ := hO1.rd.len
    clear hu hh hhl hO1
    go_wp2_with fail
    refine D.mono ?_
    rintro e w2 ⟨v2, rfl, hO, hB⟩
    have hB2 := hB1.trans (hB.mono hB1.size)
    have hR := left_rd hO
    have E := blocks_bad v2 _ c _ w2 hR (by omega) (by omega) hc h0
    obtain ⟨a2, c2, rfl, _, _⟩ := hR.len
    clear D hO hR hc h hl hB hB1
    generalize (ix lost (k + m)).length = n at *
    go_wp2_with fail
    refine E.mono ?_
    rintro e w3 ⟨rfl, hB3⟩
    have hB4 := hB2.trans (hB3.mono hB2.size)
    clear E hB2 hB3
    go_wp2
    go_ret2
    exact ⟨rfl, hB4⟩
set_option maxRecDepth 100000 in
set_option maxHeartbeats 2000000 in
theorem regain_ok (k m L : Nat) (h1 : 1 ≤ k) (h2 : k + m ≤ 12) (u v lv : Value) (P : M) (a : Nat → List El) (lost : Nat → Bool) (w : World) (hu : RdM w u m (rws P k)) (h : RdF w v (k + m) (fun i => st (a i))) (hl : RdF w lv (k + m) (fun i => .bool (lost i)))
    (hk : k ≤ (ix lost (k + m)).length) (hL : ∀ i, i < (ix lost (k + m)).length → (a (at' lost (k + m) i)).length = L) (hL16 : L ≤ 16) (hS : ¬ Sing k (fun i j => gp k P (at' lost (k + m) i) j)) :
    Calls Tryz.prog 86 #[u, v, lv] w fun e w' => ∃ (v' : Value) (T : M), e = .returned (.tuple #[v', .nilIface]) ∧ Inv k (fun i j => gp k P (at' lost (k + m) i) j) T ∧
      w'.ownsRow w.heap.size 9 1 v' k ((List.range k).map (fun i => st (row (mm k T (mx (fun i => a (at' lost (k + m) i))) i) L))) ∧ Below w.heap.size w w' := by
  have HL : Hid (RdF w lv (k + m) (fun i => .bool (lost i))) := hl
  have HU : Hid (RdM w u m (rws P k)) := hu
  have HLL : Hid (∀ i, i < (ix lost (k + m)).length → (a (at' lost (k + m) i)).length = L) := hL
  have HS : Hid (¬ Sing k (fun i j => gp k P (at' lost (k + m) i) j)) := hS
  obtain ⟨au, cu, rfl, _, _⟩ := hu.len
  obtain ⟨ao, cap, rfl, _, _⟩ := h.len
  obtain ⟨al, cl, rfl, _, _⟩ := hl.len
  have hle := ix_le lost (k + m)
  clear hL hu hS
  go_enter Tryz.func86, Tryz.ntmps86
  go_wp2_with fail
  refine (identity_ok k h1 (by omega) _).mono ?_
  rintro e w1 ⟨v1, r1, rfl, hO1, hB1⟩
  have hh := h.old hB1
  have hhl := hl.old hB1
  have D := left_texts _ _ (k + m) _ lost w1 hh hhl (by omega) (fun i _ => ⟨_, rfl⟩)
  obtain ⟨a1, c1, rfl, _, _⟩ := hO1.rd.len
  have HO1 : Hid (OwM w.heap.size w1 (.slice a1 k c1) k (rws one k) r1) := hO1
  clear h hl hh hhl hO1
  go_wp2_with fail
  refine D.mono ?_
  rintro e w2 ⟨v2, rfl, hO, hB2⟩
  have hR := left_rd hO
  obtain ⟨n, hn⟩ : ∃ n, n = (ix lost (k + m)).length := ⟨_, rfl⟩
  have HO2 : Hid (w2.ownsRow w1.heap.size 9 1 v2 n ((ix lost (k + m)).map (fun i => st (a i)))) := by
    (show w2.ownsRow _ _ _ _ _ _)
    have := hO
    unfold OwL at this
    rwa [List.length_map, ← hn] at this
  rw [← hn] at hR hk hle
  have HN : Hid (n = (ix lost (k + m)).length) := hn
  clear hn D hO
  have E := blocks_ok v2 n _ w2 hR (by omega) (by omega) (bbad_of (fun i hi => by rw [HLL.out i (by rw [← HN.out]; exact hi), HLL.out 0 (by rw [← HN.out]; omega)]) (by rw [HLL.out 0 (by rw [← HN.out]; omega)]; exact hL16))
  have HX : Hid (∀ W : World, W.ownsRow w1.heap.size 9 1 v2 n ((ix lost (k + m)).map (fun i => st (a i))) → RdF W v2 n (fun i => st (row (mx (fun i => a (at' lost (k + m) i)) i) L))) := fun W hW =>
    blocks_rows (OwL.rdF (f := fun i => st (a (at' lost (k + m) i))) hW (fun i hi => at_map _ (by rw [← HN.out]; exact hi))) (fun i hi => HLL.out i (by rw [← HN.out]; exact hi))
  obtain ⟨ao2, c2, rfl, hnc2, _⟩ := hR.len
  obtain ⟨ad2, rfl, _⟩ := hR.at 0 (by omega)
  have had2 := add_zero ad2
  clear hR
  have hge : ¬ ((n : Int) < (k : Int)) := by omega
  go_wp2_with fail
  refine E.mono ?_
  rintro e w3 ⟨rfl, hB3⟩
  have hB13 := hB2.trans (hB3.mono hB2.size)
  have hB03 := hB1.trans (hB13.mono hB1.size)
  have hO3 := HO1.out.old hB13
  have HO3 : Hid (w3.ownsRow w1.heap.size 9 1 (.slice (some ad2) n c2) n ((ix lost (k + m)).map (fun i => st (a i)))) := ownsRow_old HO2.out hB3
  obtain ⟨r2, hF0, hRow0⟩ := HU.out.rdF
  have hF2 := hF0.old hB03
  have HRow0 : Hid (∀ i, i < m → Rd w (r2 i) (rws P k i)) := hRow0
  clear E HO2 hB2 hB3 hRow0 hB1 hB13 HO1 hF0
  go_wp2_with (first | (at_builtin; refine wpList_append_rows rfl _ _ rfl w.heap.size _ _ k m _ (rws P k) r1 r2 rfl hO3 rfl hF2 (fun w' hg i hi => (HRow0.out i hi).old (hB03.trans (below_of_grownR hg hB03.size (fun g e => (World.ownsRow.lt hO3.out g e).1)))) (by omega) (by omega) hB03.size ?_))
  intro v4 w4 hR4 hg4
  have HO4 : Hid (w4.ownsRow w1.heap.size 9 1 (.slice (some ad2) n c2) n ((ix lost (k + m)).map (fun i => st (a i)))) := keep_type (by decide) hO3.out HO3.out hg4
  have hB04 := hB03.trans (below_of_grownR hg4 hB03.size (fun g e => (World.ownsRow.lt hO3.out g e).1))
  have hM4 : RdM w4 v4 (k + m) (rws (gp k P) k) := hR4.congr (fun i hi => by
    by_cases h : i < k
    · rw [if_pos h]; exact row_congr (fun j _ => by unfold gp; rw [if_pos h])
    · rw [if_neg h]; exact row_congr (fun j _ => by unfold gp; rw [if_neg h]))
  obtain ⟨rv4, hF4, hRow4⟩ := hM4.rdF
  have F := left_rows v4 (.slice al (k + m) cl) (k + m) rv4 lost w4 hF4 (HL.out.old hB04) (by omega) (fun i hi => by obtain ⟨x, y, e, _⟩ := (hRow4 i hi).len; exact ⟨_, _, _, e⟩)
  have HRow : Hid (∀ i, i < k + m → Rd w4 (rv4 i) (row (gp k P i) k)) := hRow4
  obtain ⟨a4, c4, rfl, _, _⟩ := hM4.len
  clear hM4 hF4 hRow4 hB03 HO3 hR4 hg4 hO3 hF2 HRow0
  go_wp2_with fail
  refine F.mono ?_
  rintro e w5 ⟨v5, rfl, hO5, hB5⟩
  have hR5 := left_rd hO5
  rw [← HN.out] at hR5
  have hM5 : RdM w5 v5 n (fun i => row (gp k P (at' lost (k + m) i)) k) := hR5.rdM (fun i hi => (HRow.out _ (at_mem (by rw [← HN.out]; exact hi)).1).old hB5)
  have hB05 := hB04.trans (hB5.mono hB04.size)
  have HO5 : Hid (w5.ownsRow w1.heap.size 9 1 (.slice (some ad2) n c2) n ((ix lost (k + m)).map (fun i => st (a i)))) := ownsRow_old HO4.out hB5
  obtain ⟨ao5, c5, rfl, hnc5, _⟩ := hR5.len
  obtain ⟨ad5, rfl, _⟩ := hR5.at 0 (by omega)
  have had5 := add_zero ad5
  have G := inverse_ok (.slice (some ad5) k c5) k (fun i j => gp k P (at' lost (k + m) i) j) w5 ⟨hM5.cut hk, by omega, by omega, fun e => e⟩ (by omega)
  clear F hO5 hR5 hM5 hB04 hB5 HO4 HRow
  go_wp2_with fail
  refine G.mono ?_
  rintro e w6 (⟨v6, T, rv6, rfl, hI, hO6, hB6⟩ | ⟨_, hS, _⟩)
  · have hB06 := hB05.trans (hB6.mono hB05.size)
    have HI : Hid (Inv k (fun i j => gp k P (at' lost (k + m) i) j) T) := hI
    have TT := times_any v6 (.slice (some ad2) k c2) k k k L T (mx (fun i => a (at' lost (k + m) i))) w6 hO6.rd ((HX.out _ (ownsRow_old HO5.out hB6)).cut hk) (Nat.le_refl _) (fun _ => by omega) (by omega) hL16
    obtain ⟨a6, c6, rfl, _, _⟩ := hO6.rd.len
    clear G hI hO6 hB05 hB6 HO5
    go_wp2_with fail
    refine TT.mono ?_
    rintro e w7 ⟨v7, rfl, hO7, hB7⟩
    have hB07 := hB06.trans (hB7.mono hB06.size)
    have hO8 := ownsRow_mono hO7 hB06.size
    clear TT hO7 hB7 hB06
    go_wp2
    go_ret2
    exact ⟨_, T, rfl, HI.out, hO8, hB07⟩
  · exact absurd hS HS.out
end Go.Proofs.YtilfjahbdlepjaaGreatDoor
