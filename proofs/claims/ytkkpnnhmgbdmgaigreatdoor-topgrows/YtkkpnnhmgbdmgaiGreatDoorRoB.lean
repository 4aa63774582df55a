/- Lists of texts of the call's own, lists of writes, and what strings.Clone, isLong and copied answer: walks over the program. -/
import Derived.Test.YtkkpnnhmgbdmgaiGreatDoorRoA
import Derived.Test.YtkkpnnhmgbdmgaiGreatDoorMe
import Derived.Test.YtkkpnnhmgbdmgaiGreatDoorGe
import Derived.Lib.BufferWrite
import Derived.Lib.UnsafeStr
import Derived.Laws.MakeOwn
namespace Go.Proofs.YtkkpnnhmgbdmgaiGreatDoor
open Go.RowKit El Pol
/-- texts of the call's own -/
abbrev OwT (B : Nat) (w : World) (v : Value) (n : Nat) (f : Nat → List El) : Prop := w.ownsRow B 9 1 v n ((List.range n).map (fun i => st (f i)))
abbrev RdT (w : World) (v : Value) (n : Nat) (f : Nat → List El) : Prop := RdF w v n (fun i => st (f i))
theorem OwT.rd {B : Nat} {w : World} {v : Value} {n : Nat} {f : Nat → List El} (h : OwT B w v n f) : RdT w v n f := OwL.rdM h
theorem OwT.len {B : Nat} {w : World} {v : Value} {n : Nat} {f : Nat → List El} (h : OwT B w v n f) : ∃ ao cap, v = .slice ao n cap := by
  rcases h.2 with ⟨rfl, e⟩ | ⟨g, cap, cur, rfl, _⟩
  · exact ⟨none, 0, by rw [e]⟩
  · exact ⟨_, cap, rfl⟩
theorem OwT.congr {B : Nat} {w : World} {v : Value} {n : Nat} {f g : Nat → List El} (h : OwT B w v n f) (e : ∀ i, i < n → f i = g i) : OwT B w v n g := by
  have : (List.range n).map (fun i => st (f i)) = (List.range n).map (fun i => st (g i)) := List.map_congr_left (fun i hi => by rw [e i (List.mem_range.1 hi)])
  unfold OwT
  rw [← this]
  exact h
theorem OwT.base {B B' : Nat} {w : World} {v : Value} {n : Nat} {f : Nat → List El} (h : OwT B w v n f) (hB : B' ≤ B) : OwT B' w v n f := by
  obtain ⟨h1, h2⟩ := h
  refine ⟨h1, ?_⟩
  rcases h2 with h2 | ⟨g, cap, cur, rfl, hg, rest⟩
  · exact .inl h2
  · exact .inr ⟨g, cap, cur, rfl, Nat.le_trans hB hg, rest⟩
theorem OwT.snoc {B : Nat} {w : World} {v : Value} {f : Nat → List El} {k : Nat} {s : Value} (h : w.ownsRow B 9 1 v (k + 1) ((List.range k).map (fun i => st (f i)) ++ [s])) (hs : s = st (f k)) : OwT B w v (k + 1) f := by
  unfold OwT
  rw [List.range_succ, List.map_append, List.map_cons, List.map_nil, ← hs]
  exact h
theorem OwT.at {B : Nat} {w : World} {v : Value} {n : Nat} {f : Nat → List El} (h : OwT B w v n f) (hn : 0 < n) : ∃ g cap, v = .slice (some ⟨g, 0, none⟩) n cap ∧ B ≤ g ∧ g < w.heap.size ∧ n ≤ cap ∧ cap ≤ 9223372036854775807 := by
  obtain ⟨_, h2⟩ := h
  rcases h2 with ⟨_, e⟩ | ⟨g, cap, cur, rfl, hb, hg, hc, hm, _⟩
  · omega
  · exact ⟨g, cap, rfl, hb, lt_of_block hg, hc, by unfold maxLen at hm; omega⟩
theorem OwT.cell {B g n cap : Nat} {w : World} {f : Nat → List El} (h : OwT B w (.slice (some ⟨g, 0, none⟩) n cap) n f) (i : Nat) (hi : i < n) : w.cell? ⟨g, i, none⟩ = some (st (f i)) := by
  rw [World.ownsRow.cellAt h i (by omega)]
  exact range_map_at _ n i hi
theorem OwT.free {B g n cap : Nat} {w : World} {f : Nat → List El} (h : OwT B w (.slice (some ⟨g, 0, none⟩) n cap) n f) (i : Nat) : w.frozen? ⟨g, i, none⟩ = false := World.ownsRow.frozenAt h i
theorem OwT.stored {B g n cap : Nat} {w : World} {f : Nat → List El} (h : OwT B w (.slice (some ⟨g, 0, none⟩) n cap) n f) (i : Nat) (x : List El) :
    OwT B (w.setCell ⟨g, i, none⟩ (st x)) (.slice (some ⟨g, 0, none⟩) n cap) n (up f i x) ∧ w.grownBy (w.setCell ⟨g, i, none⟩ (st x)) (some g) := by
  have := World.ownsRow.stored h i (st x)
  refine ⟨?_, this.2⟩
  unfold OwT
  rw [set_map_up] at this
  rw [show (fun k => st (up f i x k)) = up (fun k => st (f k)) i (st x) by funext k; unfold up; split <;> rfl]
  exact this.1
/-- the slice v reads as the writes l -/
def wat (l : List Wr) (i : Nat) : Wr := l.getD i (0, [])
def RdW (w : World) (v : Value) (l : List Wr) : Prop :=
  (v = .slice none 0 0 ∧ l = []) ∨
  ∃ ad cap, v = .slice (some ad) l.length cap ∧ l.length ≤ cap ∧ cap ≤ 9223372036854775807 ∧ ∀ i, i < l.length → w.cell? (ad.add (i * 2)) = some (.int .i64 (wat l i).1) ∧ w.cell? ((ad.add (i * 2)).add 1) = some (st (wat l i).2)
theorem RdW.old {w w' : World} {v : Value} {l : List Wr} (h : RdW w v l) (hb : Below w.heap.size w w') : RdW w' v l := by
  rcases h with h | ⟨ad, cap, rfl, h1, h2, h3⟩
  · exact .inl h
  · refine .inr ⟨ad, cap, rfl, h1, h2, fun i hi => ?_⟩
    have hc := h3 i hi
    rw [hb.cell (World.block_lt_of_cell? w _ hc.1), hb.cell (World.block_lt_of_cell? w _ hc.2)]
    exact hc
theorem RdW.but {F : Nat → Prop} {w w' : World} {v : Value} {l : List Wr} (h : RdW w v l) (hb : But F w w') (hn : ∀ k, v.ownBlock = some k → ¬ F k) : RdW w' v l := by
  rcases h with h | ⟨ad, cap, rfl, h1, h2, h3⟩
  · exact .inl h
  · refine .inr ⟨ad, cap, rfl, h1, h2, fun i hi => ?_⟩
    have hc := h3 i hi
    have e1 : ¬ F (ad.add (i * 2)).block := by rw [add_block]; exact hn _ rfl
    have e2 : ¬ F ((ad.add (i * 2)).add 1).block := by rw [add_block, add_block]; exact hn _ rfl
    rw [hb.cell (World.block_lt_of_cell? w _ hc.1) e1, hb.cell (World.block_lt_of_cell? w _ hc.2) e2]
    exact hc
theorem RdW.len {w : World} {v : Value} {l : List Wr} (h : RdW w v l) : ∃ ao cap, v = .slice ao l.length cap ∧ l.length ≤ cap ∧ cap ≤ 9223372036854775807 := by
  rcases h with ⟨rfl, rfl⟩ | ⟨ad, cap, rfl, h1, h2, _⟩
  · exact ⟨none, 0, rfl, Nat.le_refl _, by omega⟩
  · exact ⟨some ad, cap, rfl, h1, h2⟩
theorem RdW.at {w : World} {ao : Option Addr} {n cap : Nat} {l : List Wr} (h : RdW w (.slice ao n cap) l) (i : Nat) (hi : i < l.length) :
    ∃ ad, ao = some ad ∧ w.cell? (ad.add (i * 2)) = some (.int .i64 (wat l i).1) ∧ w.cell? ((ad.add (i * 2)).add 1) = some (st (wat l i).2) := by
  rcases h with ⟨_, rfl⟩ | ⟨ad, cap', he, _, _, h3⟩
  · exact absurd hi (Nat.not_lt_zero _)
  · simp only [Value.slice.injEq] at he
    obtain ⟨rfl, _, rfl⟩ := he
    exact ⟨ad, rfl, h3 i hi⟩
/-- a text of its own memory -/
theorem infoU : (Tryz.prog.info? 5).map (fun i => (i.zero, i.size, i.bytes)) = some (some (.int .u8 0), 1, 1) := by kernel_rfl
set_option maxHeartbeats 4000000 in
set_option maxRecDepth 100000 in
theorem clone_in (s : ByteArray) (w : World) (hlim : s.size ≤ 281474976710656) :
    Calls Tryz.prog 49 #[.string s] w fun e w' => e = .returned (.string s) ∧ Below w.heap.size w w' := by
  by_cases h0 : s.size = 0
  · have hs : s = ⟨#[]⟩ := by
      apply ByteArray.ext
      exact Array.eq_empty_of_size_eq_zero h0
    subst hs
    go_enter Tryz.func49, Tryz.ntmps49
    go_wp2
    go_ret
    exact ⟨rfl, Below.refl _ _⟩
  · obtain ⟨i0, hi, hz0, hz1, hz2⟩ := info_parts infoU
    have hinfo : (Tryz.prog.info? 5).map (·.size) = some 1 := by rw [hi]; simp [hz1]
    have hco : Tryz.prog.cellsOf 5 = 1 := by simp [Program.cellsOf, hi, hz1]
    obtain ⟨M, hM⟩ : ∃ M, M = madeCells (Value.int .u8 0).cells (((s.size : Nat) : Int).toNat * i0.size) := ⟨_, rfl⟩
    have hMs : M.size = s.size := by rw [hM, size_madeCells, hz1]; simp
    have hmk : ∀ W : World, (Instr.makeSlice 92 (.int .i64 (s.size : Int)) (.int .i64 (s.size : Int))).run Tryz.prog W = .ok (.slice (some ⟨W.heap.size, 0, none⟩) s.size s.size) (W.alloc (.cells M 5)) := fun W => by
      have h := run_make (P := Tryz.prog) W 92 5 i0 (.int .u8 0) Tryz.underlying92 hi hz0 .i64 .i64 (s.size : Int) (s.size : Int) (by omega) (by omega) (by rw [hz2]; omega) (by omega)
      rw [← hM] at h
      simpa using h
    clear hM
    have hcp := Lib.run_copy_row_string (P := Tryz.prog) (w.alloc (.cells M 5)) 92 9 3 5 w.heap.size 0 s.size s.size s M 5 Tryz.underlying92 hinfo (heap_alloc_new w _) (Nat.le_refl _) (by omega)
    obtain ⟨Y, hY⟩ : ∃ Y, Y = (M.toList.take 0 ++ Lib.byteCells s.data.toList ++ M.toList.drop (0 + s.size)).toArray := ⟨_, rfl⟩
    rw [← hY] at hcp
    have hYl : Y.toList = Lib.byteCells s.data.toList := by
      rw [hY, List.toList_toArray, List.take_zero, List.nil_append, List.drop_of_length_le (by rw [Array.length_toList]; omega), List.append_nil]
    have hYs : Y.size = s.size := by rw [← Array.length_toList, hYl, Lib.byteCells_length, ← Lib.size_eq]
    have hgY : ((w.alloc (.cells M 5)).setRow w.heap.size Y).heap[w.heap.size]? = some (.cells Y 5 (0, 0)) := setRow_heap _ _ M _ 5 (0, 0) (heap_alloc_new w _)
    have hne : s.data.toList ≠ [] := fun e => h0 (by rw [Lib.size_eq, e]; rfl)
    have hUS := Lib.run_unsafeString_row (P := Tryz.prog) ((w.alloc (.cells M 5)).setRow w.heap.size Y) 124 3 9 5 Tryz.underlying124 hco w.heap.size Y.size (by unfold World.shape?; rw [hgY]) s.data.toList hne (by rw [← Lib.size_eq]; omega) (by rw [← Lib.size_eq]; omega)
      (fun j x hx => Lib.cells_of_row hgY Y.size j _ (by rw [List.take_of_length_le (by rw [Array.length_toList]; exact Nat.le_refl _), hYl]; simp [Lib.byteCells, hx]))
    rw [← Lib.size_eq] at hUS
    clear hY
    go_enter Tryz.func49, Tryz.ntmps49
    go_wp2
    go_ret
    have hb1 : Below w.heap.size w (w.alloc (.cells M 5)) := (Below.refl _ w).alloc (Nat.le_refl _) _
    have hb2 : Below w.heap.size (w.alloc (.cells M 5)) ((w.alloc (.cells M 5)).setRow w.heap.size Y) := ⟨rfl, rfl, rfl, by simp, fun k hk => setRow_other _ _ _ _ (by omega)⟩
    exact ⟨rfl, Lib.below_freeze (hb1.trans hb2) (p := ⟨w.heap.size, 0, none⟩) (Nat.le_refl _) _⟩
theorem clone_any (s : ByteArray) (w : World) (hlim : s.size ≤ 281474976710656) :
    Calls Tryz.prog 29 #[.string s] w fun e w' => e = .returned (.string s) ∧ Below w.heap.size w w' := by
  have C := clone_in s w hlim
  go_enter Tryz.func29, Tryz.ntmps29
  go_wp2_with fail
  refine C.mono ?_
  rintro e w1 ⟨rfl, hB⟩
  clear C
  go_wp2
  go_ret
  exact ⟨rfl, hB⟩
set_option maxHeartbeats 1000000 in
/-- copied: the same texts, the call's own -/
theorem copied_any (v : Value) (n : Nat) (f : Nat → List El) (w : World) (hr : RdT w v n f) (hn : n ≤ 1000) (hs : ∀ i, i < n → (f i).length ≤ 100000) :
    Calls Tryz.prog 48 #[v] w fun e w' => ∃ u, e = .returned u ∧ OwT w.heap.size w' u n f ∧ Below w.heap.size w w' := by
  obtain ⟨j0, hj, hy0, hy1, hy2⟩ := info_parts infoT
  obtain ⟨ao, cap, rfl, _, _⟩ := hr.len
  have HR : Hid (RdT w (.slice ao n cap) n f) := hr
  have HS : Hid (∀ i, i < n → (f i).length ≤ 100000) := hs
  clear hr hs
  go_enter Tryz.func48, Tryz.ntmps48
  go_wp2
  go_loopw [3, 8] (fun o c wr => ∃ k : Nat, k ≤ n ∧ c = .int .i64 k ∧ OwT w.heap.size wr o k f ∧ Below w.heap.size w wr) (fun _ c _ => n - (intOf c).toNat)
  case atStart => exact ⟨0, Nat.zero_le _, rfl, World.ownsRow_nil _ _ _ _, Below.refl _ _⟩
  case round =>
    obtain ⟨k, hk, rfl, hO, hB⟩ := hrel
    obtain ⟨a1, c1, rfl⟩ := OwT.len hO
    have hsz := hB.size
    by_cases hlt : k < n
    · obtain ⟨ad, rfl, hc⟩ := (HR.out.old hB).at k hlt
      have hl := HS.out k hlt
      have C := clone_any (sb (f k)) wr (by rw [sb_size]; omega)
      have HF : Hid (∀ x, x = sb (f k) → Value.string x = st (f k)) := fun x hx => by rw [hx]
      have HE : Hid (sb (f k) = sb (f k)) := rfl
      unfold st at hc
      obtain ⟨s, hs⟩ : ∃ s, s = sb (f k) := ⟨_, rfl⟩
      have HSs : Hid (s = sb (f k)) := hs
      rw [← hs] at C hc
      clear hs
      go_wp2_with fail
      refine C.mono ?_
      rintro e w2 ⟨rfl, hB2⟩
      have hO2 : w2.ownsRow w.heap.size 9 1 (.slice a1 k c1) k ((List.range k).map (fun i => st (f i))) := ownsRow_old hO hB2
      have hB2' : Below w.heap.size w w2 := hB.trans (hB2.mono hsz)
      have hsz2 := hB2'.size
      have hll : ((List.range k).map (fun i => st (f i))).length = k := by simp
      clear C hO hB hB2
      obtain ⟨xs, hxs⟩ : ∃ xs, xs = (List.range k).map (fun i => st (f i)) := ⟨_, rfl⟩
      have HXS : Hid (xs = (List.range k).map (fun i => st (f i))) := hxs
      rw [← hxs] at hO2 hll
      clear hxs
      go_wp2_with (first | (at_builtin; refine wpList_append_own _ rfl _ _ 22 rfl w.heap.size 9 j0 (.string ⟨#[]⟩) 1 16 Tryz.underlying22 hj hy0 hy1 hy2 rfl (by decide) _ _ _ rfl (World.ownsRow.alloc hO2 _) ⟨w2.heap.size, 0, none⟩ 1 1 [.string s] rfl rfl (one_cell _) (by intro u hu; simp at hu; subst hu; rfl) (by unfold maxLen; omega) (by omega) (by simp; omega) ?_))
      intro v' w3 hown hgrow _
      have HO3 : Hid (OwT w.heap.size w3 v' (k + 1) f) := by
        rw [HXS.out] at hown
        exact OwT.snoc hown (by rw [HSs.out])
      have hB3 : Below w.heap.size w w3 := (hB2'.alloc hsz2 _).grown hgrow (by simp; omega) (fun g hg => (World.ownsRow.lt hO2 g hg).1)
      clear hown hgrow hO2 hB2' HXS HSs HF HE
      go_wp2
      go_roundw
      case rel => exact ⟨k + 1, by omega, by go_num, HO3.out, hB3⟩
      case measure => simp [intOf]; omega
    · have e : k = n := by omega
      have HO : Hid (OwT w.heap.size wr (.slice a1 k c1) n f) := by
        have h2 := hO
        rw [e] at h2
        rw [e]
        exact h2
      clear hO e
      go_wp2
      go_ret
      exact ⟨_, rfl, HO.out, hB⟩
end Go.Proofs.YtkkpnnhmgbdmgaiGreatDoor
