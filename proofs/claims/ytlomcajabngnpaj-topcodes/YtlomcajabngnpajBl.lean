/- Texts of plain mathematics, of memory and of walks, in one. -/
import Derived.Test.YtlomcajabngnpajMe
import Derived.Lib.Builder
import Derived.Lib.AppendStr
import Derived.Lib.UnsafeStr
import Derived.Lib.MakeNoZero
import Derived.Lib.Strings
import Derived.Laws.Externs
import Derived.Laws.IdiomCopy
import Derived.Deep.RegionWith
import Derived.Test.YtlomcajabngnpajMa
/- strings.Builder: copyCheck, Grow, WriteString, String: walks over the program. -/
namespace Go.Proofs.Ytlomcajabngnpaj
open Go.RowKit El Pol
/-- a builder in block b, of the call's own, that holds xs -/
abbrev BldU (B b : Nat) (bs : List Value) (w : World) : Prop := Lib.BuilderAt 63 5 B b (.pointer (some ⟨b, 0, none⟩)) bs w
abbrev BldN (B b : Nat) (bs : List Value) (w : World) : Prop := Lib.BuilderAt 63 5 B b (.pointer none) bs w
theorem bldSize : (Try.prog.info? 63).map (·.size) = some 2 := by kernel_rfl
theorem bldLies : liesAt Try.prog Try.prog.depth 63 (2 / Try.prog.cellsOf 63) 0 63 1 = true := by kernel_rfl
theorem size8 : (Try.prog.info? 5).map (·.size) = some 1 := by kernel_rfl
theorem cells8 : Try.prog.cellsOf 5 = 1 := by kernel_rfl
set_option maxHeartbeats 1000000 in
set_option maxRecDepth 100000 in
theorem check_used (b : Nat) (w : World) (h0 : w.cell? ⟨b, 0, none⟩ = some (.pointer (some ⟨b, 0, none⟩))) :
    Calls Try.prog 42 #[.pointer (some ⟨b, 0, none⟩)] w fun e w' => e = .returned (.tuple #[]) ∧ w' = w := by
  obtain ⟨j, hj, _⟩ := Option.map_eq_some_iff.1 bldSize
  go_enter Try.func42, Try.ntmps42
  go_wp2
  rw [Lib.run_neq_ptr_same w _ Try.underlying61 hj]
  go_wp2
  go_end0
  exact ⟨rfl, rfl⟩
set_option maxHeartbeats 1000000 in
set_option maxRecDepth 100000 in
theorem check_fresh (b : Nat) (w : World) (h0 : w.cell? ⟨b, 0, none⟩ = some (.pointer none)) (hsh : w.shape? b = some (63, 2)) (hfz : w.frozen? ⟨b, 0, none⟩ = false) :
    Calls Try.prog 42 #[.pointer (some ⟨b, 0, none⟩)] w fun e w' => e = .returned (.tuple #[]) ∧ w' = w.setCell ⟨b, 0, none⟩ (.pointer (some ⟨b, 0, none⟩)) := by
  obtain ⟨j, hj, hjs⟩ := Option.map_eq_some_iff.1 bldSize
  have h1 := Lib.run_to_unsafe (P := Try.prog) w ⟨b, 0, none⟩ Try.underlying61 Try.underlying90 hj (by rw [hjs]; decide) hsh (Nat.zero_lt_succ 1)
  have h2 : (callFunc 57 #[.pointer (some ⟨b, 0, none⟩)]).run Try.prog w = .ok (.value (.pointer (some ⟨b, 0, none⟩))) w := by
    rw [run_callFunc_extern Try.func57 (by kernel_rfl) (by kernel_rfl) (by kernel_rfl) (e := Extern.AbiNoEscape.same) (by kernel_rfl), Lib.run_noEscape]
    rfl
  have h3 := Lib.run_from_unsafe (P := Try.prog) w ⟨b, 0, none⟩ Try.underlying90 Try.underlying61 hj hsh bldLies
  go_enter Try.func42, Try.ntmps42
  go_wp2
  go_end0
  exact ⟨rfl, rfl⟩
/-- a builder without a buffer -/
abbrev NilB (b : Nat) (w : World) : Prop := w.heap[b]? = some (.cells #[.pointer (some ⟨b, 0, none⟩), .slice none 0 0] 63 (0, 0))
set_option maxHeartbeats 2000000 in
set_option maxRecDepth 100000 in
theorem bwrite_any (B b : Nat) (bs : List Value) (s : ByteArray) (w : World) (h : BldU B b bs w) (hlen : bs.length + s.size ≤ 100000) (hBw : B ≤ w.heap.size) :
    Calls Try.prog 31 #[.pointer (some ⟨b, 0, none⟩), .string s] w fun e w' => e = .returned (.tuple #[.int .i64 s.size, .nilIface]) ∧ BldU B b (bs ++ Lib.strCells s) w' ∧ Below B w w' ∧ (s.size = 0 → NilB b w → NilB b w') := by
  obtain ⟨i0, hi, hz0, hz1, hz2⟩ := info_parts info8
  have C := check_used b w h.cell0
  obtain ⟨hB, v, hbk, hown, hne⟩ := h
  have c0 : w.cell? ⟨b, 0, none⟩ = some (.pointer (some ⟨b, 0, none⟩)) := by rw [Lib.cell_of_heap hbk]; rfl
  have c1 : w.cell? ⟨b, 1, none⟩ = some v := by rw [Lib.cell_of_heap hbk]; rfl
  go_enter Try.func31, Try.ntmps31
  go_wp2_with fail
  refine C.mono ?_
  rintro e w1 ⟨rfl, hw1⟩
  obtain rfl := hw1.symm
  clear C
  go_wp2_with (at_builtin; refine Lib.wpList_append_own_string _ rfl _ _ 30 9 rfl B 5 i0 Try.underlying30 Try.underlying9 hi hz0 hz1 hz2 _ _ _ rfl hown s rfl ?c3 ?c4 ?c5 ?_)
  case c3 => unfold maxLen; omega
  case c4 => omega
  case c5 => omega
  intro v' w2 hown' hgrow hiff
  have hlt : b < w.heap.size := lt_of_block hbk
  have hb2 : w2.heap[b]? = some (.cells #[.pointer (some ⟨b, 0, none⟩), v] 63 (0, 0)) := by
    rw [hgrow.block b hlt (fun e => hne e.symm)]
    exact hbk
  have d0 : w2.cell? ⟨b, 0, none⟩ = some (.pointer (some ⟨b, 0, none⟩)) := by rw [Lib.cell_of_heap hb2]; rfl
  have d1 : w2.cell? ⟨b, 1, none⟩ = some v := by rw [Lib.cell_of_heap hb2]; rfl
  have f1 : w2.frozen? ⟨b, 1, none⟩ = false := Lib.frozen_of_heap hb2 1
  have HN : Hid (s.size = 0 → NilB b w → NilB b (w2.setCell ⟨b, 1, none⟩ v')) := fun hz hn => by
    have e : v = .slice none 0 0 := by
      have := hbk.symm.trans hn
      simp at this
      exact this
    rw [hiff.2 ⟨e, ByteArray.ext (Array.eq_empty_of_size_eq_zero hz)⟩]
    (show (w2.setCell ⟨b, 1, none⟩ (.slice none 0 0)).heap[b]? = _)
    simp [World.setCell, Array.getElem?_modify, hb2]
  clear hiff
  obtain ⟨ao, n', cap, rfl⟩ : ∃ ao n' cap, v' = .slice ao n' cap := by
    rcases hown'.2 with ⟨hv, _⟩ | ⟨g, cap, cur, hv, _⟩
    · exact ⟨_, _, _, hv⟩
    · exact ⟨_, _, _, hv⟩
  have HP : Hid (BldU B b (bs ++ Lib.strCells s) (w2.setCell ⟨b, 1, none⟩ (.slice ao n' cap))) := Lib.BuilderAt.put (T := 63) (e := 5) hB hb2 (bs' := bs ++ Lib.strCells s) (by simpa [Lib.strCells_length] using hown') (by decide)
  have HQ : Hid (Below B w (w2.setCell ⟨b, 1, none⟩ (.slice ao n' cap))) := ((Below.refl B w).grown hgrow hBw (fun k hk => (hown.lt k hk).1)).setCell (p := ⟨b, 1, none⟩) hB _
  clear hgrow hown' hown hb2 hbk
  go_wp2
  go_ret2
  exact ⟨rfl, HP.out, HQ.out, HN.out⟩
end Go.Proofs.Ytlomcajabngnpaj

/- strings.Builder: Grow of a fresh one, String: walks over the program. -/
namespace Go.Proofs.Ytlomcajabngnpaj
open Go.RowKit El Pol
set_option maxHeartbeats 2000000 in
set_option maxRecDepth 1000000 in
theorem bgrow_fresh (B b n : Nat) (w : World) (hB : B ≤ b) (hbk : w.heap[b]? = some (.cells #[.pointer (some ⟨b, 0, none⟩), .slice none 0 0] 63 (0, 0))) (hBw : B ≤ w.heap.size) (hn : n ≤ 100000) :
    Calls Try.prog 43 #[.pointer (some ⟨b, 0, none⟩), .int .i64 n] w fun e w' => e = .returned (.tuple #[]) ∧ BldU B b [] w' ∧ Below B w w' := by
  obtain ⟨cs, hrun, hle, hmax⟩ := Lib.run_makeNoZero (P := Try.prog) w.drew #[3] 30 5 Try.underlying30 n (by omega)
  have hw : IntKind.i64.wrap (IntKind.i64.wrap 0 + (n : Int)) = n := by
    rw [IntKind.wrap_i64, IntKind.wrap_i64]
    omega
  have hcall : (callFunc 58 #[.int .i64 (n : Int)]).run Try.prog w.drew = .ok (.value (.slice (some ⟨w.drew.heap.size, 0, none⟩) n cs.size)) (w.drew.drew.drew.alloc (.cells cs 5)) := by
    rw [run_callFunc_extern Try.func58 (by kernel_rfl) (by kernel_rfl) (by kernel_rfl) (e := Extern.BytealgMakeNoZero.makeNoZero #[3] #[30]) (by kernel_rfl), hrun]
    rfl
  have hcall2 : (callFunc 58 #[.int .i64 (IntKind.i64.wrap (IntKind.i64.wrap 0 + (n : Int)))]).run Try.prog w.drew = .ok (.value (.slice (some ⟨w.drew.heap.size, 0, none⟩) n cs.size)) (w.drew.drew.drew.alloc (.cells cs 5)) := by
    rw [hw]; exact hcall
  have hlt : b < w.heap.size := lt_of_block hbk
  have c1 : w.drew.cell? ⟨b, 1, none⟩ = some (.slice none 0 0) := by
    have : w.drew.heap[b]? = _ := hbk
    rw [Lib.cell_of_heap this]; rfl
  have c2 : (w.alloc (.cells cs 5)).cell? ⟨b, 1, none⟩ = some (.slice none 0 0) := by
    have : (w.alloc (.cells cs 5)).heap[b]? = _ := (Lib.alloc_old w _ b hlt).trans hbk
    rw [Lib.cell_of_heap this]; rfl
  have f2 : (w.alloc (.cells cs 5)).frozen? ⟨b, 1, none⟩ = false := Lib.frozen_of_heap ((Lib.alloc_old w _ b hlt).trans hbk) 1
  have hcopy : ∀ W : World, (Builtin.copy_ #[30, 30] 3 #[.slice (some ⟨w.heap.size, 0, none⟩) 0 cs.size, .slice none 0 0]).run Try.prog W = .ok (goInt 0) W :=
    fun W => run_copy_none W 30 30 3 5 _ _ 0 cs.size 0 0 Try.underlying30 size8 rfl
  clear hw
  have hfin := Lib.grown_fresh (T := 63) (e := 5) (cs := cs) hB hbk hBw (hmax (by unfold maxLen; omega)) (by decide)
  have HF : Hid (BldU B b [] ((w.alloc (.cells cs 5)).setCell ⟨b, 1, none⟩ (.slice (some ⟨w.heap.size, 0, none⟩) 0 cs.size)).drew.drew.drew ∧ Below B w ((w.alloc (.cells cs 5)).setCell ⟨b, 1, none⟩ (.slice (some ⟨w.heap.size, 0, none⟩) 0 cs.size)).drew.drew.drew) := hfin
  clear hfin hlt hbk
  go_enter Try.func43, Try.ntmps43
  go_wp2
  go_region
  all_goals (go_wp2; go_end0; exact ⟨rfl, HF.out⟩)
set_option maxHeartbeats 2000000 in
set_option maxRecDepth 1000000 in
/-- Grow of a fresh builder: behind it there is a buffer, or nothing is to be written -/
theorem bGrow_fresh (B b n : Nat) (w : World) (hB : B ≤ b) (hbk : w.heap[b]? = some (.cells #[.pointer none, .slice none 0 0] 63 (0, 0))) (hBw : B ≤ w.heap.size) (hn : n ≤ 100000) :
    Calls Try.prog 30 #[.pointer (some ⟨b, 0, none⟩), .int .i64 n] w fun e w' => e = .returned (.tuple #[]) ∧ BldU B b [] w' ∧ Below B w w' ∧ (n = 0 → w'.heap[b]? = some (.cells #[.pointer (some ⟨b, 0, none⟩), .slice none 0 0] 63 (0, 0))) := by
  have hbk1 : (w.setCell ⟨b, 0, none⟩ (.pointer (some ⟨b, 0, none⟩))).heap[b]? = some (.cells #[.pointer (some ⟨b, 0, none⟩), .slice none 0 0] 63 (0, 0)) := by
    simp [World.setCell, Array.getElem?_modify, hbk]
  have hb1 : Below B w (w.setCell ⟨b, 0, none⟩ (.pointer (some ⟨b, 0, none⟩))) := (Below.refl B w).setCell (p := ⟨b, 0, none⟩) hB _
  have hU : BldU B b [] (w.setCell ⟨b, 0, none⟩ (.pointer (some ⟨b, 0, none⟩))) := ⟨hB, .slice none 0 0, hbk1, World.ownsRow_nil _ _ _ _, by simp [Value.ownBlock]⟩
  have C := check_fresh b w (by rw [Lib.cell_of_heap hbk]; rfl) (by simp [World.shape?, hbk]) (Lib.frozen_of_heap hbk 0)
  have hsz := hb1.size
  obtain ⟨w1, hw1⟩ : ∃ w1, w1 = w.setCell ⟨b, 0, none⟩ (.pointer (some ⟨b, 0, none⟩)) := ⟨_, rfl⟩
  rw [← hw1] at hbk1 hb1 hU C hsz
  have c1 : w1.cell? ⟨b, 1, none⟩ = some (.slice none 0 0) := by rw [Lib.cell_of_heap hbk1]; rfl
  have HK : Hid (w1.heap[b]? = some (.cells #[.pointer (some ⟨b, 0, none⟩), .slice none 0 0] 63 (0, 0))) := hbk1
  have HB1 : Hid (Below B w w1) := hb1
  have HU : Hid (BldU B b [] w1) := hU
  clear hbk hw1 hbk1 hb1 hU
  by_cases h0 : n = 0
  · subst h0
    have c1' : w1.drew.cell? ⟨b, 1, none⟩ = some (.slice none 0 0) := c1
    go_enter Try.func30, Try.ntmps30
    go_wp2_with fail
    refine C.mono ?_
    rintro e w2 ⟨rfl, hw2⟩
    obtain rfl := hw2.symm
    clear C
    go_wp2
    go_quiet (fail)
    go_wp2
    go_end0
    exact ⟨rfl, HU.out, ⟨HB1.out.os, HB1.out.tape, HB1.out.output, HB1.out.size, HB1.out.block⟩, fun _ => HK.out⟩
  · have h0' : (0 : Int) < (n : Int) := by omega
    have c1' : w1.drew.cell? ⟨b, 1, none⟩ = some (.slice none 0 0) := c1
    have G := fun q => bgrow_fresh B b n (w1.drewN q) hB HK.out (by (show B ≤ w1.heap.size); omega) hn
    go_enter Try.func30, Try.ntmps30
    go_wp2_with fail
    refine C.mono ?_
    rintro e w2 ⟨rfl, hw2⟩
    obtain rfl := hw2.symm
    clear C
    go_wp2
    go_quiet (fail)
    go_wp2_with fail
    refine (G nq).mono ?_
    rintro e w3 ⟨rfl, h1, h2⟩
    have HF : Hid (Below B w w3) := (below_drewN HB1.out nq).trans h2
    clear G h2
    go_wp2
    go_end0
    exact ⟨rfl, h1, HF.out, fun q => absurd q h0⟩
end Go.Proofs.Ytlomcajabngnpaj

/- strings.Builder's String: walks over the program. -/
namespace Go.Proofs.Ytlomcajabngnpaj
open Go.RowKit El Pol
set_option maxHeartbeats 1000000 in
set_option maxRecDepth 100000 in
theorem bstring_some (B b : Nat) (l : List UInt8) (w : World) (h : BldU B b (Lib.byteCells l) w) (h0 : l ≠ []) :
    Calls Try.prog 32 #[.pointer (some ⟨b, 0, none⟩)] w fun e w' => e = .returned (.string ⟨l.toArray⟩) ∧ Below B w w' := by
  obtain ⟨hB, v, hbk, hown, hne⟩ := h
  have hl0 : l.length ≠ 0 := by simpa using h0
  rw [Lib.byteCells_length] at hown
  obtain ⟨g, cap, cur, rfl, hbg, hg, hnc, hcm, hcs, htake⟩ : ∃ g cap cur, v = .slice (some ⟨g, 0, none⟩) l.length cap ∧ B ≤ g ∧ w.heap[g]? = some (.cells cur 5 (0, 0)) ∧ l.length ≤ cap ∧ cap ≤ maxLen ∧ cur.size = cap * 1 ∧ cur.toList.take (l.length * 1) = Lib.byteCells l := by
    rcases hown.2 with ⟨_, hz⟩ | ⟨g, cap, cur, hv, r⟩
    · exact absurd hz hl0
    · exact ⟨g, cap, cur, hv, r⟩
  have c1 : w.drew.cell? ⟨b, 1, none⟩ = some (.slice (some ⟨g, 0, none⟩) l.length cap) := by
    have : w.drew.heap[b]? = some (.cells #[_, .slice (some ⟨g, 0, none⟩) l.length cap] 63 (0, 0)) := hbk
    rw [Lib.cell_of_heap this]; rfl
  have hSD : (Builtin.unsafeSliceData_ #[30] 79 #[.slice (some ⟨g, 0, none⟩) l.length cap]).run Try.prog w.drew = .ok (.pointer (some ⟨g, 0, none⟩)) w.drew :=
    Lib.run_unsafeSliceData_row _ _ _ _ _ _ (by omega)
  have hUS : (Builtin.unsafeString_ #[79, 3] 9 #[.pointer (some ⟨g, 0, none⟩), .int .i64 l.length]).run Try.prog w.drew = .ok (.string ⟨l.toArray⟩) (w.drew.freeze ⟨g, 0, none⟩ l.length) := by
    refine Lib.run_unsafeString_row w.drew 79 3 9 5 Try.underlying79 cells8 g cur.size (by have hg' : w.drew.heap[g]? = some (.cells cur 5 (0, 0)) := hg; simp [World.shape?, hg']) l h0 (by omega) (by unfold maxLen at hcm; omega) ?_
    intro j x hx
    have := hown.cells (g := g) rfl j (.int .u8 x.toNat) (by simp [Lib.byteCells, hx])
    exact this
  have HF : Hid (Below B w (w.drew.freeze ⟨g, 0, none⟩ l.length)) := Lib.below_freeze (Below.drew (Below.refl B w)) (p := ⟨g, 0, none⟩) hbg _
  clear hown htake hg hbk h0
  go_enter Try.func32, Try.ntmps32
  go_wp2
  go_region
  all_goals (go_wp2; go_ret; exact ⟨rfl, HF.out⟩)
set_option maxHeartbeats 2000000 in
set_option maxRecDepth 100000 in
theorem bstring_nil (B b : Nat) (p : Value) (w : World) (hbk : w.heap[b]? = some (.cells #[p, .slice none 0 0] 63 (0, 0))) :
    Calls Try.prog 32 #[.pointer (some ⟨b, 0, none⟩)] w fun e w' => e = .returned (.string ⟨#[]⟩) ∧ Below B w w' := by
  have hUS : ∀ (W : World) (q : Option Addr), (Builtin.unsafeString_ #[79, 3] 9 #[.pointer q, .int .i64 0]).run Try.prog W = .ok (.string .empty) W := fun W q => Lib.run_unsafeString_none W _ _ _ q
  have c1 : w.drew.cell? ⟨b, 1, none⟩ = some (.slice none 0 0) := by
    have : w.drew.heap[b]? = some (.cells #[p, .slice none 0 0] 63 (0, 0)) := hbk
    rw [Lib.cell_of_heap this]; rfl
  have hSD : (Builtin.unsafeSliceData_ #[30] 79 #[.slice none 0 0]).run Try.prog w.drew = .ok (.pointer none) w.drew := rfl
  go_enter Try.func32, Try.ntmps32
  go_wp2
  go_region
  all_goals (go_wp2; go_ret; exact ⟨rfl, Below.drew (Below.refl B w)⟩)
end Go.Proofs.Ytlomcajabngnpaj

/- strings.Join without anything between: a walk over the program. -/
namespace Go.Proofs.Ytlomcajabngnpaj
open Go.RowKit El Pol
/-- bytes as a builder has them -/
def bcs (xs : List El) : List Value := Lib.byteCells (xs.map (fun x => UInt8.ofNat x.val))
theorem bcs_sb (xs : List El) : Lib.strCells (sb xs) = bcs xs := by
  rw [Lib.strCells_eq, sb_bytes]; rfl
theorem bcs_append (xs ys : List El) : bcs xs ++ bcs ys = bcs (xs ++ ys) := by
  unfold bcs
  rw [List.map_append, Lib.byteCells_append]
theorem bcs_length (xs : List El) : (bcs xs).length = xs.length := by
  unfold bcs
  rw [Lib.byteCells_length, List.length_map]
theorem bstring_any (B b : Nat) (xs : List El) (w : World) (h : BldU B b (bcs xs) w) (h0 : xs = [] → NilB b w) :
    Calls Try.prog 32 #[.pointer (some ⟨b, 0, none⟩)] w fun e w' => e = .returned (st xs) ∧ Below B w w' := by
  by_cases e : xs = []
  · subst e
    exact bstring_nil B b _ w (h0 rfl)
  · exact bstring_some B b _ w h (by simpa using e)
theorem wfl_le {f : Nat → List El} {m : Nat} : ∀ {k : Nat}, (∀ i, i < k → (f i).length ≤ m) → (wfl f k).length ≤ k * m
  | 0, _ => by simp [wfl]
  | k + 1, h => by
    rw [wfl_succ, List.length_append, Nat.add_mul, Nat.one_mul]
    have := wfl_le (k := k) (fun i hi => h i (by omega))
    have := h k (by omega)
    omega
theorem wfl_grow {f : Nat → List El} {k : Nat} : ∀ {n : Nat}, k ≤ n → (wfl f k).length ≤ (wfl f n).length
  | 0, h => by rw [show k = 0 by omega]; exact Nat.le_refl _
  | n + 1, h => by
    by_cases e : k = n + 1
    · rw [e]; exact Nat.le_refl _
    · rw [wfl_succ, List.length_append]
      have := wfl_grow (f := f) (k := k) (n := n) (by omega)
      omega
theorem wfl_one (f : Nat → List El) : wfl f 1 = f 0 := by rw [wfl_succ]; rfl
theorem join_none (v : Value) (hv : ∃ ao cap, v = .slice ao 0 cap) (w : World) :
    Calls Try.prog 16 #[v, .string ⟨#[]⟩] w fun e w' => e = .returned (st []) ∧ w' = w := by
  obtain ⟨ao, cap, rfl⟩ := hv
  go_enter Try.func16, Try.ntmps16
  go_wp2
  go_ret
  exact ⟨rfl, rfl⟩
theorem join_one (v : Value) (f : Nat → List El) (w : World) (hr : RdT w v 1 f) :
    Calls Try.prog 16 #[v, .string ⟨#[]⟩] w fun e w' => e = .returned (st (f 0)) ∧ w' = w := by
  obtain ⟨ao, cap, rfl, _, _⟩ := hr.len
  obtain ⟨ad, rfl, hc⟩ := hr.at 0 (by omega)
  rw [add_zero] at hc
  unfold st at hc
  unfold st
  generalize sb (f 0) = s at *
  clear hr
  go_enter Try.func16, Try.ntmps16
  go_wp2
  go_ret
  exact ⟨rfl, rfl⟩
set_option maxHeartbeats 4000000 in
set_option maxRecDepth 100000 in
theorem join_many (v : Value) (n : Nat) (f : Nat → List El) (w : World) (hr : RdT w v n f) (h2 : 2 ≤ n) (hn : n ≤ 12) (hf : ∀ i, i < n → (f i).length ≤ 100) :
    Calls Try.prog 16 #[v, .string ⟨#[]⟩] w fun e w' => e = .returned (st (wfl f n)) ∧ Below w.heap.size w w' := by
  obtain ⟨ao, cap, rfl, hcap, _⟩ := hr.len
  obtain ⟨ad, rfl, _⟩ := hr.at 0 (by omega)
  have HR : Hid (RdT w (.slice (some ad) n cap) n f) := hr
  have HF : Hid (∀ i, i < n → (f i).length ≤ 100) := hf
  have HT : Hid (∀ k, k ≤ n → (wfl f k).length ≤ 1200) := fun k hk => by
    have := wfl_le (f := f) (k := k) (m := 100) (fun i hi => hf i (by omega))
    omega
  have HG : Hid (∀ k, k ≤ n → (wfl f k).length ≤ (wfl f n).length) := fun k hk => wfl_grow hk
  have HS : Hid (∀ k, (wfl f (k + 1)).length = (wfl f k).length + (f k).length) := fun k => by rw [wfl_succ, List.length_append]
  clear hr hf
  go_enter Try.func16, Try.ntmps16
  go_wp2
  go_loop [5, 41] (fun m c => ∃ k : Nat, k ≤ n ∧ c = .int .i64 k ∧ m = .int .i64 (((wfl f k).length : Nat) : Int)) (fun _ c => n - (intOf c).toNat)
  case atStart => exact ⟨0, Nat.zero_le _, rfl, rfl⟩
  case round =>
    obtain ⟨k, hk, rfl, rfl⟩ := hrel
    by_cases hlt : k < n
    · obtain ⟨ad', e, hc⟩ := HR.out.at k hlt
      cases e
      have hl := HF.out k hlt
      have ht := HT.out k hk
      have HST := HS.out k
      have hs := sb_size (f k)
      have HST' : Hid ((wfl f (k + 1)).length = (wfl f k).length + (f k).length) := HST
      clear HST
      generalize (f k).length = l at *
      generalize (wfl f k).length = m at *
      unfold st at hc
      generalize sb (f k) = s at *
      go_wp2
      go_round
      case rel => exact ⟨k + 1, by omega, by go_num, by rw [HST'.out]; (first | rfl | (congr 1; omega))⟩
      case measure => simp [intOf]; omega
    · have e : k = n := by omega
      have HM : Hid ((wfl f k).length = (wfl f n).length) := by (show (wfl f k).length = (wfl f n).length); rw [e]
      have ht := HT.out k hk
      have hck : ¬ (k : Int) < (n : Int) := by omega
      clear e
      generalize (wfl f k).length = m at *
      have G := bGrow_fresh w.heap.size w.heap.size m (w.alloc (.cells #[.pointer none, .slice none 0 0] 63)) (Nat.le_refl _) (heap_alloc_new w _) (by simp) (by omega)
      go_wp2_with fail
      refine G.mono ?_
      rintro e w1 ⟨rfl, hU1, hB1, hz1⟩
      have HB1 : Hid (Below w.heap.size w w1) := ((Below.refl w.heap.size w).alloc (Nat.le_refl _) _).trans hB1
      have HU1 : Hid (BldU w.heap.size w.heap.size [] w1) := hU1
      have HZ1 : Hid (m = 0 → NilB w.heap.size w1) := hz1
      have hs1 := HB1.out.size
      clear G hU1 hB1 hz1
      obtain ⟨ad', e, hc⟩ := (HR.out.old HB1.out).at 0 (by omega)
      cases e
      rw [add_zero] at hc
      have hl := HF.out 0 (by omega)
      have hs := sb_size (f 0)
      have W1 := bwrite_any w.heap.size w.heap.size [] (sb (f 0)) w1 HU1.out (by rw [hs]; simp; omega) hs1
      rw [List.nil_append, bcs_sb] at W1
      have HW0 : Hid (wfl f 1 = f 0) := wfl_one f
      have HL0 : Hid ((sb (f 0)).size = (f 0).length) := hs
      unfold st at hc
      obtain ⟨s, hss⟩ : ∃ s, s = sb (f 0) := ⟨_, rfl⟩
      have HSS : Hid (s = sb (f 0)) := hss
      rw [← hss] at hc W1
      clear hss hs
      go_wp2_with fail
      refine W1.mono ?_
      rintro e w2 ⟨rfl, hU2, hB2, hz2⟩
      have HB2 : Hid (Below w.heap.size w w2) := HB1.out.trans hB2
      have HU2 : Hid (BldU w.heap.size w.heap.size (bcs (wfl f (0 + 1))) w2) := by rw [HW0.out]; exact hU2
      have HZ2 : Hid (m = 0 → NilB w.heap.size w2) := fun q => hz2 (by
        rw [HSS.out, HL0.out]
        have := HG.out 1 (by omega)
        rw [HW0.out, ← HM.out] at this
        omega) (HZ1.out q)
      clear W1 hU2 hB2 hz2 HB1 HU1 HZ1 hc HSS hl
      go_wp2_with fail
      clear HW0 HL0
      go_loopw [65] (fun c wr => ∃ j : Nat, j ≤ n - 1 ∧ c = .int .i64 j ∧ Hid (BldU w.heap.size w.heap.size (bcs (wfl f (j + 1))) wr) ∧ Hid (Below w.heap.size w wr) ∧ Hid (m = 0 → NilB w.heap.size wr)) (fun c _ => n - 1 - (intOf c).toNat)
      case atStart => exact ⟨0, Nat.zero_le _, rfl, HU2.out, HB2.out, HZ2.out⟩
      case round =>
        clear HU2 HB2 HZ2
        rename World => wr
        obtain ⟨j, hj, rfl, HU, HB, HZ⟩ := hrel
        have hsw := HB.out.size
        by_cases hjn : j < n - 1
        · obtain ⟨ad', e, hc⟩ := (HR.out.old HB.out).at (j + 1) (by omega)
          cases e
          have e1 : ad.add (j + 1) = ⟨ad.block, ad.off + 1 + j, none⟩ := by
            unfold Addr.add
            rw [if_neg (by omega)]
            congr 1
            omega
          rw [e1] at hc
          have hl := HF.out (j + 1) (by omega)
          have hs := sb_size (f (j + 1))
          have ht := HT.out (j + 1) (by omega)
          have W1 := bwrite_any w.heap.size w.heap.size (bcs (wfl f (j + 1))) ⟨#[]⟩ wr HU.out (by rw [bcs_length]; (show _ + 0 ≤ _); omega) hsw
          rw [show Lib.strCells ⟨#[]⟩ = ([] : List Value) from rfl, List.append_nil] at W1
          have HW2 : Hid (∀ w3, BldU w.heap.size w.heap.size (bcs (wfl f (j + 1))) w3 → w.heap.size ≤ w3.heap.size → Calls Try.prog 31 #[.pointer (some ⟨w.heap.size, 0, none⟩), .string (sb (f (j + 1)))] w3 fun e w' => e = .returned (.tuple #[.int .i64 (sb (f (j + 1))).size, .nilIface]) ∧ BldU w.heap.size w.heap.size (bcs (wfl f (j + 1 + 1))) w' ∧ Below w.heap.size w3 w' ∧ ((sb (f (j + 1))).size = 0 → NilB w.heap.size w3 → NilB w.heap.size w')) := fun w3 h3 hs3 => by
            have := bwrite_any w.heap.size w.heap.size (bcs (wfl f (j + 1))) (sb (f (j + 1))) w3 h3 (by rw [bcs_length, hs]; omega) hs3
            rw [bcs_sb, bcs_append, ← wfl_succ] at this
            exact this
          have HL : Hid (m = 0 → (sb (f (j + 1))).size = 0) := fun q => by
            rw [hs]
            have h3 := HG.out (j + 1 + 1) (by omega)
            rw [HS.out (j + 1), ← HM.out] at h3
            omega
          unfold st at hc
          clear hl hs ht e1
          generalize sb (f (j + 1)) = s at *
          go_wp2_with fail
          refine W1.mono ?_
          rintro e w3 ⟨rfl, hU3, hB3, hz3⟩
          have W2 := HW2.out w3 hU3 (Nat.le_trans hsw hB3.size)
          have HB3 : Hid (Below w.heap.size w w3) := HB.out.trans hB3
          have HZ3 : Hid (m = 0 → NilB w.heap.size w3) := fun q => hz3 rfl (HZ.out q)
          clear W1 hU3 hB3 hz3 HB HZ HU hc
          go_wp2_with fail
          refine W2.mono ?_
          rintro e w4 ⟨rfl, hU4, hB4, hz4⟩
          have HU4 : Hid (BldU w.heap.size w.heap.size (bcs (wfl f (j + 1 + 1))) w4) := hU4
          have HB4 : Hid (Below w.heap.size w w4) := HB3.out.trans hB4
          have HZ4 : Hid (m = 0 → NilB w.heap.size w4) := fun q => hz4 (HL.out q) (HZ3.out q)
          clear W2 hU4 hB4 hz4 HB3 HZ3
          go_wp2
          go_roundw
          case rel => exact ⟨j + 1, by omega, by go_num, HU4.out, HB4.out, HZ4.out⟩
          case measure => simp [intOf]; omega
        · have ej : j + 1 = n := by omega
          have W := bstring_any w.heap.size w.heap.size (wfl f (j + 1)) wr HU.out (fun q => HZ.out (by rw [HM.out, ← ej, q]; rfl))
          have HE : Hid (wfl f (j + 1) = wfl f n) := by (show wfl f (j + 1) = wfl f n); rw [ej]
          have hje : ¬ (j : Int) < (n : Int) - 1 := by omega
          unfold st at W
          have HV : Hid (∀ s, s = sb (wfl f (j + 1)) → Value.string s = st (wfl f n)) := fun s hs => by rw [hs, HE.out]
          obtain ⟨s, hss⟩ : ∃ s, s = sb (wfl f (j + 1)) := ⟨_, rfl⟩
          have HVS : Hid (Value.string s = st (wfl f n)) := HV.out s hss
          rw [← hss] at W
          clear hss ej HU HZ HE HV
          go_wp2_with fail
          refine W.mono ?_
          rintro e w5 ⟨rfl, hB5⟩
          have HB5 : Hid (Below w.heap.size w w5) := HB.out.trans hB5
          clear W hB5
          go_wp2
          go_ret
          exact ⟨by rw [← HVS.out]; rfl, HB5.out⟩
theorem join_any (v : Value) (n : Nat) (f : Nat → List El) (w : World) (hr : RdT w v n f) (hn : n ≤ 12) (hf : ∀ i, i < n → (f i).length ≤ 100) :
    Calls Try.prog 16 #[v, .string ⟨#[]⟩] w fun e w' => e = .returned (st (wfl f n)) ∧ Below w.heap.size w w' := by
  match n, hr, hn, hf with
  | 0, hr, _, _ =>
    obtain ⟨ao, cap, e, _⟩ := hr.len
    exact (join_none v ⟨ao, cap, e⟩ w).mono fun e w' ⟨h1, h2⟩ => ⟨h1, h2 ▸ Below.refl _ _⟩
  | 1, hr, _, _ => exact (join_one v f w hr).mono fun e w' ⟨h1, h2⟩ => ⟨by rw [wfl_one]; exact h1, h2 ▸ Below.refl _ _⟩
  | n + 2, hr, hn, hf => exact join_many v (n + 2) f w hr (by omega) hn hf
end Go.Proofs.Ytlomcajabngnpaj
