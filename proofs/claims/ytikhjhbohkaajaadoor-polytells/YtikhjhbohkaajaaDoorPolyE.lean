/- What poly.Mul, Add and Eval answer, whatever lists of bytes they are given: by walks over the program. -/
import Derived.Test.YtikhjhbohkaajaaDoorPolyD
namespace Go.Proofs.YtikhjhbohkaajaaDoor
open Go.ChangeShapes Go.WideShapes Go.ChangeAt Go.RowKit El Pol
abbrev full : Value := .iface 55 (.int .i64 4)
theorem new_cells (w : World) (x y : Value) (t : TypeId) :
    (w.alloc (.cells #[x, y] t)).cell? ⟨w.heap.size, 0, none⟩ = some x ∧ (w.alloc (.cells #[x, y] t)).cell? ⟨w.heap.size, 1, none⟩ = some y := by
  have h := heap_alloc_new w (.cells #[x, y] t)
  exact ⟨by rw [cell_of_row _ _ 0 _ _ _ h]; rfl, by rw [cell_of_row _ _ 1 _ _ _ h]; rfl⟩
set_option maxRecDepth 100000 in
set_option maxHeartbeats 400000 in
theorem mul_full (a1 a2 : Option Addr) (l1 c1 l2 c2 : Nat) (w : World) (h : (tl l1 || tl l2) = true) :
    Calls Tryd.prog 24 #[.slice a1 l1 c1, .slice a2 l2 c2] w fun e w' => e = .returned (.tuple #[.slice none 0 0, full]) ∧ Below w.heap.size w w' := by
  have hn := new_cells w (.slice a1 l1 c1) (.slice a2 l2 c2) 35
  have c := long2 w.heap.size a1 a2 l1 c1 l2 c2 _ hn.1 hn.2
  rw [h] at c
  clear hn h
  go_enter Tryd.func24, Tryd.ntmps24
  go_wp2_with fail
  refine c.mono ?_
  rintro e w1 ⟨rfl, hw⟩
  obtain rfl := hw.symm
  go_wp2
  go_ret2
  exact ⟨rfl, (Below.refl _ _).alloc (Nat.le_refl _) _⟩
set_option maxRecDepth 100000 in
set_option maxHeartbeats 400000 in
theorem mul_ok (u v : Value) (xs ys : List El) (w : World) (hx : Rd w u xs) (hy : Rd w v ys) (h1 : xs.length ≤ 40) (h2 : ys.length ≤ 40) :
    Calls Tryd.prog 24 #[u, v] w fun e w' => ∃ v', e = .returned (.tuple #[v', .nilIface]) ∧ Ow w.heap.size w' v' (trim (Pol.mul xs ys)) ∧ Below w.heap.size w w' := by
  obtain ⟨a1, c1, rfl, _, _⟩ := hx.len
  obtain ⟨a2, c2, rfl, _, _⟩ := hy.len
  have hn := new_cells w (.slice a1 xs.length c1) (.slice a2 ys.length c2) 35
  have c := long2 w.heap.size a1 a2 xs.length c1 ys.length c2 _ hn.1 hn.2
  rw [tl_not (by omega), tl_not (by omega)] at c
  have P := product_any _ _ xs ys _ (hx.alloc (.cells #[.slice a1 xs.length c1, .slice a2 ys.length c2] 35)) (hy.alloc _) (by omega)
  clear hn hx hy
  generalize xs.length = n at *
  generalize ys.length = m at *
  go_enter Tryd.func24, Tryd.ntmps24
  go_wp2_with fail
  refine c.mono ?_
  rintro e w1 ⟨rfl, hw⟩
  obtain rfl := hw.symm
  go_wp2_with fail
  refine P.mono ?_
  rintro e w2 ⟨v', rfl, hO, hB⟩
  have hO' : Ow w.heap.size w2 v' (trim (Pol.mul xs ys)) := hO.mono (by simp)
  have hB' : Below w.heap.size w w2 := ((Below.refl _ _).alloc (Nat.le_refl _) _).trans (hB.mono (by simp))
  clear c P hO hB
  go_wp2
  go_ret2
  exact ⟨_, rfl, hO', hB'⟩
set_option maxRecDepth 100000 in
set_option maxHeartbeats 400000 in
theorem add_full (a1 a2 : Option Addr) (l1 c1 l2 c2 : Nat) (w : World) (h : (tl l1 || tl l2) = true) :
    Calls Tryd.prog 23 #[.slice a1 l1 c1, .slice a2 l2 c2] w fun e w' => e = .returned (.tuple #[.slice none 0 0, full]) ∧ Below w.heap.size w w' := by
  have hn := new_cells w (.slice a1 l1 c1) (.slice a2 l2 c2) 35
  have c := long2 w.heap.size a1 a2 l1 c1 l2 c2 _ hn.1 hn.2
  rw [h] at c
  clear hn h
  go_enter Tryd.func23, Tryd.ntmps23
  go_wp2_with fail
  refine c.mono ?_
  rintro e w1 ⟨rfl, hw⟩
  obtain rfl := hw.symm
  go_wp2
  go_ret2
  exact ⟨rfl, (Below.refl _ _).alloc (Nat.le_refl _) _⟩
theorem new_cell (w : World) (x : Value) (t : TypeId) : (w.alloc (.cells #[x] t)).cell? ⟨w.heap.size, 0, none⟩ = some x := by
  have h := heap_alloc_new w (.cells #[x] t)
  rw [cell_of_row _ _ 0 _ _ _ h]; rfl
set_option maxRecDepth 100000 in
set_option maxHeartbeats 400000 in
theorem eval_full (a1 : Option Addr) (l1 c1 : Nat) (x : Int) (w : World) (h : tl l1 = true) :
    Calls Tryd.prog 20 #[.slice a1 l1 c1, .int .u8 x] w fun e w' => e = .returned (.tuple #[.int .u8 0, full]) ∧ Below w.heap.size w w' := by
  have c := long1 w.heap.size a1 l1 c1 _ (new_cell w (.slice a1 l1 c1) 35)
  rw [h] at c
  clear h
  go_enter Tryd.func20, Tryd.ntmps20
  go_wp2_with fail
  refine c.mono ?_
  rintro e w1 ⟨rfl, hw⟩
  obtain rfl := hw.symm
  go_wp2
  go_ret2
  exact ⟨rfl, (Below.refl _ _).alloc (Nat.le_refl _) _⟩
set_option maxRecDepth 100000 in
set_option maxHeartbeats 400000 in
theorem eval_ok (u : Value) (xs : List El) (x : El) (w : World) (hx : Rd w u xs) (h1 : xs.length ≤ 40) :
    Calls Tryd.prog 20 #[u, .int .u8 ((x.val : Nat) : Int)] w fun e w' => e = .returned (.tuple #[.int .u8 (((ev xs x).val : Nat) : Int), .nilIface]) ∧ Below w.heap.size w w' := by
  obtain ⟨a1, c1, rfl, _, _⟩ := hx.len
  have c := long1 w.heap.size a1 xs.length c1 _ (new_cell w (.slice a1 xs.length c1) 35)
  rw [tl_not (by omega)] at c
  have P := value_any _ xs x _ (hx.alloc (.cells #[.slice a1 xs.length c1] 35))
  clear hx
  generalize xs.length = n at *
  go_enter Tryd.func20, Tryd.ntmps20
  go_wp2_with fail
  refine c.mono ?_
  rintro e w1 ⟨rfl, hw⟩
  obtain rfl := hw.symm
  go_wp2_with fail
  refine P.mono ?_
  rintro e w2 ⟨rfl, hB⟩
  have hB' : Below w.heap.size w w2 := ((Below.refl _ _).alloc (Nat.le_refl _) _).trans (hB.mono (by simp))
  clear c P hB
  go_wp2
  go_ret2
  exact ⟨rfl, hB'⟩
theorem addTimes_one (B g o n cp ls cs : Nat) (L : List El) (v : Value) (xs : List El) (w : World) (h : Rd w v xs) (hne : xs ≠ [] → v.ownBlock ≠ some g)
    (hL : Ow B w (.slice (some ⟨g, 0, none⟩) n cp) L) (hn : n = L.length) (ho : o + xs.length ≤ n) (hls : xs.length ≤ ls) (hlm : ls ≤ 9223372036854775807) :
    Calls Tryd.prog 36 #[.slice (some ⟨g, o, none⟩) ls cs, v, .int .u8 1] w fun e w' => e = .returned (.tuple #[]) ∧ Ow B w' (.slice (some ⟨g, 0, none⟩) n cp) (addAt L o xs 1) ∧ w.grownBy w' (some g) :=
  addTimes_any B g o n cp ls cs L v xs 1 w h hne hL hn ho hls hlm
set_option maxRecDepth 100000 in
set_option maxHeartbeats 400000 in
theorem add_ok (u v : Value) (xs ys : List El) (w : World) (hx : Rd w u xs) (hy : Rd w v ys) (h1 : xs.length ≤ 40) (h2 : ys.length ≤ 40) :
    Calls Tryd.prog 23 #[u, v] w fun e w' => ∃ v', e = .returned (.tuple #[v', .nilIface]) ∧ Ow w.heap.size w' v' (trim (Pol.add xs ys)) ∧ Below w.heap.size w w' := by
  obtain ⟨a1, c1, rfl, _, _⟩ := hx.len
  obtain ⟨a2, c2, rfl, _, _⟩ := hy.len
  have hn := new_cells w (.slice a1 xs.length c1) (.slice a2 ys.length c2) 35
  have c := long2 w.heap.size a1 a2 xs.length c1 ys.length c2 _ hn.1 hn.2
  rw [tl_not (by omega), tl_not (by omega)] at c
  have hx' := hx.alloc (.cells #[.slice a1 xs.length c1, .slice a2 ys.length c2] 35)
  have hy' := hy.alloc (.cells #[.slice a1 xs.length c1, .slice a2 ys.length c2] 35)
  clear hn hx hy
  obtain ⟨n, hn⟩ : ∃ n, n = xs.length := ⟨_, rfl⟩
  obtain ⟨m, hm⟩ : ∃ m, m = ys.length := ⟨_, rfl⟩
  rw [← hn] at h1 c hx' hy' ⊢
  rw [← hm] at h2 c hx' hy' ⊢
  have HN : Hid (n = xs.length) := hn
  have HM : Hid (m = ys.length) := hm
  clear hn hm
  obtain ⟨i0, hi, hz0, hz1, hz2⟩ := info_parts info8
  by_cases hnm : n < m
  all_goals
    go_enter Tryd.func23, Tryd.ntmps23
    go_wp2_with fail
    refine c.mono ?_
    rintro e w1 ⟨rfl, hw⟩
    obtain rfl := hw.symm
    clear c
    go_wp2_with (first | (at_make; refine wpList_make_full _ rfl _ _ 35 rfl (w.heap.size + 1) 5 i0 (.int .u8 0) 1 Tryd.underlying35 hi hz0 hz1 _ _ _ _ _ rfl rfl rfl rfl (by rw [hz2]; omega) (by unfold maxLen; omega) (by simp) ?_))
    intro w1 hown hgrow
    have hA := Ow.made hown
    have hB1 := below_of_grown hgrow
    have hx1 := hx'.old hB1
    have hy1 := hy'.old hB1
    have hnx := hx'.ne (g := w.heap.size + 1) (by simp)
    have hny := hy'.ne (g := w.heap.size + 1) (by simp)
    have hB0 : Below w.heap.size w w1 := ((Below.refl _ _).alloc (Nat.le_refl _) _).trans (hB1.mono (by simp))
    have hs1 : w.heap.size + 1 ≤ w1.heap.size := by have := hB1.size; simpa using this
    clear hown hgrow hx' hy' hB1
    go_wp2_with fail
    refine (addTimes_one _ _ 0 _ _ _ _ _ _ xs _ hx1 hnx hA (by simp) (by rw [← HN.out]; omega) (by rw [← HN.out]; omega) (by omega)).mono ?_
    rintro e w2 ⟨rfl, hA2, hg2⟩
    have hy2 := hy1.grown hg2 hny
    have hB2 := hB0.trans (below_of_grownAt hg2 (by omega) (Nat.le_succ _))
    have hs2 := hg2.size
    clear hA hg2 hx1 hy1 hB0
    go_wp2_with fail
    refine (addTimes_one _ _ 0 _ _ _ _ _ _ ys _ hy2 hny hA2 (by simp [addAt_length]) (by rw [← HM.out]; omega) (by rw [← HM.out]; omega) (by omega)).mono ?_
    rintro e w3 ⟨rfl, hA3, hg3⟩
    have hB3 := hB2.trans (below_of_grownAt hg3 (by omega) (Nat.le_succ _))
    have hs3 := hg3.size
    clear hA2 hg3 hy2 hB2
    go_wp2_with fail
    refine (trim_any _ _ _ hA3.rd (by simp [addAt_length]; omega)).mono ?_
    rintro e w4 ⟨v4, rfl, hO, hB4⟩
    rw [sum_end xs ys _ (by rw [← HN.out]; omega) (by rw [← HM.out]; omega)] at hO
    have hO' := hO.mono (B' := w.heap.size) (by omega)
    have hB' := hB3.trans (hB4.mono (by omega))
    clear hA3 hO hB4 hB3
    go_wp2
    go_ret2
    exact ⟨_, rfl, hO', hB'⟩
theorem rd_lit (w : World) (l : List El) (hl : l.length ≤ 1000) : Rd (w.alloc (.cells (l.map eb).toArray 5)) (.slice (some ⟨w.heap.size, 0, none⟩) l.length l.length) l := by
  refine Ow.rd (B := w.heap.size) ?_
  have := World.ownsRow_lit (base := w.heap.size) (e := 5) (size := 1) w (l.map eb).toArray l.length (Nat.le_refl _) (by unfold maxLen; omega) (by simp)
  exact this
theorem rd_one (w : World) : Rd (w.alloc (.cells #[.int .u8 1] 5)) (.slice (some ⟨w.heap.size, 0, none⟩) 1 1) [1] := rd_lit w [1] (by decide)
theorem rd_two (w : World) (c : El) : Rd (w.alloc (.cells #[.int .u8 ((c.val : Nat) : Int), .int .u8 1] 5)) (.slice (some ⟨w.heap.size, 0, none⟩) 2 2) [c, 1] := rd_lit w [c, 1] (by simp)
theorem Rd.some {w : World} {ao : Option Addr} {n cap : Nat} {xs : List El} (h : Rd w (.slice ao n cap) xs) (i : Nat) (hi : i < xs.length) : ∃ ad, ao = .some ad ∧ w.cell? (ad.add i) = .some (.int .u8 (((co xs i).val : Nat) : Int)) := by
  rcases h with ⟨_, rfl⟩ | ⟨ad, cap', he, _, _, h3⟩
  · simp at hi
  · simp only [Value.slice.injEq] at he
    obtain ⟨rfl, rfl, rfl⟩ := he
    exact ⟨ad, rfl, h3 i hi⟩
end Go.Proofs.YtikhjhbohkaajaaDoor
