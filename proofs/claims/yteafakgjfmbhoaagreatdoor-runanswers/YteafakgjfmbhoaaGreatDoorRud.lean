/- Texts of plain mathematics, of memory and of walks, in one. -/
import Derived.Test.YteafakgjfmbhoaaGreatDoorRuc
import Derived.BigRegion
import Derived.BigGuard
import Derived.BigCall
/- A line that has not its words, as it is read: a walk over the program. -/
namespace Go.Proofs.YteafakgjfmbhoaaGreatDoor
open Go.RowKit El Pol
set_option maxHeartbeats 40000000 in
set_option maxRecDepth 100000 in
theorem read_bad (s : List El) (hs : s.length ≤ 3000) (p b : Nat) (w : World) (hm : ∃ D, HasW w b wTab D) (hi : tbB wTab (wrd s 0) = false ∨ s.count 32 + 1 ≠ 1 + (tbV wTab (wrd s 0)).1 + (tbV wTab (wrd s 0)).2) :
    Calls Tryz.prog 43 #[.agg #[.pointer (some ⟨p, 0, none⟩), .map (some b)], st s] w fun e w' => e = .returned (rdV s) ∧ Below w.heap.size w w' := by
  have hcl := count_le 32 s
  have C := split_n s (s.count 32 + 1) rfl ((w.alloc (.cells #[.pointer (some ⟨p, 0, none⟩), .map (some b)] 45)).alloc (.cells #[.string ⟨#[]⟩, .int .i64 0, .int .i64 0, .string ⟨#[]⟩] 98)) (by omega)
  obtain ⟨D, hD⟩ := hm
  have hbw := hD.blt
  have HLK : Hid (∀ W, W.heap[b]? = w.heap[b]? → (Instr.lookup 42 (.map (some b)) (st (wrd s 0)) true).run Tryz.prog W = .ok (.tuple #[.agg #[.int .i64 ((tbV wTab (wrd s 0)).1 : Int), .int .i64 ((tbV wTab (wrd s 0)).2 : Int)], .bool (tbB wTab (wrd s 0))]) W) := fun W e => (hD.blk e).run_look (wrd s 0) (by have := wrd_len 0 hs; omega)
  have HR : Hid (rdV s = .tuple #[ordV ord0, eline]) := by
    (show _ = _)
    unfold rdV
    rw [rdO_none hi]
    rfl
  rw [HR.out]
  unfold ordV ord0
  have hn2 : tbB wTab (wrd s 0) = true → (tbV wTab (wrd s 0)).1 ≤ 2 ∧ (tbV wTab (wrd s 0)).2 ≤ 1 := fun h => by
    rcases tb_four _ h with e | e | e | e <;> rw [e] <;> exact ⟨by decide, by decide⟩
  have hm4 : s.count 32 + 1 ≤ 3001 := by omega
  have hpos : 0 < s.count 32 + 1 := Nat.succ_pos _
  clear HR hcl hs hD
  generalize (tbV wTab (wrd s 0)).1 = nn at *
  generalize (tbV wTab (wrd s 0)).2 = kk at *
  generalize tbB wTab (wrd s 0) = kn at *
  generalize s.count 32 + 1 = mm at *
  go_enter Tryz.func43, Tryz.ntmps43
  go_wp2_with fail
  refine C.mono ?_
  rintro e w2 ⟨g, rfl, hg, hr, hb⟩
  simp only [World.size_alloc] at hg hb
  have hs2 : w.heap.size + 2 ≤ w2.heap.size := by
    have := hb.size
    simp only [World.size_alloc] at this
    omega
  have m0 : w2.cell? ⟨w.heap.size, 0, none⟩ = some (.pointer (some ⟨p, 0, none⟩)) := by rw [hb.cell (by show w.heap.size < _; omega)]; simp
  have m1 : w2.cell? ⟨w.heap.size, 1, none⟩ = some (.map (some b)) := by rw [hb.cell (by show w.heap.size < _; omega)]; simp
  have o0 : w2.cell? ⟨w.heap.size + 1, 0, none⟩ = some (.string ⟨#[]⟩) := by rw [hb.cell (by show w.heap.size + 1 < _; omega)]; simp
  have o1 : w2.cell? ⟨w.heap.size + 1, 1, none⟩ = some (.int .i64 0) := by rw [hb.cell (by show w.heap.size + 1 < _; omega)]; simp
  have o2 : w2.cell? ⟨w.heap.size + 1, 2, none⟩ = some (.int .i64 0) := by rw [hb.cell (by show w.heap.size + 1 < _; omega)]; simp
  have o3 : w2.cell? ⟨w.heap.size + 1, 3, none⟩ = some (.string ⟨#[]⟩) := by rw [hb.cell (by show w.heap.size + 1 < _; omega)]; simp
  have of : ∀ j, w2.frozen? ⟨w.heap.size + 1, j, none⟩ = false := fun j => by rw [hb.frozen (by show w.heap.size + 1 < _; omega)]; simp
  have c0 : w2.cell? ⟨g, 0, none⟩ = some (st (wrd s 0)) := (hr.2 0 hpos).1
  have hgl := hr.1
  have hob : w.heap.size + 1 < w2.heap.size := by omega
  have hob1 : ¬ w.heap.size = w2.heap.size := by omega
  have hob2 : ¬ w.heap.size + 1 = w2.heap.size := by omega
  have hob3 : w.heap.size < w2.heap.size := by omega
  have m1a : (w2.alloc (.cells #[.int .i64 0, .int .i64 0] 93)).cell? ⟨w.heap.size, 1, none⟩ = some (.map (some b)) := by rw [World.cell?_alloc_lt _ _ ⟨w.heap.size, 1, none⟩ (by show w.heap.size < _; omega)]; exact m1
  have c0a : (w2.alloc (.cells #[.int .i64 0, .int .i64 0] 93)).cell? ⟨g, 0, none⟩ = some (st (wrd s 0)) := by rw [World.cell?_alloc_lt _ _ ⟨g, 0, none⟩ hgl]; exact c0
  have hbk : w2.heap[b]? = w.heap[b]? := by
    rw [hb.block b (by omega)]
    exact (Below.heap_alloc _ _ _ (by simp; omega)).trans (Below.heap_alloc _ _ _ hbw)
  have LK := HLK.out w2.drew hbk
  have LK2 := HLK.out (w2.alloc (.cells #[.int .i64 0, .int .i64 0] 93)).drew ((Below.heap_alloc w2 _ b (by omega)).trans hbk)
  have HB : Hid (∀ w5, Below (w.heap.size + 1) w2 w5 → Below w.heap.size w w5) := fun w5 h5 => by
    have k0 : Below w.heap.size w ((w.alloc (.cells #[.pointer (some ⟨p, 0, none⟩), .map (some b)] 45)).alloc (.cells #[.string ⟨#[]⟩, .int .i64 0, .int .i64 0, .string ⟨#[]⟩] 98)) := ((Below.refl _ w).alloc (Nat.le_refl _) _).alloc (by simp) _
    exact (k0.trans (hb.mono (by omega))).trans (h5.mono (by omega))
  clear C hr
  unfold st at *
  generalize sb (wrd s 0) = s0 at *
  have mpi : (0 : Int) < (mm : Int) := by omega
  cases kn with
  | false =>
    go_wp2_with fail
    go_region
    all_goals
      clear LK LK2 c0a m1a HLK
      go_wp2_with fail
      (try simp only [Exit.inBlock, Exit.then])
      have F4 := four_at (X := w2) (r := w.heap.size + 1) (v0 := .string ⟨#[]⟩) (v1 := .int .i64 0) (v2 := .int .i64 0) (v3 := .string ⟨#[]⟩) o0 o1 o2 o3
      have hS : w.heap.size + 1 < ((((w2.setCell ⟨w.heap.size + 1, 0, none⟩ (.string ⟨#[]⟩)).setCell ⟨w.heap.size + 1, 1, none⟩ (.int .i64 0)).setCell ⟨w.heap.size + 1, 2, none⟩ (.int .i64 0)).setCell ⟨w.heap.size + 1, 3, none⟩ (.string ⟨#[]⟩)).heap.size := by simpa using hob
      have BS : Below (w.heap.size + 1) w2 ((((w2.setCell ⟨w.heap.size + 1, 0, none⟩ (.string ⟨#[]⟩)).setCell ⟨w.heap.size + 1, 1, none⟩ (.int .i64 0)).setCell ⟨w.heap.size + 1, 2, none⟩ (.int .i64 0)).setCell ⟨w.heap.size + 1, 3, none⟩ (.string ⟨#[]⟩)) := ((((Below.refl _ w2).setCell (p := ⟨w.heap.size + 1, 0, none⟩) (Nat.le_refl _) _).setCell (p := ⟨w.heap.size + 1, 1, none⟩) (Nat.le_refl _) _).setCell (p := ⟨w.heap.size + 1, 2, none⟩) (Nat.le_refl _) _).setCell (p := ⟨w.heap.size + 1, 3, none⟩) (Nat.le_refl _) _
      exact bodyPost_ret (v := .tuple #[.agg #[.string ⟨#[]⟩, .int .i64 0, .int .i64 0, .string ⟨#[]⟩], eline]) (rd_res rfl rfl (by rw [cel_drew, cel_new _ _ _ hS]; exact F4.1) (by rw [cel_drew, cel_new _ _ _ hS]; exact F4.2.1) (by rw [cel_drew, cel_new _ _ _ hS]; exact F4.2.2.1) (by rw [cel_drew, cel_new _ _ _ hS]; exact F4.2.2.2)) rfl ⟨rfl, HB.out _ ((BS.alloc (Nat.le_of_lt hS) _).drew)⟩
  | true =>
    have hq : mm ≠ 1 + nn + kk := hi.resolve_left (by decide)
    obtain ⟨hn3, hk3⟩ := hn2 rfl
    have hqi : ¬ (mm : Int) = 1 + (nn : Int) + (kk : Int) := by omega
    clear hi hn2
    go_wp2_with fail
    go_region
    all_goals
      clear LK LK2 c0a m1a HLK
      go_wp2_with fail
      (try simp only [Exit.inBlock, Exit.then])
      have F4 := four_at (X := w2) (r := w.heap.size + 1) (v0 := .string ⟨#[]⟩) (v1 := .int .i64 0) (v2 := .int .i64 0) (v3 := .string ⟨#[]⟩) o0 o1 o2 o3
      have hS : w.heap.size + 1 < ((((w2.setCell ⟨w.heap.size + 1, 0, none⟩ (.string ⟨#[]⟩)).setCell ⟨w.heap.size + 1, 1, none⟩ (.int .i64 0)).setCell ⟨w.heap.size + 1, 2, none⟩ (.int .i64 0)).setCell ⟨w.heap.size + 1, 3, none⟩ (.string ⟨#[]⟩)).heap.size := by simpa using hob
      have BS : Below (w.heap.size + 1) w2 ((((w2.setCell ⟨w.heap.size + 1, 0, none⟩ (.string ⟨#[]⟩)).setCell ⟨w.heap.size + 1, 1, none⟩ (.int .i64 0)).setCell ⟨w.heap.size + 1, 2, none⟩ (.int .i64 0)).setCell ⟨w.heap.size + 1, 3, none⟩ (.string ⟨#[]⟩)) := ((((Below.refl _ w2).setCell (p := ⟨w.heap.size + 1, 0, none⟩) (Nat.le_refl _) _).setCell (p := ⟨w.heap.size + 1, 1, none⟩) (Nat.le_refl _) _).setCell (p := ⟨w.heap.size + 1, 2, none⟩) (Nat.le_refl _) _).setCell (p := ⟨w.heap.size + 1, 3, none⟩) (Nat.le_refl _) _
      exact bodyPost_ret (v := .tuple #[.agg #[.string ⟨#[]⟩, .int .i64 0, .int .i64 0, .string ⟨#[]⟩], eline]) (rd_res rfl rfl (by rw [cel_drew, cel_new _ _ _ hS]; exact F4.1) (by rw [cel_drew, cel_new _ _ _ hS]; exact F4.2.1) (by rw [cel_drew, cel_new _ _ _ hS]; exact F4.2.2.1) (by rw [cel_drew, cel_new _ _ _ hS]; exact F4.2.2.2)) rfl ⟨rfl, HB.out _ ((BS.alloc (Nat.le_of_lt hS) _).drew)⟩
end Go.Proofs.YteafakgjfmbhoaaGreatDoor

/- A line of a word alone as it is read: a walk over the program. -/
namespace Go.Proofs.YteafakgjfmbhoaaGreatDoor
open Go.RowKit El Pol
set_option maxHeartbeats 40000000 in
set_option maxRecDepth 100000 in
theorem read_00 (s : List El) (hs : s.length ≤ 3000) (p b : Nat) (w : World) (hm : ∃ D, HasW w b wTab D) (hi : rdB s 0 0 = true) :
    Calls Tryz.prog 43 #[.agg #[.pointer (some ⟨p, 0, none⟩), .map (some b)], st s] w fun e w' => e = .returned (rdV s) ∧ Below w.heap.size w w' := by
  obtain ⟨hk, ht, hc⟩ := rdB_is hi
  have C := split_n s 1 (by rw [hc]) ((w.alloc (.cells #[.pointer (some ⟨p, 0, none⟩), .map (some b)] 45)).alloc (.cells #[.string ⟨#[]⟩, .int .i64 0, .int .i64 0, .string ⟨#[]⟩] 98)) (by omega)
  obtain ⟨D, hD⟩ := hm
  have hbw := hD.blt
  have HLK : Hid (∀ W, W.heap[b]? = w.heap[b]? → (Instr.lookup 42 (.map (some b)) (st (wrd s 0)) true).run Tryz.prog W = .ok (.tuple #[.agg #[.int .i64 0, .int .i64 0], .bool true]) W) := fun W e => by
    have := (hD.blk e).run_look (wrd s 0) (by have := wrd_len 0 hs; omega)
    rw [ht, hk] at this
    exact this
  have HR : Hid (rdV s = .tuple #[ordV ((some (wrd s 0, 0, 0, []) : Option OrdT).getD ord0), lnV ((some (wrd s 0, 0, 0, []) : Option OrdT)).isNone]) := by
    (show _ = _)
    unfold rdV
    rw [rdO_00 hi]
  rw [HR.out]
  unfold ordV ord0
  clear HR ht hk hc hi hs hD
  go_enter Tryz.func43, Tryz.ntmps43
  go_wp2_with fail
  refine C.mono ?_
  rintro e w2 ⟨g, rfl, hg, hr, hb⟩
  simp only [World.size_alloc] at hg hb
  have hs2 : w.heap.size + 2 ≤ w2.heap.size := by
    have := hb.size
    simp only [World.size_alloc] at this
    omega
  have m0 : w2.cell? ⟨w.heap.size, 0, none⟩ = some (.pointer (some ⟨p, 0, none⟩)) := by rw [hb.cell (by show w.heap.size < _; omega)]; simp
  have m1 : w2.cell? ⟨w.heap.size, 1, none⟩ = some (.map (some b)) := by rw [hb.cell (by show w.heap.size < _; omega)]; simp
  have o0 : w2.cell? ⟨w.heap.size + 1, 0, none⟩ = some (.string ⟨#[]⟩) := by rw [hb.cell (by show w.heap.size + 1 < _; omega)]; simp
  have o1 : w2.cell? ⟨w.heap.size + 1, 1, none⟩ = some (.int .i64 0) := by rw [hb.cell (by show w.heap.size + 1 < _; omega)]; simp
  have o2 : w2.cell? ⟨w.heap.size + 1, 2, none⟩ = some (.int .i64 0) := by rw [hb.cell (by show w.heap.size + 1 < _; omega)]; simp
  have o3 : w2.cell? ⟨w.heap.size + 1, 3, none⟩ = some (.string ⟨#[]⟩) := by rw [hb.cell (by show w.heap.size + 1 < _; omega)]; simp
  have of : ∀ j, w2.frozen? ⟨w.heap.size + 1, j, none⟩ = false := fun j => by rw [hb.frozen (by show w.heap.size + 1 < _; omega)]; simp
  have c0 : w2.cell? ⟨g, 0, none⟩ = some (st (wrd s 0)) := (hr.2 0 (by omega)).1
  have hgl := hr.1
  have hob : w.heap.size + 1 < w2.heap.size := by omega
  have hob1 : ¬ w.heap.size = w2.heap.size := by omega
  have hob2 : ¬ w.heap.size + 1 = w2.heap.size := by omega
  have hob3 : w.heap.size < w2.heap.size := by omega
  have m1a : (w2.alloc (.cells #[.int .i64 0, .int .i64 0] 93)).cell? ⟨w.heap.size, 1, none⟩ = some (.map (some b)) := by rw [World.cell?_alloc_lt _ _ ⟨w.heap.size, 1, none⟩ (by show w.heap.size < _; omega)]; exact m1
  have c0a : (w2.alloc (.cells #[.int .i64 0, .int .i64 0] 93)).cell? ⟨g, 0, none⟩ = some (st (wrd s 0)) := by rw [World.cell?_alloc_lt _ _ ⟨g, 0, none⟩ hgl]; exact c0
  have hbk : w2.heap[b]? = w.heap[b]? := by
    rw [hb.block b (by omega)]
    exact (Below.heap_alloc _ _ _ (by simp; omega)).trans (Below.heap_alloc _ _ _ hbw)
  have LK := HLK.out w2.drew hbk
  have LK2 := HLK.out (w2.alloc (.cells #[.int .i64 0, .int .i64 0] 93)).drew ((Below.heap_alloc w2 _ b (by omega)).trans hbk)
  have HB : Hid (∀ w5, Below (w.heap.size + 1) w2 w5 → Below w.heap.size w w5) := fun w5 h5 => by
    have k0 : Below w.heap.size w ((w.alloc (.cells #[.pointer (some ⟨p, 0, none⟩), .map (some b)] 45)).alloc (.cells #[.string ⟨#[]⟩, .int .i64 0, .int .i64 0, .string ⟨#[]⟩] 98)) := ((Below.refl _ w).alloc (Nat.le_refl _) _).alloc (by simp) _
    exact (k0.trans (hb.mono (by omega))).trans (h5.mono (by omega))
  clear C hr
  unfold st at *
  obtain ⟨s0, h0⟩ : ∃ s0, s0 = sb (wrd s 0) := ⟨_, rfl⟩
  have HS0 : Hid (s0 = sb (wrd s 0)) := h0
  rw [← h0] at c0 c0a LK LK2
  clear h0
  go_wp2_with fail
  go_region
  all_goals
    clear LK LK2 c0a m1a HLK
    go_wp2_with fail
    obtain ⟨W, hW⟩ : ∃ W, W = ((w2.alloc (.cells #[.int .i64 0, .int .i64 0] 93)).alloc (.cells #[.string s0, .int .i64 0, .int .i64 0, .string ⟨#[]⟩] 98)).drew := ⟨_, rfl⟩
    rw [← hW]
    have hlow : ∀ x j, x < w2.heap.size → W.cell? ⟨x, j, none⟩ = w2.cell? ⟨x, j, none⟩ ∧ W.frozen? ⟨x, j, none⟩ = w2.frozen? ⟨x, j, none⟩ := fun x j hx => by
      rw [hW]
      have hb2 : Below w2.heap.size w2 (((w2.alloc (.cells #[.int .i64 0, .int .i64 0] 93)).alloc (.cells #[.string s0, .int .i64 0, .int .i64 0, .string ⟨#[]⟩] 98)).drew) := (((Below.refl _ w2).alloc (Nat.le_refl _) _).alloc (by simp) _).drew
      exact ⟨hb2.cell hx, hb2.frozen hx⟩
    have r0 : W.cell? ⟨w.heap.size + 1, 0, none⟩ = some (.string ⟨#[]⟩) := by rw [(hlow _ 0 hob).1]; exact o0
    have r1 : W.cell? ⟨w.heap.size + 1, 1, none⟩ = some (.int .i64 0) := by rw [(hlow _ 1 hob).1]; exact o1
    have r2 : W.cell? ⟨w.heap.size + 1, 2, none⟩ = some (.int .i64 0) := by rw [(hlow _ 2 hob).1]; exact o2
    have r3 : W.cell? ⟨w.heap.size + 1, 3, none⟩ = some (.string ⟨#[]⟩) := by rw [(hlow _ 3 hob).1]; exact o3
    have f0 : W.frozen? ⟨w.heap.size + 1, 0, none⟩ = false := by rw [(hlow _ 0 hob).2]; exact of 0
    have f1 : W.frozen? ⟨w.heap.size + 1, 1, none⟩ = false := by rw [(hlow _ 1 hob).2]; exact of 1
    have f2 : W.frozen? ⟨w.heap.size + 1, 2, none⟩ = false := by rw [(hlow _ 2 hob).2]; exact of 2
    have f3 : W.frozen? ⟨w.heap.size + 1, 3, none⟩ = false := by rw [(hlow _ 3 hob).2]; exact of 3
    have y1 : W.cell? ⟨w2.heap.size, 1, none⟩ = some (.int .i64 0) := by rw [hW]; simp
    have z0 : W.cell? ⟨w2.heap.size + 1, 0, none⟩ = some (.string s0) := by rw [hW]; simp
    have z1 : W.cell? ⟨w2.heap.size + 1, 1, none⟩ = some (.int .i64 0) := by rw [hW]; simp
    have z2 : W.cell? ⟨w2.heap.size + 1, 2, none⟩ = some (.int .i64 0) := by rw [hW]; simp
    have z3 : W.cell? ⟨w2.heap.size + 1, 3, none⟩ = some (.string ⟨#[]⟩) := by rw [hW]; simp
    have g0 : W.frozen? ⟨w2.heap.size + 1, 0, none⟩ = false := by rw [hW]; simp
    have g1 : W.frozen? ⟨w2.heap.size + 1, 1, none⟩ = false := by rw [hW]; simp
    have g2 : W.frozen? ⟨w2.heap.size + 1, 2, none⟩ = false := by rw [hW]; simp
    have g3 : W.frozen? ⟨w2.heap.size + 1, 3, none⟩ = false := by rw [hW]; simp
    have HE : Hid (∀ w5, Below (w.heap.size + 1) W w5 → Below w.heap.size w w5) := fun w5 h5 => by
      have hb2 : Below (w.heap.size + 1) w2 W := by
        rw [hW]
        exact ((((Below.refl _ w2).alloc (by omega) _).alloc (by simp; omega) _).drew)
      exact HB.out w5 (hb2.trans h5)
    have rz : w.heap.size + 1 < w2.heap.size + 1 := by omega
    have gz : ¬ g = w2.heap.size + 1 := by omega
    have hgW : g < W.heap.size := by rw [hW]; simp; omega
    have hzW : w2.heap.size + 1 < W.heap.size := by rw [hW]; simp
    have rz1 : ¬ w.heap.size + 1 = w2.heap.size + 1 := by omega
    have zr1 : ¬ w2.heap.size + 1 = w.heap.size + 1 := by omega
    have yz1 : ¬ w2.heap.size = w2.heap.size + 1 := by omega
    have hyW : w2.heap.size < W.heap.size := by omega
    have hrW : w.heap.size + 1 < W.heap.size := by omega
    clear hW hlow HB hob hob1 hob2 hob3 o0 o1 o2 o3 of m0 m1 hb hs2 hgl hbk hg hbw
    clear c0
    generalize w2.heap.size + 1 = z at *
    generalize w2.heap.size = y at *
    generalize w.heap.size + 1 = r at *
    refine wp_loop_rounds 1 ?_
    rw [rounds_succ]
    go_wp2_with fail
    (try simp only [Exit.inBlock, Exit.then])
    exact bodyPost_ret (v := .tuple #[.agg #[.string s0, .int .i64 0, .int .i64 0, .string ⟨#[]⟩], .nilIface]) (rd_res4 rfl rfl r0 r1 r2 r3) rfl ⟨by rw [HS0.out]; rfl, HE.out _ (by repeat (first | refine Below.setCell ?_ (by first | exact Nat.le_refl _ | exact Nat.le_of_lt rz) _ | refine below_drewN ?_ _ | refine Below.drew ?_ | exact Below.refl _ _))⟩
end Go.Proofs.YteafakgjfmbhoaaGreatDoor

/- A line of one number as it is read: a walk over the program. -/
namespace Go.Proofs.YteafakgjfmbhoaaGreatDoor
open Go.RowKit El Pol
set_option maxHeartbeats 40000000 in
set_option maxRecDepth 100000 in
theorem read_10 (s : List El) (hs : s.length ≤ 3000) (p b : Nat) (w : World) (hm : ∃ D, HasW w b wTab D) (hi : rdB s 1 0 = true) :
    Calls Tryz.prog 43 #[.agg #[.pointer (some ⟨p, 0, none⟩), .map (some b)], st s] w fun e w' => e = .returned (rdV s) ∧ Below w.heap.size w w' := by
  obtain ⟨hk, ht, hc⟩ := rdB_is hi
  have C := split_n s 2 (by rw [hc]) ((w.alloc (.cells #[.pointer (some ⟨p, 0, none⟩), .map (some b)] 45)).alloc (.cells #[.string ⟨#[]⟩, .int .i64 0, .int .i64 0, .string ⟨#[]⟩] 98)) (by omega)
  obtain ⟨D, hD⟩ := hm
  have hbw := hD.blt
  have HN1 : Hid (∀ W, Calls Tryz.prog 62 #[st (wrd s 1)] W fun e w' => e = .returned (.tuple #[.int .i64 ((nuN (wrd s 1) : Nat) : Int), lnV (nuE (wrd s 1))]) ∧ Qt W w') := fun W => number_any _ W
  have HLK : Hid (∀ W, W.heap[b]? = w.heap[b]? → (Instr.lookup 42 (.map (some b)) (st (wrd s 0)) true).run Tryz.prog W = .ok (.tuple #[.agg #[.int .i64 1, .int .i64 0], .bool true]) W) := fun W e => by
    have := (hD.blk e).run_look (wrd s 0) (by have := wrd_len 0 hs; omega)
    rw [ht, hk] at this
    exact this
  have HR : Hid (rdV s = .tuple #[ordV ((if nuE (wrd s 1) = true then none else some (wrd s 0, nuN (wrd s 1), 0, []) : Option OrdT).getD ord0), lnV ((if nuE (wrd s 1) = true then none else some (wrd s 0, nuN (wrd s 1), 0, []) : Option OrdT)).isNone]) := by
    (show _ = _)
    unfold rdV
    rw [rdO_10 hi]
  rw [HR.out]
  unfold ordV ord0
  clear HR ht hk hc hi hs hD
  generalize nuE (wrd s 1) = e1 at *
  generalize nuN (wrd s 1) = v1 at *
  go_enter Tryz.func43, Tryz.ntmps43
  go_wp2_with fail
  refine C.mono ?_
  rintro e w2 ⟨g, rfl, hg, hr, hb⟩
  simp only [World.size_alloc] at hg hb
  have hs2 : w.heap.size + 2 ≤ w2.heap.size := by
    have := hb.size
    simp only [World.size_alloc] at this
    omega
  have m0 : w2.cell? ⟨w.heap.size, 0, none⟩ = some (.pointer (some ⟨p, 0, none⟩)) := by rw [hb.cell (by show w.heap.size < _; omega)]; simp
  have m1 : w2.cell? ⟨w.heap.size, 1, none⟩ = some (.map (some b)) := by rw [hb.cell (by show w.heap.size < _; omega)]; simp
  have o0 : w2.cell? ⟨w.heap.size + 1, 0, none⟩ = some (.string ⟨#[]⟩) := by rw [hb.cell (by show w.heap.size + 1 < _; omega)]; simp
  have o1 : w2.cell? ⟨w.heap.size + 1, 1, none⟩ = some (.int .i64 0) := by rw [hb.cell (by show w.heap.size + 1 < _; omega)]; simp
  have o2 : w2.cell? ⟨w.heap.size + 1, 2, none⟩ = some (.int .i64 0) := by rw [hb.cell (by show w.heap.size + 1 < _; omega)]; simp
  have o3 : w2.cell? ⟨w.heap.size + 1, 3, none⟩ = some (.string ⟨#[]⟩) := by rw [hb.cell (by show w.heap.size + 1 < _; omega)]; simp
  have of : ∀ j, w2.frozen? ⟨w.heap.size + 1, j, none⟩ = false := fun j => by rw [hb.frozen (by show w.heap.size + 1 < _; omega)]; simp
  have c0 : w2.cell? ⟨g, 0, none⟩ = some (st (wrd s 0)) := (hr.2 0 (by omega)).1
  have c1 : w2.cell? ⟨g, 1, none⟩ = some (st (wrd s 1)) := (hr.2 1 (by omega)).1
  have hgl := hr.1
  have hob : w.heap.size + 1 < w2.heap.size := by omega
  have hob1 : ¬ w.heap.size = w2.heap.size := by omega
  have hob2 : ¬ w.heap.size + 1 = w2.heap.size := by omega
  have hob3 : w.heap.size < w2.heap.size := by omega
  have m1a : (w2.alloc (.cells #[.int .i64 0, .int .i64 0] 93)).cell? ⟨w.heap.size, 1, none⟩ = some (.map (some b)) := by rw [World.cell?_alloc_lt _ _ ⟨w.heap.size, 1, none⟩ (by show w.heap.size < _; omega)]; exact m1
  have c0a : (w2.alloc (.cells #[.int .i64 0, .int .i64 0] 93)).cell? ⟨g, 0, none⟩ = some (st (wrd s 0)) := by rw [World.cell?_alloc_lt _ _ ⟨g, 0, none⟩ hgl]; exact c0
  have hbk : w2.heap[b]? = w.heap[b]? := by
    rw [hb.block b (by omega)]
    exact (Below.heap_alloc _ _ _ (by simp; omega)).trans (Below.heap_alloc _ _ _ hbw)
  have LK := HLK.out w2.drew hbk
  have LK2 := HLK.out (w2.alloc (.cells #[.int .i64 0, .int .i64 0] 93)).drew ((Below.heap_alloc w2 _ b (by omega)).trans hbk)
  have HB : Hid (∀ w5, Below (w.heap.size + 1) w2 w5 → Below w.heap.size w w5) := fun w5 h5 => by
    have k0 : Below w.heap.size w ((w.alloc (.cells #[.pointer (some ⟨p, 0, none⟩), .map (some b)] 45)).alloc (.cells #[.string ⟨#[]⟩, .int .i64 0, .int .i64 0, .string ⟨#[]⟩] 98)) := ((Below.refl _ w).alloc (Nat.le_refl _) _).alloc (by simp) _
    exact (k0.trans (hb.mono (by omega))).trans (h5.mono (by omega))
  clear C hr
  unfold st at *
  obtain ⟨s0, h0⟩ : ∃ s0, s0 = sb (wrd s 0) := ⟨_, rfl⟩
  have HS0 : Hid (s0 = sb (wrd s 0)) := h0
  rw [← h0] at c0 c0a LK LK2
  clear h0
  generalize sb (wrd s 1) = s1 at *
  go_wp2_with fail
  go_region
  all_goals
    have N1 := HN1.out
    clear LK LK2 c0a m1a HLK HN1
    go_wp2_with fail
    obtain ⟨W, hW⟩ : ∃ W, W = ((w2.alloc (.cells #[.int .i64 1, .int .i64 0] 93)).alloc (.cells #[.string s0, .int .i64 0, .int .i64 0, .string ⟨#[]⟩] 98)).drew := ⟨_, rfl⟩
    rw [← hW]
    have hlow : ∀ x j, x < w2.heap.size → W.cell? ⟨x, j, none⟩ = w2.cell? ⟨x, j, none⟩ ∧ W.frozen? ⟨x, j, none⟩ = w2.frozen? ⟨x, j, none⟩ := fun x j hx => by
      rw [hW]
      have hb2 : Below w2.heap.size w2 (((w2.alloc (.cells #[.int .i64 1, .int .i64 0] 93)).alloc (.cells #[.string s0, .int .i64 0, .int .i64 0, .string ⟨#[]⟩] 98)).drew) := (((Below.refl _ w2).alloc (Nat.le_refl _) _).alloc (by simp) _).drew
      exact ⟨hb2.cell hx, hb2.frozen hx⟩
    have d1 : W.cell? ⟨g, 1, none⟩ = some (.string s1) := by rw [(hlow g 1 hgl).1]; exact c1
    have r0 : W.cell? ⟨w.heap.size + 1, 0, none⟩ = some (.string ⟨#[]⟩) := by rw [(hlow _ 0 hob).1]; exact o0
    have r1 : W.cell? ⟨w.heap.size + 1, 1, none⟩ = some (.int .i64 0) := by rw [(hlow _ 1 hob).1]; exact o1
    have r2 : W.cell? ⟨w.heap.size + 1, 2, none⟩ = some (.int .i64 0) := by rw [(hlow _ 2 hob).1]; exact o2
    have r3 : W.cell? ⟨w.heap.size + 1, 3, none⟩ = some (.string ⟨#[]⟩) := by rw [(hlow _ 3 hob).1]; exact o3
    have f0 : W.frozen? ⟨w.heap.size + 1, 0, none⟩ = false := by rw [(hlow _ 0 hob).2]; exact of 0
    have f1 : W.frozen? ⟨w.heap.size + 1, 1, none⟩ = false := by rw [(hlow _ 1 hob).2]; exact of 1
    have f2 : W.frozen? ⟨w.heap.size + 1, 2, none⟩ = false := by rw [(hlow _ 2 hob).2]; exact of 2
    have f3 : W.frozen? ⟨w.heap.size + 1, 3, none⟩ = false := by rw [(hlow _ 3 hob).2]; exact of 3
    have y1 : W.cell? ⟨w2.heap.size, 1, none⟩ = some (.int .i64 0) := by rw [hW]; simp
    have z0 : W.cell? ⟨w2.heap.size + 1, 0, none⟩ = some (.string s0) := by rw [hW]; simp
    have z1 : W.cell? ⟨w2.heap.size + 1, 1, none⟩ = some (.int .i64 0) := by rw [hW]; simp
    have z2 : W.cell? ⟨w2.heap.size + 1, 2, none⟩ = some (.int .i64 0) := by rw [hW]; simp
    have z3 : W.cell? ⟨w2.heap.size + 1, 3, none⟩ = some (.string ⟨#[]⟩) := by rw [hW]; simp
    have g0 : W.frozen? ⟨w2.heap.size + 1, 0, none⟩ = false := by rw [hW]; simp
    have g1 : W.frozen? ⟨w2.heap.size + 1, 1, none⟩ = false := by rw [hW]; simp
    have g2 : W.frozen? ⟨w2.heap.size + 1, 2, none⟩ = false := by rw [hW]; simp
    have g3 : W.frozen? ⟨w2.heap.size + 1, 3, none⟩ = false := by rw [hW]; simp
    have HE : Hid (∀ w5, Below (w.heap.size + 1) W w5 → Below w.heap.size w w5) := fun w5 h5 => by
      have hb2 : Below (w.heap.size + 1) w2 W := by
        rw [hW]
        exact ((((Below.refl _ w2).alloc (by omega) _).alloc (by simp; omega) _).drew)
      exact HB.out w5 (hb2.trans h5)
    have rz : w.heap.size + 1 < w2.heap.size + 1 := by omega
    have gz : ¬ g = w2.heap.size + 1 := by omega
    have hgW : g < W.heap.size := by rw [hW]; simp; omega
    have hzW : w2.heap.size + 1 < W.heap.size := by rw [hW]; simp
    have rz1 : ¬ w.heap.size + 1 = w2.heap.size + 1 := by omega
    have zr1 : ¬ w2.heap.size + 1 = w.heap.size + 1 := by omega
    have yz1 : ¬ w2.heap.size = w2.heap.size + 1 := by omega
    have hyW : w2.heap.size < W.heap.size := by omega
    have hrW : w.heap.size + 1 < W.heap.size := by omega
    clear hW hlow HB hob hob1 hob2 hob3 o0 o1 o2 o3 of m0 m1 hb hs2 hgl hbk hg hbw
    clear c0 c1
    generalize w2.heap.size + 1 = z at *
    generalize w2.heap.size = y at *
    generalize w.heap.size + 1 = r at *
    refine wp_loop_rounds 2 ?_
    rw [rounds_succ]
    go_wp2_with fail
    refine (N1 _).mono ?_
    rintro e w5 ⟨rfl, q1, rfl⟩
    clear N1
    cases e1 with
    | true =>
      unfold lnV
      go_wp2_with fail
      (try simp only [Exit.inBlock, Exit.then])
      exact bodyPost_ret (v := .tuple #[.agg #[.string ⟨#[]⟩, .int .i64 0, .int .i64 0, .string ⟨#[]⟩], eline]) (rd_res4 rfl rfl (by (repeat (first | rw [cel_far _ _ _ _ rz1] | rw [cel_drewN])); exact r0) (by (repeat (first | rw [cel_far _ _ _ _ rz1] | rw [cel_drewN])); exact r1) (by (repeat (first | rw [cel_far _ _ _ _ rz1] | rw [cel_drewN])); exact r2) (by (repeat (first | rw [cel_far _ _ _ _ rz1] | rw [cel_drewN])); exact r3)) rfl ⟨rfl, HE.out _ (by repeat (first | refine Below.setCell ?_ (by first | exact Nat.le_refl _ | exact Nat.le_of_lt rz) _ | refine below_drewN ?_ _ | refine Below.drew ?_ | exact Below.refl _ _))⟩
    | false =>
      unfold lnV
      go_wp2_with fail
      rw [rounds_succ]
      go_wp2_with fail
      (try simp only [Exit.inBlock, Exit.then])
      exact bodyPost_ret (v := .tuple #[.agg #[.string s0, .int .i64 v1, .int .i64 0, .string ⟨#[]⟩], .nilIface]) (rd_res4 rfl rfl (by (repeat (first | rw [cel_far _ _ _ _ rz1] | rw [cel_drewN])); exact r0) (by (repeat (first | rw [cel_far _ _ _ _ rz1] | rw [cel_drewN])); exact r1) (by (repeat (first | rw [cel_far _ _ _ _ rz1] | rw [cel_drewN])); exact r2) (by (repeat (first | rw [cel_far _ _ _ _ rz1] | rw [cel_drewN])); exact r3)) rfl ⟨by rw [HS0.out]; rfl, HE.out _ (by repeat (first | refine Below.setCell ?_ (by first | exact Nat.le_refl _ | exact Nat.le_of_lt rz) _ | refine below_drewN ?_ _ | refine Below.drew ?_ | exact Below.refl _ _))⟩
end Go.Proofs.YteafakgjfmbhoaaGreatDoor

/- A line of one number and a block as it is read: a walk over the program. -/
namespace Go.Proofs.YteafakgjfmbhoaaGreatDoor
open Go.RowKit El Pol
set_option maxHeartbeats 40000000 in
set_option maxRecDepth 100000 in
theorem read_11 (s : List El) (hs : s.length ≤ 3000) (p b : Nat) (w : World) (hm : ∃ D, HasW w b wTab D) (hi : rdB s 1 1 = true) :
    Calls Tryz.prog 43 #[.agg #[.pointer (some ⟨p, 0, none⟩), .map (some b)], st s] w fun e w' => e = .returned (rdV s) ∧ Below w.heap.size w w' := by
  obtain ⟨hk, ht, hc⟩ := rdB_is hi
  have C := split_n s 3 (by rw [hc]) ((w.alloc (.cells #[.pointer (some ⟨p, 0, none⟩), .map (some b)] 45)).alloc (.cells #[.string ⟨#[]⟩, .int .i64 0, .int .i64 0, .string ⟨#[]⟩] 98)) (by omega)
  obtain ⟨D, hD⟩ := hm
  have hbw := hD.blt
  have HN1 : Hid (∀ W, Calls Tryz.prog 62 #[st (wrd s 1)] W fun e w' => e = .returned (.tuple #[.int .i64 ((nuN (wrd s 1) : Nat) : Int), lnV (nuE (wrd s 1))]) ∧ Qt W w') := fun W => number_any _ W
  have HK : Hid (∀ W, Calls Tryz.prog 63 #[st (wrd s 2)] W fun e w' => e = .returned (.tuple #[if bkE (wrd s 2) = true then st [] else st (bkN (wrd s 2)), lnV (bkE (wrd s 2))]) ∧ Below W.heap.size W w') := fun W => block_of_any _ W
  have HLK : Hid (∀ W, W.heap[b]? = w.heap[b]? → (Instr.lookup 42 (.map (some b)) (st (wrd s 0)) true).run Tryz.prog W = .ok (.tuple #[.agg #[.int .i64 1, .int .i64 1], .bool true]) W) := fun W e => by
    have := (hD.blk e).run_look (wrd s 0) (by have := wrd_len 0 hs; omega)
    rw [ht, hk] at this
    exact this
  have HR : Hid (rdV s = .tuple #[ordV ((if nuE (wrd s 1) = true then none else if bkE (wrd s 2) = true then none else some (wrd s 0, nuN (wrd s 1), 0, bkN (wrd s 2)) : Option OrdT).getD ord0), lnV ((if nuE (wrd s 1) = true then none else if bkE (wrd s 2) = true then none else some (wrd s 0, nuN (wrd s 1), 0, bkN (wrd s 2)) : Option OrdT)).isNone]) := by
    (show _ = _)
    unfold rdV
    rw [rdO_11 hi]
  rw [HR.out]
  unfold ordV ord0
  clear HR ht hk hc hi hs hD
  generalize nuE (wrd s 1) = e1 at *
  generalize nuN (wrd s 1) = v1 at *
  generalize bkE (wrd s 2) = e9 at *
  generalize bkN (wrd s 2) = v9 at *
  go_enter Tryz.func43, Tryz.ntmps43
  go_wp2_with fail
  refine C.mono ?_
  rintro e w2 ⟨g, rfl, hg, hr, hb⟩
  simp only [World.size_alloc] at hg hb
  have hs2 : w.heap.size + 2 ≤ w2.heap.size := by
    have := hb.size
    simp only [World.size_alloc] at this
    omega
  have m0 : w2.cell? ⟨w.heap.size, 0, none⟩ = some (.pointer (some ⟨p, 0, none⟩)) := by rw [hb.cell (by show w.heap.size < _; omega)]; simp
  have m1 : w2.cell? ⟨w.heap.size, 1, none⟩ = some (.map (some b)) := by rw [hb.cell (by show w.heap.size < _; omega)]; simp
  have o0 : w2.cell? ⟨w.heap.size + 1, 0, none⟩ = some (.string ⟨#[]⟩) := by rw [hb.cell (by show w.heap.size + 1 < _; omega)]; simp
  have o1 : w2.cell? ⟨w.heap.size + 1, 1, none⟩ = some (.int .i64 0) := by rw [hb.cell (by show w.heap.size + 1 < _; omega)]; simp
  have o2 : w2.cell? ⟨w.heap.size + 1, 2, none⟩ = some (.int .i64 0) := by rw [hb.cell (by show w.heap.size + 1 < _; omega)]; simp
  have o3 : w2.cell? ⟨w.heap.size + 1, 3, none⟩ = some (.string ⟨#[]⟩) := by rw [hb.cell (by show w.heap.size + 1 < _; omega)]; simp
  have of : ∀ j, w2.frozen? ⟨w.heap.size + 1, j, none⟩ = false := fun j => by rw [hb.frozen (by show w.heap.size + 1 < _; omega)]; simp
  have c0 : w2.cell? ⟨g, 0, none⟩ = some (st (wrd s 0)) := (hr.2 0 (by omega)).1
  have c1 : w2.cell? ⟨g, 1, none⟩ = some (st (wrd s 1)) := (hr.2 1 (by omega)).1
  have c2 : w2.cell? ⟨g, 2, none⟩ = some (st (wrd s 2)) := (hr.2 2 (by omega)).1
  have hgl := hr.1
  have hob : w.heap.size + 1 < w2.heap.size := by omega
  have hob1 : ¬ w.heap.size = w2.heap.size := by omega
  have hob2 : ¬ w.heap.size + 1 = w2.heap.size := by omega
  have hob3 : w.heap.size < w2.heap.size := by omega
  have m1a : (w2.alloc (.cells #[.int .i64 0, .int .i64 0] 93)).cell? ⟨w.heap.size, 1, none⟩ = some (.map (some b)) := by rw [World.cell?_alloc_lt _ _ ⟨w.heap.size, 1, none⟩ (by show w.heap.size < _; omega)]; exact m1
  have c0a : (w2.alloc (.cells #[.int .i64 0, .int .i64 0] 93)).cell? ⟨g, 0, none⟩ = some (st (wrd s 0)) := by rw [World.cell?_alloc_lt _ _ ⟨g, 0, none⟩ hgl]; exact c0
  have hbk : w2.heap[b]? = w.heap[b]? := by
    rw [hb.block b (by omega)]
    exact (Below.heap_alloc _ _ _ (by simp; omega)).trans (Below.heap_alloc _ _ _ hbw)
  have LK := HLK.out w2.drew hbk
  have LK2 := HLK.out (w2.alloc (.cells #[.int .i64 0, .int .i64 0] 93)).drew ((Below.heap_alloc w2 _ b (by omega)).trans hbk)
  have HB : Hid (∀ w5, Below (w.heap.size + 1) w2 w5 → Below w.heap.size w w5) := fun w5 h5 => by
    have k0 : Below w.heap.size w ((w.alloc (.cells #[.pointer (some ⟨p, 0, none⟩), .map (some b)] 45)).alloc (.cells #[.string ⟨#[]⟩, .int .i64 0, .int .i64 0, .string ⟨#[]⟩] 98)) := ((Below.refl _ w).alloc (Nat.le_refl _) _).alloc (by simp) _
    exact (k0.trans (hb.mono (by omega))).trans (h5.mono (by omega))
  clear C hr
  unfold st at *
  obtain ⟨s0, h0⟩ : ∃ s0, s0 = sb (wrd s 0) := ⟨_, rfl⟩
  have HS0 : Hid (s0 = sb (wrd s 0)) := h0
  rw [← h0] at c0 c0a LK LK2
  clear h0
  generalize sb (wrd s 1) = s1 at *
  generalize sb (wrd s 2) = s2 at *
  go_wp2_with fail
  go_region
  all_goals
    have N1 := HN1.out
    have K9 := HK.out
    clear LK LK2 c0a m1a HLK HN1 HK
    go_wp2_with fail
    obtain ⟨W, hW⟩ : ∃ W, W = ((w2.alloc (.cells #[.int .i64 1, .int .i64 1] 93)).alloc (.cells #[.string s0, .int .i64 0, .int .i64 0, .string ⟨#[]⟩] 98)).drew := ⟨_, rfl⟩
    rw [← hW]
    have hlow : ∀ x j, x < w2.heap.size → W.cell? ⟨x, j, none⟩ = w2.cell? ⟨x, j, none⟩ ∧ W.frozen? ⟨x, j, none⟩ = w2.frozen? ⟨x, j, none⟩ := fun x j hx => by
      rw [hW]
      have hb2 : Below w2.heap.size w2 (((w2.alloc (.cells #[.int .i64 1, .int .i64 1] 93)).alloc (.cells #[.string s0, .int .i64 0, .int .i64 0, .string ⟨#[]⟩] 98)).drew) := (((Below.refl _ w2).alloc (Nat.le_refl _) _).alloc (by simp) _).drew
      exact ⟨hb2.cell hx, hb2.frozen hx⟩
    have d1 : W.cell? ⟨g, 1, none⟩ = some (.string s1) := by rw [(hlow g 1 hgl).1]; exact c1
    have d2 : W.cell? ⟨g, 2, none⟩ = some (.string s2) := by rw [(hlow g 2 hgl).1]; exact c2
    have r0 : W.cell? ⟨w.heap.size + 1, 0, none⟩ = some (.string ⟨#[]⟩) := by rw [(hlow _ 0 hob).1]; exact o0
    have r1 : W.cell? ⟨w.heap.size + 1, 1, none⟩ = some (.int .i64 0) := by rw [(hlow _ 1 hob).1]; exact o1
    have r2 : W.cell? ⟨w.heap.size + 1, 2, none⟩ = some (.int .i64 0) := by rw [(hlow _ 2 hob).1]; exact o2
    have r3 : W.cell? ⟨w.heap.size + 1, 3, none⟩ = some (.string ⟨#[]⟩) := by rw [(hlow _ 3 hob).1]; exact o3
    have f0 : W.frozen? ⟨w.heap.size + 1, 0, none⟩ = false := by rw [(hlow _ 0 hob).2]; exact of 0
    have f1 : W.frozen? ⟨w.heap.size + 1, 1, none⟩ = false := by rw [(hlow _ 1 hob).2]; exact of 1
    have f2 : W.frozen? ⟨w.heap.size + 1, 2, none⟩ = false := by rw [(hlow _ 2 hob).2]; exact of 2
    have f3 : W.frozen? ⟨w.heap.size + 1, 3, none⟩ = false := by rw [(hlow _ 3 hob).2]; exact of 3
    have y1 : W.cell? ⟨w2.heap.size, 1, none⟩ = some (.int .i64 1) := by rw [hW]; simp
    have z0 : W.cell? ⟨w2.heap.size + 1, 0, none⟩ = some (.string s0) := by rw [hW]; simp
    have z1 : W.cell? ⟨w2.heap.size + 1, 1, none⟩ = some (.int .i64 0) := by rw [hW]; simp
    have z2 : W.cell? ⟨w2.heap.size + 1, 2, none⟩ = some (.int .i64 0) := by rw [hW]; simp
    have z3 : W.cell? ⟨w2.heap.size + 1, 3, none⟩ = some (.string ⟨#[]⟩) := by rw [hW]; simp
    have g0 : W.frozen? ⟨w2.heap.size + 1, 0, none⟩ = false := by rw [hW]; simp
    have g1 : W.frozen? ⟨w2.heap.size + 1, 1, none⟩ = false := by rw [hW]; simp
    have g2 : W.frozen? ⟨w2.heap.size + 1, 2, none⟩ = false := by rw [hW]; simp
    have g3 : W.frozen? ⟨w2.heap.size + 1, 3, none⟩ = false := by rw [hW]; simp
    have HE : Hid (∀ w5, Below (w.heap.size + 1) W w5 → Below w.heap.size w w5) := fun w5 h5 => by
      have hb2 : Below (w.heap.size + 1) w2 W := by
        rw [hW]
        exact ((((Below.refl _ w2).alloc (by omega) _).alloc (by simp; omega) _).drew)
      exact HB.out w5 (hb2.trans h5)
    have rz : w.heap.size + 1 < w2.heap.size + 1 := by omega
    have gz : ¬ g = w2.heap.size + 1 := by omega
    have hgW : g < W.heap.size := by rw [hW]; simp; omega
    have hzW : w2.heap.size + 1 < W.heap.size := by rw [hW]; simp
    have rz1 : ¬ w.heap.size + 1 = w2.heap.size + 1 := by omega
    have zr1 : ¬ w2.heap.size + 1 = w.heap.size + 1 := by omega
    have yz1 : ¬ w2.heap.size = w2.heap.size + 1 := by omega
    have hyW : w2.heap.size < W.heap.size := by omega
    have hrW : w.heap.size + 1 < W.heap.size := by omega
    clear hW hlow HB hob hob1 hob2 hob3 o0 o1 o2 o3 of m0 m1 hb hs2 hgl hbk hg hbw
    clear c0 c1 c2
    generalize w2.heap.size + 1 = z at *
    generalize w2.heap.size = y at *
    generalize w.heap.size + 1 = r at *
    refine wp_loop_rounds 2 ?_
    rw [rounds_succ]
    go_wp2_with fail
    refine (N1 _).mono ?_
    rintro e w5 ⟨rfl, q1, rfl⟩
    clear N1
    cases e1 with
    | true =>
      unfold lnV
      go_wp2_with fail
      (try simp only [Exit.inBlock, Exit.then])
      exact bodyPost_ret (v := .tuple #[.agg #[.string ⟨#[]⟩, .int .i64 0, .int .i64 0, .string ⟨#[]⟩], eline]) (rd_res4 rfl rfl (by (repeat (first | rw [cel_far _ _ _ _ rz1] | rw [cel_drewN])); exact r0) (by (repeat (first | rw [cel_far _ _ _ _ rz1] | rw [cel_drewN])); exact r1) (by (repeat (first | rw [cel_far _ _ _ _ rz1] | rw [cel_drewN])); exact r2) (by (repeat (first | rw [cel_far _ _ _ _ rz1] | rw [cel_drewN])); exact r3)) rfl ⟨rfl, HE.out _ (by repeat (first | refine Below.setCell ?_ (by first | exact Nat.le_refl _ | exact Nat.le_of_lt rz) _ | refine below_drewN ?_ _ | refine Below.drew ?_ | exact Below.refl _ _))⟩
    | false =>
      unfold lnV
      go_wp2_with fail
      rw [rounds_succ]
      go_wp2_with fail
      refine (K9 _).mono ?_
      rintro e w5 ⟨rfl, hb5⟩
      clear K9
      have r05 : w5.cell? ⟨r, 0, none⟩ = some (.string ⟨#[]⟩) := by rw [hb5.cell (by first | exact hrW | simpa using hrW)]; rw [cel_far _ _ _ _ rz1, cel_drewN]; exact r0
      have f05 : w5.frozen? ⟨r, 0, none⟩ = false := by rw [hb5.frozen (by first | exact hrW | simpa using hrW)]; simp only [World.frozen?_setCell, frz_drewN]; exact f0
      have r15 : w5.cell? ⟨r, 1, none⟩ = some (.int .i64 0) := by rw [hb5.cell (by first | exact hrW | simpa using hrW)]; rw [cel_far _ _ _ _ rz1, cel_drewN]; exact r1
      have f15 : w5.frozen? ⟨r, 1, none⟩ = false := by rw [hb5.frozen (by first | exact hrW | simpa using hrW)]; simp only [World.frozen?_setCell, frz_drewN]; exact f1
      have r25 : w5.cell? ⟨r, 2, none⟩ = some (.int .i64 0) := by rw [hb5.cell (by first | exact hrW | simpa using hrW)]; rw [cel_far _ _ _ _ rz1, cel_drewN]; exact r2
      have f25 : w5.frozen? ⟨r, 2, none⟩ = false := by rw [hb5.frozen (by first | exact hrW | simpa using hrW)]; simp only [World.frozen?_setCell, frz_drewN]; exact f2
      have r35 : w5.cell? ⟨r, 3, none⟩ = some (.string ⟨#[]⟩) := by rw [hb5.cell (by first | exact hrW | simpa using hrW)]; rw [cel_far _ _ _ _ rz1, cel_drewN]; exact r3
      have f35 : w5.frozen? ⟨r, 3, none⟩ = false := by rw [hb5.frozen (by first | exact hrW | simpa using hrW)]; simp only [World.frozen?_setCell, frz_drewN]; exact f3
      have z05 : w5.cell? ⟨z, 0, none⟩ = some (.string s0) := by rw [hb5.cell (by first | exact hzW | simpa using hzW)]; rw [cel_off _ _ (by decide), cel_drewN]; exact z0
      have g05 : w5.frozen? ⟨z, 0, none⟩ = false := by rw [hb5.frozen (by first | exact hzW | simpa using hzW)]; simp only [World.frozen?_setCell, frz_drewN]; exact g0
      have z15 : w5.cell? ⟨z, 1, none⟩ = some (.int .i64 (v1 : Int)) := by rw [hb5.cell (by first | exact hzW | simpa using hzW)]; exact cel_at _ (by rw [cel_drewN]; exact z1)
      have g15 : w5.frozen? ⟨z, 1, none⟩ = false := by rw [hb5.frozen (by first | exact hzW | simpa using hzW)]; simp only [World.frozen?_setCell, frz_drewN]; exact g1
      have z25 : w5.cell? ⟨z, 2, none⟩ = some (.int .i64 0) := by rw [hb5.cell (by first | exact hzW | simpa using hzW)]; rw [cel_off _ _ (by decide), cel_drewN]; exact z2
      have g25 : w5.frozen? ⟨z, 2, none⟩ = false := by rw [hb5.frozen (by first | exact hzW | simpa using hzW)]; simp only [World.frozen?_setCell, frz_drewN]; exact g2
      have z35 : w5.cell? ⟨z, 3, none⟩ = some (.string ⟨#[]⟩) := by rw [hb5.cell (by first | exact hzW | simpa using hzW)]; rw [cel_off _ _ (by decide), cel_drewN]; exact z3
      have g35 : w5.frozen? ⟨z, 3, none⟩ = false := by rw [hb5.frozen (by first | exact hzW | simpa using hzW)]; simp only [World.frozen?_setCell, frz_drewN]; exact g3
      have HE5 : Hid (∀ w6, Below r w5 w6 → Below w.heap.size w w6) := fun w6 h6 => HE.out _ ((Below.trans (by repeat (first | refine Below.setCell ?_ (by first | exact Nat.le_refl _ | exact Nat.le_of_lt rz) _ | refine below_drewN ?_ _ | refine Below.drew ?_ | exact Below.refl _ _)) (hb5.mono (by first | exact Nat.le_of_lt hrW | simpa using Nat.le_of_lt hrW))).trans h6)
      clear hb5 HE r0 r1 r2 r3 f0 f1 f2 f3 z0 z1 z2 z3 g0 g1 g2 g3 y1 hrW hzW hyW hgW
      cases e9 with
      | true =>
        unfold lnV
        go_wp2_with fail
        (try simp only [Exit.inBlock, Exit.then])
        exact bodyPost_ret (v := .tuple #[.agg #[.string ⟨#[]⟩, .int .i64 0, .int .i64 0, .string ⟨#[]⟩], eline]) (rd_res4 rfl rfl (by (repeat (first | rw [cel_far _ _ _ _ rz1] | rw [cel_drewN])); exact r05) (by (repeat (first | rw [cel_far _ _ _ _ rz1] | rw [cel_drewN])); exact r15) (by (repeat (first | rw [cel_far _ _ _ _ rz1] | rw [cel_drewN])); exact r25) (by (repeat (first | rw [cel_far _ _ _ _ rz1] | rw [cel_drewN])); exact r35)) rfl ⟨rfl, HE5.out _ (by repeat (first | refine Below.setCell ?_ (by first | exact Nat.le_refl _ | exact Nat.le_of_lt rz) _ | refine below_drewN ?_ _ | refine Below.drew ?_ | exact Below.refl _ _))⟩
      | false =>
        obtain ⟨s9, h9⟩ : ∃ s9, s9 = sb v9 := ⟨_, rfl⟩
        have HS9 : Hid (s9 = sb v9) := h9
        rw [if_neg Bool.false_ne_true, ← h9]
        clear h9
        unfold lnV
        go_wp2_with fail
        (try simp only [Exit.inBlock, Exit.then])
        exact bodyPost_ret (v := .tuple #[.agg #[.string s0, .int .i64 v1, .int .i64 0, .string s9], .nilIface]) (rd_res4 rfl rfl (by (repeat (first | rw [cel_far _ _ _ _ rz1] | rw [cel_drewN])); exact r05) (by (repeat (first | rw [cel_far _ _ _ _ rz1] | rw [cel_drewN])); exact r15) (by (repeat (first | rw [cel_far _ _ _ _ rz1] | rw [cel_drewN])); exact r25) (by (repeat (first | rw [cel_far _ _ _ _ rz1] | rw [cel_drewN])); exact r35)) rfl ⟨by rw [HS0.out, HS9.out]; rfl, HE5.out _ (by repeat (first | refine Below.setCell ?_ (by first | exact Nat.le_refl _ | exact Nat.le_of_lt rz) _ | refine below_drewN ?_ _ | refine Below.drew ?_ | exact Below.refl _ _))⟩
end Go.Proofs.YteafakgjfmbhoaaGreatDoor

/- A line of two numbers and a block as it is read: a walk over the program. -/
namespace Go.Proofs.YteafakgjfmbhoaaGreatDoor
open Go.RowKit El Pol
set_option maxHeartbeats 40000000 in
set_option maxRecDepth 100000 in
theorem read_21 (s : List El) (hs : s.length ≤ 3000) (p b : Nat) (w : World) (hm : ∃ D, HasW w b wTab D) (hi : rdB s 2 1 = true) :
    Calls Tryz.prog 43 #[.agg #[.pointer (some ⟨p, 0, none⟩), .map (some b)], st s] w fun e w' => e = .returned (rdV s) ∧ Below w.heap.size w w' := by
  obtain ⟨hk, ht, hc⟩ := rdB_is hi
  have C := split_n s 4 (by rw [hc]) ((w.alloc (.cells #[.pointer (some ⟨p, 0, none⟩), .map (some b)] 45)).alloc (.cells #[.string ⟨#[]⟩, .int .i64 0, .int .i64 0, .string ⟨#[]⟩] 98)) (by omega)
  obtain ⟨D, hD⟩ := hm
  have hbw := hD.blt
  have HN1 : Hid (∀ W, Calls Tryz.prog 62 #[st (wrd s 1)] W fun e w' => e = .returned (.tuple #[.int .i64 ((nuN (wrd s 1) : Nat) : Int), lnV (nuE (wrd s 1))]) ∧ Qt W w') := fun W => number_any _ W
  have HN2 : Hid (∀ W, Calls Tryz.prog 62 #[st (wrd s 2)] W fun e w' => e = .returned (.tuple #[.int .i64 ((nuN (wrd s 2) : Nat) : Int), lnV (nuE (wrd s 2))]) ∧ Qt W w') := fun W => number_any _ W
  have HK : Hid (∀ W, Calls Tryz.prog 63 #[st (wrd s 3)] W fun e w' => e = .returned (.tuple #[if bkE (wrd s 3) = true then st [] else st (bkN (wrd s 3)), lnV (bkE (wrd s 3))]) ∧ Below W.heap.size W w') := fun W => block_of_any _ W
  have HLK : Hid (∀ W, W.heap[b]? = w.heap[b]? → (Instr.lookup 42 (.map (some b)) (st (wrd s 0)) true).run Tryz.prog W = .ok (.tuple #[.agg #[.int .i64 2, .int .i64 1], .bool true]) W) := fun W e => by
    have := (hD.blk e).run_look (wrd s 0) (by have := wrd_len 0 hs; omega)
    rw [ht, hk] at this
    exact this
  have HR : Hid (rdV s = .tuple #[ordV ((if nuE (wrd s 1) = true then none else if nuE (wrd s 2) = true then none else if bkE (wrd s 3) = true then none else some (wrd s 0, nuN (wrd s 1), nuN (wrd s 2), bkN (wrd s 3)) : Option OrdT).getD ord0), lnV ((if nuE (wrd s 1) = true then none else if nuE (wrd s 2) = true then none else if bkE (wrd s 3) = true then none else some (wrd s 0, nuN (wrd s 1), nuN (wrd s 2), bkN (wrd s 3)) : Option OrdT)).isNone]) := by
    (show _ = _)
    unfold rdV
    rw [rdO_21 hi]
  rw [HR.out]
  unfold ordV ord0
  clear HR ht hk hc hi hs hD
  generalize nuE (wrd s 1) = e1 at *
  generalize nuN (wrd s 1) = v1 at *
  generalize nuE (wrd s 2) = e2 at *
  generalize nuN (wrd s 2) = v2 at *
  generalize bkE (wrd s 3) = e9 at *
  generalize bkN (wrd s 3) = v9 at *
  go_enter Tryz.func43, Tryz.ntmps43
  go_wp2_with fail
  refine C.mono ?_
  rintro e w2 ⟨g, rfl, hg, hr, hb⟩
  simp only [World.size_alloc] at hg hb
  have hs2 : w.heap.size + 2 ≤ w2.heap.size := by
    have := hb.size
    simp only [World.size_alloc] at this
    omega
  have m0 : w2.cell? ⟨w.heap.size, 0, none⟩ = some (.pointer (some ⟨p, 0, none⟩)) := by rw [hb.cell (by show w.heap.size < _; omega)]; simp
  have m1 : w2.cell? ⟨w.heap.size, 1, none⟩ = some (.map (some b)) := by rw [hb.cell (by show w.heap.size < _; omega)]; simp
  have o0 : w2.cell? ⟨w.heap.size + 1, 0, none⟩ = some (.string ⟨#[]⟩) := by rw [hb.cell (by show w.heap.size + 1 < _; omega)]; simp
  have o1 : w2.cell? ⟨w.heap.size + 1, 1, none⟩ = some (.int .i64 0) := by rw [hb.cell (by show w.heap.size + 1 < _; omega)]; simp
  have o2 : w2.cell? ⟨w.heap.size + 1, 2, none⟩ = some (.int .i64 0) := by rw [hb.cell (by show w.heap.size + 1 < _; omega)]; simp
  have o3 : w2.cell? ⟨w.heap.size + 1, 3, none⟩ = some (.string ⟨#[]⟩) := by rw [hb.cell (by show w.heap.size + 1 < _; omega)]; simp
  have of : ∀ j, w2.frozen? ⟨w.heap.size + 1, j, none⟩ = false := fun j => by rw [hb.frozen (by show w.heap.size + 1 < _; omega)]; simp
  have c0 : w2.cell? ⟨g, 0, none⟩ = some (st (wrd s 0)) := (hr.2 0 (by omega)).1
  have c1 : w2.cell? ⟨g, 1, none⟩ = some (st (wrd s 1)) := (hr.2 1 (by omega)).1
  have c2 : w2.cell? ⟨g, 2, none⟩ = some (st (wrd s 2)) := (hr.2 2 (by omega)).1
  have c3 : w2.cell? ⟨g, 3, none⟩ = some (st (wrd s 3)) := (hr.2 3 (by omega)).1
  have hgl := hr.1
  have hob : w.heap.size + 1 < w2.heap.size := by omega
  have hob1 : ¬ w.heap.size = w2.heap.size := by omega
  have hob2 : ¬ w.heap.size + 1 = w2.heap.size := by omega
  have hob3 : w.heap.size < w2.heap.size := by omega
  have m1a : (w2.alloc (.cells #[.int .i64 0, .int .i64 0] 93)).cell? ⟨w.heap.size, 1, none⟩ = some (.map (some b)) := by rw [World.cell?_alloc_lt _ _ ⟨w.heap.size, 1, none⟩ (by show w.heap.size < _; omega)]; exact m1
  have c0a : (w2.alloc (.cells #[.int .i64 0, .int .i64 0] 93)).cell? ⟨g, 0, none⟩ = some (st (wrd s 0)) := by rw [World.cell?_alloc_lt _ _ ⟨g, 0, none⟩ hgl]; exact c0
  have hbk : w2.heap[b]? = w.heap[b]? := by
    rw [hb.block b (by omega)]
    exact (Below.heap_alloc _ _ _ (by simp; omega)).trans (Below.heap_alloc _ _ _ hbw)
  have LK := HLK.out w2.drew hbk
  have LK2 := HLK.out (w2.alloc (.cells #[.int .i64 0, .int .i64 0] 93)).drew ((Below.heap_alloc w2 _ b (by omega)).trans hbk)
  have HB : Hid (∀ w5, Below (w.heap.size + 1) w2 w5 → Below w.heap.size w w5) := fun w5 h5 => by
    have k0 : Below w.heap.size w ((w.alloc (.cells #[.pointer (some ⟨p, 0, none⟩), .map (some b)] 45)).alloc (.cells #[.string ⟨#[]⟩, .int .i64 0, .int .i64 0, .string ⟨#[]⟩] 98)) := ((Below.refl _ w).alloc (Nat.le_refl _) _).alloc (by simp) _
    exact (k0.trans (hb.mono (by omega))).trans (h5.mono (by omega))
  clear C hr
  unfold st at *
  obtain ⟨s0, h0⟩ : ∃ s0, s0 = sb (wrd s 0) := ⟨_, rfl⟩
  have HS0 : Hid (s0 = sb (wrd s 0)) := h0
  rw [← h0] at c0 c0a LK LK2
  clear h0
  generalize sb (wrd s 1) = s1 at *
  generalize sb (wrd s 2) = s2 at *
  generalize sb (wrd s 3) = s3 at *
  go_wp2_with fail
  go_region
  all_goals
    have N1 := HN1.out
    have N2 := HN2.out
    have K9 := HK.out
    clear LK LK2 c0a m1a HLK HN1 HN2 HK
    go_wp2_with fail
    obtain ⟨W, hW⟩ : ∃ W, W = ((w2.alloc (.cells #[.int .i64 2, .int .i64 1] 93)).alloc (.cells #[.string s0, .int .i64 0, .int .i64 0, .string ⟨#[]⟩] 98)).drew := ⟨_, rfl⟩
    rw [← hW]
    have hlow : ∀ x j, x < w2.heap.size → W.cell? ⟨x, j, none⟩ = w2.cell? ⟨x, j, none⟩ ∧ W.frozen? ⟨x, j, none⟩ = w2.frozen? ⟨x, j, none⟩ := fun x j hx => by
      rw [hW]
      have hb2 : Below w2.heap.size w2 (((w2.alloc (.cells #[.int .i64 2, .int .i64 1] 93)).alloc (.cells #[.string s0, .int .i64 0, .int .i64 0, .string ⟨#[]⟩] 98)).drew) := (((Below.refl _ w2).alloc (Nat.le_refl _) _).alloc (by simp) _).drew
      exact ⟨hb2.cell hx, hb2.frozen hx⟩
    have d1 : W.cell? ⟨g, 1, none⟩ = some (.string s1) := by rw [(hlow g 1 hgl).1]; exact c1
    have d2 : W.cell? ⟨g, 2, none⟩ = some (.string s2) := by rw [(hlow g 2 hgl).1]; exact c2
    have d3 : W.cell? ⟨g, 3, none⟩ = some (.string s3) := by rw [(hlow g 3 hgl).1]; exact c3
    have r0 : W.cell? ⟨w.heap.size + 1, 0, none⟩ = some (.string ⟨#[]⟩) := by rw [(hlow _ 0 hob).1]; exact o0
    have r1 : W.cell? ⟨w.heap.size + 1, 1, none⟩ = some (.int .i64 0) := by rw [(hlow _ 1 hob).1]; exact o1
    have r2 : W.cell? ⟨w.heap.size + 1, 2, none⟩ = some (.int .i64 0) := by rw [(hlow _ 2 hob).1]; exact o2
    have r3 : W.cell? ⟨w.heap.size + 1, 3, none⟩ = some (.string ⟨#[]⟩) := by rw [(hlow _ 3 hob).1]; exact o3
    have f0 : W.frozen? ⟨w.heap.size + 1, 0, none⟩ = false := by rw [(hlow _ 0 hob).2]; exact of 0
    have f1 : W.frozen? ⟨w.heap.size + 1, 1, none⟩ = false := by rw [(hlow _ 1 hob).2]; exact of 1
    have f2 : W.frozen? ⟨w.heap.size + 1, 2, none⟩ = false := by rw [(hlow _ 2 hob).2]; exact of 2
    have f3 : W.frozen? ⟨w.heap.size + 1, 3, none⟩ = false := by rw [(hlow _ 3 hob).2]; exact of 3
    have y1 : W.cell? ⟨w2.heap.size, 1, none⟩ = some (.int .i64 1) := by rw [hW]; simp
    have z0 : W.cell? ⟨w2.heap.size + 1, 0, none⟩ = some (.string s0) := by rw [hW]; simp
    have z1 : W.cell? ⟨w2.heap.size + 1, 1, none⟩ = some (.int .i64 0) := by rw [hW]; simp
    have z2 : W.cell? ⟨w2.heap.size + 1, 2, none⟩ = some (.int .i64 0) := by rw [hW]; simp
    have z3 : W.cell? ⟨w2.heap.size + 1, 3, none⟩ = some (.string ⟨#[]⟩) := by rw [hW]; simp
    have g0 : W.frozen? ⟨w2.heap.size + 1, 0, none⟩ = false := by rw [hW]; simp
    have g1 : W.frozen? ⟨w2.heap.size + 1, 1, none⟩ = false := by rw [hW]; simp
    have g2 : W.frozen? ⟨w2.heap.size + 1, 2, none⟩ = false := by rw [hW]; simp
    have g3 : W.frozen? ⟨w2.heap.size + 1, 3, none⟩ = false := by rw [hW]; simp
    have HE : Hid (∀ w5, Below (w.heap.size + 1) W w5 → Below w.heap.size w w5) := fun w5 h5 => by
      have hb2 : Below (w.heap.size + 1) w2 W := by
        rw [hW]
        exact ((((Below.refl _ w2).alloc (by omega) _).alloc (by simp; omega) _).drew)
      exact HB.out w5 (hb2.trans h5)
    have rz : w.heap.size + 1 < w2.heap.size + 1 := by omega
    have gz : ¬ g = w2.heap.size + 1 := by omega
    have hgW : g < W.heap.size := by rw [hW]; simp; omega
    have hzW : w2.heap.size + 1 < W.heap.size := by rw [hW]; simp
    have rz1 : ¬ w.heap.size + 1 = w2.heap.size + 1 := by omega
    have zr1 : ¬ w2.heap.size + 1 = w.heap.size + 1 := by omega
    have yz1 : ¬ w2.heap.size = w2.heap.size + 1 := by omega
    have hyW : w2.heap.size < W.heap.size := by omega
    have hrW : w.heap.size + 1 < W.heap.size := by omega
    clear hW hlow HB hob hob1 hob2 hob3 o0 o1 o2 o3 of m0 m1 hb hs2 hgl hbk hg hbw
    clear c0 c1 c2 c3
    generalize w2.heap.size + 1 = z at *
    generalize w2.heap.size = y at *
    generalize w.heap.size + 1 = r at *
    refine wp_loop_rounds 3 ?_
    rw [rounds_succ]
    go_wp2_with fail
    refine (N1 _).mono ?_
    rintro e w5 ⟨rfl, q1, rfl⟩
    clear N1
    cases e1 with
    | true =>
      unfold lnV
      go_wp2_with fail
      (try simp only [Exit.inBlock, Exit.then])
      exact bodyPost_ret (v := .tuple #[.agg #[.string ⟨#[]⟩, .int .i64 0, .int .i64 0, .string ⟨#[]⟩], eline]) (rd_res4 rfl rfl (by (repeat (first | rw [cel_far _ _ _ _ rz1] | rw [cel_drewN])); exact r0) (by (repeat (first | rw [cel_far _ _ _ _ rz1] | rw [cel_drewN])); exact r1) (by (repeat (first | rw [cel_far _ _ _ _ rz1] | rw [cel_drewN])); exact r2) (by (repeat (first | rw [cel_far _ _ _ _ rz1] | rw [cel_drewN])); exact r3)) rfl ⟨rfl, HE.out _ (by repeat (first | refine Below.setCell ?_ (by first | exact Nat.le_refl _ | exact Nat.le_of_lt rz) _ | refine below_drewN ?_ _ | refine Below.drew ?_ | exact Below.refl _ _))⟩
    | false =>
      unfold lnV
      go_wp2_with fail
      rw [rounds_succ]
      go_wp2_with fail
      refine (N2 _).mono ?_
      rintro e w5 ⟨rfl, q2, rfl⟩
      clear N2
      cases e2 with
      | true =>
        unfold lnV
        go_wp2_with fail
        (try simp only [Exit.inBlock, Exit.then])
        exact bodyPost_ret (v := .tuple #[.agg #[.string ⟨#[]⟩, .int .i64 0, .int .i64 0, .string ⟨#[]⟩], eline]) (rd_res4 rfl rfl (by (repeat (first | rw [cel_far _ _ _ _ rz1] | rw [cel_drewN])); exact r0) (by (repeat (first | rw [cel_far _ _ _ _ rz1] | rw [cel_drewN])); exact r1) (by (repeat (first | rw [cel_far _ _ _ _ rz1] | rw [cel_drewN])); exact r2) (by (repeat (first | rw [cel_far _ _ _ _ rz1] | rw [cel_drewN])); exact r3)) rfl ⟨rfl, HE.out _ (by repeat (first | refine Below.setCell ?_ (by first | exact Nat.le_refl _ | exact Nat.le_of_lt rz) _ | refine below_drewN ?_ _ | refine Below.drew ?_ | exact Below.refl _ _))⟩
      | false =>
        unfold lnV
        go_wp2_with fail
        rw [rounds_succ]
        go_wp2_with fail
        refine (K9 _).mono ?_
        rintro e w5 ⟨rfl, hb5⟩
        clear K9
        have r05 : w5.cell? ⟨r, 0, none⟩ = some (.string ⟨#[]⟩) := by rw [hb5.cell (by first | exact hrW | simpa using hrW)]; rw [cel_far _ _ _ _ rz1, cel_drewN, cel_far _ _ _ _ rz1, cel_drewN]; exact r0
        have f05 : w5.frozen? ⟨r, 0, none⟩ = false := by rw [hb5.frozen (by first | exact hrW | simpa using hrW)]; simp only [World.frozen?_setCell, frz_drewN]; exact f0
        have r15 : w5.cell? ⟨r, 1, none⟩ = some (.int .i64 0) := by rw [hb5.cell (by first | exact hrW | simpa using hrW)]; rw [cel_far _ _ _ _ rz1, cel_drewN, cel_far _ _ _ _ rz1, cel_drewN]; exact r1
        have f15 : w5.frozen? ⟨r, 1, none⟩ = false := by rw [hb5.frozen (by first | exact hrW | simpa using hrW)]; simp only [World.frozen?_setCell, frz_drewN]; exact f1
        have r25 : w5.cell? ⟨r, 2, none⟩ = some (.int .i64 0) := by rw [hb5.cell (by first | exact hrW | simpa using hrW)]; rw [cel_far _ _ _ _ rz1, cel_drewN, cel_far _ _ _ _ rz1, cel_drewN]; exact r2
        have f25 : w5.frozen? ⟨r, 2, none⟩ = false := by rw [hb5.frozen (by first | exact hrW | simpa using hrW)]; simp only [World.frozen?_setCell, frz_drewN]; exact f2
        have r35 : w5.cell? ⟨r, 3, none⟩ = some (.string ⟨#[]⟩) := by rw [hb5.cell (by first | exact hrW | simpa using hrW)]; rw [cel_far _ _ _ _ rz1, cel_drewN, cel_far _ _ _ _ rz1, cel_drewN]; exact r3
        have f35 : w5.frozen? ⟨r, 3, none⟩ = false := by rw [hb5.frozen (by first | exact hrW | simpa using hrW)]; simp only [World.frozen?_setCell, frz_drewN]; exact f3
        have z05 : w5.cell? ⟨z, 0, none⟩ = some (.string s0) := by rw [hb5.cell (by first | exact hzW | simpa using hzW)]; rw [cel_off _ _ (by decide), cel_drewN, cel_off _ _ (by decide), cel_drewN]; exact z0
        have g05 : w5.frozen? ⟨z, 0, none⟩ = false := by rw [hb5.frozen (by first | exact hzW | simpa using hzW)]; simp only [World.frozen?_setCell, frz_drewN]; exact g0
        have z15 : w5.cell? ⟨z, 1, none⟩ = some (.int .i64 (v1 : Int)) := by rw [hb5.cell (by first | exact hzW | simpa using hzW)]; rw [cel_off _ _ (by decide), cel_drewN]; exact cel_at _ (by rw [cel_drewN]; exact z1)
        have g15 : w5.frozen? ⟨z, 1, none⟩ = false := by rw [hb5.frozen (by first | exact hzW | simpa using hzW)]; simp only [World.frozen?_setCell, frz_drewN]; exact g1
        have z25 : w5.cell? ⟨z, 2, none⟩ = some (.int .i64 (v2 : Int)) := by rw [hb5.cell (by first | exact hzW | simpa using hzW)]; exact cel_at _ (by rw [cel_drewN, cel_off _ _ (by decide), cel_drewN]; exact z2)
        have g25 : w5.frozen? ⟨z, 2, none⟩ = false := by rw [hb5.frozen (by first | exact hzW | simpa using hzW)]; simp only [World.frozen?_setCell, frz_drewN]; exact g2
        have z35 : w5.cell? ⟨z, 3, none⟩ = some (.string ⟨#[]⟩) := by rw [hb5.cell (by first | exact hzW | simpa using hzW)]; rw [cel_off _ _ (by decide), cel_drewN, cel_off _ _ (by decide), cel_drewN]; exact z3
        have g35 : w5.frozen? ⟨z, 3, none⟩ = false := by rw [hb5.frozen (by first | exact hzW | simpa using hzW)]; simp only [World.frozen?_setCell, frz_drewN]; exact g3
        have HE5 : Hid (∀ w6, Below r w5 w6 → Below w.heap.size w w6) := fun w6 h6 => HE.out _ ((Below.trans (by repeat (first | refine Below.setCell ?_ (by first | exact Nat.le_refl _ | exact Nat.le_of_lt rz) _ | refine below_drewN ?_ _ | refine Below.drew ?_ | exact Below.refl _ _)) (hb5.mono (by first | exact Nat.le_of_lt hrW | simpa using Nat.le_of_lt hrW))).trans h6)
        clear hb5 HE r0 r1 r2 r3 f0 f1 f2 f3 z0 z1 z2 z3 g0 g1 g2 g3 y1 hrW hzW hyW hgW
        cases e9 with
        | true =>
          unfold lnV
          go_wp2_with fail
          (try simp only [Exit.inBlock, Exit.then])
          exact bodyPost_ret (v := .tuple #[.agg #[.string ⟨#[]⟩, .int .i64 0, .int .i64 0, .string ⟨#[]⟩], eline]) (rd_res4 rfl rfl (by (repeat (first | rw [cel_far _ _ _ _ rz1] | rw [cel_drewN])); exact r05) (by (repeat (first | rw [cel_far _ _ _ _ rz1] | rw [cel_drewN])); exact r15) (by (repeat (first | rw [cel_far _ _ _ _ rz1] | rw [cel_drewN])); exact r25) (by (repeat (first | rw [cel_far _ _ _ _ rz1] | rw [cel_drewN])); exact r35)) rfl ⟨rfl, HE5.out _ (by repeat (first | refine Below.setCell ?_ (by first | exact Nat.le_refl _ | exact Nat.le_of_lt rz) _ | refine below_drewN ?_ _ | refine Below.drew ?_ | exact Below.refl _ _))⟩
        | false =>
          obtain ⟨s9, h9⟩ : ∃ s9, s9 = sb v9 := ⟨_, rfl⟩
          have HS9 : Hid (s9 = sb v9) := h9
          rw [if_neg Bool.false_ne_true, ← h9]
          clear h9
          unfold lnV
          go_wp2_with fail
          (try simp only [Exit.inBlock, Exit.then])
          exact bodyPost_ret (v := .tuple #[.agg #[.string s0, .int .i64 v1, .int .i64 v2, .string s9], .nilIface]) (rd_res4 rfl rfl (by (repeat (first | rw [cel_far _ _ _ _ rz1] | rw [cel_drewN])); exact r05) (by (repeat (first | rw [cel_far _ _ _ _ rz1] | rw [cel_drewN])); exact r15) (by (repeat (first | rw [cel_far _ _ _ _ rz1] | rw [cel_drewN])); exact r25) (by (repeat (first | rw [cel_far _ _ _ _ rz1] | rw [cel_drewN])); exact r35)) rfl ⟨by rw [HS0.out, HS9.out]; rfl, HE5.out _ (by repeat (first | refine Below.setCell ?_ (by first | exact Nat.le_refl _ | exact Nat.le_of_lt rz) _ | refine below_drewN ?_ _ | refine Below.drew ?_ | exact Below.refl _ _))⟩
end Go.Proofs.YteafakgjfmbhoaaGreatDoor
