/- Texts of plain mathematics, of memory and of walks, in one. -/
import Derived.Test.YtfnbpljgmchhbaaMa
import Derived.Test.YtfnbpljgmchhbaaMe
import Derived.Laws.MakeOwn
import Derived.Test.YtfnbpljgmchhbaaBl
import Derived.Deep.RegionWith
/- What wire.Sum answers: a walk over the program. -/
namespace Go.Proofs.Ytfnbpljgmchhbaa
open Go.RowKit El Pol
theorem wsum_step (xs : List El) {k : Nat} (h : k < xs.length) : wsum (xs.take (k + 1)) = (wsum (xs.take k) * 256 + (co xs k).val) % 65521 := by
  have e : xs.take (k + 1) = xs.take k ++ [co xs k] := by
    rw [List.take_succ_eq_append_getElem h]
    simp [co, List.getD_eq_getElem?_getD, h]
  unfold wsum
  rw [e, wsm_append]
  rfl
theorem sum_any (xs : List El) (w : World) (hl : xs.length ≤ 9223372036854775807) :
    Calls Try.prog 22 #[st xs] w fun e w' => e = .returned (.int .i64 ((wsum xs : Nat) : Int)) ∧ w' = w := by
  have hs := sb_size xs
  have HS : Hid (∀ k (hk : k < (sb xs).size), ((sb xs)[k]'hk).toNat = (co xs k).val) := fun k hk => sb_at xs k hk
  have HT : Hid (∀ k, k < xs.length → wsum (xs.take (k + 1)) = (wsum (xs.take k) * 256 + (co xs k).val) % 65521) := fun k hk => wsum_step xs hk
  have HA : Hid (wsum (xs.take xs.length) = wsum xs) := by (show wsum (xs.take xs.length) = wsum xs); rw [List.take_length]
  have HL : Hid (∀ k, wsum (xs.take k) < 65521) := fun k => wsum_lt _
  unfold st
  generalize sb xs = s at *
  go_enter Try.func22, Try.ntmps22
  go_wp2
  go_loop [3, 7] (fun m t => ∃ k : Nat, k ≤ xs.length ∧ t = .int .i64 k ∧ m = .int .i64 ((wsum (xs.take k) : Nat) : Int)) (fun _ t => xs.length - (intOf t).toNat)
  case atStart => exact ⟨0, Nat.zero_le _, rfl, rfl⟩
  case round =>
    obtain ⟨k, hk, rfl, rfl⟩ := hrel
    by_cases hlt : k < xs.length
    · have hks : k < s.size := by rw [hs]; exact hlt
      have hsk := HS.out k hks
      have HST : Hid (wsum (xs.take (k + 1)) = (wsum (xs.take k) * 256 + (co xs k).val) % 65521) := HT.out k hlt
      have hl := HL.out k
      have hx := (co xs k).isLt
      generalize wsum (xs.take k) = m at *
      generalize (co xs k).val = x at *
      have h1 : (k : Int) < (s.size : Int) := by omega
      have h2 : ((m : Int) * 256 + (x : Int)) % 65521 = (((m * 256 + x) % 65521 : Nat) : Int) := by omega
      go_wp2
      go_round
      case rel => exact ⟨k + 1, by omega, by go_num, by rw [HST.out]; (first | rfl | (congr 1; omega))⟩
      case measure => simp [intOf]; omega
    · have e : k = xs.length := by omega
      have HE : Hid (wsum (xs.take k) = wsum xs) := by (show wsum (xs.take k) = wsum xs); rw [e]; exact HA.out
      have h1 : ¬ (k : Int) < (s.size : Int) := by omega
      clear e
      generalize wsum (xs.take k) = m at *
      go_wp2
      go_ret
      exact ⟨by rw [HE.out]; rfl, rfl⟩
end Go.Proofs.Ytfnbpljgmchhbaa

/- What wire.text answers: numbers as bytes: a walk over the program. -/
namespace Go.Proofs.Ytfnbpljgmchhbaa
open Go.RowKit El Pol
/-- the first k of n are written -/
def wtx (f : Nat → Nat) (k : Nat) : Nat → El := fun i => if i < k then wb (f i) else 0
theorem wtx_set (f : Nat → Nat) (n k : Nat) : (row (wtx f k) n).set k (wb (f k)) = row (wtx f (k + 1)) n := by
  unfold row
  rw [set_map_up]
  apply List.map_congr_left
  intro i _
  unfold up wtx
  by_cases e : i = k
  · rw [if_pos e, if_pos (by omega), e]
  · rw [if_neg e]
    by_cases h : i < k
    · rw [if_pos h, if_pos (by omega)]
    · rw [if_neg h, if_neg (by omega)]
theorem wtx_none (f : Nat → Nat) (n : Nat) : List.replicate n 0 = row (wtx f 0) n := by
  apply List.ext_getElem <;> simp [row, wtx]
set_option maxHeartbeats 1000000 in
theorem text_any (ad : Addr) (n cap : Nat) (f : Nat → Nat) (w : World) (hc : ∀ i, i < n → w.cell? (ad.add i) = some (.int .i64 ((f i : Nat) : Int))) (hf : ∀ i, i < n → f i < 256) (hn : n ≤ 1000) :
    Calls Try.prog 21 #[.slice (some ad) n cap] w fun e w' => e = .returned (st (row (fun i => wb (f i)) n)) ∧ Below w.heap.size w w' := by
  obtain ⟨i0, hi, hz0, hz1, hz2⟩ := info_parts info8
  have HC : Hid (∀ i, i < n → w.cell? (ad.add i) = some (.int .i64 ((f i : Nat) : Int))) := hc
  have HF : Hid (∀ i, i < n → f i < 256) := hf
  clear hc hf
  go_enter Try.func21, Try.ntmps21
  go_wp2_with (first | (at_make; refine wpList_make_full _ rfl _ _ 30 rfl w.heap.size 5 i0 (.int .u8 0) 1 Try.underlying30 hi hz0 hz1 _ _ _ _ n rfl rfl rfl rfl (by rw [hz2]; omega) (by unfold maxLen; omega) (Nat.le_refl _) ?_))
  intro w1 hown hgrow
  have hA : Ow w.heap.size w1 (.slice (some ⟨w.heap.size, 0, none⟩) n n) (row (wtx f 0) n) := by
    rw [← wtx_none]; exact Ow.made hown
  have hB : Below w.heap.size w w1 := below_of_grown hgrow
  clear hown hgrow
  go_wp2
  go_loopw [11] (fun t wr => ∃ k : Nat, k ≤ n ∧ t = .int .i64 k ∧ Ow w.heap.size wr (.slice (some ⟨w.heap.size, 0, none⟩) n n) (row (wtx f k) n) ∧ Below w.heap.size w wr) (fun t _ => n - (intOf t).toNat)
  case atStart => exact ⟨0, Nat.zero_le _, rfl, hA, hB⟩
  case round =>
    clear hA hB
    obtain ⟨k, hk, rfl, hA, hB⟩ := hrel
    by_cases hlt : k < n
    · have hck := HC.out k hlt
      rw [← hB.cell (World.block_lt_of_cell? w _ hck)] at hck
      have hx := HF.out k hlt
      have hcell := hA.cell (by rw [row_length]) k hlt
      have hfree := hA.free (by rw [row_length]) k
      have R := hA.stored (by rw [row_length]) k (wb (f k))
      rw [wtx_set, wb_val hx] at R
      have R1 := R.1
      have R2 : Below w.heap.size w (wr.setCell ⟨w.heap.size, k, none⟩ (.int .u8 ((f k : Nat) : Int))) := hB.trans (below_of_grownAt R.2 hB.size (Nat.le_refl _))
      clear hA hB R
      generalize f k = x at *
      generalize co (row (wtx f k) n) k = y at *
      go_wp2
      go_roundw
      case rel => exact ⟨k + 1, by omega, by go_num, R1, R2⟩
      case measure => simp [intOf]; omega
    · have e : row (wtx f k) n = row (fun i => wb (f i)) n := row_congr (fun i hi => by unfold wtx; rw [if_pos (by omega)])
      rw [e] at hA
      have hconv := run_text hA.rd 30 9 Try.underlying30 Try.underlying9
      unfold st at hconv
      clear e hA
      obtain ⟨s, hs⟩ : ∃ s, s = sb (row (fun i => wb (f i)) n) := ⟨_, rfl⟩
      have HS : Hid (s = sb (row (fun i => wb (f i)) n)) := hs
      rw [← hs] at hconv
      clear hs
      go_wp2
      go_ret
      exact ⟨by unfold st; rw [← HS.out]; rfl, hB⟩
end Go.Proofs.Ytfnbpljgmchhbaa

/- What wire.Pack answers: a walk over the program. -/
namespace Go.Proofs.Ytfnbpljgmchhbaa
open Go.ChangeShapes Go.WideShapes Go.ChangeAt Go.RowKit El Pol
/-- the fault of a row -/
def wE (row : Int) (n : Nat) (f : Nat → List El) : Nat := if row < 0 ∨ 20 ≤ row then 1 else if 12 < n then 4 else if n = 0 then 0 else bbad n f
/-- its bytes -/
def wP (row : Int) (n : Nat) (f : Nat → List El) : List El := if wE row n f = 0 then wpack row.toNat n f else []
theorem wE_row {row : Int} {n : Nat} {f : Nat → List El} (h : row < 0 ∨ 20 ≤ row) : wE row n f = 1 := if_pos h
theorem wE_full {row : Int} {n : Nat} {f : Nat → List El} (h : ¬ (row < 0 ∨ 20 ≤ row)) (h2 : 12 < n) : wE row n f = 4 := by unfold wE; rw [if_neg h, if_pos h2]
theorem wE_none {row : Int} {f : Nat → List El} (h : ¬ (row < 0 ∨ 20 ≤ row)) : wE row 0 f = 0 := by unfold wE; rw [if_neg h, if_neg (by omega), if_pos rfl]
theorem wE_some {row : Int} {n : Nat} {f : Nat → List El} (h : ¬ (row < 0 ∨ 20 ≤ row)) (h2 : ¬ 12 < n) (h3 : n ≠ 0) : wE row n f = bbad n f := by unfold wE; rw [if_neg h, if_neg h2, if_neg h3]
theorem wP_bad {row : Int} {n : Nat} {f : Nat → List El} (h : wE row n f ≠ 0) : wP row n f = [] := if_neg h
theorem wP_ok {row : Int} {n : Nat} {f : Nat → List El} (h : wE row n f = 0) : wP row n f = wpack row.toNat n f := if_pos h
theorem wE_lt (row : Int) (n : Nat) (f : Nat → List El) : wE row n f ≤ 4 := by
  unfold wE bbad
  split
  · omega
  · split
    · omega
    · split
      · omega
      · split
        · omega
        · split <;> omega
theorem wok_of {row : Int} {n : Nat} {f : Nat → List El} (h : wE row n f = 0) : ∃ r : Nat, row = r ∧ WOk r n f := by
  by_cases h1 : row < 0 ∨ 20 ≤ row
  · rw [wE_row h1] at h; omega
  · by_cases h2 : 12 < n
    · rw [wE_full h1 h2] at h; omega
    · obtain ⟨r, rfl⟩ : ∃ r : Nat, row = r := ⟨row.toNat, by omega⟩
      by_cases h3 : n = 0
      · subst h3
        exact ⟨r, rfl, by omega, by omega, fun i hi => by omega, by unfold wsz; rw [if_pos rfl]; omega⟩
      · rw [wE_some h1 h2 h3] at h
        obtain ⟨q1, q2⟩ := bbad_ok h
        have e : wsz f n = (f 0).length := if_neg h3
        exact ⟨r, rfl, by omega, by omega, fun i hi => by rw [e]; exact q1 i hi, by rw [e]; exact q2⟩
theorem wE_ok {r n : Nat} {f : Nat → List El} (h : WOk r n f) : wE (r : Int) n f = 0 := by
  have h1 := h.row
  have h2 := h.many
  by_cases h3 : n = 0
  · subst h3; exact wE_none (by omega)
  · have e : wsz f n = (f 0).length := if_neg h3
    rw [wE_some (by omega) (by omega) h3]
    exact bbad_of (fun i hi => by rw [h.one i hi, e]) (by rw [← e]; exact h.short)
theorem wP_of {r n : Nat} {f : Nat → List El} (h : WOk r n f) : wP (r : Int) n f = wpack r n f := by
  rw [wP_ok (wE_ok h)]; rfl
theorem blocks_none (ao : Option Addr) (cap : Nat) (w : World) :
    Calls Try.prog 19 #[.slice ao 0 cap] w fun e w' => e = .returned .nilIface ∧ Below w.heap.size w w' := by
  have hz : Calls Try.prog 38 #[.slice ao 0 cap] w fun e w' => e = .returned (.int .i64 0) ∧ w' = w := by
    go_enter Try.func38, Try.ntmps38
    go_wp2
    go_ret
    exact ⟨rfl, rfl⟩
  have hi : ∀ (c : Value) (W : World), Calls Try.prog 59 #[.slice ao 0 cap, .func (.func 40) #[] #[c]] W fun e w' => e = .returned (.int .i64 (-1)) ∧ w' = W := fun c W => by
    go_enter Try.func59, Try.ntmps59
    go_wp2
    go_loop [8] (fun t => t = .int .i64 0) (fun t => 0)
    case atStart => rfl
    case round =>
      subst hrel
      go_wp2
      go_ret
      exact ⟨rfl, rfl⟩
  have hcn : ∀ (c : Value) (W : World), Calls Try.prog 39 #[.slice ao 0 cap, .func (.func 40) #[] #[c]] W fun e w' => e = .returned (.bool false) ∧ w' = W := fun c W => by
    have C := hi c W
    clear hi
    go_enter Try.func39, Try.ntmps39
    go_wp2_with fail
    refine C.mono ?_
    rintro e w1 ⟨rfl, hw⟩
    obtain rfl := hw.symm
    clear C
    go_wp2
    go_ret
    exact ⟨rfl, rfl⟩
  clear hi
  have hal : Below w.heap.size w (w.alloc (.cells #[.int .i64 0] 3)) := (Below.refl _ _).alloc (Nat.le_refl _) _
  have hc0 := cell_new w (.int .i64 0) 3
  go_enter Try.func19, Try.ntmps19
  go_wp2_with fail
  refine hz.mono ?_
  rintro e0 w0 ⟨rfl, hw0⟩
  obtain rfl := hw0.symm
  clear hz
  go_wp2_with fail
  refine (hcn _ _).mono ?_
  rintro e w1 ⟨rfl, hw⟩
  obtain rfl := hw.symm
  clear hcn
  go_wp2
  go_ret
  exact ⟨rfl, hal⟩
end Go.Proofs.Ytfnbpljgmchhbaa

/- What wire.Pack answers, whatever it is given: walks over the program. -/
namespace Go.Proofs.Ytfnbpljgmchhbaa
open Go.ChangeShapes Go.WideShapes Go.ChangeAt Go.RowKit El Pol
def num3 (a b c : Nat) : Nat → Nat := fun i => if i = 0 then a else if i = 1 then b else c
theorem num3_cells (w : World) (a b c : Nat) : ∀ i, i < 3 → (w.alloc (.cells #[.int .i64 (a : Int), .int .i64 (b : Int), .int .i64 (c : Int)] 3)).cell? ((⟨w.heap.size, 0, none⟩ : Addr).add i) = some (.int .i64 ((num3 a b c i : Nat) : Int)) := by
  intro i hi
  have h := heap_alloc_new w (.cells #[.int .i64 (a : Int), .int .i64 (b : Int), .int .i64 (c : Int)] 3)
  match i, hi with
  | 0, _ => rw [add_zero, cell_of_row _ _ 0 _ _ _ h]; rfl
  | 1, _ => rw [show (⟨w.heap.size, 0, none⟩ : Addr).add 1 = ⟨w.heap.size, 1, none⟩ from rfl, cell_of_row _ _ 1 _ _ _ h]; rfl
  | 2, _ => rw [show (⟨w.heap.size, 0, none⟩ : Addr).add 2 = ⟨w.heap.size, 2, none⟩ from rfl, cell_of_row _ _ 2 _ _ _ h]; rfl
theorem num2_cells (w : World) (a b : Nat) : ∀ i, i < 2 → (w.alloc (.cells #[.int .i64 (a : Int), .int .i64 (b : Int)] 3)).cell? ((⟨w.heap.size, 0, none⟩ : Addr).add i) = some (.int .i64 ((num3 a b 0 i : Nat) : Int)) := by
  intro i hi
  have h := heap_alloc_new w (.cells #[.int .i64 (a : Int), .int .i64 (b : Int)] 3)
  match i, hi with
  | 0, _ => rw [add_zero, cell_of_row _ _ 0 _ _ _ h]; rfl
  | 1, _ => rw [show (⟨w.heap.size, 0, none⟩ : Addr).add 1 = ⟨w.heap.size, 1, none⟩ from rfl, cell_of_row _ _ 1 _ _ _ h]; rfl
theorem num1_cells (w : World) (a : Nat) : ∀ i, i < 1 → (w.alloc (.cells #[.int .i64 (a : Int)] 3)).cell? ((⟨w.heap.size, 0, none⟩ : Addr).add i) = some (.int .i64 ((num3 a 0 0 i : Nat) : Int)) := by
  intro i hi
  have h := heap_alloc_new w (.cells #[.int .i64 (a : Int)] 3)
  match i, hi with
  | 0, _ => rw [add_zero, cell_of_row _ _ 0 _ _ _ h]; rfl
theorem text3 (a b c : Nat) (w : World) (ha : a < 256) (hb : b < 256) (hc : c < 256) :
    Calls Try.prog 21 #[.slice (some ⟨w.heap.size, 0, none⟩) 3 3] (w.alloc (.cells #[.int .i64 (a : Int), .int .i64 (b : Int), .int .i64 (c : Int)] 3)) fun e w' => e = .returned (st [wb a, wb b, wb c]) ∧ Below w.heap.size w w' :=
  (text_any _ 3 3 (num3 a b c) _ (num3_cells w a b c) (fun i _ => by unfold num3; split; exact ha; split; exact hb; exact hc) (by omega)).mono fun _ _ ⟨h1, h2⟩ => ⟨h1, ((Below.refl w.heap.size w).alloc (Nat.le_refl _) _).trans (h2.mono (by simp))⟩
theorem text2 (a b : Nat) (w : World) (ha : a < 256) (hb : b < 256) :
    Calls Try.prog 21 #[.slice (some ⟨w.heap.size, 0, none⟩) 2 2] (w.alloc (.cells #[.int .i64 (a : Int), .int .i64 (b : Int)] 3)) fun e w' => e = .returned (st [wb a, wb b]) ∧ Below w.heap.size w w' :=
  (text_any _ 2 2 (num3 a b 0) _ (num2_cells w a b) (fun i _ => by unfold num3; split; exact ha; split; exact hb; omega) (by omega)).mono fun _ _ ⟨h1, h2⟩ => ⟨h1, ((Below.refl w.heap.size w).alloc (Nat.le_refl _) _).trans (h2.mono (by simp))⟩
theorem text1 (a : Nat) (w : World) (ha : a < 256) :
    Calls Try.prog 21 #[.slice (some ⟨w.heap.size, 0, none⟩) 1 1] (w.alloc (.cells #[.int .i64 (a : Int)] 3)) fun e w' => e = .returned (st [wb a]) ∧ Below w.heap.size w w' :=
  (text_any _ 1 1 (num3 a 0 0) _ (num1_cells w a) (fun i _ => by unfold num3; split; exact ha; split <;> omega) (by omega)).mono fun _ _ ⟨h1, h2⟩ => ⟨h1, ((Below.refl w.heap.size w).alloc (Nat.le_refl _) _).trans (h2.mono (by simp))⟩
set_option maxHeartbeats 2000000 in
theorem pack_ok (r n : Nat) (v : Value) (f : Nat → List El) (w : World) (hr : RdT w v n f) (ho : WOk r n f) :
    Calls Try.prog 7 #[.int .i64 (r : Int), v] w fun e w' => e = .returned (.tuple #[st (wpack r n f), .nilIface]) ∧ Below w.heap.size w w' := by
  have h1 := ho.row
  have h2 := ho.many
  have h3 := ho.short
  have hlen := wfl_len ho.one
  obtain ⟨ao, cap, rfl, _, _⟩ := hr.len
  have K : Calls Try.prog 19 #[.slice ao n cap] w fun e w' => e = .returned .nilIface ∧ Below w.heap.size w w' := by
    by_cases hn0 : n = 0
    · subst hn0; exact blocks_none ao cap w
    · have := blocks_any _ n f w hr (by omega) (by omega)
      have e : wsz f n = (f 0).length := if_neg hn0
      rw [bbad_of (fun i hi => by rw [ho.one i hi, e]) (by rw [← e]; exact h3)] at this
      exact this
  have HJ : Hid (∀ w1, Below w.heap.size w w1 → Calls Try.prog 20 #[.slice ao n cap, .string ⟨#[]⟩] w1 fun e w' => e = .returned (.string (sb (wfl f n))) ∧ Below w1.heap.size w1 w') := fun w1 hb => join_any _ n f w1 (hr.old hb) h2 (fun i hi => by rw [ho.one i hi]; omega)
  have HT : Hid (∀ w1, Calls Try.prog 21 #[.slice (some ⟨w1.heap.size, 0, none⟩) 3 3] (w1.alloc (.cells #[.int .i64 (r : Int), .int .i64 (n : Int), .int .i64 ((wsz f n : Nat) : Int)] 3)) fun e w' => e = .returned (.string (sb [wb r, wb n, wb (wsz f n)])) ∧ Below w1.heap.size w1 w') := fun w1 => text3 r n (wsz f n) w1 (by omega) (by omega) (by omega)
  have hbody : sb [wb r, wb n, wb (wsz f n)] ++ sb (wfl f n) = sb (wbody r n f) := sb_append _ _
  have hlb : (wbody r n f).length ≤ 1000 := by
    (show (wfl f n).length + 1 + 1 + 1 ≤ 1000)
    rw [hlen]
    have : n * wsz f n ≤ 12 * 16 := Nat.mul_le_mul h2 h3
    omega
  have HS : Hid (∀ w1, Calls Try.prog 22 #[.string (sb [wb r, wb n, wb (wsz f n)] ++ sb (wfl f n))] w1 fun e w' => e = .returned (.int .i64 ((wsum (wbody r n f) : Nat) : Int)) ∧ w' = w1) := fun w1 => by
    rw [hbody]; exact sum_any _ w1 (by omega)
  have hsl := wsum_lt (wbody r n f)
  have HE : Hid (∀ w1, Calls Try.prog 21 #[.slice (some ⟨w1.heap.size, 0, none⟩) 2 2] (w1.alloc (.cells #[.int .i64 ((wsum (wbody r n f) / 256 : Nat) : Int), .int .i64 ((wsum (wbody r n f) % 256 : Nat) : Int)] 3)) fun e w' => e = .returned (.string (sb (wtl (wsum (wbody r n f))))) ∧ Below w1.heap.size w1 w') := fun w1 => text2 _ _ w1 (by omega) (by omega)
  have HW : Hid (Value.string (sb [wb r, wb n, wb (wsz f n)] ++ sb (wfl f n) ++ sb (wtl (wsum (wbody r n f)))) = st (wpack r n f)) := by
    (show Value.string _ = Value.string _)
    rw [hbody, sb_append]
    rfl
  have z1 : (sb [wb r, wb n, wb (wsz f n)]).size = 3 := sb_size _
  have z2 : (sb (wfl f n)).size = n * wsz f n := by rw [sb_size]; exact hlen
  have z3 : (sb (wtl (wsum (wbody r n f)))).size = 2 := sb_size _
  have hq : n * wsz f n / max n 1 = wsz f n := by
    by_cases hn0 : n = 0
    · subst hn0
      have e : wsz f 0 = 0 := if_pos rfl
      rw [e]
      rfl
    · rw [Nat.max_eq_left (by omega), Nat.mul_div_cancel_left _ (by omega)]
  obtain ⟨q, hqe⟩ : ∃ q, q = max n 1 := ⟨_, rfl⟩
  have hmax : (if (n : Int) < 1 then (1 : Int) else (n : Int)) = (q : Int) := by
    split <;> omega
  rw [← hqe] at hq
  have hqi : ((n * wsz f n : Nat) : Int) / (q : Int) = ((wsz f n : Nat) : Int) := by
    rw [← Int.natCast_ediv, hq]
  have hq0 : 0 < q := by omega
  have hqb : ((q : Int) == 0) = false := by rw [beq_eq_false_iff_ne]; omega
  have hmm : n * wsz f n ≤ 192 := Nat.mul_le_mul h2 h3
  have hd1 : decide ((r : Int) < 0) = false := decide_eq_false (by omega)
  have hd2 : decide ((20 : Int) ≤ (r : Int)) = false := decide_eq_false (by omega)
  clear hlen hr ho hbody hlb hq hqe
  generalize sb [wb r, wb n, wb (wsz f n)] = s1 at *
  generalize sb (wfl f n) = s2 at *
  generalize sb (wtl (wsum (wbody r n f))) = s3 at *
  generalize wsum (wbody r n f) = S at *
  generalize wsz f n = z at *
  generalize n * z = L at *
  obtain ⟨hq1, hq2⟩ : (S : Int) / 256 = ((S / 256 : Nat) : Int) ∧ (S : Int) % 256 = ((S % 256 : Nat) : Int) := ⟨by omega, by omega⟩
  go_enter Try.func7, Try.ntmps7
  go_wp2_with fail
  refine K.mono ?_
  rintro e w1 ⟨rfl, hB1⟩
  have J := HJ.out w1 hB1
  have HB1 : Hid (Below w.heap.size w w1) := hB1
  clear K hB1 HJ
  go_wp2_with fail
  refine J.mono ?_
  rintro e w2 ⟨rfl, hB2⟩
  have HB2 : Hid (Below w.heap.size w w2) := HB1.out.trans (hB2.mono HB1.out.size)
  have T := HT.out w2
  clear J hB2 HB1 HT
  go_wp2_with fail
  refine T.mono ?_
  rintro e w3 ⟨rfl, hB3⟩
  have HB3 : Hid (Below w.heap.size w w3) := HB2.out.trans (hB3.mono HB2.out.size)
  have S1 := HS.out w3
  clear T hB3 HB2 HS hqi hmax
  go_wp2_with fail
  refine S1.mono ?_
  rintro e w4 ⟨rfl, hw4⟩
  obtain rfl := hw4.symm
  have E1 := HE.out w3
  rw [← hq1, ← hq2] at E1
  have zz : (s1 ++ s2).size = 3 + L := by rw [ByteArray.size_append, z1, z2]
  clear S1 HE hq1 hq2
  generalize s1 ++ s2 = s4 at *
  go_wp2_with fail
  refine E1.mono ?_
  rintro e w5 ⟨rfl, hB5⟩
  have HB5 : Hid (Below w.heap.size w w5) := HB3.out.trans (hB5.mono HB3.out.size)
  clear E1 hB5 HB3
  go_wp2
  go_ret2
  exact ⟨by rw [← HW.out]; rfl, HB5.out⟩
theorem pack_row (row : Int) (v : Value) (hv : ∃ ao n cap, v = .slice ao n cap) (w : World) (h : row < 0 ∨ 20 ≤ row) :
    Calls Try.prog 7 #[.int .i64 row, v] w fun e w' => e = .returned (.tuple #[st [], errV 1]) ∧ w' = w := by
  obtain ⟨ao, n, cap, rfl⟩ := hv
  have hd : (decide (row < 0) || decide (20 ≤ row)) = true := by
    rcases h with h | h <;> simp [h]
  go_enter Try.func7, Try.ntmps7
  rcases h with h | h
  · clear hd
    go_wp2
    go_ret2
    exact ⟨rfl, rfl⟩
  · have h0 : ¬ row < 0 := by omega
    have hd1 : decide (row < 0) = false := decide_eq_false h0
    have hd2 : decide (20 ≤ row) = true := decide_eq_true h
    clear hd h h0
    go_wp2
    go_ret2
    exact ⟨rfl, rfl⟩
theorem pack_full (row : Int) (ao : Option Addr) (n cap : Nat) (w : World) (h : ¬ (row < 0 ∨ 20 ≤ row)) (h2 : 12 < n) :
    Calls Try.prog 7 #[.int .i64 row, .slice ao n cap] w fun e w' => e = .returned (.tuple #[st [], errV 4]) ∧ w' = w := by
  have hd1 : decide (row < 0) = false := decide_eq_false (fun q => h (.inl q))
  have hd2 : decide (20 ≤ row) = false := decide_eq_false (fun q => h (.inr q))
  have h2' : (12 : Int) < (n : Int) := by omega
  clear h h2
  go_enter Try.func7, Try.ntmps7
  go_wp2
  go_ret2
  exact ⟨rfl, rfl⟩
theorem pack_shape (row : Int) (v : Value) (n : Nat) (f : Nat → List El) (w : World) (h : ¬ (row < 0 ∨ 20 ≤ row)) (h2 : ¬ 12 < n) (h3 : n ≠ 0) (hr : RdT w v n f) (hb : bbad n f ≠ 0) :
    Calls Try.prog 7 #[.int .i64 row, v] w fun e w' => e = .returned (.tuple #[st [], errV (bbad n f)]) ∧ Below w.heap.size w w' := by
  obtain ⟨ao, cap, rfl, _, _⟩ := hr.len
  have C := blocks_any _ n f w hr (by omega) (by omega)
  have hd1 : decide (row < 0) = false := decide_eq_false (fun q => h (.inl q))
  have hd2 : decide (20 ≤ row) = false := decide_eq_false (fun q => h (.inr q))
  have h2' : ¬ (12 : Int) < (n : Int) := by omega
  rw [errV_ne hb] at C
  rw [errV_ne hb]
  generalize bbad n f = q at *
  clear h h2 h3 hr hb
  go_enter Try.func7, Try.ntmps7
  go_wp2_with fail
  refine C.mono ?_
  rintro e w1 ⟨rfl, hB⟩
  clear C
  go_wp2
  go_ret2
  exact ⟨rfl, hB⟩
/-- Pack, whatever it is given -/
theorem pack_any (row : Int) (v : Value) (n : Nat) (f : Nat → List El) (w : World) (hr : RdT w v n f) :
    Calls Try.prog 7 #[.int .i64 row, v] w fun e w' => e = .returned (.tuple #[st (wP row n f), errV (wE row n f)]) ∧ Below w.heap.size w w' := by
  by_cases he : wE row n f = 0
  · obtain ⟨r, rfl, ho⟩ := wok_of he
    rw [wP_of ho, he]
    exact pack_ok r n v f w hr ho
  · rw [wP_bad he]
    by_cases h : row < 0 ∨ 20 ≤ row
    · rw [wE_row h]
      obtain ⟨ao, cap, e, _⟩ := hr.len
      exact (pack_row row v ⟨ao, n, cap, e⟩ w h).mono fun _ _ ⟨h1, h2⟩ => ⟨h1, h2 ▸ Below.refl _ _⟩
    · by_cases h2 : 12 < n
      · rw [wE_full h h2]
        obtain ⟨ao, cap, e, _⟩ := hr.len
        subst e
        exact (pack_full row ao n cap w h h2).mono fun _ _ ⟨h1, h2⟩ => ⟨h1, h2 ▸ Below.refl _ _⟩
      · by_cases h3 : n = 0
        · subst h3; exact absurd (wE_none h) he
        · rw [wE_some h h2 h3] at he ⊢
          exact pack_shape row v n f w h h2 h3 hr he
end Go.Proofs.Ytfnbpljgmchhbaa

/- What wire.cut answers: parts of so many bytes: a walk over the program. -/
namespace Go.Proofs.Ytfnbpljgmchhbaa
open Go.RowKit El Pol
/-- the i-th of parts of z bytes -/
def wct (z : Nat) (xs : List El) (i : Nat) : List El := (xs.drop (i * z)).take z
theorem wct_ext (z : Nat) (xs : List El) (i : Nat) : (sb xs).extract (i * z) ((i + 1) * z) = sb (wct z xs i) := by
  rw [sb_extract, wct, List.drop_take, Nat.add_mul, Nat.one_mul, Nat.add_sub_cancel_left]
set_option maxHeartbeats 2000000 in
theorem cut_any (xs : List El) (c z : Nat) (w : World) (hl : xs.length = c * z) (hc : c ≤ 255) (hz : z ≤ 255) :
    Calls Try.prog 23 #[st xs, .int .i64 (c : Int), .int .i64 (z : Int)] w fun e w' => ∃ u, e = .returned u ∧ OwT w.heap.size w' u c (wct z xs) ∧ Below w.heap.size w w' := by
  obtain ⟨j0, hj, hy0, hy1, hy2⟩ := info_parts infoT
  have hs := sb_size xs
  rw [hl] at hs
  have HX : Hid (∀ i, (sb xs).extract (i * z) ((i + 1) * z) = sb (wct z xs i)) := wct_ext z xs
  have hcz : c * z ≤ 65025 := Nat.mul_le_mul hc hz
  unfold st
  generalize sb xs = t at *
  go_enter Try.func23, Try.ntmps23
  go_wp2
  go_loopw [7, 10] (fun o q wr => ∃ k : Nat, k ≤ c ∧ q = .int .i64 k ∧ OwT w.heap.size wr o k (wct z xs) ∧ Below w.heap.size w wr) (fun _ q _ => c - (intOf q).toNat)
  case atStart => exact ⟨0, Nat.zero_le _, rfl, World.ownsRow_nil _ _ _ _, Below.refl _ _⟩
  case round =>
    obtain ⟨k, hk, rfl, hO, hB⟩ := hrel
    obtain ⟨a1, c1, rfl⟩ := OwT.len hO
    have hsz := hB.size
    by_cases hlt : k < c
    · have g1 : (k + 1) * z ≤ c * z := Nat.mul_le_mul_right _ (by omega)
      have g2 : (k + 1) * z = k * z + z := by rw [Nat.add_mul, Nat.one_mul]
      have m1 : (k : Int) * (z : Int) = ((k * z : Nat) : Int) := by simp
      have m2 : ((k : Int) + 1) * (z : Int) = (((k + 1) * z : Nat) : Int) := by simp
      have hx := HX.out k
      obtain ⟨lo, hlo⟩ : ∃ lo, lo = k * z := ⟨_, rfl⟩
      obtain ⟨hi, hhi⟩ : ∃ hi, hi = (k + 1) * z := ⟨_, rfl⟩
      obtain ⟨cz, hcz'⟩ : ∃ cz, cz = c * z := ⟨_, rfl⟩
      rw [← hlo] at g2 m1 hx
      rw [← hhi] at g1 g2 m2 hx
      rw [← hcz'] at g1 hs hcz
      have hle : lo ≤ hi := by omega
      have hhs : hi ≤ t.size := by omega
      have hes : (t.extract lo hi).size ≤ 140737488355328 := by rw [ByteArray.size_extract]; omega
      have C := clone_any (t.extract lo hi) wr hes
      have HXX : Hid (t.extract lo hi = sb (wct z xs k)) := hx
      clear hx hlo hhi hcz' hes
      have i1 : (lo : Int) ≤ (hi : Int) := by omega
      have i2 : (hi : Int) ≤ (t.size : Int) := by omega
      clear g1 g2
      go_wp2_with fail
      refine C.mono ?_
      rintro e w2 ⟨rfl, hB2⟩
      have hO2 : w2.ownsRow w.heap.size 9 1 (.slice a1 k c1) k ((List.range k).map (fun i => st (wct z xs i))) := ownsRow_old hO hB2
      have hB2' : Below w.heap.size w w2 := hB.trans (hB2.mono hsz)
      have hsz2 := hB2'.size
      have hll : ((List.range k).map (fun i => st (wct z xs i))).length = k := by simp
      clear C hO hB hB2 i1 i2 m1 m2
      generalize t.extract lo hi = s at *
      obtain ⟨ys, hys⟩ : ∃ ys, ys = (List.range k).map (fun i => st (wct z xs i)) := ⟨_, rfl⟩
      have HYS : Hid (ys = (List.range k).map (fun i => st (wct z xs i))) := hys
      rw [← hys] at hO2 hll
      clear hys
      go_wp2_with (first | (at_builtin; refine wpList_append_own _ rfl _ _ 22 rfl w.heap.size 9 j0 (.string ⟨#[]⟩) 1 16 Try.underlying22 hj hy0 hy1 hy2 rfl (by decide) _ _ _ rfl (World.ownsRow.alloc hO2 _) ⟨w2.heap.size, 0, none⟩ 1 1 [.string s] rfl rfl (one_cell _) (by intro u hu; simp at hu; subst hu; rfl) (by unfold maxLen; omega) (by omega) (by simp; omega) ?_))
      intro v' w3 hown hgrow _
      have HO3 : Hid (OwT w.heap.size w3 v' (k + 1) (wct z xs)) := by
        rw [HYS.out] at hown
        exact OwT.snoc hown (by rw [HXX.out])
      have hB3 : Below w.heap.size w w3 := (hB2'.alloc hsz2 _).grown hgrow (by simp; omega) (fun g hg => (World.ownsRow.lt hO2 g hg).1)
      clear hown hgrow hO2 hB2' HYS HXX
      go_wp2
      go_roundw
      case rel => exact ⟨k + 1, by omega, by go_num, HO3.out, hB3⟩
      case measure => simp [intOf]; omega
    · have e : k = c := by omega
      have HO : Hid (OwT w.heap.size wr (.slice a1 k c1) c (wct z xs)) := by
        have h2 := hO
        rw [e] at h2
        rw [e]
        exact h2
      have hkc : ¬ (k : Int) < (c : Int) := by omega
      clear hO e
      go_wp2
      go_ret
      exact ⟨_, rfl, HO.out, hB⟩
end Go.Proofs.Ytfnbpljgmchhbaa

/- What wire.Unpack answers: walks over the program. -/
namespace Go.Proofs.Ytfnbpljgmchhbaa
open Go.ChangeShapes Go.WideShapes Go.ChangeAt Go.RowKit El Pol
open Classical in
/-- the fault of bytes that are to be a row -/
noncomputable def wUE (t : List El) : Nat := if WUn t then 0 else 2
theorem wUE_ok {t : List El} (h : WUn t) : wUE t = 0 := if_pos h
theorem wUE_bad {t : List El} (h : ¬ WUn t) : wUE t = 2 := if_neg h
/-- what stands between -/
def wmid (t : List El) : List El := (t.take (t.length - 2)).drop 3
theorem wmid_len {t : List El} (h : t.length = 5 + wmany t * wsize t) : (wmid t).length = wmany t * wsize t := by
  unfold wmid
  rw [List.length_drop, List.length_take]
  omega
theorem wmid_cut {t : List El} (h : t.length = 5 + wmany t * wsize t) {i : Nat} (hi : i < wmany t) : wct (wsize t) (wmid t) i = wpt t i := by
  have h1 : (i + 1) * wsize t ≤ wmany t * wsize t := Nat.mul_le_mul_right _ hi
  rw [Nat.add_mul, Nat.one_mul] at h1
  unfold wct wmid wpt
  rw [List.drop_drop, List.drop_take, List.take_take, Nat.min_eq_left (by omega)]
theorem wun_of {t : List El} (he : wE (wrow t : Int) (wmany t) (wpt t) = 0) (hp : wpack (wrow t) (wmany t) (wpt t) = t) : WUn t := by
  obtain ⟨r, hr, ho⟩ := wok_of he
  have : wrow t = r := by omega
  subst this
  have := (pack_wun ho).1
  rw [hp] at this
  exact this
theorem wE_congr {row : Int} {n : Nat} {f g : Nat → List El} (h : ∀ i, i < n → f i = g i) : wE row n f = wE row n g := by
  unfold wE
  split
  · rfl
  · split
    · rfl
    · split
      · rfl
      · rename_i h0
        have e0 := h 0 (by omega)
        unfold bbad
        rw [e0]
        have : anyB (fun i => decide ((f i).length ≠ (g 0).length)) n = anyB (fun i => decide ((g i).length ≠ (g 0).length)) n := by
          rw [Bool.eq_iff_iff, anyB_true, anyB_true]
          constructor
          · rintro ⟨i, hi, q⟩; exact ⟨i, hi, by rw [← h i hi]; exact q⟩
          · rintro ⟨i, hi, q⟩; exact ⟨i, hi, by rw [h i hi]; exact q⟩
        rw [this]
set_option maxHeartbeats 1000000 in
theorem unpack_short (t : List El) (w : World) (h : t.length < 5) :
    Calls Try.prog 8 #[st t] w fun e w' => e = .returned (.tuple #[.int .i64 0, .slice none 0 0, errV 2]) ∧ w' = w := by
  have hs := sb_size t
  have h' : ((sb t).size : Int) < 5 := by omega
  unfold st
  generalize sb t = s at *
  clear h hs
  go_enter Try.func8, Try.ntmps8
  go_wp2
  go_ret3
  exact ⟨rfl, rfl⟩
set_option maxHeartbeats 1000000 in
theorem unpack_length (t : List El) (w : World) (h5 : 5 ≤ t.length) (hl : t.length ≠ 5 + wmany t * wsize t) (hm : t.length ≤ 9223372036854775807) :
    Calls Try.prog 8 #[st t] w fun e w' => e = .returned (.tuple #[.int .i64 0, .slice none 0 0, errV 2]) ∧ Below w.heap.size w w' := by
  have hs := sb_size t
  have h5' : ¬ ((sb t).size : Int) < 5 := by omega
  have k0 : ∀ h : 0 < (sb t).size, ((sb t)[0]'h).toNat = wrow t := fun h => sb_at t 0 h
  have k1 : ∀ h : 1 < (sb t).size, ((sb t)[1]'h).toNat = wmany t := fun h => sb_at t 1 h
  have k2 : ∀ h : 2 < (sb t).size, ((sb t)[2]'h).toNat = wsize t := fun h => sb_at t 2 h
  have r0 : wrow t < 256 := (t.getD 0 0).isLt
  have r1 : wmany t < 256 := (t.getD 1 0).isLt
  have r2 : wsize t < 256 := (t.getD 2 0).isLt
  have i0 : 0 < (sb t).size := by omega
  have i1 : 1 < (sb t).size := by omega
  have i2 : 2 < (sb t).size := by omega
  have hp : wmany t * wsize t ≤ 255 * 255 := Nat.mul_le_mul (by omega) (by omega)
  have hpi : (wmany t : Int) * (wsize t : Int) = ((wmany t * wsize t : Nat) : Int) := by simp
  unfold st
  generalize sb t = s at *
  generalize wrow t = r at *
  generalize wmany t = c at *
  generalize wsize t = z at *
  generalize c * z = L at *
  have k0 := k0 i0
  have k1 := k1 i1
  have k2 := k2 i2
  have hne : ((s.size : Int) != 3 + (L : Int) + 2) = true := by rw [bne_iff_ne]; omega
  clear hl
  go_enter Try.func8, Try.ntmps8
  go_wp2
  go_quiet (fail)
  go_wp2
  go_ret3
  exact ⟨rfl, below_drewN (Below.refl _ _) _⟩
set_option maxHeartbeats 2000000 in
theorem unpack_long (t : List El) (w : World) (h5 : 5 ≤ t.length) (hl : t.length = 5 + wmany t * wsize t) :
    Calls Try.prog 8 #[st t] w fun e w' => ∃ u, e = .returned (.tuple #[.int .i64 ((cnt (wUE t) (wrow t) : Nat) : Int), u, errV (wUE t)]) ∧ OwT w.heap.size w' u (cnt (wUE t) (wmany t)) (wpt t) ∧ Below w.heap.size w w' := by
  have hs := sb_size t
  have h5' : ¬ ((sb t).size : Int) < 5 := by omega
  have k0 : ∀ h : 0 < (sb t).size, ((sb t)[0]'h).toNat = wrow t := fun h => sb_at t 0 h
  have k1 : ∀ h : 1 < (sb t).size, ((sb t)[1]'h).toNat = wmany t := fun h => sb_at t 1 h
  have k2 : ∀ h : 2 < (sb t).size, ((sb t)[2]'h).toNat = wsize t := fun h => sb_at t 2 h
  have r0 : wrow t < 256 := (t.getD 0 0).isLt
  have r1 : wmany t < 256 := (t.getD 1 0).isLt
  have r2 : wsize t < 256 := (t.getD 2 0).isLt
  have i0 : 0 < (sb t).size := by omega
  have i1 : 1 < (sb t).size := by omega
  have i2 : 2 < (sb t).size := by omega
  have hp : wmany t * wsize t ≤ 255 * 255 := Nat.mul_le_mul (by omega) (by omega)
  have hpi : (wmany t : Int) * (wsize t : Int) = ((wmany t * wsize t : Nat) : Int) := by simp
  have HC : Hid (∀ w1, Calls Try.prog 23 #[.string ((sb t).extract 3 ((sb t).size - 2)), .int .i64 (wmany t : Int), .int .i64 (wsize t : Int)] w1 fun e w' => ∃ u, e = .returned u ∧ OwT w1.heap.size w' u (wmany t) (wpt t) ∧ Below w1.heap.size w1 w') := fun w1 => by
    rw [sb_extract, hs]
    exact (cut_any (wmid t) (wmany t) (wsize t) w1 (wmid_len hl) (by omega) (by omega)).mono fun e w' ⟨u, h1, h2, h3⟩ => ⟨u, h1, h2.congr (fun i hi => wmid_cut hl hi), h3⟩
  have HP : Hid (∀ u w1, RdT w1 u (wmany t) (wpt t) → Calls Try.prog 7 #[.int .i64 (wrow t : Int), u] w1 fun e w' => e = .returned (.tuple #[.string (sb (wP (wrow t : Int) (wmany t) (wpt t))), errV (wE (wrow t : Int) (wmany t) (wpt t))]) ∧ Below w1.heap.size w1 w') := fun u w1 h => pack_any _ u _ _ w1 h
  have hss := sb_same (wP (wrow t : Int) (wmany t) (wpt t)) t
  clear h5'
  by_cases hu : WUn t
  · have e1 := wE_ok (wun_ok hu)
    have e2 : wP (wrow t : Int) (wmany t) (wpt t) = t := by rw [wP_of (wun_ok hu), wun_pack hu]
    rw [wUE_ok hu]
    rw [decide_eq_true e2] at hss
    rw [e1] at HP
    rw [show errV 0 = Value.nilIface from rfl] at HP
    rw [show cnt 0 (wrow t) = wrow t from rfl, show cnt 0 (wmany t) = wmany t from rfl]
    clear e2
    unfold st
    clear e1 hu
    generalize sb (wP (wrow t : Int) (wmany t) (wpt t)) = s2 at *
    generalize wpt t = pt at *
    generalize sb t = s at *
    generalize wrow t = r at *
    generalize wmany t = c at *
    generalize wsize t = z at *
    generalize c * z = L at *
    generalize t.length = l at *
    have k0 := k0 i0
    have k1 := k1 i1
    have k2 := k2 i2
    have hne : ((l : Int) != 3 + (L : Int) + 2) = false := by rw [bne_eq_false_iff_eq]; omega
    obtain ⟨e, he⟩ : ∃ e, e = l - 2 := ⟨_, rfl⟩
    rw [hs, ← he] at HC
    have hes : (l : Int) - 2 = (e : Int) := by omega
    have hel : 3 ≤ e := by omega
    have heu : e ≤ l := by omega
    have hlm : l ≤ 70000 := by omega
    have h5' : ¬ (l : Int) < 5 := by omega
    clear hl he h5
    go_enter Try.func8, Try.ntmps8
    go_wp2
    go_quiet (fail)
    have C := HC.out (w.drewN nq)
    clear HC k0 k1 k2
    go_wp2_with fail
    refine C.mono ?_
    rintro e0 w1 ⟨u, rfl, hO, hB1⟩
    have hB1 : Below w.heap.size w w1 := (below_drewN (Below.refl w.heap.size w) nq).trans hB1
    have P := HP.out u w1 hO.rd
    obtain ⟨ao, cap, rfl⟩ := OwT.len hO
    have HO : Hid (OwT w.heap.size w1 (.slice ao c cap) c pt) := hO
    have HB1 : Hid (Below w.heap.size w w1) := hB1
    clear C HP hO hB1
    go_wp2_with fail
    refine P.mono ?_
    rintro e0 w2 ⟨rfl, hB2⟩
    have HB2 : Hid (Below w.heap.size w w2) := HB1.out.trans (hB2.mono HB1.out.size)
    have HO2 : Hid (OwT w.heap.size w2 (.slice ao c cap) c pt) := ownsRow_old HO.out hB2
    clear P hB2 HO HB1
    go_wp2
    go_ret3
    exact ⟨_, rfl, HO2.out, HB2.out⟩
  · rw [wUE_bad hu]
    rw [show cnt 2 (wrow t) = 0 from rfl, show cnt 2 (wmany t) = 0 from rfl]
    by_cases e1 : wE (wrow t : Int) (wmany t) (wpt t) = 0
    · have e2 : wP (wrow t : Int) (wmany t) (wpt t) ≠ t := fun q => hu (wun_of e1 (by rw [wP_ok e1] at q; exact q))
      rw [decide_eq_false e2] at hss
      rw [e1] at HP
      rw [show errV 0 = Value.nilIface from rfl] at HP
      clear e2
      unfold st
      clear e1 hu
      generalize sb (wP (wrow t : Int) (wmany t) (wpt t)) = s2 at *
      generalize wpt t = pt at *
      generalize sb t = s at *
      generalize wrow t = r at *
      generalize wmany t = c at *
      generalize wsize t = z at *
      generalize c * z = L at *
      generalize t.length = l at *
      have k0 := k0 i0
      have k1 := k1 i1
      have k2 := k2 i2
      have hne : ((l : Int) != 3 + (L : Int) + 2) = false := by rw [bne_eq_false_iff_eq]; omega
      obtain ⟨e, he⟩ : ∃ e, e = l - 2 := ⟨_, rfl⟩
      rw [hs, ← he] at HC
      have hes : (l : Int) - 2 = (e : Int) := by omega
      have hel : 3 ≤ e := by omega
      have heu : e ≤ l := by omega
      have hlm : l ≤ 70000 := by omega
      have h5' : ¬ (l : Int) < 5 := by omega
      clear hl he h5
      go_enter Try.func8, Try.ntmps8
      go_wp2
      go_quiet (fail)
      have C := HC.out (w.drewN nq)
      clear HC k0 k1 k2
      go_wp2_with fail
      refine C.mono ?_
      rintro e0 w1 ⟨u, rfl, hO, hB1⟩
      have hB1 : Below w.heap.size w w1 := (below_drewN (Below.refl w.heap.size w) nq).trans hB1
      have P := HP.out u w1 hO.rd
      obtain ⟨ao, cap, rfl⟩ := OwT.len hO
      have HO : Hid (OwT w.heap.size w1 (.slice ao c cap) c pt) := hO
      have HB1 : Hid (Below w.heap.size w w1) := hB1
      clear C HP hO hB1
      go_wp2_with fail
      refine P.mono ?_
      rintro e0 w2 ⟨rfl, hB2⟩
      have HB2 : Hid (Below w.heap.size w w2) := HB1.out.trans (hB2.mono HB1.out.size)
      have HO2 : Hid (OwT w.heap.size w2 (.slice ao c cap) c pt) := ownsRow_old HO.out hB2
      clear P hB2 HO HB1
      go_wp2
      go_ret3
      exact ⟨_, rfl, World.ownsRow_nil _ _ _ _, HB2.out⟩
    · rw [errV_ne e1] at HP
      clear hss
      generalize wE (wrow t : Int) (wmany t) (wpt t) = q at *
      unfold st
      clear e1 hu
      generalize sb (wP (wrow t : Int) (wmany t) (wpt t)) = s2 at *
      generalize wpt t = pt at *
      generalize sb t = s at *
      generalize wrow t = r at *
      generalize wmany t = c at *
      generalize wsize t = z at *
      generalize c * z = L at *
      generalize t.length = l at *
      have k0 := k0 i0
      have k1 := k1 i1
      have k2 := k2 i2
      have hne : ((l : Int) != 3 + (L : Int) + 2) = false := by rw [bne_eq_false_iff_eq]; omega
      obtain ⟨e, he⟩ : ∃ e, e = l - 2 := ⟨_, rfl⟩
      rw [hs, ← he] at HC
      have hes : (l : Int) - 2 = (e : Int) := by omega
      have hel : 3 ≤ e := by omega
      have heu : e ≤ l := by omega
      have hlm : l ≤ 70000 := by omega
      have h5' : ¬ (l : Int) < 5 := by omega
      clear hl he h5
      go_enter Try.func8, Try.ntmps8
      go_wp2
      go_quiet (fail)
      have C := HC.out (w.drewN nq)
      clear HC k0 k1 k2
      go_wp2_with fail
      refine C.mono ?_
      rintro e0 w1 ⟨u, rfl, hO, hB1⟩
      have hB1 : Below w.heap.size w w1 := (below_drewN (Below.refl w.heap.size w) nq).trans hB1
      have P := HP.out u w1 hO.rd
      obtain ⟨ao, cap, rfl⟩ := OwT.len hO
      have HO : Hid (OwT w.heap.size w1 (.slice ao c cap) c pt) := hO
      have HB1 : Hid (Below w.heap.size w w1) := hB1
      clear C HP hO hB1
      go_wp2_with fail
      refine P.mono ?_
      rintro e0 w2 ⟨rfl, hB2⟩
      have HB2 : Hid (Below w.heap.size w w2) := HB1.out.trans (hB2.mono HB1.out.size)
      have HO2 : Hid (OwT w.heap.size w2 (.slice ao c cap) c pt) := ownsRow_old HO.out hB2
      clear P hB2 HO HB1
      go_wp2
      go_ret3
      exact ⟨_, rfl, World.ownsRow_nil _ _ _ _, HB2.out⟩
/-- Unpack, whatever it is given -/
theorem unpack_any (t : List El) (w : World) (hm : t.length ≤ 9223372036854775807) :
    Calls Try.prog 8 #[st t] w fun e w' => ∃ u, e = .returned (.tuple #[.int .i64 ((cnt (wUE t) (wrow t) : Nat) : Int), u, errV (wUE t)]) ∧ OwT w.heap.size w' u (cnt (wUE t) (wmany t)) (wpt t) ∧ Below w.heap.size w w' := by
  by_cases h5 : t.length < 5
  · have hu : ¬ WUn t := fun q => by have := q.len; omega
    rw [wUE_bad hu]
    exact (unpack_short t w h5).mono fun e w' ⟨h1, h2⟩ => ⟨_, h1, World.ownsRow_nil _ _ _ _, h2 ▸ Below.refl _ _⟩
  · by_cases hl : t.length = 5 + wmany t * wsize t
    · exact unpack_long t w (by omega) hl
    · have hu : ¬ WUn t := fun q => hl q.len
      rw [wUE_bad hu]
      exact (unpack_length t w (by omega) hl hm).mono fun e w' ⟨h1, h2⟩ => ⟨_, h1, World.ownsRow_nil _ _ _ _, h2⟩
end Go.Proofs.Ytfnbpljgmchhbaa

/- What wire.Mend answers: walks over the program. -/
namespace Go.Proofs.Ytfnbpljgmchhbaa
open Go.ChangeShapes Go.WideShapes Go.ChangeAt Go.RowKit El Pol
theorem wun_short {t : List El} (h : WUn t) : t.length ≤ 197 := by
  rw [h.len]
  have : wmany t * wsize t ≤ 12 * 16 := Nat.mul_le_mul h.many h.size
  omega
theorem wun_same {t : List El} {j : Nat} {x y : El} (hx : WUn (wset t j x)) (hy : WUn (wset t j y)) : x = y := wun_one hx hy
theorem wb_self (x : El) : wb x.val = x := wb_of x
set_option maxHeartbeats 1000000 in
theorem mend_range (t : List El) (a : Int) (w : World) (h : a < 0 ∨ (t.length : Int) ≤ a) :
    Calls Try.prog 10 #[st t, .int .i64 a] w fun e w' => e = .returned (.tuple #[st [], errV 1]) ∧ w' = w := by
  have hs := sb_size t
  unfold st
  rw [← hs] at h
  clear hs
  generalize sb t = s at *
  go_enter Try.func10, Try.ntmps10
  rcases h with h | h
  · have hd1 : decide (a < 0) = true := decide_eq_true h
    clear h
    go_wp2
    go_ret2
    exact ⟨rfl, rfl⟩
  · have hd1 : decide (a < 0) = false := decide_eq_false (by omega)
    have hd2 : decide ((s.size : Int) ≤ a) = true := decide_eq_true h
    clear h
    go_wp2
    go_ret2
    exact ⟨rfl, rfl⟩
set_option maxHeartbeats 1000000 in
theorem mend_many (t : List El) (j : Nat) (w : World) (h : j < t.length) (hl : 197 < t.length) :
    Calls Try.prog 10 #[st t, .int .i64 (j : Int)] w fun e w' => e = .returned (.tuple #[st [], errV 5]) ∧ w' = w := by
  have hs := sb_size t
  unfold st
  rw [← hs] at h hl
  clear hs
  generalize sb t = s at *
  have hd1 : decide ((j : Int) < 0) = false := decide_eq_false (by omega)
  have hd2 : decide (s.size ≤ j) = false := decide_eq_false (by omega)
  have h3 : (197 : Int) < (s.size : Int) := by omega
  clear h hl
  go_enter Try.func10, Try.ntmps10
  go_wp2
  go_ret2
  exact ⟨rfl, rfl⟩
/-- so far none does -/
abbrev NoM (t : List El) (j k : Nat) : Prop := ∀ i, i < k → ¬ WUn (wset t j (wb i))
set_option maxHeartbeats 4000000 in
set_option maxRecDepth 100000 in
theorem mend_few (t : List El) (j : Nat) (w : World) (h : j < t.length) (hl : t.length ≤ 197) (z : List El) (e : Nat)
    (hz : ∀ k, k < 256 → NoM t j k → WUn (wset t j (wb k)) → z = wset t j (wb k) ∧ e = 0) (hn : NoM t j 256 → z = [] ∧ e = 5) :
    Calls Try.prog 10 #[st t, .int .i64 (j : Int)] w fun f w' => f = .returned (.tuple #[st z, errV e]) ∧ Below w.heap.size w w' := by
  have hs := sb_size t
  have HZ : Hid (∀ k, k < 256 → NoM t j k → WUn (wset t j (wb k)) → z = wset t j (wb k) ∧ e = 0) := hz
  have HN : Hid (NoM t j 256 → z = [] ∧ e = 5) := hn
  have HW : Hid (∀ x, (sb t).extract 0 j ++ sb [x] ++ (sb t).extract (j + 1) t.length = sb (wset t j x)) := fun x => sb_wset t j x
  have z1 : ((sb t).extract 0 j).size = j := by rw [ByteArray.size_extract]; omega
  have z2 : ((sb t).extract (j + 1) t.length).size = t.length - (j + 1) := by rw [ByteArray.size_extract]; omega
  have HL : Hid (∀ x, (wset t j x).length ≤ 197) := fun x => by rw [wset_len h]; exact hl
  unfold st
  generalize sb t = s at *
  generalize t.length = l at *
  have hd1 : decide ((j : Int) < 0) = false := decide_eq_false (by omega)
  have hd2 : decide (l ≤ j) = false := decide_eq_false (by omega)
  have h3 : ¬ (197 : Int) < (l : Int) := by omega
  clear hz hn
  go_enter Try.func10, Try.ntmps10
  go_wp2
  go_loopw [24] (fun c wr => ∃ k : Nat, k ≤ 256 ∧ c = .int .i64 k ∧ Hid (NoM t j k) ∧ Hid (Below w.heap.size w wr)) (fun c _ => 256 - (intOf c).toNat)
  case atStart => exact ⟨0, Nat.zero_le _, rfl, fun i hi => absurd hi (Nat.not_lt_zero _), Below.refl _ _⟩
  case round =>
    obtain ⟨k, hk, rfl, HM, HB⟩ := hrel
    by_cases hlt : k < 256
    · have T := text1 k wr.drew hlt
      have hz3 : (sb [wb k]).size = 1 := sb_size _
      have HX := HW.out (wb k)
      have hj2 : (j : Int) + 1 ≤ (l : Int) := by omega
      have hj3 : j + 1 ≤ l := by omega
      have hj4 : j ≤ l := by omega
      have hj5 : (0 : Int) ≤ (j : Int) + 1 := by omega
      unfold st at T
      generalize sb [wb k] = s3 at *
      generalize hA : s.extract 0 j = A at *
      generalize hC : s.extract (j + 1) l = C at *
      have hz4 : (A ++ s3).size = j + 1 := by rw [ByteArray.size_append, z1, hz3]
      have hj6 : 0 ≤ (j : Int) + 1 ∧ (j : Int) + 1 ≤ (s.size : Int) := ⟨hj5, by rw [hs]; exact hj2⟩
      have hj7 : 0 ≤ (j : Int) + 1 ∧ (j : Int) + 1 ≤ (l : Int) := ⟨hj5, hj2⟩
      have hwr : IntKind.i64.wrap ((j : Int) + 1) = (j : Int) + 1 := by rw [IntKind.wrap_i64]; omega
      have hc1 : ¬ 9223372036854775807 < A.size + s3.size := by rw [z1, hz3]; omega
      have hc2 : ¬ 9223372036854775807 < (A ++ s3).size + C.size := by rw [hz4, z2]; omega
      go_wp2
      go_region_with (first | (go_at_call 21; refine T.mono ?_; rintro f w1 ⟨rfl, hB1⟩))
      all_goals
        have HB1 : Hid (Below w.heap.size w w1) := HB.out.trans (((below_drewN (Below.refl wr.heap.size wr) 1).trans hB1).mono HB.out.size)
        have U := unpack_any (wset t j (wb k)) w1 (by have := HL.out (wb k); omega)
        have HX2 : Hid (sb (wset t j (wb k)) = sb (wset t j (wb k))) := rfl
        clear T hB1 HX hwr hc1 hc2 hj2 hj3 hj4 hj5 hj6 hj7 hz3 hz4 z1 z2 hA hC HB
        unfold st at U
        obtain ⟨s5, hs5⟩ : ∃ s5, s5 = sb (wset t j (wb k)) := ⟨_, rfl⟩
        have HS5 : Hid (s5 = sb (wset t j (wb k))) := hs5
        rw [← hs5] at U
        rw [← hs5]
        clear hs5 HX2
        by_cases hu : WUn (wset t j (wb k))
        · rw [wUE_ok hu, show errV 0 = Value.nilIface from rfl] at U
          have HE : Hid (z = wset t j (wb k) ∧ e = 0) := HZ.out k hlt HM.out hu
          generalize cnt 0 (wrow (wset t j (wb k))) = q1 at *
          generalize cnt 0 (wmany (wset t j (wb k))) = q2 at *
          clear hu
          go_wp2_with fail
          refine U.mono ?_
          rintro f w2 ⟨u, rfl, hO, hB2⟩
          have HB2 : Hid (Below w.heap.size w w2) := HB1.out.trans (hB2.mono HB1.out.size)
          clear U hO hB2
          go_wp2
          go_ret2
          exact ⟨by rw [HE.out.1, HE.out.2, ← HS5.out]; rfl, HB2.out⟩
        · rw [wUE_bad hu] at U
          have HM2 : Hid (NoM t j (k + 1)) := fun i hi => by
            by_cases ei : i = k
            · rw [ei]; exact hu
            · exact HM.out i (by omega)
          rw [errV_ne (by omega)] at U
          generalize cnt 2 (wrow (wset t j (wb k))) = q1 at *
          generalize cnt 2 (wmany (wset t j (wb k))) = q2 at *
          clear hu HM
          go_wp2_with fail
          refine U.mono ?_
          rintro f w2 ⟨u, rfl, hO, hB2⟩
          have HB2 : Hid (Below w.heap.size w w2) := HB1.out.trans (hB2.mono HB1.out.size)
          clear U hO hB2
          go_wp2
          go_roundw
          case rel => exact ⟨k + 1, by omega, by go_num, HM2.out, HB2.out⟩
          case measure => simp [intOf]; omega
    · have ek : k = 256 := by omega
      have HE : Hid (z = [] ∧ e = 5) := HN.out (by rw [← ek]; exact HM.out)
      have hk2 : ¬ (k : Int) < 256 := by omega
      clear ek HM
      go_wp2
      go_ret2
      exact ⟨by rw [HE.out.1, HE.out.2]; rfl, HB.out⟩
/-- Mend, where a byte does -/
theorem mend_ok (t : List El) (j : Nat) (x : El) (w : World) (h : j < t.length) (hx : WUn (wset t j x)) :
    Calls Try.prog 10 #[st t, .int .i64 (j : Int)] w fun f w' => f = .returned (.tuple #[st (wset t j x), errV 0]) ∧ Below w.heap.size w w' := by
  have hl := wun_short hx
  rw [wset_len h] at hl
  refine mend_few t j w h hl _ 0 (fun k hk _ hu => ⟨by rw [wun_same hx hu], rfl⟩) (fun hn => absurd hx ?_)
  rw [← wb_self x]
  exact hn x.val x.isLt
/-- Mend, where none does -/
theorem mend_none (t : List El) (j : Nat) (w : World) (h : j < t.length) (hx : ∀ x, ¬ WUn (wset t j x)) :
    Calls Try.prog 10 #[st t, .int .i64 (j : Int)] w fun f w' => f = .returned (.tuple #[st [], errV 5]) ∧ Below w.heap.size w w' := by
  by_cases hl : t.length ≤ 197
  · exact mend_few t j w h hl _ 5 (fun k hk _ hu => absurd hu (hx _)) (fun _ => ⟨rfl, rfl⟩)
  · exact (mend_many t j w h (by omega)).mono fun _ _ ⟨h1, h2⟩ => ⟨h1, h2 ▸ Below.refl _ _⟩
end Go.Proofs.Ytfnbpljgmchhbaa
