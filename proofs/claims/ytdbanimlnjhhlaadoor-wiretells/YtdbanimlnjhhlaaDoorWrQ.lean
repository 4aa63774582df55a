/- What wire.Pack answers, whatever it is given: walks over the program. -/
import Derived.Test.YtdbanimlnjhhlaaDoorWrP
namespace Go.Proofs.YtdbanimlnjhhlaaDoor
open Go.ChangeShapes Go.WideShapes Go.ChangeAt Go.RowKit El Pol
def num3 (a b c : Nat) : Nat → Nat := fun i => if i = 0 then a else if i = 1 then b else c
theorem num3_cells (w : World) (a b c : Nat) : ∀ i, i < 3 → (w.alloc (.cells #[.int .i64 (a : Int), .int .i64 (b : Int), .int .i64 (c : Int)] 3)).cell? ((⟨w.heap.size, 0, none⟩ : Addr).add i) = some (.int .i64 ((num3 a b c i : Nat) : Int)) := by
  intro i hi
  have h := heap_alloc_new w (.cells #[.int .i64 (a : Int), .int .i64 (b : Int), .int .i64 (c : Int)] 3)
  match i, hi with
  | 0, _ => rw [add_zero, cell_of_row _ _ 0 _ _ _ h]; rfl
  | 1, _ => rw [show (⟨w.heap.size, 0, none⟩ : Addr).add 1 = ⟨w.heap.size, 1, none⟩ from rfl, cell_of_row _ _ 1 _ _ _ h]; rfl
  | 2, _ => rw [show (⟨w.heap.size, 0, none⟩ : Addr).add 2 = ⟨w.heap.size, 2, none⟩ from rfl, cell_of_row _ _ 2 _ _ _ h]; rfl
theorem num2_cells (w : World) (a b : Nat) : ∀ i, i < 2 → (w.alloc (.cells #[.int .i64 (a : Int), .int .i64 (b : Int)] 3)).cell? ((⟨w.heap.size, 0, none⟩ : Addr).add i) = some (.int .i64 ((num3 a b 0 i : Nat) : Int)) := by
  intro i hi
  have h := heap_alloc_new w (.cells #[.int .i64 (a : Int), .int .i64 (b : Int)] 3)
  match i, hi with
  | 0, _ => rw [add_zero, cell_of_row _ _ 0 _ _ _ h]; rfl
  | 1, _ => rw [show (⟨w.heap.size, 0, none⟩ : Addr).add 1 = ⟨w.heap.size, 1, none⟩ from rfl, cell_of_row _ _ 1 _ _ _ h]; rfl
theorem num1_cells (w : World) (a : Nat) : ∀ i, i < 1 → (w.alloc (.cells #[.int .i64 (a : Int)] 3)).cell? ((⟨w.heap.size, 0, none⟩ : Addr).add i) = some (.int .i64 ((num3 a 0 0 i : Nat) : Int)) := by
  intro i hi
  have h := heap_alloc_new w (.cells #[.int .i64 (a : Int)] 3)
  match i, hi with
  | 0, _ => rw [add_zero, cell_of_row _ _ 0 _ _ _ h]; rfl
theorem text3 (a b c : Nat) (w : World) (ha : a < 256) (hb : b < 256) (hc : c < 256) :
    Calls Tryd.prog 44 #[.slice (some ⟨w.heap.size, 0, none⟩) 3 3] (w.alloc (.cells #[.int .i64 (a : Int), .int .i64 (b : Int), .int .i64 (c : Int)] 3)) fun e w' => e = .returned (st [wb a, wb b, wb c]) ∧ Below w.heap.size w w' :=
  (text_any _ 3 3 (num3 a b c) _ (num3_cells w a b c) (fun i _ => by unfold num3; split; exact ha; split; exact hb; exact hc) (by omega)).mono fun _ _ ⟨h1, h2⟩ => ⟨h1, ((Below.refl w.heap.size w).alloc (Nat.le_refl _) _).trans (h2.mono (by simp))⟩
theorem text2 (a b : Nat) (w : World) (ha : a < 256) (hb : b < 256) :
    Calls Tryd.prog 44 #[.slice (some ⟨w.heap.size, 0, none⟩) 2 2] (w.alloc (.cells #[.int .i64 (a : Int), .int .i64 (b : Int)] 3)) fun e w' => e = .returned (st [wb a, wb b]) ∧ Below w.heap.size w w' :=
  (text_any _ 2 2 (num3 a b 0) _ (num2_cells w a b) (fun i _ => by unfold num3; split; exact ha; split; exact hb; omega) (by omega)).mono fun _ _ ⟨h1, h2⟩ => ⟨h1, ((Below.refl w.heap.size w).alloc (Nat.le_refl _) _).trans (h2.mono (by simp))⟩
theorem text1 (a : Nat) (w : World) (ha : a < 256) :
    Calls Tryd.prog 44 #[.slice (some ⟨w.heap.size, 0, none⟩) 1 1] (w.alloc (.cells #[.int .i64 (a : Int)] 3)) fun e w' => e = .returned (st [wb a]) ∧ Below w.heap.size w w' :=
  (text_any _ 1 1 (num3 a 0 0) _ (num1_cells w a) (fun i _ => by unfold num3; split; exact ha; split <;> omega) (by omega)).mono fun _ _ ⟨h1, h2⟩ => ⟨h1, ((Below.refl w.heap.size w).alloc (Nat.le_refl _) _).trans (h2.mono (by simp))⟩
set_option maxHeartbeats 2000000 in
theorem pack_ok (r n : Nat) (v : Value) (f : Nat → List El) (w : World) (hr : RdT w v n f) (ho : WOk r n f) :
    Calls Tryd.prog 21 #[.int .i64 (r : Int), v] w fun e w' => e = .returned (.tuple #[st (wpack r n f), .nilIface]) ∧ Below w.heap.size w w' := by
  have h1 := ho.row
  have h2 := ho.many
  have h3 := ho.short
  have hlen := wfl_len ho.one
  obtain ⟨ao, cap, rfl, _, _⟩ := hr.len
  have K : Calls Tryd.prog 42 #[.slice ao n cap] w fun e w' => e = .returned .nilIface ∧ Below w.heap.size w w' := by
    by_cases hn0 : n = 0
    · subst hn0; exact blocks_none ao cap w
    · have := blocks_any _ n f w hr (by omega) (by omega)
      have e : wsz f n = (f 0).length := if_neg hn0
      rw [bbad_of (fun i hi => by rw [ho.one i hi, e]) (by rw [← e]; exact h3)] at this
      exact this
  have HJ : Hid (∀ w1, Below w.heap.size w w1 → Calls Tryd.prog 43 #[.slice ao n cap, .string ⟨#[]⟩] w1 fun e w' => e = .returned (.string (sb (wfl f n))) ∧ Below w1.heap.size w1 w') := fun w1 hb => join_any _ n f w1 (hr.old hb) h2 (fun i hi => by rw [ho.one i hi]; omega)
  have HT : Hid (∀ w1, Calls Tryd.prog 44 #[.slice (some ⟨w1.heap.size, 0, none⟩) 3 3] (w1.alloc (.cells #[.int .i64 (r : Int), .int .i64 (n : Int), .int .i64 ((wsz f n : Nat) : Int)] 3)) fun e w' => e = .returned (.string (sb [wb r, wb n, wb (wsz f n)])) ∧ Below w1.heap.size w1 w') := fun w1 => text3 r n (wsz f n) w1 (by omega) (by omega) (by omega)
  have hbody : sb [wb r, wb n, wb (wsz f n)] ++ sb (wfl f n) = sb (wbody r n f) := sb_append _ _
  have hlb : (wbody r n f).length ≤ 1000 := by
    (show (wfl f n).length + 1 + 1 + 1 ≤ 1000)
    rw [hlen]
    have : n * wsz f n ≤ 12 * 16 := Nat.mul_le_mul h2 h3
    omega
  have HS : Hid (∀ w1, Calls Tryd.prog 25 #[.string (sb [wb r, wb n, wb (wsz f n)] ++ sb (wfl f n))] w1 fun e w' => e = .returned (.int .i64 ((wsum (wbody r n f) : Nat) : Int)) ∧ w' = w1) := fun w1 => by
    rw [hbody]; exact sum_any _ w1 (by omega)
  have hsl := wsum_lt (wbody r n f)
  have HE : Hid (∀ w1, Calls Tryd.prog 44 #[.slice (some ⟨w1.heap.size, 0, none⟩) 2 2] (w1.alloc (.cells #[.int .i64 ((wsum (wbody r n f) / 256 : Nat) : Int), .int .i64 ((wsum (wbody r n f) % 256 : Nat) : Int)] 3)) fun e w' => e = .returned (.string (sb (wtl (wsum (wbody r n f))))) ∧ Below w1.heap.size w1 w') := fun w1 => text2 _ _ w1 (by omega) (by omega)
  have HW : Hid (Value.string (sb [wb r, wb n, wb (wsz f n)] ++ sb (wfl f n) ++ sb (wtl (wsum (wbody r n f)))) = st (wpack r n f)) := by
    (show Value.string _ = Value.string _)
    rw [hbody, sb_append]
    rfl
  have z1 : (sb [wb r, wb n, wb (wsz f n)]).size = 3 := sb_size _
  have z2 : (sb (wfl f n)).size = n * wsz f n := by rw [sb_size]; exact hlen
  have z3 : (sb (wtl (wsum (wbody r n f)))).size = 2 := sb_size _
  have hq : n * wsz f n / max n 1 = wsz f n := by
    by_cases hn0 : n = 0
    · subst hn0
      have e : wsz f 0 = 0 := if_pos rfl
      rw [e]
      rfl
    · rw [Nat.max_eq_left (by omega), Nat.mul_div_cancel_left _ (by omega)]
  obtain ⟨q, hqe⟩ : ∃ q, q = max n 1 := ⟨_, rfl⟩
  have hmax : (if (n : Int) < 1 then (1 : Int) else (n : Int)) = (q : Int) := by
    split <;> omega
  rw [← hqe] at hq
  have hqi : ((n * wsz f n : Nat) : Int) / (q : Int) = ((wsz f n : Nat) : Int) := by
    rw [← Int.natCast_ediv, hq]
  have hq0 : 0 < q := by omega
  have hqb : ((q : Int) == 0) = false := by rw [beq_eq_false_iff_ne]; omega
  have hmm : n * wsz f n ≤ 192 := Nat.mul_le_mul h2 h3
  have hd1 : decide ((r : Int) < 0) = false := decide_eq_false (by omega)
  have hd2 : decide ((20 : Int) ≤ (r : Int)) = false := decide_eq_false (by omega)
  clear hlen hr ho hbody hlb hq hqe
  generalize sb [wb r, wb n, wb (wsz f n)] = s1 at *
  generalize sb (wfl f n) = s2 at *
  generalize sb (wtl (wsum (wbody r n f))) = s3 at *
  generalize wsum (wbody r n f) = S at *
  generalize wsz f n = z at *
  generalize n * z = L at *
  obtain ⟨hq1, hq2⟩ : (S : Int) / 256 = ((S / 256 : Nat) : Int) ∧ (S : Int) % 256 = ((S % 256 : Nat) : Int) := ⟨by omega, by omega⟩
  go_enter Tryd.func21, Tryd.ntmps21
  go_wp2_with fail
  refine K.mono ?_
  rintro e w1 ⟨rfl, hB1⟩
  have J := HJ.out w1 hB1
  have HB1 : Hid (Below w.heap.size w w1) := hB1
  clear K hB1 HJ
  go_wp2_with fail
  refine J.mono ?_
  rintro e w2 ⟨rfl, hB2⟩
  have HB2 : Hid (Below w.heap.size w w2) := HB1.out.trans (hB2.mono HB1.out.size)
  have T := HT.out w2
  clear J hB2 HB1 HT
  go_wp2_with fail
  refine T.mono ?_
  rintro e w3 ⟨rfl, hB3⟩
  have HB3 : Hid (Below w.heap.size w w3) := HB2.out.trans (hB3.mono HB2.out.size)
  have S1 := HS.out w3
  clear T hB3 HB2 HS hqi hmax
  go_wp2_with fail
  refine S1.mono ?_
  rintro e w4 ⟨rfl, hw4⟩
  obtain rfl := hw4.symm
  have E1 := HE.out w3
  rw [← hq1, ← hq2] at E1
  have zz : (s1 ++ s2).size = 3 + L := by rw [ByteArray.size_append, z1, z2]
  clear S1 HE hq1 hq2
  generalize s1 ++ s2 = s4 at *
  go_wp2_with fail
  refine E1.mono ?_
  rintro e w5 ⟨rfl, hB5⟩
  have HB5 : Hid (Below w.heap.size w w5) := HB3.out.trans (hB5.mono HB3.out.size)
  clear E1 hB5 HB3
  go_wp2
  go_ret2
  exact ⟨by rw [← HW.out]; rfl, HB5.out⟩
theorem pack_row (row : Int) (v : Value) (hv : ∃ ao n cap, v = .slice ao n cap) (w : World) (h : row < 0 ∨ 20 ≤ row) :
    Calls Tryd.prog 21 #[.int .i64 row, v] w fun e w' => e = .returned (.tuple #[st [], errV 1]) ∧ w' = w := by
  obtain ⟨ao, n, cap, rfl⟩ := hv
  have hd : (decide (row < 0) || decide (20 ≤ row)) = true := by
    rcases h with h | h <;> simp [h]
  go_enter Tryd.func21, Tryd.ntmps21
  rcases h with h | h
  · clear hd
    go_wp2
    go_ret2
    exact ⟨rfl, rfl⟩
  · have h0 : ¬ row < 0 := by omega
    have hd1 : decide (row < 0) = false := decide_eq_false h0
    have hd2 : decide (20 ≤ row) = true := decide_eq_true h
    clear hd h h0
    go_wp2
    go_ret2
    exact ⟨rfl, rfl⟩
theorem pack_full (row : Int) (ao : Option Addr) (n cap : Nat) (w : World) (h : ¬ (row < 0 ∨ 20 ≤ row)) (h2 : 12 < n) :
    Calls Tryd.prog 21 #[.int .i64 row, .slice ao n cap] w fun e w' => e = .returned (.tuple #[st [], errV 4]) ∧ w' = w := by
  have hd1 : decide (row < 0) = false := decide_eq_false (fun q => h (.inl q))
  have hd2 : decide (20 ≤ row) = false := decide_eq_false (fun q => h (.inr q))
  have h2' : (12 : Int) < (n : Int) := by omega
  clear h h2
  go_enter Tryd.func21, Tryd.ntmps21
  go_wp2
  go_ret2
  exact ⟨rfl, rfl⟩
theorem pack_shape (row : Int) (v : Value) (n : Nat) (f : Nat → List El) (w : World) (h : ¬ (row < 0 ∨ 20 ≤ row)) (h2 : ¬ 12 < n) (h3 : n ≠ 0) (hr : RdT w v n f) (hb : bbad n f ≠ 0) :
    Calls Tryd.prog 21 #[.int .i64 row, v] w fun e w' => e = .returned (.tuple #[st [], errV (bbad n f)]) ∧ Below w.heap.size w w' := by
  obtain ⟨ao, cap, rfl, _, _⟩ := hr.len
  have C := blocks_any _ n f w hr (by omega) (by omega)
  have hd1 : decide (row < 0) = false := decide_eq_false (fun q => h (.inl q))
  have hd2 : decide (20 ≤ row) = false := decide_eq_false (fun q => h (.inr q))
  have h2' : ¬ (12 : Int) < (n : Int) := by omega
  rw [errV_ne hb] at C
  rw [errV_ne hb]
  generalize bbad n f = q at *
  clear h h2 h3 hr hb
  go_enter Tryd.func21, Tryd.ntmps21
  go_wp2_with fail
  refine C.mono ?_
  rintro e w1 ⟨rfl, hB⟩
  clear C
  go_wp2
  go_ret2
  exact ⟨rfl, hB⟩
/-- Pack, whatever it is given -/
theorem pack_any (row : Int) (v : Value) (n : Nat) (f : Nat → List El) (w : World) (hr : RdT w v n f) :
    Calls Tryd.prog 21 #[.int .i64 row, v] w fun e w' => e = .returned (.tuple #[st (wP row n f), errV (wE row n f)]) ∧ Below w.heap.size w w' := by
  by_cases he : wE row n f = 0
  · obtain ⟨r, rfl, ho⟩ := wok_of he
    rw [wP_of ho, he]
    exact pack_ok r n v f w hr ho
  · rw [wP_bad he]
    by_cases h : row < 0 ∨ 20 ≤ row
    · rw [wE_row h]
      obtain ⟨ao, cap, e, _⟩ := hr.len
      exact (pack_row row v ⟨ao, n, cap, e⟩ w h).mono fun _ _ ⟨h1, h2⟩ => ⟨h1, h2 ▸ Below.refl _ _⟩
    · by_cases h2 : 12 < n
      · rw [wE_full h h2]
        obtain ⟨ao, cap, e, _⟩ := hr.len
        subst e
        exact (pack_full row ao n cap w h h2).mono fun _ _ ⟨h1, h2⟩ => ⟨h1, h2 ▸ Below.refl _ _⟩
      · by_cases h3 : n = 0
        · subst h3; exact absurd (wE_none h) he
        · rw [wE_some h h2 h3] at he ⊢
          exact pack_shape row v n f w h h2 h3 hr he
end Go.Proofs.YtdbanimlnjhhlaaDoor
