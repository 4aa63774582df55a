/- What the document's Pack answers, of a row that is right: a walk over the program. -/
import Derived.Test.YtdbanimlnjhhlaaDoorWrP
import Derived.Test.YtdbanimlnjhhlaaDoorWdS
namespace Go.Proofs.YtdbanimlnjhhlaaDoor
open Go.ChangeShapes Go.WideShapes Go.ChangeAt Go.RowKit El Pol
theorem u3_cells (w : World) (a b c : El) : Rd (w.alloc (.cells #[.int .u8 ((a.val : Nat) : Int), .int .u8 ((b.val : Nat) : Int), .int .u8 ((c.val : Nat) : Int)] 5)) (.slice (some ⟨w.heap.size, 0, none⟩) 3 3) [a, b, c] :=
  Ow.rd (B := w.heap.size) (own_lit (w := w) (e := 5) [eb a, eb b, eb c] (Nat.le_refl _) (by simp))
theorem u2_cells (w : World) (a b : El) : Rd (w.alloc (.cells #[.int .u8 ((a.val : Nat) : Int), .int .u8 ((b.val : Nat) : Int)] 5)) (.slice (some ⟨w.heap.size, 0, none⟩) 2 2) [a, b] :=
  Ow.rd (B := w.heap.size) (own_lit (w := w) (e := 5) [eb a, eb b] (Nat.le_refl _) (by simp))
set_option maxHeartbeats 4000000 in
set_option maxRecDepth 100000 in
theorem dpack_ok (r n : Nat) (v : Value) (f : Nat → List El) (w : World) (hr : RdT w v n f) (ho : WOk r n f) :
    Calls Tryd.prog 20 #[.int .i64 (r : Int), v] w fun e w' => e = .returned (st (wpack r n f)) ∧ Below w.heap.size w w' := by
  have h1 := ho.row
  have h2 := ho.many
  have h3 := ho.short
  obtain ⟨ao, cap, rfl, _, _⟩ := hr.len
  have HR : Hid (RdT w (.slice ao n cap) n f) := hr
  have HO : Hid (∀ i, i < n → (f i).length = wsz f n) := ho.one
  have c3 := run_text (u3_cells w (wb r) (wb n) (wb (wsz f n))) 62 9 Tryd.underlying62 Tryd.underlying9
  rw [wb_val (by omega), wb_val (by omega), wb_val (by omega)] at c3
  have HB1 : Hid (Below w.heap.size w (w.alloc (.cells #[.int .u8 (r : Int), .int .u8 (n : Int), .int .u8 ((wsz f n : Nat) : Int)] 5))) := al_below _ _
  have HH : Hid (∀ k, sb ([wb r, wb n, wb (wsz f n)] ++ wfl f k) ++ sb (f k) = sb ([wb r, wb n, wb (wsz f n)] ++ wfl f (k + 1))) := fun k => by rw [sb_append, wfl_succ, List.append_assoc]
  have HLl : Hid (∀ k, k ≤ n → (sb ([wb r, wb n, wb (wsz f n)] ++ wfl f k)).size ≤ 1000) := fun k hk => by
    rw [sb_size, List.length_append, wfl_len (fun i hi => ho.one i (by omega))]
    have : k * wsz f n ≤ 12 * 16 := Nat.mul_le_mul (by omega) h3
    (show 3 + _ ≤ _)
    omega
  have HS : Hid (∀ w1, Calls Tryd.prog 26 #[.string (sb ([wb r, wb n, wb (wsz f n)] ++ wfl f n))] w1 fun e w' => e = .returned (.int .i64 ((wsum (wbody r n f) : Nat) : Int)) ∧ w' = w1) := fun w1 => dsum_any (wbody r n f) w1 (by have := HLl.out n (Nat.le_refl _); rw [sb_size] at this; (show ([wb r, wb n, wb (wsz f n)] ++ wfl f n).length ≤ _); omega)
  have hsl := wsum_lt (wbody r n f)
  have HE : Hid (∀ w1 : World, (convert 62 9 (.slice (some ⟨w1.heap.size, 0, none⟩) 2 2)).run Tryd.prog (w1.alloc (.cells #[.int .u8 ((wsum (wbody r n f) / 256 : Nat) : Int), .int .u8 ((wsum (wbody r n f) % 256 : Nat) : Int)] 5)) = .ok (.string (sb (wtl (wsum (wbody r n f))))) (w1.alloc (.cells #[.int .u8 ((wsum (wbody r n f) / 256 : Nat) : Int), .int .u8 ((wsum (wbody r n f) % 256 : Nat) : Int)] 5))) := fun w1 => by
    have := run_text (u2_cells w1 (wb (wsum (wbody r n f) / 256)) (wb (wsum (wbody r n f) % 256))) 62 9 Tryd.underlying62 Tryd.underlying9
    rw [wb_val (by omega), wb_val (by omega)] at this
    exact this
  have HW : Hid (Value.string (sb ([wb r, wb n, wb (wsz f n)] ++ wfl f n) ++ sb (wtl (wsum (wbody r n f)))) = st (wpack r n f)) := by
    (show Value.string _ = Value.string _)
    rw [sb_append]
    rfl
  have z3 : (sb (wtl (wsum (wbody r n f)))).size = 2 := sb_size _
  have HZ : Hid (0 < n → wsz f n = (f 0).length) := fun q => if_neg (by omega)
  have HZ0 : Hid (n = 0 → wsz f n = 0) := fun q => if_pos q
  have H0 : Hid (sb [wb r, wb n, wb (wsz f n)] = sb ([wb r, wb n, wb (wsz f n)] ++ wfl f 0)) := by (show _ = _); rfl
  clear hr ho
  generalize sb (wtl (wsum (wbody r n f))) = s3 at *
  generalize wsum (wbody r n f) = S at *
  unfold st at c3
  generalize [wb r, wb n, wb (wsz f n)] = hd at *
  by_cases hn : n = 0
  · have hz := HZ0.out hn
    rw [hz, show ((0 : Nat) : Int) = 0 from rfl] at c3 HB1
    have hn1 : ¬ (0 : Int) < (n : Int) := by omega
    clear hz HZ HZ0 hn
    generalize wsz f n = z at *
    generalize sb hd = s1 at *
    go_enter Tryd.func20, Tryd.ntmps20
    go_wp2
    clear c3 hn1
    go_loopw [7, 8] (fun o t wr => ∃ k : Nat, k ≤ n ∧ t = .int .i64 k ∧ o = .string (sb (hd ++ wfl f k)) ∧ Hid (Below w.heap.size w wr)) (fun _ t _ => n - (intOf t).toNat)
    case atStart => exact ⟨0, Nat.zero_le _, rfl, by rw [← H0.out], HB1.out⟩
    case round =>
      clear HB1
      obtain ⟨k, hk, rfl, rfl, HB⟩ := hrel
      have hlk := HLl.out k hk
      by_cases hlt : k < n
      · obtain ⟨ad', ea, hc⟩ := (HR.out.old HB.out).at k hlt
        cases ea
        have hl := HO.out k hlt
        have hsk := sb_size (f k)
        rw [hl] at hsk
        have HHk := HH.out k
        have HHK : Hid (sb (hd ++ wfl f k) ++ sb (f k) = sb (hd ++ wfl f (k + 1))) := HHk
        unfold st at hc
        clear hl HHk
        generalize sb (f k) = sk at *
        generalize sb (hd ++ wfl f k) = sa at *
        have hc1 : ¬ 9223372036854775807 < sa.size + z := by omega
        go_wp2
        go_roundw
        case rel => exact ⟨k + 1, by omega, by go_num, by rw [← HHK.out], HB.out⟩
        case measure => simp [intOf]; omega
      · have e : k = n := by omega
        have hck : ¬ (k : Int) < (n : Int) := by omega
        subst e
        have S1 := HS.out wr
        have E1 := HE.out wr
        generalize sb (hd ++ wfl f k) = sa at *
        have q1 : (S : Int) / 256 = ((S / 256 : Nat) : Int) := by omega
        have q2 : (S : Int) % 256 = ((S % 256 : Nat) : Int) := by omega
        rw [← q1, ← q2] at E1
        have hq1 : 0 ≤ (S : Int) / 256 := by omega
        have hq2 : (S : Int) / 256 < 256 := by omega
        have hc1 : ¬ 9223372036854775807 < sa.size + s3.size := by omega
        have HB2 : Hid (Below w.heap.size w (wr.alloc (.cells #[.int .u8 ((S : Int) / 256), .int .u8 ((S : Int) % 256)] 5))) := HB.out.alloc HB.out.size _
        clear HS HE HH HLl HR HO q1 q2
        go_wp2_with fail
        refine S1.mono ?_
        rintro e w4 ⟨rfl, hw4⟩
        obtain rfl := hw4.symm
        clear S1
        go_wp2
        go_ret
        exact ⟨by rw [← HW.out]; rfl, HB2.out⟩
  · have hz := HZ.out (by omega)
    have hz0 := sb_size (f 0)
    rw [← hz] at hz0
    obtain ⟨ad, rfl, hc0⟩ := HR.out.at 0 (by omega)
    rw [add_zero] at hc0
    unfold st at hc0
    have hn1 : (0 : Int) < (n : Int) := by omega
    clear hz HZ HZ0
    generalize wsz f n = z at *
    generalize sb hd = s1 at *
    generalize sb (f 0) = s0 at *
    go_enter Tryd.func20, Tryd.ntmps20
    go_wp2
    clear hc0 c3
    go_loopw [7, 8] (fun o t wr => ∃ k : Nat, k ≤ n ∧ t = .int .i64 k ∧ o = .string (sb (hd ++ wfl f k)) ∧ Hid (Below w.heap.size w wr)) (fun _ t _ => n - (intOf t).toNat)
    case atStart => exact ⟨0, Nat.zero_le _, rfl, by rw [← H0.out], HB1.out⟩
    case round =>
      clear HB1
      obtain ⟨k, hk, rfl, rfl, HB⟩ := hrel
      have hlk := HLl.out k hk
      by_cases hlt : k < n
      · obtain ⟨ad', ea, hc⟩ := (HR.out.old HB.out).at k hlt
        cases ea
        have hl := HO.out k hlt
        have hsk := sb_size (f k)
        rw [hl] at hsk
        have HHk := HH.out k
        have HHK : Hid (sb (hd ++ wfl f k) ++ sb (f k) = sb (hd ++ wfl f (k + 1))) := HHk
        unfold st at hc
        clear hl HHk
        generalize sb (f k) = sk at *
        generalize sb (hd ++ wfl f k) = sa at *
        have hc1 : ¬ 9223372036854775807 < sa.size + z := by omega
        go_wp2
        go_roundw
        case rel => exact ⟨k + 1, by omega, by go_num, by rw [← HHK.out], HB.out⟩
        case measure => simp [intOf]; omega
      · have e : k = n := by omega
        have hck : ¬ (k : Int) < (n : Int) := by omega
        subst e
        have S1 := HS.out wr
        have E1 := HE.out wr
        generalize sb (hd ++ wfl f k) = sa at *
        have q1 : (S : Int) / 256 = ((S / 256 : Nat) : Int) := by omega
        have q2 : (S : Int) % 256 = ((S % 256 : Nat) : Int) := by omega
        rw [← q1, ← q2] at E1
        have hq1 : 0 ≤ (S : Int) / 256 := by omega
        have hq2 : (S : Int) / 256 < 256 := by omega
        have hc1 : ¬ 9223372036854775807 < sa.size + s3.size := by omega
        have HB2 : Hid (Below w.heap.size w (wr.alloc (.cells #[.int .u8 ((S : Int) / 256), .int .u8 ((S : Int) % 256)] 5))) := HB.out.alloc HB.out.size _
        clear HS HE HH HLl HR HO q1 q2
        go_wp2_with fail
        refine S1.mono ?_
        rintro e w4 ⟨rfl, hw4⟩
        obtain rfl := hw4.symm
        clear S1
        go_wp2
        go_ret
        exact ⟨by rw [← HW.out]; rfl, HB2.out⟩
end Go.Proofs.YtdbanimlnjhhlaaDoor
