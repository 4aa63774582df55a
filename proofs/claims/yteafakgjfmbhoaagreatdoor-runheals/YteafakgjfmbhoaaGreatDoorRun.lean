/- Texts of plain mathematics, of memory and of walks, in one. -/
import Derived.Test.YteafakgjfmbhoaaGreatDoorRuj
import Derived.Test.YteafakgjfmbhoaaGreatDoorRul
import Derived.Test.YteafakgjfmbhoaaGreatDoorRum
import Derived.Test.YteafakgjfmbhoaaGreatDoorZpp
import Derived.Test.YteafakgjfmbhoaaGreatDoorZer
/- A session heals: a walk over the law. -/
namespace Go.Proofs.YteafakgjfmbhoaaGreatDoor
open Go.RowKit El Pol
def lWrite : List El := [119, 114, 105, 116, 101, 32]
def lFail : List El := [10, 102, 97, 105, 108, 32]
def lRead : List El := [10, 114, 101, 97, 100, 32]
def lReplace : List El := [10, 114, 101, 112, 108, 97, 99, 101, 32]
def lRebuild : List El := [114, 101, 98, 117, 105, 108, 100, 32]
def lEnd : List El := [10, 108, 111, 115, 116, 32, 51, 10, 115, 99, 114, 117, 98, 10]
/-- the session up to its rebuilding -/
def hlA (n x y : Nat) (b : List El) : List El := lWrite ++ dgs n ++ [32] ++ hx b ++ lFail ++ dgs x ++ lFail ++ dgs y ++ lRead ++ dgs n ++ lReplace ++ dgs x ++ lReplace ++ dgs y ++ [10]
/-- rebuilt so often -/
def hlB (n x y : Nat) (b : List El) : Nat → List El
  | 0 => hlA n x y b
  | r + 1 => hlB n x y b r ++ lRebuild ++ dgs x ++ (10 :: lRebuild) ++ dgs y ++ [10]
theorem hlB_txt (n x y : Nat) (b : List El) : hlB n x y b 4 ++ lRead.drop 1 ++ dgs n ++ lEnd = txt (hlS n x y b) := by
  unfold hlS hlB hlB hlB hlB hlB hlA
  rw [dgs_one (show 3 < 10 by omega)]
  simp [txt, List.append_assoc, lWrite, lFail, lRead, lReplace, lRebuild, lEnd, wWrite, wFail, wRead, wReplace, wRebuild, wLost, wScrub]
  rfl
theorem hlA_len {n x y : Nat} (hn : n < 100) (hx1 : x < 100) (hy : y < 100) {b : List El} (hb : b.length = 2) : (hlA n x y b).length ≤ 100 := by
  have h1 := dgs_len hn
  have h2 := dgs_len hx1
  have h3 := dgs_len hy
  have h5 := hx_len b
  unfold hlA
  simp only [List.length_append, List.length_cons, List.length_nil, lWrite, lFail, lRead, lReplace]
  omega
theorem hlB_len {n x y : Nat} (hn : n < 100) (hx1 : x < 100) (hy : y < 100) {b : List El} (hb : b.length = 2) : ∀ r, (hlB n x y b r).length ≤ 100 + 30 * r
  | 0 => hlA_len hn hx1 hy hb
  | r + 1 => by
    have h0 := hlB_len hn hx1 hy hb r
    have h2 := dgs_len hx1
    have h3 := dgs_len hy
    unfold hlB
    simp only [List.length_append, List.length_cons, List.length_nil, lRebuild]
    omega
/-- what is answered, as pieces -/
theorem heal_pc {n x y : Nat} (hn : n < 12) (hx1 : x < 5) (hy : y < 5) (hxy : x ≠ y) (p q : El) :
    (rn (txt (hlS n x y [p, q]))).count 10 + 1 = 18 ∧ pcA 10 (rn (txt (hlS n x y [p, q]))) 3 = hx [p, q] ∧ pcA 10 (rn (txt (hlS n x y [p, q]))) 13 = [48] ∧ pcA 10 (rn (txt (hlS n x y [p, q]))) 14 = hx [p, q] ∧ pcA 10 (rn (txt (hlS n x y [p, q]))) 15 = [48] ∧ pcA 10 (rn (txt (hlS n x y [p, q]))) 16 = [45] := by
  have h := rn_txt (hlS_no n x y [p, q]) (hlS_len (by omega) (by omega) (by omega) (b := [p, q]) rfl)
  rw [heals hn hx1 hy hxy p q, ctL_pc] at h
  generalize rn (txt (hlS n x y [p, q])) = t at *
  have hl := congrArg List.length h
  rw [List.length_map, List.length_range] at hl
  have hl2 : t.count 10 + 1 = 18 := hl
  rw [hl2] at h
  have d0 : dgs 0 = [48] := by rw [dgs_one (by omega)]; rfl
  have hi : ∀ i, i < 18 → some (pcA 10 t i) = ([tOk, tOk, tOk, hx [p, q], tOk, tOk, dgs 3, dgs 3, dgs 2, dgs 2, dgs 1, dgs 1, dgs 0, dgs 0, hx [p, q], dgs 0, [45]] ++ [[]] : List (List El))[i]? := fun i hi => by
    rw [← h, List.getElem?_map, List.getElem?_range hi]
    rfl
  refine ⟨hl2, ?_, ?_, ?_, ?_, ?_⟩
  · exact Option.some.inj (hi 3 (by omega))
  · exact (Option.some.inj (hi 13 (by omega))).trans d0
  · exact Option.some.inj (hi 14 (by omega))
  · exact (Option.some.inj (hi 15 (by omega))).trans d0
  · exact Option.some.inj (hi 16 (by omega))
set_option maxHeartbeats 4000000 in
set_option maxRecDepth 100000 in
theorem rheals_out (n : Int) (b : List El) (x y : Int) (w : World) (hg : Handle w) (h : n < 0 ∨ 11 < n ∨ b.length ≠ 2 ∨ x < 0 ∨ 4 < x ∨ y < 0 ∨ 4 < y ∨ x = y) :
    Calls Tryz.prog 5 #[.int .i64 n, st b, .int .i64 x, .int .i64 y] w fun e w' => e = .returned (.bool true) ∧ Below w.heap.size w w' := by
  have hr : RdII w (.slice none 0 0) 0 (fun _ => 0) (fun _ _ => 0) := ⟨fun _ => .slice none 0 0, .inl ⟨rfl, rfl⟩, fun i hi => absurd hi (Nat.not_lt_zero _)⟩
  have e1 : stE 0 0 (fun _ => 0) (fun _ _ => 0) = 1 := rfl
  have C := loads_bad 0 hr (by rw [e1]; omega)
  rw [e1] at C
  have HE : Hid (∀ w1, Below w.heap.size w w1 → Calls Tryz.prog 11 #[errV 1, .int .i64 1] w1 fun e w' => e = .returned (.bool true) ∧ Below w1.heap.size w1 w') := fun w1 hb => err_x 1 1 w1 (hg.old hb)
  clear hr e1
  have hs := sb_size b
  unfold st
  generalize b.length = m at *
  generalize sb b = s at *
  by_cases a1 : n < 0
  · clear h
    go_enter Tryz.func5, Tryz.ntmps5
    go_wp2_with fail
    refine C.mono ?_
    rintro e w1 ⟨rfl, hB1⟩
    have HB1 : Hid (Below w.heap.size w w1) := hB1
    have E := HE.out w1 hB1
    clear C hB1
    go_wp2_with fail
    refine E.mono ?_
    rintro e w2 ⟨rfl, hB2⟩
    have HB2 : Hid (Below w.heap.size w w2) := HB1.out.trans (hB2.mono HB1.out.size)
    clear E hB2
    go_wp2
    go_ret
    exact ⟨rfl, HB2.out⟩
  by_cases a2 : 11 < n
  · clear h
    go_enter Tryz.func5, Tryz.ntmps5
    go_wp2_with fail
    refine C.mono ?_
    rintro e w1 ⟨rfl, hB1⟩
    have HB1 : Hid (Below w.heap.size w w1) := hB1
    have E := HE.out w1 hB1
    clear C hB1
    go_wp2_with fail
    refine E.mono ?_
    rintro e w2 ⟨rfl, hB2⟩
    have HB2 : Hid (Below w.heap.size w w2) := HB1.out.trans (hB2.mono HB1.out.size)
    clear E hB2
    go_wp2
    go_ret
    exact ⟨rfl, HB2.out⟩
  by_cases a3 : m = 2
  · subst a3
    by_cases a4 : x < 0
    · clear h
      go_enter Tryz.func5, Tryz.ntmps5
      go_wp2_with fail
      refine C.mono ?_
      rintro e w1 ⟨rfl, hB1⟩
      have HB1 : Hid (Below w.heap.size w w1) := hB1
      have E := HE.out w1 hB1
      clear C hB1
      go_wp2_with fail
      refine E.mono ?_
      rintro e w2 ⟨rfl, hB2⟩
      have HB2 : Hid (Below w.heap.size w w2) := HB1.out.trans (hB2.mono HB1.out.size)
      clear E hB2
      go_wp2
      go_ret
      exact ⟨rfl, HB2.out⟩
    by_cases a5 : 4 < x
    · clear h
      go_enter Tryz.func5, Tryz.ntmps5
      go_wp2_with fail
      refine C.mono ?_
      rintro e w1 ⟨rfl, hB1⟩
      have HB1 : Hid (Below w.heap.size w w1) := hB1
      have E := HE.out w1 hB1
      clear C hB1
      go_wp2_with fail
      refine E.mono ?_
      rintro e w2 ⟨rfl, hB2⟩
      have HB2 : Hid (Below w.heap.size w w2) := HB1.out.trans (hB2.mono HB1.out.size)
      clear E hB2
      go_wp2
      go_ret
      exact ⟨rfl, HB2.out⟩
    by_cases a6 : y < 0
    · clear h
      go_enter Tryz.func5, Tryz.ntmps5
      go_wp2_with fail
      refine C.mono ?_
      rintro e w1 ⟨rfl, hB1⟩
      have HB1 : Hid (Below w.heap.size w w1) := hB1
      have E := HE.out w1 hB1
      clear C hB1
      go_wp2_with fail
      refine E.mono ?_
      rintro e w2 ⟨rfl, hB2⟩
      have HB2 : Hid (Below w.heap.size w w2) := HB1.out.trans (hB2.mono HB1.out.size)
      clear E hB2
      go_wp2
      go_ret
      exact ⟨rfl, HB2.out⟩
    by_cases a7 : 4 < y
    · clear h
      go_enter Tryz.func5, Tryz.ntmps5
      go_wp2_with fail
      refine C.mono ?_
      rintro e w1 ⟨rfl, hB1⟩
      have HB1 : Hid (Below w.heap.size w w1) := hB1
      have E := HE.out w1 hB1
      clear C hB1
      go_wp2_with fail
      refine E.mono ?_
      rintro e w2 ⟨rfl, hB2⟩
      have HB2 : Hid (Below w.heap.size w w2) := HB1.out.trans (hB2.mono HB1.out.size)
      clear E hB2
      go_wp2
      go_ret
      exact ⟨rfl, HB2.out⟩
    · have e : x = y := by omega
      subst e
      clear h
      go_enter Tryz.func5, Tryz.ntmps5
      go_wp2_with fail
      refine C.mono ?_
      rintro e w1 ⟨rfl, hB1⟩
      have HB1 : Hid (Below w.heap.size w w1) := hB1
      have E := HE.out w1 hB1
      clear C hB1
      go_wp2_with fail
      refine E.mono ?_
      rintro e w2 ⟨rfl, hB2⟩
      have HB2 : Hid (Below w.heap.size w w2) := HB1.out.trans (hB2.mono HB1.out.size)
      clear E hB2
      go_wp2
      go_ret
      exact ⟨rfl, HB2.out⟩
  · have a3 : ((m : Int) == 2) = false := by rw [beq_eq_false_iff_ne]; omega
    clear h
    go_enter Tryz.func5, Tryz.ntmps5
    go_wp2_with fail
    refine C.mono ?_
    rintro e w1 ⟨rfl, hB1⟩
    have HB1 : Hid (Below w.heap.size w w1) := hB1
    have E := HE.out w1 hB1
    clear C hB1
    go_wp2_with fail
    refine E.mono ?_
    rintro e w2 ⟨rfl, hB2⟩
    have HB2 : Hid (Below w.heap.size w w2) := HB1.out.trans (hB2.mono HB1.out.size)
    clear E hB2
    go_wp2
    go_ret
    exact ⟨rfl, HB2.out⟩
end Go.Proofs.YteafakgjfmbhoaaGreatDoor

/- A session heals, where all is in range: a walk over the law. -/
namespace Go.Proofs.YteafakgjfmbhoaaGreatDoor
open Go.RowKit El Pol
set_option maxHeartbeats 8000000 in
set_option maxRecDepth 100000 in
theorem rheals_in (n x y : Nat) (p q : El) (w : World) (hg : Handle w) (hn : n < 12) (hx1 : x < 5) (hy : y < 5) (hxy : x ≠ y) :
    Calls Tryz.prog 5 #[.int .i64 (n : Int), st [p, q], .int .i64 (x : Int), .int .i64 (y : Int)] w fun e w' => e = .returned (.bool true) ∧ Below w.heap.size w w' := by
  have D1 := ddig_any n (by omega) w
  have D2 := dhex_any [p, q] (by (show 2 ≤ 1000); omega) w
  have HD3 : Hid (∀ w1, Calls Tryz.prog 12 #[.int .i64 (x : Int)] w1 fun e w' => e = .returned (.string (sb (dgs x))) ∧ w' = w1) := fun w1 => ddig_any x (by omega) w1
  have HD4 : Hid (∀ w1, Calls Tryz.prog 12 #[.int .i64 (y : Int)] w1 fun e w' => e = .returned (.string (sb (dgs y))) ∧ w' = w1) := fun w1 => ddig_any y (by omega) w1
  have hz0 : (sb [p, q]).size = 2 := sb_size [p, q]
  have hz1 : (sb (dgs n)).size ≤ 2 := by rw [sb_size]; exact dgs_len (by omega)
  have hz2 : (sb (hx [p, q])).size ≤ 4 := by rw [sb_size, hx_len]; exact Nat.le_refl 4
  have hz3 : (sb (dgs x)).size ≤ 2 := by rw [sb_size]; exact dgs_len (by omega)
  have hz4 : (sb (dgs y)).size ≤ 2 := by rw [sb_size]; exact dgs_len (by omega)
  obtain ⟨L, hL⟩ : ∃ L : Nat → ByteArray, L = fun r => sb (hlB n x y [p, q] r) := ⟨_, rfl⟩
  have HA : Hid (L 0 = (⟨#[119, 114, 105, 116, 101, 32]⟩ : ByteArray) ++ sb (dgs n) ++ (⟨#[32]⟩ : ByteArray) ++ sb (hx [p, q]) ++ (⟨#[10, 102, 97, 105, 108, 32]⟩ : ByteArray) ++ sb (dgs x) ++ (⟨#[10, 102, 97, 105, 108, 32]⟩ : ByteArray) ++ sb (dgs y) ++ (⟨#[10, 114, 101, 97, 100, 32]⟩ : ByteArray) ++ sb (dgs n) ++ (⟨#[10, 114, 101, 112, 108, 97, 99, 101, 32]⟩ : ByteArray) ++ sb (dgs x) ++ (⟨#[10, 114, 101, 112, 108, 97, 99, 101, 32]⟩ : ByteArray) ++ sb (dgs y) ++ (⟨#[10]⟩ : ByteArray)) := by
    (show _ = _)
    rw [hL]
    show sb (hlA n x y [p, q]) = _
    unfold hlA
    simp only [← sb_append]
    rfl
  have HK : Hid (∀ r, L (r + 1) = L r ++ (⟨#[114, 101, 98, 117, 105, 108, 100, 32]⟩ : ByteArray) ++ sb (dgs x) ++ (⟨#[10, 114, 101, 98, 117, 105, 108, 100, 32]⟩ : ByteArray) ++ sb (dgs y) ++ (⟨#[10]⟩ : ByteArray)) := fun r => by
    rw [hL]
    show sb (hlB n x y [p, q] r ++ lRebuild ++ dgs x ++ (10 :: lRebuild) ++ dgs y ++ [10]) = sb (hlB n x y [p, q] r) ++ _ ++ _ ++ _ ++ _ ++ _
    simp only [← sb_append]
    rfl
  have HT : Hid (sb (txt (hlS n x y [p, q])) = L 4 ++ (⟨#[114, 101, 97, 100, 32]⟩ : ByteArray) ++ sb (dgs n) ++ (⟨#[10, 108, 111, 115, 116, 32, 51, 10, 115, 99, 114, 117, 98, 10]⟩ : ByteArray)) := by
    (show _ = _)
    rw [hL, ← hlB_txt]
    show _ = sb (hlB n x y [p, q] 4) ++ _ ++ _ ++ _
    simp only [← sb_append]
    rfl
  have HL : Hid (∀ r, r ≤ 4 → (L r).size ≤ 220) := fun r hr => by
    rw [hL]
    show (sb (hlB n x y [p, q] r)).size ≤ 220
    have := hlB_len (n := n) (x := x) (y := y) (by omega) (by omega) (by omega) (b := [p, q]) rfl r
    rw [sb_size]; omega
  have HR : Hid (∀ w1, Below w.heap.size w w1 → Calls Tryz.prog 6 #[.string (sb (txt (hlS n x y [p, q])))] w1 fun e w' => e = .returned (.string (sb (rn (txt (hlS n x y [p, q]))))) ∧ Below w1.heap.size w1 w') := fun w1 hb => run_any _ w1 (hg.old hb)
  have HC : Hid (∀ w1, Calls Tryz.prog 7 #[.string (sb (rn (txt (hlS n x y [p, q])))), .int .u8 10] w1 fun e w' => ∃ g cap, e = .returned (.slice (some ⟨g, 0, none⟩) 18 cap) ∧ w'.cell? ⟨g, 3, none⟩ = some (.string (sb (hx [p, q]))) ∧ w'.cell? ⟨g, 13, none⟩ = some (.string ⟨#[48]⟩) ∧ w'.cell? ⟨g, 14, none⟩ = some (.string (sb (hx [p, q]))) ∧ w'.cell? ⟨g, 15, none⟩ = some (.string ⟨#[48]⟩) ∧ w'.cell? ⟨g, 16, none⟩ = some (.string ⟨#[45]⟩) ∧ Below w1.heap.size w1 w') := fun w1 => by
    obtain ⟨k0, k1, k2, k3, k4, k5⟩ := heal_pc hn hx1 hy hxy p q
    have hlen : (rn (txt (hlS n x y [p, q]))).length ≤ 90000 := by
      have h1 := hlS_len (n := n) (x := x) (y := y) (by omega) (by omega) (by omega) (b := [p, q]) rfl
      have h2 := ansL_long Mill.fresh (hlS n x y [p, q])
      have h3 : (hlS n x y [p, q]).length = 17 := rfl
      unfold rn
      rw [if_neg (by omega), lnL_txt _ (hlS_no n x y [p, q])]
      omega
    refine (dcut_any _ 10 w1 hlen).mono ?_
    rintro e w' ⟨u, rfl, hO, hB⟩
    rw [k0] at hO
    obtain ⟨g, cap, rfl, _⟩ := hO.at (by omega)
    have c3 := OwT.cell hO 3 (by omega)
    have c13 := OwT.cell hO 13 (by omega)
    have c14 := OwT.cell hO 14 (by omega)
    have c15 := OwT.cell hO 15 (by omega)
    have c16 := OwT.cell hO 16 (by omega)
    rw [k1] at c3
    rw [k2] at c13
    rw [k3] at c14
    rw [k4] at c15
    rw [k5] at c16
    exact ⟨g, cap, rfl, c3, c13, c14, c15, c16, hB⟩
  unfold st at *
  generalize sb [p, q] = s0 at *
  generalize sb (hx [p, q]) = s2 at *
  generalize sb (dgs n) = s1 at *
  generalize sb (dgs x) = s3 at *
  generalize sb (dgs y) = s4 at *
  generalize sb (txt (hlS n x y [p, q])) = s5 at *
  generalize sb (rn (txt (hlS n x y [p, q]))) = s6 at *
  clear hL
  have i1 : ¬ (n : Int) < 0 := by omega
  have i2 : ¬ (11 : Int) < (n : Int) := by omega
  have i3 : ¬ (x : Int) < 0 := by omega
  have i4 : ¬ (4 : Int) < (x : Int) := by omega
  have i5 : ¬ (y : Int) < 0 := by omega
  have i6 : ¬ (4 : Int) < (y : Int) := by omega
  have i7 : ((x : Int) == (y : Int)) = false := by rw [beq_eq_false_iff_ne]; omega
  clear hn hx1 hy hxy hg
  go_enter Tryz.func5, Tryz.ntmps5
  go_wp2_with fail
  refine D1.mono ?_
  rintro e w1 ⟨rfl, rfl⟩
  clear D1
  go_wp2_with fail
  refine D2.mono ?_
  rintro e w2 ⟨rfl, hq2⟩
  have HB2 : Hid (Below w1.heap.size w1 w2) := by
    obtain ⟨q, rfl⟩ := hq2
    exact below_drewN (Below.refl _ _) q
  have D3 := HD3.out w2
  clear D2 hq2
  go_wp2_with fail
  refine D3.mono ?_
  rintro e w3 ⟨rfl, rfl⟩
  have D4 := HD4.out w3
  clear D3
  go_wp2_with fail
  refine D4.mono ?_
  rintro e w4 ⟨rfl, rfl⟩
  clear D4 HD3 HD4
  go_wp2_with fail
  go_loop [15, 16] (fun v i => ∃ r : Nat, r ≤ 4 ∧ i = .int .i64 r ∧ v = .string (L r)) (fun _ i => 4 - (intOf i).toNat)
  case atStart => exact ⟨0, Nat.zero_le _, rfl, by rw [HA.out]⟩
  case round =>
    obtain ⟨r, hr, rfl, rfl⟩ := hrel
    have hlr := HL.out r hr
    by_cases hlt : r < 4
    · have HK2 := HK.out r
      have hri : (r : Int) < 4 := by omega
      go_wp2
      go_round
      case rel => exact ⟨r + 1, by omega, by go_num, by rw [HK2]⟩
      case measure => simp [intOf]; omega
    · have e4 : r = 4 := by omega
      subst e4
      have R := HR.out w4 HB2.out
      rw [HT.out] at R
      go_wp2_with fail
      refine R.mono ?_
      rintro e w5 ⟨rfl, hB5⟩
      have HB5 : Hid (Below w1.heap.size w1 w5) := HB2.out.trans (hB5.mono HB2.out.size)
      have C := HC.out w5
      clear R hB5 HB2 HR HT HK HL HA HC
      go_wp2_with fail
      refine C.mono ?_
      rintro e w6 ⟨g, cap, rfl, c3, c13, c14, c15, c16, hB6⟩
      have HB6 : Hid (Below w1.heap.size w1 w6) := HB5.out.trans (hB6.mono HB5.out.size)
      clear C hB6 HB5
      go_wp2
      go_ret
      exact ⟨rfl, HB6.out⟩
theorem rheals_any (n : Int) (b : List El) (x y : Int) (w : World) (hg : Handle w) :
    Calls Tryz.prog 5 #[.int .i64 n, st b, .int .i64 x, .int .i64 y] w fun e w' => e = .returned (.bool true) ∧ Below w.heap.size w w' := by
  by_cases h : n < 0 ∨ 11 < n ∨ b.length ≠ 2 ∨ x < 0 ∨ 4 < x ∨ y < 0 ∨ 4 < y ∨ x = y
  · exact rheals_out n b x y w hg h
  · obtain ⟨n, rfl⟩ : ∃ m : Nat, n = m := ⟨n.toNat, by omega⟩
    obtain ⟨x, rfl⟩ : ∃ m : Nat, x = m := ⟨x.toNat, by omega⟩
    obtain ⟨y, rfl⟩ : ∃ m : Nat, y = m := ⟨y.toNat, by omega⟩
    match b, h with
    | [p, q], h => exact rheals_in n x y p q w hg (by omega) (by omega) (by omega) (by omega)
    | [], h => exact absurd (.inr (.inr (.inl (by simp)))) h
    | [_], h => exact absurd (.inr (.inr (.inl (by simp)))) h
    | _ :: _ :: _ :: _, h => exact absurd (.inr (.inr (.inl (by simp)))) h
end Go.Proofs.YteafakgjfmbhoaaGreatDoor
