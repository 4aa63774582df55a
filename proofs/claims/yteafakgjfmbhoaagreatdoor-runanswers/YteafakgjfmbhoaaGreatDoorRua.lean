/- Texts of plain mathematics, of memory and of walks, in one. -/
import Derived.Test.YteafakgjfmbhoaaGreatDoorMa
import Derived.Test.YteafakgjfmbhoaaGreatDoorMe
import Derived.Lib.Bytealg
/- A text's pieces, numbers and blocks as text, plainly. -/
namespace Go.Proofs.YteafakgjfmbhoaaGreatDoor
/-- pieces between bytes c: what stands so far, and the rest -/
def ctA (c : El) : List El → List El → List (List El)
  | cur, [] => [cur]
  | cur, x :: xs => if x = c then cur :: ctA c [] xs else ctA c (cur ++ [x]) xs
def ctL (c : El) (xs : List El) : List (List El) := ctA c [] xs
theorem ctA_ne (c : El) : ∀ (xs cur : List El), ctA c cur xs ≠ []
  | [], cur => by simp [ctA]
  | x :: xs, cur => by
    unfold ctA
    split
    · simp
    · exact ctA_ne c xs _
theorem ctA_len (c : El) : ∀ (xs cur : List El), (ctA c cur xs).length ≤ xs.length + 1
  | [], cur => by simp [ctA]
  | x :: xs, cur => by
    unfold ctA
    split
    · rw [List.length_cons, List.length_cons]; have := ctA_len c xs []; omega
    · rw [List.length_cons]; have := ctA_len c xs (cur ++ [x]); omega
/-- of two texts one behind the other, the first of which ends with c -/
theorem ctA_append (c : El) (ys : List El) : ∀ (xs cur : List El), ctA c cur (xs ++ c :: ys) = (ctA c cur xs) ++ ctA c [] ys
  | [], cur => by
    show (if c = c then cur :: ctA c [] ys else _) = [cur] ++ _
    rw [if_pos rfl]
    rfl
  | x :: xs, cur => by
    show (if x = c then cur :: ctA c [] (xs ++ c :: ys) else ctA c (cur ++ [x]) (xs ++ c :: ys)) = (if x = c then cur :: ctA c [] xs else ctA c (cur ++ [x]) xs) ++ _
    split
    · rw [ctA_append c ys xs []]; rfl
    · exact ctA_append c ys xs _
/-- lines: a last piece that is empty is none -/
def lnL (xs : List El) : List (List El) := if (ctL 10 xs).getLast? = some [] then (ctL 10 xs).dropLast else ctL 10 xs
theorem ctA_last (c : El) : ∀ (xs cur : List El), (ctA c cur (xs ++ [c])).getLast? = some []
  | xs, cur => by rw [ctA_append]; show (ctA c cur xs ++ [[]]).getLast? = _; simp
/-- lines of a text that ends with a line's end, and of what follows -/
theorem lnL_ends (xs : List El) : lnL (xs ++ [10]) = ctL 10 xs := by
  unfold lnL ctL
  rw [ctA_last, if_pos rfl, ctA_append]
  show (ctA 10 [] xs ++ [[]]).dropLast = _
  simp
theorem lnL_append (xs ys : List El) : lnL (xs ++ 10 :: ys) = ctL 10 xs ++ lnL ys := by
  have e : ctL 10 (xs ++ 10 :: ys) = ctL 10 xs ++ ctL 10 ys := ctA_append 10 ys xs []
  have hl : (ctL 10 xs ++ ctL 10 ys).getLast? = (ctL 10 ys).getLast? := by
    rw [List.getLast?_append]
    cases h : (ctL 10 ys).getLast? with
    | none => exact absurd (List.getLast?_eq_none_iff.1 h) (ctA_ne _ _ _)
    | some z => rfl
  unfold lnL
  rw [e, hl]
  split
  · exact List.dropLast_append_of_ne_nil (ctA_ne 10 ys [])
  · rfl
end Go.Proofs.YteafakgjfmbhoaaGreatDoor

/- Where a byte stands first; cutting there, piece by piece: plain. -/
namespace Go.Proofs.YteafakgjfmbhoaaGreatDoor
/-- the place of the first byte c; behind all: none -/
def ixB (c : El) : List El → Nat
  | [] => 0
  | x :: xs => if x = c then 0 else ixB c xs + 1
theorem ixB_le (c : El) : ∀ xs, ixB c xs ≤ xs.length
  | [] => Nat.le_refl _
  | x :: xs => by
    unfold ixB
    split
    · exact Nat.zero_le _
    · exact Nat.succ_le_succ (ixB_le c xs)
theorem ixB_at {c : El} : ∀ {xs : List El}, ixB c xs < xs.length → xs[ixB c xs]? = some c
  | [], h => absurd h (by simp [ixB])
  | x :: xs, h => by
    unfold ixB at h ⊢
    split
    · rename_i e
      rw [e]; rfl
    · rename_i e
      rw [if_neg e] at h
      rw [List.getElem?_cons_succ]
      exact ixB_at (by simpa using h)
theorem ixB_min {c : El} : ∀ {xs : List El} {i : Nat}, i < ixB c xs → xs[i]? ≠ some c
  | [], i, h => absurd h (by simp [ixB])
  | x :: xs, 0, h => by
    unfold ixB at h
    split at h
    · exact absurd h (by omega)
    · rename_i e
      intro q
      exact e (by simpa using q)
  | x :: xs, i + 1, h => by
    unfold ixB at h
    split at h
    · exact absurd h (by omega)
    · rw [List.getElem?_cons_succ]
      exact ixB_min (by omega)
/-- what says that i is the place -/
theorem ixB_is {c : El} {xs : List El} {i : Nat} (h : xs[i]? = some c) (hm : ∀ j, j < i → xs[j]? ≠ some c) : ixB c xs = i := by
  have hl : i < xs.length := by
    rcases Nat.lt_or_ge i xs.length with q | q
    · exact q
    · rw [List.getElem?_eq_none q] at h; cases h
  rcases Nat.lt_trichotomy (ixB c xs) i with q | q | q
  · exact absurd (ixB_at (by omega)) (hm _ q)
  · exact q
  · exact absurd h (ixB_min q)
theorem ixB_none {c : El} {xs : List El} (h : ∀ j, j < xs.length → xs[j]? ≠ some c) : ixB c xs = xs.length := by
  have := ixB_le c xs
  rcases Nat.lt_or_ge (ixB c xs) xs.length with q | q
  · exact absurd (ixB_at q) (h _ q)
  · omega
theorem ctA_ix (c : El) : ∀ (xs cur : List El), ctA c cur xs = if ixB c xs < xs.length then (cur ++ xs.take (ixB c xs)) :: ctA c [] (xs.drop (ixB c xs + 1)) else [cur ++ xs]
  | [], cur => by simp [ixB, ctA]
  | x :: xs, cur => by
    show (if x = c then cur :: ctA c [] xs else ctA c (cur ++ [x]) xs) = if (if x = c then 0 else ixB c xs + 1) < xs.length + 1 then (cur ++ (x :: xs).take (if x = c then 0 else ixB c xs + 1)) :: ctA c [] ((x :: xs).drop ((if x = c then 0 else ixB c xs + 1) + 1)) else [cur ++ x :: xs]
    by_cases e : x = c
    · rw [if_pos e, if_pos e, if_pos (Nat.succ_pos _), List.take_zero, List.append_nil]
      rfl
    · rw [if_neg e, if_neg e, ctA_ix c xs]
      by_cases q : ixB c xs < xs.length
      · rw [if_pos q, if_pos (Nat.succ_lt_succ q), List.take_succ_cons, List.drop_succ_cons, List.append_assoc]
        rfl
      · rw [if_neg q, if_neg (fun z => q (Nat.lt_of_succ_lt_succ z)), List.append_assoc]
        rfl
theorem ctL_ix (c : El) (xs : List El) : ctL c xs = if ixB c xs < xs.length then xs.take (ixB c xs) :: ctL c (xs.drop (ixB c xs + 1)) else [xs] := by
  unfold ctL
  rw [ctA_ix]
  simp
/-- how many there are -/
theorem ctL_count (c : El) : ∀ xs : List El, (ctL c xs).length = xs.count c + 1 := by
  have h : ∀ (xs cur : List El), (ctA c cur xs).length = xs.count c + 1 := by
    intro xs
    induction xs with
    | nil => intro cur; rfl
    | cons x xs ih =>
      intro cur
      unfold ctA
      by_cases e : x = c
      · rw [if_pos e, List.length_cons, ih, e, List.count_cons_self]
      · rw [if_neg e, ih, List.count_cons_of_ne e]
  exact fun xs => h xs []
theorem count_le (c : El) (xs : List El) : xs.count c ≤ xs.length := List.count_le_length
/-- behind i pieces: those, and what is left -/
def ctN (c : El) (xs : List El) : Nat → List (List El) × List El
  | 0 => ([], xs)
  | i + 1 => ((ctN c xs i).1 ++ [(ctN c xs i).2.take (ixB c (ctN c xs i).2)], (ctN c xs i).2.drop (ixB c (ctN c xs i).2 + 1))
theorem ctN_len (c : El) (xs : List El) : ∀ i, (ctN c xs i).1.length = i
  | 0 => rfl
  | i + 1 => by show (_ ++ [_]).length = _; rw [List.length_append, ctN_len c xs i]; rfl
theorem ctN_ct (c : El) (xs : List El) : ∀ i, i < (ctL c xs).length → ctL c xs = (ctN c xs i).1 ++ ctL c (ctN c xs i).2
  | 0, _ => rfl
  | i + 1, h => by
    have e := ctN_ct c xs i (by omega)
    have hl : (ctL c (ctN c xs i).2).length = (ctL c xs).length - i := by
      rw [e, List.length_append, ctN_len]; omega
    have e2 := ctL_ix c (ctN c xs i).2
    split at e2
    · rw [e, e2]
      show _ = ((ctN c xs i).1 ++ [_]) ++ _
      simp [ctN]
    · rw [e2] at hl
      simp at hl
      omega
theorem ctN_more {c : El} {xs : List El} {i : Nat} (h : i + 1 < (ctL c xs).length) : ixB c (ctN c xs i).2 < (ctN c xs i).2.length := by
  have e := ctN_ct c xs i (by omega)
  have hl : (ctL c (ctN c xs i).2).length = (ctL c xs).length - i := by
    rw [e, List.length_append, ctN_len]; omega
  have e2 := ctL_ix c (ctN c xs i).2
  split at e2
  · assumption
  · rw [e2] at hl
    simp at hl
    omega
theorem ctN_last {c : El} {xs : List El} {i : Nat} (h : i + 1 = (ctL c xs).length) : ctL c xs = (ctN c xs i).1 ++ [(ctN c xs i).2] := by
  have e := ctN_ct c xs i (by omega)
  have hl : (ctL c (ctN c xs i).2).length = (ctL c xs).length - i := by
    rw [e, List.length_append, ctN_len]; omega
  have e2 := ctL_ix c (ctN c xs i).2
  split at e2
  · rw [e2] at hl
    have := ctA_ne c (List.drop (ixB c (ctN c xs i).2 + 1) (ctN c xs i).2) []
    have h3 : (ctL c (List.drop (ixB c (ctN c xs i).2 + 1) (ctN c xs i).2)).length ≠ 0 := fun q => this (List.length_eq_zero_iff.1 q)
    rw [List.length_cons] at hl
    omega
  · rw [e2] at e
    exact e
theorem ctN_short (c : El) (xs : List El) : ∀ i, (ctN c xs i).2.length ≤ xs.length
  | 0 => Nat.le_refl _
  | i + 1 => by
    show ((ctN c xs i).2.drop _).length ≤ _
    rw [List.length_drop]
    have := ctN_short c xs i
    omega
/-- lines, one by one -/
theorem lnL_nil : lnL [] = [] := rfl
theorem lnL_ix {xs : List El} (h : xs ≠ []) : lnL xs = xs.take (ixB 10 xs) :: lnL (xs.drop (ixB 10 xs + 1)) := by
  have e := ctL_ix 10 xs
  by_cases q : ixB 10 xs < xs.length
  · rw [if_pos q] at e
    unfold lnL
    rw [e]
    have hn : ctL 10 (xs.drop (ixB 10 xs + 1)) ≠ [] := ctA_ne _ _ _
    have hg : (xs.take (ixB 10 xs) :: ctL 10 (xs.drop (ixB 10 xs + 1))).getLast? = (ctL 10 (xs.drop (ixB 10 xs + 1))).getLast? := by
      cases hc : ctL 10 (xs.drop (ixB 10 xs + 1)) with
      | nil => exact absurd hc hn
      | cons y ys => rw [List.getLast?_cons_cons]
    rw [hg]
    split
    · cases hc : ctL 10 (xs.drop (ixB 10 xs + 1)) with
      | nil => exact absurd hc hn
      | cons y ys => rfl
    · rfl
  · rw [if_neg q] at e
    have el : ixB 10 xs = xs.length := by have := ixB_le 10 xs; omega
    have e1 : xs.drop (ixB 10 xs + 1) = [] := List.drop_eq_nil_of_le (by omega)
    rw [e1, lnL_nil, el, List.take_length]
    unfold lnL
    rw [e]
    show (if some xs = some [] then _ else _) = _
    rw [if_neg (fun z => h (by injection z))]
end Go.Proofs.YteafakgjfmbhoaaGreatDoor

/- Where a byte stands first in a text, and how often: walks over the library's functions in the program. -/
namespace Go.Proofs.YteafakgjfmbhoaaGreatDoor
open Go.RowKit El Pol
/-- a byte as the library has it -/
abbrev ub (x : El) : UInt8 := UInt8.ofNat x.val
/-- the place, or -1 -/
def ixI (c : El) (xs : List El) : Int := if ixB c xs < xs.length then (ixB c xs : Int) else -1
theorem ixI_in {c : El} {xs : List El} (h : ixB c xs < xs.length) : ixI c xs = (ixB c xs : Int) := if_pos h
theorem ixI_no {c : El} {xs : List El} (h : ¬ ixB c xs < xs.length) : ixI c xs = -1 := if_neg h
theorem ub_eq (x c : El) : (ub x == ub c) = decide (x = c) := by
  by_cases h : x = c
  · rw [h]; simp
  · rw [decide_eq_false h, beq_eq_false_iff_ne]
    exact fun e => h (u8_inj e)
theorem lib_ix (c : El) : ∀ xs : List El, Lib.indexByte (xs.map (fun x => UInt8.ofNat x.val)) (ub c) = ixI c xs
  | [] => rfl
  | x :: xs => by
    have ih := lib_ix c xs
    rw [List.map_cons]
    unfold Lib.indexByte
    rw [ub_eq, ih]
    have e : ixB c (x :: xs) = if x = c then 0 else ixB c xs + 1 := rfl
    unfold ixI
    rw [e, List.length_cons]
    by_cases h : x = c
    · rw [if_pos h, decide_eq_true h, if_pos rfl, if_pos (by omega)]
      rfl
    · rw [if_neg h, decide_eq_false h, if_neg (by simp)]
      by_cases k : ixB c xs < xs.length
      · have hn : (((ixB c xs : Nat) : Int) == -1) = false := by rw [beq_eq_false_iff_ne]; omega
        have k1 : ixB c xs + 1 < xs.length + 1 := Nat.succ_lt_succ k
        rw [if_pos k, hn, if_pos k1, if_neg (by simp)]
        rfl
      · have k1 : ¬ ixB c xs + 1 < xs.length + 1 := fun z => k (Nat.lt_of_succ_lt_succ z)
        rw [if_neg k, if_neg k1]
        rfl
theorem lib_count (c : El) : ∀ xs : List El, (xs.map (fun x => UInt8.ofNat x.val)).count (ub c) = xs.count c
  | [] => rfl
  | x :: xs => by
    rw [List.map_cons, List.count_cons, List.count_cons, lib_count c xs, ub_eq]
    by_cases h : x = c
    · rw [h, decide_eq_true rfl]; simp
    · rw [decide_eq_false h]; simp [h]
theorem toB (c : El) : (((c.val : Nat) : Int)).toNat.toUInt8 = ub c := rfl
set_option maxHeartbeats 1000000 in
set_option maxRecDepth 100000 in
theorem lite_ix (xs : List El) (c : El) (w : World) :
    Calls Tryz.prog 110 #[st xs, .int .u8 ((c.val : Nat) : Int)] w fun e w' => e = .returned (.int .i64 (ixI c xs)) ∧ w' = w := by
  have B := Lib.run_indexByteString (P := Tryz.prog) (sb xs) ((c.val : Nat) : Int) w
  rw [sb_bytes, toB, lib_ix] at B
  have hx := run_callFunc_extern (w := w) (args := #[.string (sb xs), .int .u8 ((c.val : Nat) : Int)]) Tryz.func133 (by kernel_rfl) (by kernel_rfl) (by kernel_rfl) (e := Extern.BytealgIndexByte.indexByte) (by kernel_rfl)
  rw [B] at hx
  simp only [Result.andThen] at hx
  clear B
  unfold st
  generalize sb xs = s at *
  go_enter Tryz.func110, Tryz.ntmps110
  go_wp2
  go_ret
  exact ⟨rfl, rfl⟩
set_option maxRecDepth 100000 in
theorem ix_byte (xs : List El) (c : El) (w : World) :
    Calls Tryz.prog 117 #[st xs, .int .u8 ((c.val : Nat) : Int)] w fun e w' => e = .returned (.int .i64 (ixI c xs)) ∧ w' = w := by
  have B := lite_ix xs c w
  unfold st at *
  generalize sb xs = s at *
  go_enter Tryz.func117, Tryz.ntmps117
  go_wp2_with fail
  refine B.mono ?_
  rintro e w' ⟨rfl, rfl⟩
  go_wp2
  go_ret
  exact ⟨rfl, rfl⟩
set_option maxHeartbeats 1000000 in
set_option maxRecDepth 100000 in
theorem lite_index (xs : List El) (c : El) (w : World) :
    Calls Tryz.prog 87 #[st xs, .string (sb [c])] w fun e w' => e = .returned (.int .i64 (ixI c xs)) ∧ w' = w := by
  have B := lite_ix xs c w
  have hz := sb_size [c]
  have hc : ∀ h : 0 < (sb [c]).size, ((sb [c])[0]'h).toNat = c.val := fun h => sb_at [c] 0 h
  have HE : Hid (((sb [c]).toList == (sb xs).toList) = true → ixI c xs = 0) := fun h => by
    rw [sb_same] at h
    rw [← of_decide_eq_true h]
    unfold ixI ixB
    rw [if_pos rfl]
    rfl
  unfold st at *
  generalize sb xs = s at *
  generalize sb [c] = t at *
  have h1 : t.size = 1 := hz
  have hc1 := hc (by omega)
  go_enter Tryz.func87, Tryz.ntmps87
  cases he : (t.toList == s.toList) with
  | true =>
    have HV := HE.out he
    rw [HV]
    clear HE B
    go_wp2
    go_ret
    exact ⟨rfl, rfl⟩
  | false =>
    clear HE
    go_wp2_with fail
    refine B.mono ?_
    rintro e w' ⟨rfl, rfl⟩
    go_wp2
    go_ret
    exact ⟨rfl, rfl⟩
set_option maxRecDepth 100000 in
theorem index_any (xs : List El) (c : El) (w : World) :
    Calls Tryz.prog 116 #[st xs, .string (sb [c])] w fun e w' => e = .returned (.int .i64 (ixI c xs)) ∧ w' = w := by
  have B := lite_index xs c w
  unfold st at *
  generalize sb xs = s at *
  generalize sb [c] = t at *
  go_enter Tryz.func116, Tryz.ntmps116
  go_wp2_with fail
  refine B.mono ?_
  rintro e w' ⟨rfl, rfl⟩
  go_wp2
  go_ret
  exact ⟨rfl, rfl⟩
set_option maxHeartbeats 1000000 in
set_option maxRecDepth 100000 in
theorem count_any (xs : List El) (c : El) (w : World) :
    Calls Tryz.prog 115 #[st xs, .string (sb [c])] w fun e w' => e = .returned (.int .i64 ((xs.count c : Nat) : Int)) ∧ w' = w := by
  have B := Lib.run_countString (P := Tryz.prog) (sb xs) ((c.val : Nat) : Int) w
  have hb : Lib.countByte (sb xs).data.toList (((c.val : Nat) : Int)).toNat.toUInt8 = xs.count c := by
    unfold Lib.countByte
    rw [sb_bytes, toB, lib_count]
  rw [hb] at B
  clear hb
  have hx := run_callFunc_extern (w := w) (args := #[.string (sb xs), .int .u8 ((c.val : Nat) : Int)]) Tryz.func137 (by kernel_rfl) (by kernel_rfl) (by kernel_rfl) (e := Extern.BytealgCount.count) (by kernel_rfl)
  rw [B] at hx
  simp only [Result.andThen] at hx
  clear B
  have h1 : (sb [c]).size = 1 := sb_size [c]
  have hc1 : ∀ h : 0 < (sb [c]).size, ((sb [c])[0]'h).toNat = c.val := fun h => sb_at [c] 0 h
  unfold st
  generalize sb xs = s at *
  generalize sb [c] = t at *
  have hc2 := hc1 (by omega)
  go_enter Tryz.func115, Tryz.ntmps115
  go_wp2
  go_ret
  exact ⟨rfl, rfl⟩
/-- up to the byte, behind it, and whether there is one -/
def cutA (c : El) (xs : List El) : List El := xs.take (ixB c xs)
def cutB (c : El) (xs : List El) : List El := xs.drop (ixB c xs + 1)
theorem cut_a (c : El) (xs : List El) : (sb xs).extract 0 (ixB c xs) = sb (cutA c xs) := by rw [sb_extract]; rfl
theorem cut_b (c : El) (xs : List El) : (sb xs).extract (ixB c xs + 1) xs.length = sb (cutB c xs) := by rw [sb_extract, List.take_length]; rfl
end Go.Proofs.YteafakgjfmbhoaaGreatDoor

/- Words, numbers and blocks as text; what a line asks: plain. -/
namespace Go.Proofs.YteafakgjfmbhoaaGreatDoor
/-- a piece without the byte is one piece -/
theorem ctA_no (c : El) : ∀ (xs cur : List El), (∀ x, x ∈ xs → x ≠ c) → ctA c cur xs = [cur ++ xs]
  | [], cur, _ => by rw [List.append_nil]; rfl
  | x :: xs, cur, h => by
    show (if x = c then _ else ctA c (cur ++ [x]) xs) = _
    rw [if_neg (h x (List.mem_cons_self ..)), ctA_no c xs _ (fun y hy => h y (List.mem_cons_of_mem _ hy)), List.append_assoc]
    rfl
theorem ctL_no {c : El} {xs : List El} (h : ∀ x, x ∈ xs → x ≠ c) : ctL c xs = [xs] := ctA_no c xs [] h
theorem ctL_two {c : El} {xs : List El} (ys : List El) (h : ∀ x, x ∈ xs → x ≠ c) : ctL c (xs ++ c :: ys) = xs :: ctL c ys := by
  show ctA c [] (xs ++ c :: ys) = _
  rw [ctA_append, ctA_no c xs [] h]
  rfl
/-- a byte of a small number -/
def bt (n : Nat) : El := Fin.ofNat 256 n
theorem bt_val {n : Nat} (h : n < 256) : (bt n).val = n := Nat.mod_eq_of_lt h
/-- digits of a number -/
def dgs (n : Nat) : List El := if n < 10 then [bt (48 + n)] else dgs (n / 10) ++ [bt (48 + n % 10)]
theorem dgs_one {n : Nat} (h : n < 10) : dgs n = [bt (48 + n)] := by rw [dgs, if_pos h]
theorem dgs_more {n : Nat} (h : ¬ n < 10) : dgs n = dgs (n / 10) ++ [bt (48 + n % 10)] := by rw [dgs, if_neg h]
theorem dgs_in (n : Nat) : ∀ x, x ∈ dgs n → 48 ≤ x.val ∧ x.val ≤ 57 := by
  induction n using Nat.strongRecOn with
  | _ n ih =>
    intro x hx
    by_cases h : n < 10
    · rw [dgs_one h] at hx
      simp at hx
      subst hx
      rw [bt_val (by omega)]
      omega
    · rw [dgs_more h] at hx
      rcases List.mem_append.1 hx with q | q
      · exact ih (n / 10) (by omega) x q
      · simp at q
        subst q
        rw [bt_val (by omega)]
        omega
theorem dgs_ne (n : Nat) : dgs n ≠ [] := by
  by_cases h : n < 10
  · rw [dgs_one h]; simp
  · rw [dgs_more h]; simp
/-- a number of at most four digits, without a needless nought -/
def isD (c : El) : Bool := decide (48 ≤ c.val) && decide (c.val ≤ 57)
def vlD : List El → Nat → Nat
  | [], n => n
  | c :: l, n => vlD l (n * 10 + (c.val - 48))
def nmB (s : List El) : Bool := decide (s = []) || (decide (4 < s.length) || (decide (s.head? = some 48) && decide (1 < s.length)))
def nmO (s : List El) : Option Nat := if nmB s = true then none else if s.all isD = true then some (vlD s 0) else none
theorem nmO_tab : ∀ k : Fin 100, nmO (if k.val < 10 then [bt (48 + k.val)] else [bt (48 + k.val / 10), bt (48 + k.val % 10)]) = some k.val := by decide +kernel
theorem nmO_dgs {n : Nat} (h : n < 100) : nmO (dgs n) = some n := by
  have t := nmO_tab ⟨n, h⟩
  by_cases q : n < 10
  · rw [dgs_one q]; simpa [q] using t
  · rw [dgs_more q, dgs_one (by omega)]
    simpa [q] using t
theorem vlD_lt : ∀ (l : List El) (n : Nat), l.all isD = true → vlD l n < (n + 1) * 10 ^ l.length
  | [], n, _ => by show n < (n + 1) * 10 ^ 0; omega
  | c :: l, n, h => by
    rw [List.all_cons, Bool.and_eq_true] at h
    have hc : c.val ≤ 57 := by
      have := h.1
      unfold isD at this
      rw [Bool.and_eq_true] at this
      exact of_decide_eq_true this.2
    have := vlD_lt l (n * 10 + (c.val - 48)) h.2
    show vlD l (n * 10 + (c.val - 48)) < (n + 1) * 10 ^ (l.length + 1)
    have e : (n + 1) * 10 ^ (l.length + 1) = (n * 10 + 10) * 10 ^ l.length := by rw [Nat.pow_succ, Nat.mul_comm (10 ^ l.length) 10, ← Nat.mul_assoc, Nat.add_mul, Nat.one_mul]
    rw [e]
    exact Nat.lt_of_lt_of_le this (Nat.mul_le_mul_right _ (by omega))
theorem nmO_lt {s : List El} {n : Nat} (h : nmO s = some n) : n < 10000 := by
  unfold nmO at h
  split at h
  · cases h
  · rename_i hb
    split at h
    · rename_i ha
      obtain rfl := Option.some.inj h
      have h4 : s.length ≤ 4 := by
        unfold nmB at hb
        simp at hb
        omega
      have := vlD_lt s 0 ha
      have p : 10 ^ s.length ≤ 10 ^ 4 := Nat.pow_le_pow_right (by omega) h4
      omega
    · cases h
/-- hexadecimal digits -/
def hxV (c : El) : Int := if 48 ≤ c.val ∧ c.val ≤ 57 then (c.val : Int) - 48 else if 97 ≤ c.val ∧ c.val ≤ 102 then (c.val : Int) - 87 else -1
def hxC (n : Nat) : El := if n < 10 then bt (48 + n) else bt (87 + n)
def hx : List El → List El
  | [] => []
  | b :: l => hxC (b.val / 16) :: hxC (b.val % 16) :: hx l
/-- two bytes of four signs -/
def uhB (s : List El) : Bool := decide (s.length = 4) && s.all (fun c => decide (0 ≤ hxV c))
def uhV (s : List El) : List El := [bt (16 * (hxV (s.getD 0 0)).toNat + (hxV (s.getD 1 0)).toNat), bt (16 * (hxV (s.getD 2 0)).toNat + (hxV (s.getD 3 0)).toNat)]
def uhO (s : List El) : Option (List El) := if uhB s = true then some (uhV s) else none
theorem uhO_len {s x : List El} (h : uhO s = some x) : x.length = 2 := by
  unfold uhO at h
  split at h
  · obtain rfl := Option.some.inj h; rfl
  · cases h
theorem hx_tab : ∀ b : Fin 256, 0 ≤ hxV (hxC (b.val / 16)) ∧ 0 ≤ hxV (hxC (b.val % 16)) ∧ bt (16 * (hxV (hxC (b.val / 16))).toNat + (hxV (hxC (b.val % 16))).toNat) = b ∧ (48 ≤ (hxC (b.val / 16)).val ∧ 48 ≤ (hxC (b.val % 16)).val) := by decide +kernel
theorem uhO_hx (a b : El) : uhO (hx [a, b]) = some [a, b] := by
  obtain ⟨a1, a2, a3, _⟩ := hx_tab a
  obtain ⟨b1, b2, b3, _⟩ := hx_tab b
  unfold uhO
  rw [if_pos (show uhB (hx [a, b]) = true by unfold uhB; simp [hx, a1, a2, b1, b2])]
  have : uhV (hx [a, b]) = [bt (16 * (hxV (hxC (a.val / 16))).toNat + (hxV (hxC (a.val % 16))).toNat), bt (16 * (hxV (hxC (b.val / 16))).toNat + (hxV (hxC (b.val % 16))).toNat)] := rfl
  rw [this, a3, b3]
theorem hx_in : ∀ (l : List El), ∀ x, x ∈ hx l → 48 ≤ x.val
  | [], x, h => by cases h
  | b :: l, x, h => by
    obtain ⟨_, _, _, h1, h2⟩ := hx_tab b
    rcases List.mem_cons.1 h with rfl | h
    · exact h1
    · rcases List.mem_cons.1 h with rfl | h
      · exact h2
      · exact hx_in l x h
theorem hx_len : ∀ (l : List El), (hx l).length = 2 * l.length
  | [] => rfl
  | b :: l => by show (hx l).length + 1 + 1 = 2 * (l.length + 1); rw [hx_len l]; omega
theorem hx_append : ∀ (l m : List El), hx (l ++ m) = hx l ++ hx m
  | [], m => rfl
  | b :: l, m => by show hxC _ :: hxC _ :: hx (l ++ m) = _; rw [hx_append l m]; rfl
/-- words -/
def wScrub : List El := [115, 99, 114, 117, 98]
def wRead : List El := [114, 101, 97, 100]
def wWrite : List El := [119, 114, 105, 116, 101]
def wFail : List El := [102, 97, 105, 108]
def wReplace : List El := [114, 101, 112, 108, 97, 99, 101]
def wRebuild : List El := [114, 101, 98, 117, 105, 108, 100]
def wLost : List El := [108, 111, 115, 116]
def wPoke : List El := [112, 111, 107, 101]
/-- what a line asks -/
inductive Cm where
  | bad | scrub
  | read (n : Nat) | fail (n : Nat) | replace (n : Nat) | rebuild (n : Nat) | lost (n : Nat)
  | write (n : Nat) (x : List El)
  | poke (d r : Nat) (x : List El)
/-- with one number -/
def cm1 (w : List El) (n : Nat) : Cm := if w = wRead then .read n else if w = wFail then .fail n else if w = wReplace then .replace n else if w = wRebuild then .rebuild n else if w = wLost then .lost n else .bad
def cmd : List (List El) → Cm
  | [w] => if w = wScrub then .scrub else .bad
  | [w, a] => match nmO a with
    | none => .bad
    | some n => cm1 w n
  | [w, a, b] => if w = wWrite then (match nmO a, uhO b with
    | some n, some x => .write n x
    | _, _ => .bad) else .bad
  | [w, a, b, c] => if w = wPoke then (match nmO a, nmO b, uhO c with
    | some d, some r, some x => .poke d r x
    | _, _, _ => .bad) else .bad
  | _ => .bad
/-- of a line -/
def cml (s : List El) : Cm := cmd (ctL 32 s)
theorem dgs_no {n : Nat} {c : El} (hc : c.val < 48) : ∀ x, x ∈ dgs n → x ≠ c := fun x hx e => by have := dgs_in n x hx; rw [e] at this; omega
theorem hx_no {l : List El} {c : El} (hc : c.val < 48) : ∀ x, x ∈ hx l → x ≠ c := fun x h e => by have := hx_in l x h; rw [e] at this; omega
theorem word_no {w : List El} (h : w.all (fun x => decide (58 ≤ x.val)) = true) {c : El} (hc : c.val < 58) : ∀ x, x ∈ w → x ≠ c := fun x hx e => by
  have := of_decide_eq_true (List.all_eq_true.1 h x hx)
  rw [e] at this
  omega
theorem cml_one {w : List El} (h : w.all (fun x => decide (58 ≤ x.val)) = true) {n : Nat} (hn : n < 100) : cml (w ++ 32 :: dgs n) = cm1 w n := by
  unfold cml
  rw [ctL_two _ (word_no h (by decide)), ctL_no (dgs_no (by decide))]
  show (match nmO (dgs n) with | none => Cm.bad | some n => cm1 w n) = _
  rw [nmO_dgs hn]
theorem cml_write {n : Nat} (hn : n < 100) (a b : El) : cml (wWrite ++ 32 :: (dgs n ++ 32 :: hx [a, b])) = .write n [a, b] := by
  unfold cml
  rw [ctL_two _ (word_no (by decide) (by decide)), ctL_two _ (dgs_no (by decide)), ctL_no (hx_no (by decide))]
  show (if wWrite = wWrite then (match nmO (dgs n), uhO (hx [a, b]) with
    | some n, some x => Cm.write n x
    | _, _ => .bad) else .bad) = _
  rw [if_pos rfl, nmO_dgs hn, uhO_hx]
theorem cml_scrub : cml wScrub = .scrub := by
  unfold cml
  rw [ctL_no (word_no (by decide) (by decide))]
  rfl
end Go.Proofs.YteafakgjfmbhoaaGreatDoor
