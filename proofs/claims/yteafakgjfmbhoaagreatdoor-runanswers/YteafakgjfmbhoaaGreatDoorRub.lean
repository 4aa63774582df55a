/- Texts of plain mathematics, of memory and of walks, in one. -/
import Derived.Test.YteafakgjfmbhoaaGreatDoorRua
import Derived.Test.YteafakgjfmbhoaaGreatDoorAr
/- What a line answers, and what it makes of the disks; of lines one behind the other: plain. -/
namespace Go.Proofs.YteafakgjfmbhoaaGreatDoor
/-- the names of faults -/
def ern : Nat → List El
  | 0 => [79, 75]
  | 1 => [69, 114, 114, 82, 97, 110, 103, 101]
  | 2 => [69, 114, 114, 83, 121, 110, 116, 97, 120]
  | 3 => [69, 114, 114, 83, 104, 97, 112, 101]
  | 4 => [69, 114, 114, 70, 117, 108, 108]
  | 5 => [69, 114, 114, 78, 111, 110, 101]
  | 6 => [69, 114, 114, 83, 116, 97, 116, 101]
  | 7 => [69, 114, 114, 67, 108, 97, 115, 104]
  | 8 => [69, 114, 114, 76, 111, 115, 116]
  | _ => [69, 114, 114, 68, 101, 110, 105, 101, 100]
theorem ern_in (e : Nat) : ∀ x, x ∈ ern e → 65 ≤ x.val := by
  have h : ∀ e, (ern e).all (fun x => decide (65 ≤ x.val)) = true := fun e => by
    unfold ern
    split <;> decide
  exact fun x hx => of_decide_eq_true (List.all_eq_true.1 (h e) x hx)
def tOk : List El := [111, 107]
def tBad : List El := [98, 97, 100]
def tLong : List El := [116, 111, 111, 32, 108, 111, 110, 103, 10]
/-- a fault's name, or what is told -/
def tld (e : Nat) (s : List El) : List El := if e = 0 then s else ern e
/-- what was wrong, one behind the other -/
def scF (o : List El) (p : Nat × Nat) : List El := (if o = [] then [] else o ++ [32]) ++ (dgs p.1 ++ 46 :: dgs p.2)
def scO (l : List (Nat × Nat)) : List El := l.foldl scF []
def scT (l : List (Nat × Nat)) : List El := if scO l = [] then [45] else scO l
theorem scO_snoc (l : List (Nat × Nat)) (p : Nat × Nat) : scO (l ++ [p]) = scF (scO l) p := by unfold scO; rw [List.foldl_append]; rfl
theorem scF_ne (o : List El) (p : Nat × Nat) : scF o p ≠ [] := by unfold scF; simp
/-- what a line answers; what the disks are then -/
noncomputable def ans (a : Arr) : Cm → List El
  | .bad => tBad
  | .scrub => scT (a.spots 4)
  | .read n => tld (a.readE n) (hx (a.readT n))
  | .write n x => tld (a.writeE n x.length) tOk
  | .fail n => tld (a.failE n) tOk
  | .replace n => tld (a.replaceE n) tOk
  | .rebuild n => tld (a.rebuildE n) (dgs (a.rebuildN n))
  | .lost n => if a.rows ≤ n then ern 1 else dgs (a.nl n)
  | .poke d r x => tld (a.pokeE d r x.length) tOk
noncomputable def nxt (a : Arr) : Cm → Arr
  | .bad => a
  | .scrub => a.all 4
  | .read _ => a
  | .write n x => a.write n x
  | .fail n => a.fail n
  | .replace n => a.replace n
  | .rebuild n => a.rebuild n
  | .lost _ => a
  | .poke d r x => a.poke d r x
theorem nxt_ok {a : Arr} (h : a.ok) (c : Cm) : (nxt a c).ok := by
  cases c with
  | bad => exact h
  | scrub => exact Arr.all_ok h 4
  | read n => exact h
  | write n x => exact Arr.write_ok h _ _
  | fail n => exact Arr.fail_ok h _
  | replace n => exact Arr.replace_ok h _
  | rebuild n => exact Arr.rebuild_ok h _
  | lost n => exact h
  | poke d r x => exact Arr.poke_ok h _ _ _
/-- lines -/
noncomputable def ansL : Arr → List (List El) → List El
  | _, [] => []
  | a, s :: l => ans a (cml s) ++ 10 :: ansL (nxt a (cml s)) l
noncomputable def nxs : Arr → List (List El) → Arr
  | a, [] => a
  | a, s :: l => nxs (nxt a (cml s)) l
noncomputable def ansS : Arr → List (List El) → List (List El)
  | _, [] => []
  | a, s :: l => ans a (cml s) :: ansS (nxt a (cml s)) l
theorem ansL_append : ∀ (l m : List (List El)) (a : Arr), ansL a (l ++ m) = ansL a l ++ ansL (nxs a l) m
  | [], m, a => rfl
  | s :: l, m, a => by
    show ans a (cml s) ++ 10 :: ansL (nxt a (cml s)) (l ++ m) = (ans a (cml s) ++ 10 :: ansL (nxt a (cml s)) l) ++ ansL (nxs (nxt a (cml s)) l) m
    rw [ansL_append l m, List.append_assoc]
    rfl
theorem nxs_append : ∀ (l m : List (List El)) (a : Arr), nxs a (l ++ m) = nxs (nxs a l) m
  | [], _, _ => rfl
  | _ :: l, m, _ => nxs_append l m _
theorem nxs_ok : ∀ (l : List (List El)) {a : Arr}, a.ok → (nxs a l).ok
  | [], _, h => h
  | _ :: l, _, h => nxs_ok l (nxt_ok h _)
/-- a text whole -/
noncomputable def rn (t : List El) : List El := if 3000 < t.length then tLong else ansL (Arr.fresh 5 4 2) (lnL t)
theorem rn_pre {xs ys : List El} (h : (xs ++ 10 :: ys).length ≤ 3000) : ∃ m, rn (xs ++ 10 :: ys) = rn (xs ++ [10]) ++ m := by
  have h2 : (xs ++ [10]).length ≤ 3000 := by simp at h ⊢; omega
  unfold rn
  rw [if_neg (by omega), if_neg (by omega), lnL_append, lnL_ends, ansL_append]
  exact ⟨_, rfl⟩
theorem rn_nil : rn [] = [] := rfl
/-- the answers to a beginning are a beginning of the answers -/
theorem rn_begins {t : List El} {k : Nat} (h : t.length ≤ 3000) (hk : k ≤ t.length) (hq : k = t.length ∨ k = 0 ∨ t[k - 1]? = some 10) : ∃ m, rn t = rn (t.take k) ++ m := by
  rcases hq with rfl | rfl | hq
  · exact ⟨[], by rw [List.take_length, List.append_nil]⟩
  · exact ⟨rn t, by rw [List.take_zero, rn_nil]; rfl⟩
  · obtain ⟨hl, e⟩ := List.getElem?_eq_some_iff.1 hq
    by_cases k0 : k = 0
    · subst k0; exact ⟨rn t, by rw [List.take_zero, rn_nil]; rfl⟩
    · have e1 : t = t.take (k - 1) ++ 10 :: t.drop k := by
        have := List.take_append_drop (k - 1) t
        rw [List.drop_eq_getElem_cons hl, e, show k - 1 + 1 = k by omega] at this
        exact this.symm
      have e2 : t.take k = t.take (k - 1) ++ [10] := by
        conv => lhs; rw [show k = k - 1 + 1 by omega]
        rw [List.take_add_one, hq]
        rfl
      obtain ⟨m, hm⟩ := rn_pre (xs := t.take (k - 1)) (ys := t.drop k) (by rw [← e1]; exact h)
      rw [← e1] at hm
      rw [e2]
      exact ⟨m, hm⟩
/-- no answer holds the end of a line -/
theorem tld_no {e : Nat} {s : List El} (h : ∀ x, x ∈ s → x ≠ 10) : ∀ x, x ∈ tld e s → x ≠ 10 := by
  unfold tld
  split
  · exact h
  · exact fun x hx q => by have := ern_in e x hx; rw [q] at this; exact absurd this (by decide)
theorem scF_no {o : List El} {p : Nat × Nat} (h : ∀ x, x ∈ o → x ≠ 10) : ∀ x, x ∈ scF o p → x ≠ 10 := by
  intro x hx
  unfold scF at hx
  rcases List.mem_append.1 hx with q | q
  · split at q
    · cases q
    · rcases List.mem_append.1 q with q | q
      · exact h x q
      · simp at q; rw [q]; decide
  · rcases List.mem_append.1 q with q | q
    · exact dgs_no (by decide) x q
    · rcases List.mem_cons.1 q with q | q
      · rw [q]; decide
      · exact dgs_no (by decide) x q
theorem scO_no (l : List (Nat × Nat)) : ∀ x, x ∈ scO l → x ≠ 10 := by
  have h : ∀ (l : List (Nat × Nat)) (o : List El), (∀ x, x ∈ o → x ≠ 10) → ∀ x, x ∈ l.foldl scF o → x ≠ 10 := by
    intro l
    induction l with
    | nil => exact fun o h => h
    | cons p l ih => exact fun o h => ih _ (scF_no h)
  exact h l [] (fun x hx => by cases hx)
theorem all_no {l : List El} {c : El} (h : l.all (fun x => decide (x ≠ c)) = true) : ∀ x, x ∈ l → x ≠ c := fun x hx => of_decide_eq_true (List.all_eq_true.1 h x hx)
theorem ans_no (a : Arr) (c : Cm) : ∀ x, x ∈ ans a c → x ≠ 10 := by
  have hok : ∀ x, x ∈ tOk → x ≠ 10 := all_no (by decide)
  cases c with
  | bad => exact all_no (l := tBad) (by decide)
  | scrub =>
    show ∀ x, x ∈ scT _ → x ≠ 10
    unfold scT
    split
    · exact all_no (by decide)
    · exact scO_no _
  | read n => exact tld_no (hx_no (by decide))
  | write n x => exact tld_no hok
  | fail n => exact tld_no hok
  | replace n => exact tld_no hok
  | rebuild n => exact tld_no (dgs_no (by decide))
  | lost n =>
    show ∀ x, x ∈ (if a.rows ≤ n then ern 1 else dgs (a.nl n)) → x ≠ 10
    split
    · exact fun x hx q => by have := ern_in 1 x hx; rw [q] at this; exact absurd this (by decide)
    · exact dgs_no (by decide)
  | poke d r x => exact tld_no hok
theorem ct_ans : ∀ (l : List (List El)) (a : Arr), ctL 10 (ansL a l) = ansS a l ++ [[]]
  | [], a => rfl
  | s :: l, a => by
    show ctL 10 (ans a (cml s) ++ 10 :: ansL (nxt a (cml s)) l) = _
    rw [ctL_two _ (ans_no a _), ct_ans l]
    rfl
end Go.Proofs.YteafakgjfmbhoaaGreatDoor

/- Digits by their place, numbers and blocks of them; texts with blanks between: plain. -/
namespace Go.Proofs.YteafakgjfmbhoaaGreatDoor
/-- all digits -/
def dgT : List El := [48, 49, 50, 51, 52, 53, 54, 55, 56, 57, 97, 98, 99, 100, 101, 102]
/-- which digit of a base; the base: none -/
def dv (b : Nat) (c : El) : Nat := ixB c (dgT.take b)
/-- digits one behind the other -/
def vlB (b : Nat) : List El → Nat → Nat
  | [], n => n
  | c :: l, n => vlB b l (n * b + dv b c)
theorem vlB_append (b : Nat) : ∀ (l m : List El) (n : Nat), vlB b (l ++ m) n = vlB b m (vlB b l n)
  | [], _, _ => rfl
  | _ :: l, m, _ => vlB_append b l m _
theorem dv10_tab : ∀ c : El, isD c = decide (dv 10 c < 10) ∧ (dv 10 c < 10 → dv 10 c = c.val - 48) := by decide +kernel
theorem dv16_tab : ∀ c : El, decide (0 ≤ hxV c) = decide (dv 16 c < 16) ∧ (dv 16 c < 16 → dv 16 c = (hxV c).toNat) := by decide +kernel
theorem dv_le {b : Nat} (hb : b ≤ 16) (c : El) : dv b c ≤ b := by
  have := ixB_le c (dgT.take b)
  have e : (dgT.take b).length = b := by rw [List.length_take]; exact Nat.min_eq_left hb
  unfold dv
  omega
theorem vlB_ten : ∀ (l : List El) (n : Nat), l.all isD = true → vlB 10 l n = vlD l n
  | [], n, _ => rfl
  | c :: l, n, h => by
    rw [List.all_cons, Bool.and_eq_true] at h
    have t := dv10_tab c
    rw [h.1] at t
    show vlB 10 l (n * 10 + dv 10 c) = vlD l (n * 10 + (c.val - 48))
    rw [t.2 (of_decide_eq_true t.1.symm), vlB_ten l _ h.2]
/-- are they all digits of that base -/
def okB (b : Nat) (l : List El) : Bool := l.all (fun c => decide (dv b c < b))
theorem okB_ten (l : List El) : okB 10 l = l.all isD := by
  unfold okB
  congr 1
  funext c
  exact (dv10_tab c).1.symm
/-- what a word of digits tells: a fault, its number -/
def vE (b : Nat) (l : List El) : Bool := !okB b l
def vN (b : Nat) (l : List El) : Nat := if okB b l = true then vlB b l 0 else 0
theorem vlB_lt {b : Nat} (hb : 0 < b) : ∀ (l : List El) (n : Nat), okB b l = true → vlB b l n < (n + 1) * b ^ l.length
  | [], n, _ => by show n < (n + 1) * b ^ 0; rw [Nat.pow_zero]; omega
  | c :: l, n, h => by
    have h' : (decide (dv b c < b) && okB b l) = true := h
    rw [Bool.and_eq_true] at h'
    have hc := of_decide_eq_true h'.1
    have := vlB_lt hb l (n * b + dv b c) h'.2
    show vlB b l (n * b + dv b c) < (n + 1) * b ^ (l.length + 1)
    have e : (n + 1) * b ^ (l.length + 1) = (n * b + b) * b ^ l.length := by rw [Nat.pow_succ, Nat.mul_comm (b ^ l.length) b, ← Nat.mul_assoc, Nat.add_mul, Nat.one_mul]
    rw [e]
    exact Nat.lt_of_lt_of_le this (Nat.mul_le_mul_right _ (by omega))
/-- of the first i digits: are they some, and which number -/
theorem okB_take {b : Nat} {l : List El} {i : Nat} (h : okB b (l.take i) = true) {c : El} (hc : l[i]? = some c) : okB b (l.take (i + 1)) = decide (dv b c < b) := by
  unfold okB at h ⊢
  rw [List.take_add_one, hc, List.all_append, h]
  simp
theorem vlB_take {b : Nat} {l : List El} {i : Nat} {c : El} (hc : l[i]? = some c) : vlB b (l.take (i + 1)) 0 = vlB b (l.take i) 0 * b + dv b c := by
  rw [List.take_add_one, hc, vlB_append]
  rfl
theorem okB_not {b : Nat} {l : List El} {i : Nat} (h : okB b (l.take (i + 1)) = false) : okB b l = false := by
  unfold okB at h ⊢
  rw [List.all_eq_false] at h ⊢
  obtain ⟨x, hx, hn⟩ := h
  exact ⟨x, List.mem_of_mem_take hx, hn⟩
/-- a number -/
def nuE (s : List El) : Bool := nmB s || vE 10 s
def nuN (s : List El) : Nat := if nmB s = true then 0 else vN 10 s
theorem nmO_nu (s : List El) : nmO s = if nuE s = true then none else some (nuN s) := by
  unfold nmO nuE nuN vE vN
  rw [okB_ten]
  by_cases h : nmB s = true
  · rw [if_pos h, h]; rfl
  · rw [if_neg h, if_neg h]
    have h0 : nmB s = false := by simpa using h
    by_cases k : s.all isD = true
    · rw [if_pos k, if_pos k, h0, k, vlB_ten s 0 k]; rfl
    · have k0 : s.all isD = false := by simpa using k
      rw [if_neg k, h0, k0]; rfl
/-- a block of four digits -/
def bkE (s : List El) : Bool := !decide (s.length = 4) || (vE 16 (s.take 2) || vE 16 ((s.drop 2).take 2))
def bkN (s : List El) : List El := [bt (vN 16 (s.take 2)), bt (vN 16 ((s.drop 2).take 2))]
theorem uhO_bk (s : List El) : uhO s = if bkE s = true then none else some (bkN s) := by
  unfold uhO bkE uhB
  by_cases h : s.length = 4
  · match s, h with
    | [a, b, c, d], _ =>
      have ta := dv16_tab a
      have tb := dv16_tab b
      have tc := dv16_tab c
      have td := dv16_tab d
      have o1 : okB 16 [a, b] = (decide (0 ≤ hxV a) && decide (0 ≤ hxV b)) := by
        rw [ta.1, tb.1]
        show (decide (dv 16 a < 16) && (decide (dv 16 b < 16) && true)) = _
        rw [Bool.and_true]
      have o2 : okB 16 [c, d] = (decide (0 ≤ hxV c) && decide (0 ≤ hxV d)) := by
        rw [tc.1, td.1]
        show (decide (dv 16 c < 16) && (decide (dv 16 d < 16) && true)) = _
        rw [Bool.and_true]
      show (if (decide ([a, b, c, d].length = 4) && (decide (0 ≤ hxV a) && (decide (0 ≤ hxV b) && (decide (0 ≤ hxV c) && (decide (0 ≤ hxV d) && true))))) = true then some (uhV [a, b, c, d]) else none) = if (!decide ([a, b, c, d].length = 4) || ((!okB 16 [a, b]) || (!okB 16 [c, d]))) = true then none else some [bt (vN 16 [a, b]), bt (vN 16 [c, d])]
      rw [o1, o2]
      have q1 : decide ([a, b, c, d].length = 4) = true := rfl
      rw [q1]
      unfold vN
      rw [o1, o2]
      have r1 : vlB 16 [a, b] 0 = 16 * dv 16 a + dv 16 b := by show (0 * 16 + dv 16 a) * 16 + dv 16 b = _; omega
      have r2 : vlB 16 [c, d] 0 = 16 * dv 16 c + dv 16 d := by show (0 * 16 + dv 16 c) * 16 + dv 16 d = _; omega
      rw [r1, r2]
      have hv : uhV [a, b, c, d] = [bt (16 * (hxV a).toNat + (hxV b).toNat), bt (16 * (hxV c).toNat + (hxV d).toNat)] := rfl
      rw [hv]
      generalize decide (0 ≤ hxV a) = A at *
      generalize decide (0 ≤ hxV b) = B at *
      generalize decide (0 ≤ hxV c) = C at *
      generalize decide (0 ≤ hxV d) = D at *
      cases A
      · rfl
      cases B
      · rfl
      cases C
      · rfl
      cases D
      · rfl
      rw [ta.2 (of_decide_eq_true ta.1.symm), tb.2 (of_decide_eq_true tb.1.symm), tc.2 (of_decide_eq_true tc.1.symm), td.2 (of_decide_eq_true td.1.symm)]
      rfl
  · rw [decide_eq_false h]
    rfl
/-- texts with blanks between -/
def jnB : List (List El) → List El
  | [] => []
  | [x] => x
  | x :: y :: l => x ++ 32 :: jnB (y :: l)
theorem jnB_snoc : ∀ (l : List (List El)) (x : List El), l ≠ [] → jnB (l ++ [x]) = jnB l ++ 32 :: x
  | [], x, h => absurd rfl h
  | [a], x, _ => rfl
  | a :: b :: l, x, _ => by
    show a ++ 32 :: jnB (b :: l ++ [x]) = (a ++ 32 :: jnB (b :: l)) ++ 32 :: x
    rw [jnB_snoc (b :: l) x (by simp), List.append_assoc]
    rfl
/-- a spot as text -/
def spT (p : Nat × Nat) : List El := dgs p.1 ++ 46 :: dgs p.2
theorem scO_jn (l : List (Nat × Nat)) : scO l = jnB (l.map spT) := by
  have h : ∀ (n : Nat) (l : List (Nat × Nat)), l.length = n → scO l = jnB (l.map spT) := by
    intro n
    induction n with
    | zero =>
      intro l hl
      rw [List.length_eq_zero_iff.1 hl]; rfl
    | succ n ih =>
      intro l hl
      have hne : l ≠ [] := fun e => by rw [e] at hl; cases hl
      obtain ⟨m, x, rfl⟩ : ∃ m x, l = m ++ [x] := ⟨l.dropLast, l.getLast hne, (List.dropLast_concat_getLast hne).symm⟩
      have hm : m.length = n := by simpa using hl
      rw [scO_snoc, ih m hm, List.map_append, List.map_singleton]
      unfold scF
      match m, hm with
      | [], _ => rfl
      | y :: ys, _ =>
        have hj : jnB (List.map spT (y :: ys)) ≠ [] := by
          rw [← ih (y :: ys) (by assumption)]
          unfold scO
          rw [List.foldl_cons]
          have : ∀ (zs : List (Nat × Nat)) (o : List El), o ≠ [] → zs.foldl scF o ≠ [] := by
            intro zs
            induction zs with
            | nil => exact fun o ho => ho
            | cons z zs ihz => exact fun o _ => ihz _ (scF_ne o z)
          exact this ys _ (scF_ne [] y)
        rw [if_neg hj, jnB_snoc _ _ (by simp), List.append_assoc]
        rfl
  exact h _ l rfl
theorem scT_jn (l : List (Nat × Nat)) : scT l = if l.length = 0 then [45] else jnB (l.map spT) := by
  unfold scT
  by_cases h : l = []
  · subst h; rfl
  · have hl : l.length ≠ 0 := fun e => h (List.length_eq_zero_iff.1 e)
    rw [if_neg hl]
    obtain ⟨m, x, rfl⟩ : ∃ m x, l = m ++ [x] := ⟨l.dropLast, l.getLast h, (List.dropLast_concat_getLast h).symm⟩
    rw [if_neg (by rw [scO_snoc]; exact scF_ne _ _), scO_jn]
/-- what a line asks, by its words -/
def isOne (w : List El) : Bool := decide (w = wRead) || (decide (w = wFail) || (decide (w = wReplace) || (decide (w = wRebuild) || decide (w = wLost))))
end Go.Proofs.YteafakgjfmbhoaaGreatDoor
