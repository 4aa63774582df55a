/- A redo, plainly: writes as bytes, one record behind the other; which of them are whole among so many bytes; what it has, and what it does. -/
import Derived.Test.YtdbanimlnjhhlaaDoorMem
namespace Go.Proofs.YtdbanimlnjhhlaaDoor
open El Pol
/-- a write: its cell (any number), and its bytes -/
abbrev Wr := Int × List El
def by8 (k : Nat) : El := Fin.ofNat 256 k
theorem by8_val {k : Nat} (h : k < 256) : (by8 k).val = k := by show k % 256 = k; omega
/-- the bytes of a write, of writes, of a record, of records -/
def encW (x : Wr) : List El := by8 x.1.toNat :: by8 x.2.length :: x.2
def bodyR (r : List Wr) : List El := r.flatMap encW
def recB (r : List Wr) : List El := by8 ((bodyR r).length / 256) :: by8 (bodyR r).length :: bodyR r
def logOf (rs : List (List Wr)) : List El := rs.flatMap recB
/-- writes that are right, of n cells -/
def OkW (n : Nat) (x : Wr) : Prop := 0 ≤ x.1 ∧ x.1 < n ∧ x.2.length ≤ 16
def OkR (n : Nat) (r : List Wr) : Prop := r.length ≤ 40 ∧ ∀ x ∈ r, OkW n x
def OkL (n : Nat) (rs : List (List Wr)) : Prop := ∀ r ∈ rs, OkR n r
/-- what they make of cells -/
def doW (f : Nat → List El) (x : Wr) : Nat → List El := up f x.1.toNat x.2
def doR (f : Nat → List El) (r : List Wr) : Nat → List El := r.foldl doW f
def doL (f : Nat → List El) (rs : List (List Wr)) : Nat → List El := rs.foldl doR f
/-- those that are whole among m bytes -/
def fit : List (List Wr) → Nat → List (List Wr)
  | [], _ => []
  | r :: rs, m => if (recB r).length ≤ m then r :: fit rs (m - (recB r).length) else []
theorem bodyR_nil : bodyR [] = [] := rfl
theorem bodyR_cons (x : Wr) (r : List Wr) : bodyR (x :: r) = by8 x.1.toNat :: by8 x.2.length :: (x.2 ++ bodyR r) := by simp [bodyR, encW]
theorem bodyR_append (a b : List Wr) : bodyR (a ++ b) = bodyR a ++ bodyR b := by simp [bodyR]
theorem logOf_nil : logOf [] = [] := rfl
theorem logOf_cons (r : List Wr) (rs : List (List Wr)) : logOf (r :: rs) = recB r ++ logOf rs := by simp [logOf]
theorem logOf_append (a b : List (List Wr)) : logOf (a ++ b) = logOf a ++ logOf b := by simp [logOf]
theorem recB_length (r : List Wr) : (recB r).length = (bodyR r).length + 2 := by simp [recB]
theorem encW_length (x : Wr) : (encW x).length = x.2.length + 2 := by simp [encW]
theorem bodyR_le {n : Nat} : ∀ (r : List Wr), (∀ x ∈ r, OkW n x) → (bodyR r).length ≤ 18 * r.length
  | [], _ => by simp [bodyR]
  | x :: r, h => by
    have h1 := bodyR_le r (fun y hy => h y (List.mem_cons_of_mem _ hy))
    have h2 := (h x List.mem_cons_self).2.2
    rw [bodyR_cons]
    simp only [List.length_cons, List.length_append]
    omega
theorem OkR.body {n : Nat} {r : List Wr} (h : OkR n r) : (bodyR r).length ≤ 720 := by have := bodyR_le r h.2; have := h.1; omega
theorem OkL.cons {n : Nat} {r : List Wr} {rs : List (List Wr)} (h : OkL n (r :: rs)) : OkR n r ∧ OkL n rs := ⟨h r List.mem_cons_self, fun x hx => h x (List.mem_cons_of_mem _ hx)⟩
theorem OkL.append {n : Nat} {a b : List (List Wr)} (ha : OkL n a) (hb : OkL n b) : OkL n (a ++ b) := fun x hx => by
  rcases List.mem_append.1 hx with h | h
  · exact ha x h
  · exact hb x h
theorem OkL.take {n : Nat} {a : List (List Wr)} (ha : OkL n a) (k : Nat) : OkL n (a.take k) := fun x hx => ha x (List.mem_of_mem_take hx)
theorem OkL.one {n : Nat} {r : List Wr} (h : OkR n r) : OkL n [r] := fun x hx => by rw [List.mem_singleton.1 hx]; exact h
theorem OkL.log_le {n : Nat} : ∀ (rs : List (List Wr)), OkL n rs → (logOf rs).length ≤ 722 * rs.length
  | [], _ => by simp [logOf]
  | r :: rs, h => by
    have h1 := OkL.log_le rs h.cons.2
    have h2 := h.cons.1.body
    rw [logOf_cons, List.length_append, recB_length, List.length_cons]
    omega
/-- the size that the first record of some bytes tells; 0 where it is not whole -/
def ws (xs : List El) : Nat := if xs.length < 2 then 0 else if xs.length < 2 + (co xs 0).val * 256 + (co xs 1).val then 0 else 2 + (co xs 0).val * 256 + (co xs 1).val
theorem recB_head {n : Nat} {r : List Wr} (h : OkR n r) (ys : List El) : (co (recB r ++ ys) 0).val * 256 + (co (recB r ++ ys) 1).val = (bodyR r).length := by
  have hb := h.body
  have e0 : co (recB r ++ ys) 0 = by8 ((bodyR r).length / 256) := rfl
  have e1 : co (recB r ++ ys) 1 = by8 (bodyR r).length := rfl
  rw [e0, e1, by8_val (by omega)]
  show _ + (bodyR r).length % 256 = _
  omega
theorem co_take (xs : List El) (m i : Nat) (h : i < m) : co (xs.take m) i = co xs i := by simp [co, List.getD_eq_getElem?_getD, h]
theorem ws_fit {n : Nat} {r : List Wr} (h : OkR n r) (rs : List (List Wr)) (m : Nat) : ws ((logOf (r :: rs)).take m) = if (recB r).length ≤ m then (recB r).length else 0 := by
  have hl : ((logOf (r :: rs)).take m).length = min m ((recB r).length + (logOf rs).length) := by rw [List.length_take, logOf_cons, List.length_append]
  have h2 := recB_length r
  unfold ws
  by_cases h1 : ((logOf (r :: rs)).take m).length < 2
  · rw [if_pos h1, if_neg (by omega)]
  · rw [if_neg h1, co_take _ _ _ (by omega), co_take _ _ _ (by omega), logOf_cons]
    have hh := recB_head h (logOf rs)
    rw [← logOf_cons, hl, logOf_cons]
    by_cases h3 : (recB r).length ≤ m
    · rw [if_pos h3, if_neg (by omega)]
      omega
    · rw [if_neg h3, if_pos (by omega)]
theorem ws_none (m : Nat) : ws ((logOf []).take m) = 0 := by simp [logOf, ws]
theorem fit_append : ∀ (a b : List (List Wr)) (m : Nat), (logOf a).length ≤ m → fit (a ++ b) m = a ++ fit b (m - (logOf a).length)
  | [], b, m, _ => by simp [logOf]
  | r :: a, b, m, h => by
    rw [logOf_cons, List.length_append] at h
    rw [List.cons_append, fit, if_pos (by omega), fit_append a b _ (by omega), logOf_cons, List.length_append, List.cons_append]
    congr 3
    omega
theorem fit_len : ∀ (rs : List (List Wr)) (m : Nat), (logOf (fit rs m)).length ≤ m
  | [], m => by simp [fit, logOf]
  | r :: rs, m => by
    unfold fit
    split
    · rename_i h
      have := fit_len rs (m - (recB r).length)
      rw [logOf_cons, List.length_append]
      omega
    · simp [logOf]
/-- they are the first ones -/
theorem fit_take : ∀ (rs : List (List Wr)) (m : Nat), fit rs m = rs.take (fit rs m).length
  | [], m => by simp [fit]
  | r :: rs, m => by
    unfold fit
    split
    · rw [List.length_cons, List.take_succ_cons, ← fit_take rs]
    · simp
theorem fit_le (rs : List (List Wr)) (m : Nat) : (fit rs m).length ≤ rs.length := by
  have h := congrArg List.length (fit_take rs m)
  rw [List.length_take] at h
  omega
theorem logOf_take_mono (rs : List (List Wr)) {i j : Nat} (h : i ≤ j) : (logOf (rs.take i)).length ≤ (logOf (rs.take j)).length := by
  obtain ⟨d, rfl⟩ : ∃ d, j = i + d := ⟨j - i, by omega⟩
  rw [List.take_add, logOf_append, List.length_append]
  omega
/-- as many as there is room for -/
theorem fit_most (rs : List (List Wr)) (m i : Nat) (hi : i ≤ rs.length) : (logOf (rs.take i)).length ≤ m ↔ i ≤ (fit rs m).length := by
  constructor
  · intro h
    have h1 := fit_append (rs.take i) (rs.drop i) m h
    rw [List.take_append_drop] at h1
    have := congrArg List.length h1
    rw [List.length_append, List.length_take] at this
    omega
  · intro h
    have h1 := logOf_take_mono rs h
    rw [← fit_take] at h1
    exact Nat.le_trans h1 (fit_len rs m)
theorem logOf_take_lt (rs : List (List Wr)) {i j : Nat} (h : i < j) (hj : j ≤ rs.length) : (logOf (rs.take i)).length < (logOf (rs.take j)).length := by
  have h1 := logOf_take_mono rs (show i + 1 ≤ j by omega)
  rw [List.take_succ_eq_append_getElem (by omega), logOf_append, List.length_append] at h1
  have h2 : logOf [rs[i]] = recB rs[i] := by simp [logOf]
  rw [h2, recB_length] at h1
  omega
/-- half a record behind them is not whole -/
theorem fit_half (rs : List (List Wr)) (r : List Wr) (m : Nat) (h : m < (logOf rs).length + (recB r).length) : fit (rs ++ [r]) m = fit rs m := by
  have h0 : ¬ (logOf ((rs ++ [r]).take (rs.length + 1))).length ≤ m := by
    rw [List.take_of_length_le (by simp), logOf_append, List.length_append]
    have h2 : logOf [r] = recB r := by simp [logOf]
    rw [h2]
    omega
  rw [fit_most _ _ _ (by simp)] at h0
  have e1 := fit_take (rs ++ [r]) m
  have hle : (fit (rs ++ [r]) m).length ≤ rs.length := by omega
  rw [List.take_append_of_le_length hle] at e1
  have e2 : (fit (rs ++ [r]) m).length = (fit rs m).length := by
    apply Nat.le_antisymm
    · have := (fit_most (rs ++ [r]) m (fit (rs ++ [r]) m).length (by simp; omega)).2 (Nat.le_refl _)
      rw [List.take_append_of_le_length hle] at this
      exact (fit_most rs m _ hle).1 this
    · have hfl := fit_le rs m
      have := (fit_most rs m (fit rs m).length hfl).2 (Nat.le_refl _)
      have e3 : (rs ++ [r]).take (fit rs m).length = rs.take (fit rs m).length := List.take_append_of_le_length hfl
      rw [← e3] at this
      exact (fit_most (rs ++ [r]) m _ (by simp; omega)).1 this
  rw [e1, e2, ← fit_take]
end Go.Proofs.YtdbanimlnjhhlaaDoor
