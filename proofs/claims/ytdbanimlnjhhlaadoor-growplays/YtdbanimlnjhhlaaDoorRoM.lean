/- A redo, plainly: what it has, and what Put, Sync, Fail and Crash make of it. -/
import Derived.Test.YtdbanimlnjhhlaaDoorRoC0
namespace Go.Proofs.YtdbanimlnjhhlaaDoor
open Go.RowKit El Pol
structure Rdo where
  n : Nat
  first : Nat → List El
  rs : List (List Wr)
  hf : List El
  safe : Nat
  ahead : Int
  stopped : Bool
namespace Rdo
def log (t : Rdo) : List El := logOf t.rs ++ t.hf
def cells (t : Rdo) : Nat → List El := doL t.first t.rs
structure ok (t : Rdo) : Prop where
  n40 : t.n ≤ 40
  short : ∀ i, i < t.n → (t.first i).length ≤ 16
  right : OkL t.n t.rs
  half : t.hf = [] ∨ t.stopped = true ∧ ∃ r k, OkR t.n r ∧ k < (recB r).length ∧ t.hf = (recB r).take k
  sure : ∃ j, j ≤ t.rs.length ∧ t.safe = (logOf (t.rs.take j)).length
  lo : -9223372036854775808 ≤ t.ahead
  hi : t.ahead ≤ 9223372036854775807
def fresh (n : Nat) (f : Nat → List El) : Rdo := ⟨n, f, [], [], 0, -1, false⟩
/-- a step: it stops there, or one less is ahead -/
def step (t : Rdo) : Rdo := ⟨t.n, t.first, t.rs, t.hf, t.safe, if 0 < t.ahead then t.ahead - 1 else t.ahead, decide (t.ahead = 0)⟩
def checkE (t : Rdo) (l : List Wr) : Nat := if t.stopped = true then 6 else if 40 < l.length then 4 else if anyB (fun i => badW t.n (wat l i)) l.length = true then 1 else 0
def putE (t : Rdo) (l : List Wr) : Nat := if t.checkE l ≠ 0 then t.checkE l else if t.ahead = 0 then 6 else 0
def put (t : Rdo) (l : List Wr) : Rdo := if t.checkE l ≠ 0 then t else if t.ahead = 0 then ⟨t.n, t.first, t.rs, (recB l).take ((recB l).length / 2), t.safe, t.step.ahead, true⟩ else ⟨t.n, t.first, t.rs ++ [l], t.hf, t.safe, t.step.ahead, false⟩
def syncE (t : Rdo) : Nat := if t.stopped = true ∨ t.ahead = 0 then 6 else 0
def sync (t : Rdo) : Rdo := if t.stopped = true then t else if t.ahead = 0 then t.step else ⟨t.n, t.first, t.rs, t.hf, t.log.length, t.step.ahead, false⟩
def fail (t : Rdo) (z : Int) : Rdo := ⟨t.n, t.first, t.rs, t.hf, t.safe, z, t.stopped⟩
def left (t : Rdo) (keep : Int) : Nat := t.safe + min keep.toNat (t.log.length - t.safe)
def crash (t : Rdo) (keep : Int) : Rdo := ⟨t.n, t.first, fit t.rs (t.left keep), [], (logOf (fit t.rs (t.left keep))).length, -1, false⟩
variable {t : Rdo}
theorem fresh_ok {n : Nat} {f : Nat → List El} (hn : n ≤ 40) (hs : ∀ i, i < n → (f i).length ≤ 16) : (fresh n f).ok :=
  ⟨hn, hs, fun r hr => (by cases hr), .inl rfl, ⟨0, Nat.le_refl _, rfl⟩, by show -9223372036854775808 ≤ (-1 : Int); omega, by show (-1 : Int) ≤ 9223372036854775807; omega⟩
theorem step_lo (h : t.ok) : -9223372036854775808 ≤ t.step.ahead := by
  have := h.lo
  show _ ≤ (if 0 < t.ahead then t.ahead - 1 else t.ahead)
  split <;> omega
theorem step_hi (h : t.ok) : t.step.ahead ≤ 9223372036854775807 := by
  have := h.hi
  show (if 0 < t.ahead then t.ahead - 1 else t.ahead) ≤ _
  split <;> omega
theorem check_ok {l : List Wr} (h : t.checkE l = 0) : t.stopped = false ∧ OkR t.n l := by
  unfold checkE at h
  split at h
  · omega
  · split at h
    · omega
    · split at h
      · omega
      · rename_i h1 h2 h3
        exact ⟨by simpa using h1, by omega, any_bad.1 (by simpa using h3)⟩
theorem half_none (h : t.ok) (hs : t.stopped = false) : t.hf = [] := by
  rcases h.half with e | ⟨e, _⟩
  · exact e
  · rw [hs] at e; cases e
theorem rec_pos (l : List Wr) : (recB l).length / 2 < (recB l).length := by have := recB_length l; omega
theorem put_ok (h : t.ok) (l : List Wr) : (t.put l).ok := by
  unfold put
  split
  · exact h
  · rename_i hc
    have hc' : t.checkE l = 0 := Classical.byContradiction hc
    obtain ⟨h1, h2⟩ := check_ok hc'
    split
    · exact ⟨h.n40, h.short, h.right, .inr ⟨rfl, l, _, h2, rec_pos l, rfl⟩, h.sure, step_lo h, step_hi h⟩
    · obtain ⟨j, hj, hs⟩ := h.sure
      have hf : t.hf = [] := half_none h h1
      refine ⟨h.n40, h.short, h.right.append (OkL.one h2), .inl hf, ⟨j, by simp; omega, ?_⟩, step_lo h, step_hi h⟩
      show t.safe = _
      rw [hs]
      show _ = (logOf ((t.rs ++ [l]).take j)).length
      rw [List.take_append_of_le_length hj]
theorem sync_ok (h : t.ok) : t.sync.ok := by
  unfold sync
  split
  · exact h
  · rename_i hs
    have hf : t.hf = [] := half_none h (by simpa using hs)
    split
    · exact ⟨h.n40, h.short, h.right, .inl hf, h.sure, step_lo h, step_hi h⟩
    · exact ⟨h.n40, h.short, h.right, .inl hf, ⟨t.rs.length, Nat.le_refl _, by show t.log.length = _; rw [log, hf, List.append_nil, List.take_of_length_le (Nat.le_refl _)]⟩, step_lo h, step_hi h⟩
theorem fail_ok (h : t.ok) {z : Int} (h1 : -9223372036854775808 ≤ z) (h2 : z ≤ 9223372036854775807) : (t.fail z).ok := ⟨h.n40, h.short, h.right, h.half, h.sure, h1, h2⟩
theorem fit_ok {n : Nat} {rs : List (List Wr)} (h : OkL n rs) (m : Nat) : OkL n (fit rs m) := by rw [fit_take]; exact h.take _
theorem crash_ok (h : t.ok) (keep : Int) : (t.crash keep).ok :=
  ⟨h.n40, h.short, fit_ok h.right _, .inl rfl, ⟨(fit t.rs (t.left keep)).length, Nat.le_refl _, by show (logOf (fit t.rs (t.left keep))).length = (logOf ((fit t.rs (t.left keep)).take _)).length; rw [List.take_of_length_le (Nat.le_refl _)]⟩, by show -9223372036854775808 ≤ (-1 : Int); omega, by show (-1 : Int) ≤ 9223372036854775807; omega⟩
theorem safe_le (h : t.ok) : t.safe ≤ t.log.length := by
  obtain ⟨j, hj, hs⟩ := h.sure
  have := logOf_take_mono t.rs hj
  rw [List.take_of_length_le (Nat.le_refl _)] at this
  rw [log, List.length_append, hs]
  omega
theorem left_le (h : t.ok) (keep : Int) : t.left keep ≤ t.log.length := by have := safe_le h; unfold left; omega
theorem hf_le (h : t.ok) : t.hf.length ≤ 722 := by
  rcases h.half with e | ⟨_, r, k, hr, hk, e⟩
  · rw [e]; simp
  · rw [e, List.length_take]
    have h1 := hr.body
    have h2 := recB_length r
    omega
theorem log_le (h : t.ok) {N : Nat} (hN : t.rs.length ≤ N) : t.log.length ≤ 722 * N + 722 := by
  have h1 := OkL.log_le t.rs h.right
  have h2 := hf_le h
  rw [log, List.length_append]
  have : 722 * t.rs.length ≤ 722 * N := Nat.mul_le_mul_left _ hN
  omega
/-- the log is the beginning of records that are right -/
theorem log_is (h : t.ok) : ∃ qs : List (List Wr), OkL t.n qs ∧ qs.length ≤ t.rs.length + 1 ∧ (∀ m, m ≤ t.log.length → t.log.take m = (logOf qs).take m ∧ fit qs m = fit t.rs m) := by
  rcases h.half with e | ⟨_, r, k, hr, hk, e⟩
  · refine ⟨t.rs, h.right, Nat.le_succ _, fun m _ => ⟨by rw [log, e, List.append_nil], rfl⟩⟩
  · refine ⟨t.rs ++ [r], h.right.append (OkL.one hr), by simp, fun m hm => ?_⟩
    rw [log, List.length_append, e, List.length_take] at hm
    refine ⟨?_, fit_half _ _ _ (by omega)⟩
    rw [log, e, logOf_append]
    have e2 : logOf [r] = recB r := by simp [logOf]
    rw [e2, List.take_append, List.take_append, List.take_take]
    congr 2
    omega
theorem short_doR {n : Nat} : ∀ (r : List Wr) (f : Nat → List El), (∀ x ∈ r, OkW n x) → (∀ i, i < n → (f i).length ≤ 16) → ∀ i, i < n → (doR f r i).length ≤ 16
  | [], _, _, hf, i, hi => hf i hi
  | x :: r, f, hr, hf, i, hi => short_doR r (doW f x) (fun y hy => hr y (List.mem_cons_of_mem _ hy)) (fun j hj => by
      unfold doW up
      split
      · exact (hr x List.mem_cons_self).2.2
      · exact hf j hj) i hi
theorem short_doL {n : Nat} : ∀ (rs : List (List Wr)) (f : Nat → List El), OkL n rs → (∀ i, i < n → (f i).length ≤ 16) → ∀ i, i < n → (doL f rs i).length ≤ 16
  | [], _, _, hf, i, hi => hf i hi
  | r :: rs, f, hr, hf, i, hi => short_doL rs (doR f r) hr.cons.2 (short_doR r f hr.cons.1.2 hf) i hi
theorem cells_short (h : t.ok) : ∀ i, i < t.n → (t.cells i).length ≤ 16 := short_doL t.rs t.first h.right h.short
end Rdo
end Go.Proofs.YtdbanimlnjhhlaaDoor
