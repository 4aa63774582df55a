/- TopLater: a walk over the program. -/
import Derived.Test.YtfeikmmojilmbaaOne
import Derived.Test.YtfeikmmojilmbaaChAl
import Derived.Test.YtfeikmmojilmbaaRoL
import Derived.Test.YtfeikmmojilmbaaTxX
import Derived.Deep.Cut
import Derived.Deep.CutRange
import Derived.BigCall
import Derived.BigGuard
namespace Go.Proofs.Ytfeikmmojilmbaa
open Go.RowKit Go.Maps El Pol
/-- all cells as writes -/
def allW (g : Nat → List El) (n : Nat) : List Wr := (List.range n).map (fun i => (((i : Nat) : Int), g i))
theorem allW_len (g : Nat → List El) (n : Nat) : (allW g n).length = n := by simp [allW]
theorem allW_succ (g : Nat → List El) (n : Nat) : allW g (n + 1) = allW g n ++ [(((n : Nat) : Int), g n)] := by simp [allW, List.range_succ]
theorem do_all (f g : Nat → List El) (n : Nat) : doR f (allW g n) = fun k => if k < n then g k else f k := by
  induction n with
  | zero => funext k; rw [if_neg (by omega)]; rfl
  | succ n ih =>
    rw [allW_succ]
    unfold doR at ih ⊢
    rw [List.foldl_append, ih]
    funext k
    show up (fun k => if k < n then g k else f k) ((n : Nat) : Int).toNat (g n) k = _
    rw [Int.toNat_natCast]
    by_cases e : k = n
    · rw [e, up_at, if_pos (by omega)]
    · rw [up_ne _ _ e]
      by_cases q : k < n
      · rw [if_pos q, if_pos (by omega)]
      · rw [if_neg q, if_neg (by omega)]
theorem all_okR {g : Nat → List El} {n : Nat} (hn : n ≤ 40) (hg : ∀ i, i < n → (g i).length ≤ 16) : OkR n (allW g n) :=
  ⟨by rw [allW_len]; exact hn, fun x hx => by
    unfold allW at hx
    obtain ⟨i, hi, rfl⟩ := List.mem_map.1 hx
    have := List.mem_range.1 hi
    exact ⟨by show (0 : Int) ≤ ((i : Nat) : Int); omega, by show ((i : Nat) : Int) < _; omega, hg i this⟩⟩
theorem check_go {t : Rdo} {l : List Wr} (hs : t.stopped = false) (h : OkR t.n l) : t.checkE l = 0 := by
  unfold Rdo.checkE
  rw [if_neg (by rw [hs]; simp), if_neg (by have := h.1; omega), if_neg (by rw [Bool.not_eq_true]; exact any_bad.2 h.2)]
/-- kept as a whole, and behind a crash -/
theorem kept_all (n : Nat) (f g : Nat → List El) (hn : n ≤ 40) (hg : ∀ i, i < n → (g i).length ≤ 16) :
    (Rdo.fresh n f).putE (allW g n) = 0 ∧ ((Rdo.fresh n f).put (allW g n)).syncE = 0 ∧ (((Rdo.fresh n f).put (allW g n)).sync).putE [] = 0 ∧
    ((((Rdo.fresh n f).put (allW g n)).sync).put []).crash 0 = ⟨n, f, [allW g n], [], (logOf [allW g n]).length, -1, false⟩ ∧ (((Rdo.fresh n f).put (allW g n)).sync).put [] = ⟨n, f, [allW g n, []], [], (logOf [allW g n]).length, -1, false⟩ ∧ ((Rdo.fresh n f).put (allW g n)).sync = ⟨n, f, [allW g n], [], (logOf [allW g n]).length, -1, false⟩ ∧ (Rdo.fresh n f).put (allW g n) = ⟨n, f, [allW g n], [], 0, -1, false⟩ := by
  have c1 : (Rdo.fresh n f).checkE (allW g n) = 0 := check_go rfl (all_okR hn hg)
  obtain ⟨p1, p2⟩ := put_go c1 (by show ¬ (-1 : Int) = 0; omega)
  have e1 : (Rdo.fresh n f).put (allW g n) = ⟨n, f, [allW g n], [], 0, -1, false⟩ := by rw [p2]; rfl
  have e2 : ((Rdo.fresh n f).put (allW g n)).sync = ⟨n, f, [allW g n], [], (logOf [allW g n]).length, -1, false⟩ := by
    rw [e1]
    unfold Rdo.sync
    rw [if_neg (by simp), if_neg (by show ¬ (-1 : Int) = 0; omega)]
    unfold Rdo.log
    simp [Rdo.step]
  have c2 : (Rdo.mk n f [allW g n] [] (logOf [allW g n]).length (-1) false).checkE [] = 0 := check_go rfl ⟨by simp, fun _ h => (by cases h)⟩
  obtain ⟨p3, p4⟩ := put_go c2 (by show ¬ (-1 : Int) = 0; omega)
  have e3 : (Rdo.mk n f [allW g n] [] (logOf [allW g n]).length (-1) false).put [] = ⟨n, f, [allW g n, []], [], (logOf [allW g n]).length, -1, false⟩ := by rw [p4]; rfl
  refine ⟨p1, ?_, ?_, ?_, ?_, e2, e1⟩
  · rw [e1]
    unfold Rdo.syncE
    rw [if_neg (by simp)]
  · rw [e2]; exact p3
  · rw [e2, e3]
    unfold Rdo.crash Rdo.left
    dsimp only
    have hf : fit [allW g n, []] ((logOf [allW g n]).length + min (0 : Int).toNat (Rdo.log ⟨n, f, [allW g n, []], [], (logOf [allW g n]).length, -1, false⟩).length - (logOf [allW g n]).length) = fit [allW g n, []] 0 := by simp
    have h1 : min (0 : Int).toNat ((Rdo.log ⟨n, f, [allW g n, []], [], (logOf [allW g n]).length, -1, false⟩).length - (logOf [allW g n]).length) = 0 := by simp
    have h2 : fit [allW g n, []] (logOf [allW g n]).length = [allW g n] := by
      have := fit_append [allW g n] [[]] (logOf [allW g n]).length (Nat.le_refl _)
      rw [Nat.sub_self] at this
      rw [show [allW g n, []] = [allW g n] ++ [[]] from rfl, this]
      rfl
    rw [h1, Nat.add_zero, h2]
  · rw [e2, e3]
end Go.Proofs.Ytfeikmmojilmbaa
