/- What is read as a matrix, and what matrix.Check and width answer of it. -/
import Derived.Test.YtcjokofebnfkkaaMatG
import Derived.Deep.RegionLaw
namespace Go.Proofs.Ytcjokofebnfkkaa
open Go.ChangeShapes Go.WideShapes Go.ChangeAt Go.RowKit El Pol Mx
/-- what is read is a matrix of p rows and q columns -/
structure Mt (w : World) (v : Value) (p q : Nat) (A : M) : Prop where
  rd : RdM w v p (rws A q)
  hp : p ≤ 12
  hq : q ≤ 12
  h0 : p = 0 → q = 0
theorem Mt.old {w w' : World} {v : Value} {p q : Nat} {A : M} (h : Mt w v p q A) (hb : Below w.heap.size w w') : Mt w' v p q A := ⟨h.rd.old hb, h.hp, h.hq, h.h0⟩
theorem Mt.wd {w : World} {v : Value} {p q : Nat} {A : M} (h : Mt w v p q A) : wd p (rws A q) = q := by
  unfold Go.Proofs.Ytcjokofebnfkkaa.wd
  by_cases e : p = 0
  · rw [if_pos e, h.h0 e]
  · rw [if_neg e, row_length]
theorem Mt.bad {w : World} {v : Value} {p q : Nat} {A : M} (h : Mt w v p q A) : bad p (rws A q) = 0 := by
  unfold Go.Proofs.Ytcjokofebnfkkaa.bad
  rw [if_neg (by have := h.hp; omega), anyB_false.2 (fun i _ => by rw [row_length]; have := h.hq; exact decide_eq_false (by omega)), anyB_false.2 (fun i _ => by rw [row_length, h.wd]; exact decide_eq_false (fun k => k rfl))]
  rfl
theorem Mt.congr {w : World} {v : Value} {p q : Nat} {A A' : M} (h : Mt w v p q A) (e : Eqm p q A A') : Mt w v p q A' := ⟨h.rd.congr (fun i hi => row_congr (fun j hj => e i j hi hj)), h.hp, h.hq, h.h0⟩
/-- what has no fault is a matrix -/
theorem mt_of {w : World} {v : Value} {n : Nat} {R : Nat → List El} (h : RdM w v n R) (hb : Go.Proofs.Ytcjokofebnfkkaa.bad n R = 0) : Mt w v n (Go.Proofs.Ytcjokofebnfkkaa.wd n R) (fun i j => co (R i) j) := by
  unfold Go.Proofs.Ytcjokofebnfkkaa.bad at hb
  by_cases h12 : 12 < n
  · rw [if_pos h12] at hb; omega
  · rw [if_neg h12] at hb
    cases hl : anyB (fun i => decide (12 < (R i).length)) n with
    | true => rw [hl, if_pos rfl] at hb; omega
    | false =>
      rw [hl, if_neg (by simp)] at hb
      cases hs : anyB (fun i => decide ((R i).length ≠ Go.Proofs.Ytcjokofebnfkkaa.wd n R)) n with
      | true => rw [hs, if_pos rfl] at hb; omega
      | false =>
        have h1 : ∀ i, i < n → (R i).length = Go.Proofs.Ytcjokofebnfkkaa.wd n R := fun i hi => by
          have := anyB_false.1 hs i hi
          rw [decide_eq_false_iff_not] at this
          exact Classical.not_not.1 this
        refine ⟨h.congr (fun i hi => ?_), by omega, ?_, fun e => by unfold Go.Proofs.Ytcjokofebnfkkaa.wd; rw [if_pos e]⟩
        · show R i = row (co (R i)) (Go.Proofs.Ytcjokofebnfkkaa.wd n R)
          rw [← h1 i hi, row_co]
        · by_cases e : n = 0
          · unfold Go.Proofs.Ytcjokofebnfkkaa.wd; rw [if_pos e]; omega
          · have := anyB_false.1 hl 0 (by omega)
            rw [decide_eq_false_iff_not, h1 0 (by omega)] at this
            omega
theorem check_ok {w : World} {v : Value} {p q : Nat} {A : M} (h : Mt w v p q A) :
    Calls Try.prog 30 #[v] w fun e w' => e = .returned .nilIface ∧ Below w.heap.size w w' := by
  have := check_any v p _ w h.rd
  rw [h.bad] at this
  exact this
theorem width_ok {w : World} {v : Value} {p q : Nat} {A : M} (h : Mt w v p q A) :
    Calls Try.prog 32 #[v] w fun e w' => e = .returned (.int .i64 q) ∧ w' = w := by
  have := width_any v p _ w h.rd
  rw [h.wd] at this
  exact this
theorem check_bad {w : World} {v : Value} {n k : Nat} {R : Nat → List El} (h : RdM w v n R) (hk : Go.Proofs.Ytcjokofebnfkkaa.bad n R = k) (h0 : k ≠ 0) :
    Calls Try.prog 30 #[v] w fun e w' => e = .returned (.iface 53 (.int .i64 k)) ∧ Below w.heap.size w w' := by
  have := check_any v n _ w h
  rw [hk, show errV k = .iface 53 (.int .i64 k) from if_neg h0] at this
  exact this
/-- the first k rows are those of A -/
def first (A : M) (k : Nat) : M := fun i j => if i < k then A i j else 0
theorem first_up (A : M) (k : Nat) : up (first A k) k (A k) = first A (k + 1) := by
  funext i j
  unfold up first
  by_cases e : i = k
  · subst e; rw [if_pos rfl, if_pos (by omega)]
  · rw [if_neg e]
    by_cases h : i < k
    · rw [if_pos h, if_pos (by omega)]
    · rw [if_neg h, if_neg (by omega)]
theorem size8 : (Try.prog.info? 5).map (·.size) = some 1 := by kernel_rfl
theorem drop_all (f g : Nat → El) (q : Nat) : row f q ++ (row g q).drop (row f q).length = row f q := by
  rw [row_length, List.drop_eq_nil_of_le (by rw [row_length]; omega), List.append_nil]
end Go.Proofs.Ytcjokofebnfkkaa
