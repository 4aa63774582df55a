/- ReserveOne: the state between the steps; how many may write. -/
import Derived.Test.YtfeikmmojilmbaaDoorRvF
import Derived.Test.YtfeikmmojilmbaaDoorRvK
import Derived.Test.YtfeikmmojilmbaaDoorRvM
import Derived.Test.YtfeikmmojilmbaaDoorScr
namespace Go.Proofs.YtfeikmmojilmbaaDoor
open Go.RowKit
/-- the reserve t at p, in a law that began at w -/
structure VL (w : World) (p : Nat) (t : Rsv) (wc : World) : Prop where
  low : Below w.heap.size w wc
  isv : IsV wc p t
  hp : w.heap.size ≤ p
  ok : t.ok
variable {w wc w1 : World} {p : Nat} {t t' : Rsv}
theorem VL.old (h : VL w p t wc) (hb : Below wc.heap.size wc w1) : VL w p t w1 := ⟨h.low.trans (hb.mono h.low.size), h.isv.old hb, h.hp, h.ok⟩
theorem VL.on (h : VL w p t wc) (hI : IsV w1 p t') (hb : But (· = p) wc w1) (ho : t'.ok) : VL w p t' w1 :=
  ⟨h.low.trans (hb.below h.low.size (fun k hk => by rw [hk]; exact h.hp)), hI, h.hp, ho⟩
theorem VL.elsewhere (h : VL w p t wc) {F : Nat → Prop} (hb : But F wc w1) (hF : ∀ k, F k → w.heap.size ≤ k) (hn : ¬ F p) : VL w p t w1 :=
  ⟨h.low.trans (hb.below h.low.size hF), h.isv.but hb hn, h.hp, h.ok⟩
theorem VN.newV (h : VL w p t wc) (ty : TypeId) : VN w (· = p) wc.heap.size 4 (wc.alloc (.cells #[.int .i64 0, .int .i64 0, .int .i64 0, .int .i64 0] ty)) (fun _ => 0) :=
  ⟨RowAt.new wc 4 (.int .i64 0) ty, h.low.size, fun hf => by have := h.isv.lt; omega⟩
namespace Rsv
/-- how many of hosts 1 to i may write -/
def wrs (t : Rsv) : Nat → Nat
  | 0 => 0
  | i + 1 => if t.may ((i + 1 : Nat) : Int) true = true then wrs t i + 1 else wrs t i
theorem may_nat (t : Rsv) {k : Nat} (h1 : 1 ≤ k) (h9 : k ≤ 9) (wr : Bool) : t.mayB (k : Int) wr = t.may (k : Int) wr ∧ mayE (k : Int) = 0 := ⟨if_neg (noH_nat h1 h9), if_neg (noH_nat h1 h9)⟩
theorem wrs_free (h : t.kind = 0) : ∀ i, t.wrs i = i
  | 0 => rfl
  | i + 1 => by
    have e : t.may ((i + 1 : Nat) : Int) true = true := by
      unfold may
      rw [if_neg (by omega), if_neg (by omega), if_neg (by omega), if_neg (by omega)]
    unfold wrs
    rw [if_pos e, wrs_free h i]
theorem may_alone (h : t.kind = 1 ∨ t.kind = 2) (k : Int) : t.may k true = decide (t.host = k) := by
  unfold may
  rcases h with h | h
  · rw [if_pos h]; rfl
  · rw [if_neg (by omega), if_pos h]
theorem may_members (h3 : 3 ≤ t.kind) (h4 : t.kind ≤ 4) (k : Nat) : t.may (k : Int) true = decide (t.key k ≠ 0) := by
  unfold may
  rw [if_neg (by omega), if_neg (by omega), Int.toNat_natCast]
  by_cases e : t.kind = 3
  · rw [if_pos e]; rfl
  · rw [if_neg e, if_pos (by omega)]
theorem wrs_one (h : t.kind = 1 ∨ t.kind = 2) {m : Nat} (hm : t.host = m) (h1 : 1 ≤ m) : ∀ i, t.wrs i = if m ≤ i then 1 else 0
  | 0 => by rw [if_neg (by omega)]; rfl
  | i + 1 => by
    unfold wrs
    rw [may_alone h, wrs_one h hm h1 i, hm]
    by_cases e : m = i + 1
    · rw [if_pos (by rw [e]; exact decide_eq_true rfl), if_neg (by omega), if_pos (by omega)]
    · rw [if_neg (by rw [decide_eq_true_eq]; omega)]
      by_cases e2 : m ≤ i
      · rw [if_pos e2, if_pos (by omega)]
      · rw [if_neg e2, if_neg (by omega)]
theorem may_holder (h : t.ok) {k : Nat} (hk : t.host = k) (h1 : 1 ≤ k) : t.may (k : Int) true = true := by
  rcases h.held with ⟨e, _⟩ | ⟨m, e, _, _, e4, e5, e6⟩
  · omega
  · have em : m = k := by omega
    subst em
    by_cases e3 : 3 ≤ t.kind
    · rw [may_members e3 e6]; exact decide_eq_true e4
    · rw [may_alone (by omega)]; exact decide_eq_true hk
theorem wrs_le (t : Rsv) : ∀ i, t.wrs i ≤ i
  | 0 => Nat.le_refl _
  | i + 1 => by
    have := wrs_le t i
    unfold wrs
    split <;> omega
end Rsv
end Go.Proofs.YtfeikmmojilmbaaDoor
