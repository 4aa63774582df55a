/- IntentCovers: the intent and the law's own count side by side: the state between the steps, and what keeps it. -/
import Derived.Test.YtomfhjimdjfmnaeItL
import Derived.Test.YtomfhjimdjfmnaeItD
import Derived.Test.YtomfhjimdjfmnaeItE
import Derived.Test.YtomfhjimdjfmnaeItF
import Derived.Test.YtomfhjimdjfmnaeIntsS
import Derived.Test.YtomfhjimdjfmnaeScr
namespace Go.Proofs.Ytomfhjimdjfmnae
open Go.RowKit Go.Maps
/-- all places -/
def CF (p b g : Nat) (k : Nat) : Prop := k = p ∨ k = b ∨ k = g
/-- the intent t, and f counted at g -/
structure CS (w : World) (p b g : Nat) (t : Itn) (N : Nat) (f : Nat → Nat) (wc : World) : Prop where
  il : IL w p b t N wc
  row : RowAt wc g 40 (fun k => .int .i64 ((f k : Nat) : Int))
  hg : w.heap.size ≤ g
  np : g ≠ p
  nb : g ≠ b
variable {w wc w1 : World} {p b g N N' : Nat} {t t' : Itn} {f : Nat → Nat}
theorem CS.low (h : CS w p b g t N f wc) : Below w.heap.size w wc := h.il.low
theorem CS.old (h : CS w p b g t N f wc) (hb : Below wc.heap.size wc w1) : CS w p b g t N f w1 := ⟨h.il.old hb, h.row.old hb, h.hg, h.np, h.nb⟩
theorem CS.on (h : CS w p b g t N f wc) (hI : IsI w1 p b t' N') (hb : But (IF p b) wc w1) : CS w p b g t' N' f w1 :=
  ⟨h.il.on hI hb, h.row.but hb (fun e => by
    rcases e with e | e
    · exact h.np e
    · exact h.nb e), h.hg, h.np, h.nb⟩
theorem CS.elsewhere (h : CS w p b g t N f wc) {F : Nat → Prop} (hb : But F wc w1) (hF : ∀ k, F k → w.heap.size ≤ k) (hn : ∀ k, CF p b g k → ¬ F k) : CS w p b g t N f w1 :=
  ⟨⟨h.il.low.trans (hb.below h.il.low.size hF), h.il.int.but hb (hn p (.inl rfl)) (hn b (.inr (.inl rfl))), h.il.hp, h.il.hb⟩, h.row.but hb (hn g (.inr (.inr rfl))), h.hg, h.np, h.nb⟩
theorem CS.count (h : CS w p b g t N f wc) (k n : Nat) : CS w p b g t N (up f k n) (wc.setCell ⟨g, k, none⟩ (.int .i64 (n : Int))) := by
  have hb := but_cell wc g k (.int .i64 (n : Int))
  refine ⟨⟨h.il.low.trans (hb.below h.il.low.size (fun j hj => by rw [hj]; exact h.hg)), h.il.int.but hb (fun e => h.np e.symm) (fun e => h.nb e.symm), h.il.hp, h.il.hb⟩, (h.row.put k _).1.congr (fun j _ => ?_), h.hg, h.np, h.nb⟩
  by_cases e : j = k
  · subst e; rw [up_at, up_at]
  · rw [up_ne _ _ e, up_ne _ _ e]
theorem CS.lt (h : CS w p b g t N f wc) : ∀ k, CF p b g k → k < wc.heap.size := by
  rintro k (rfl | rfl | rfl)
  · exact h.il.int.lt
  · exact h.il.int.ltb
  · exact h.row.1
theorem VN.newC (h : CS w p b g t N f wc) (ty : TypeId) : VN w (CF p b g) wc.heap.size 2 (wc.alloc (.cells #[.int .i64 0, .int .i64 0] ty)) (fun _ => 0) :=
  ⟨RowAt.new wc 2 (.int .i64 0) ty, h.low.size, fun hf => by have := h.lt _ hf; omega⟩
theorem IF_CF {p b g k : Nat} (h : IF p b k) : CF p b g k := by
  rcases h with h | h
  · exact .inl h
  · exact .inr (.inl h)
/-- all that is known between two steps -/
def CX (w : World) (p b g wide : Nat) (t : Itn) (N : Nat) (wc : World) : Prop := CS w p b g t N t.many wc ∧ Itn.Cov t ∧ t.wide = wide
/-- is a number in a list? -/
theorem in_any (v : Value) (l : List Nat) (n : Nat) (w : World) (h : RdN w v l) (_hl : l.length ≤ 1000) : Calls Try.prog 10 #[v, .int .i64 (n : Int)] w fun e w' => e = .returned (.bool (decide (n ∈ l))) ∧ w' = w := by
  obtain ⟨ao, cap, rfl, _, _⟩ := h.len
  have HR : Hid (RdN w (.slice ao l.length cap) l) := h
  clear h
  go_enter Try.func10, Try.ntmps10
  go_wp2
  go_loop [5] (fun c => ∃ k : Nat, k ≤ l.length ∧ c = .int .i64 k ∧ Hid (∀ i, i < k → l.getD i 0 ≠ n)) (fun c => l.length - (intOf c).toNat)
  case atStart => exact ⟨0, Nat.zero_le _, rfl, fun i hi => absurd hi (Nat.not_lt_zero _)⟩
  case round =>
    obtain ⟨k, hk, rfl, HF⟩ := hrel
    by_cases hlt : k < l.length
    · obtain ⟨ad, rfl, hc⟩ := HR.out.at k hlt
      obtain ⟨x, hx⟩ : ∃ x, l.getD k 0 = x := ⟨_, rfl⟩
      unfold vi at hc
      rw [hx] at hc
      by_cases e : x = n
      · have HM : Hid (n ∈ l) := by
          (show n ∈ l)
          rw [← e, ← hx]
          simp [List.getD_eq_getElem?_getD, hlt]
        subst e
        clear hx
        generalize hln : l.length = ln at *
        clear hln
        go_wp2
        go_ret
        exact ⟨by rw [decide_eq_true HM.out]; rfl, rfl⟩
      · have hne : (((x : Nat) : Int) == ((n : Nat) : Int)) = false := by simp; omega
        have hne2 : ¬ ((x : Nat) : Int) = ((n : Nat) : Int) := by omega
        have HF2 : Hid (∀ i, i < k + 1 → l.getD i 0 ≠ n) := fun i hi => by
          by_cases ei : i = k
          · rw [ei, hx]; exact e
          · exact HF.out i (by omega)
        clear hx e
        have HL : Hid (∀ m, m = l.length → m = l.length) := fun _ h => h
        go_wp2
        go_round
        case rel => exact ⟨k + 1, by omega, by go_num, HF2⟩
        case measure => simp [intOf]; omega
    · have HM : Hid (n ∉ l) := fun q => by
        obtain ⟨i, hi, e⟩ := List.getElem_of_mem q
        exact HF.out i (by omega) (by simp [List.getD_eq_getElem?_getD, hi, e])
      go_wp2
      go_ret
      exact ⟨by rw [decide_eq_false HM.out]; rfl, rfl⟩
end Go.Proofs.Ytomfhjimdjfmnae
