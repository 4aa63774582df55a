/- Texts of plain mathematics, of memory and of walks, in one. -/
import Derived.Test.YtilfjahbdlepjaaGreatDoorRows
import Derived.Test.YtilfjahbdlepjaaGreatDoorGe
import Derived.Test.YtilfjahbdlepjaaGreatDoorMa
import Derived.WalkKit
import Derived.ProofKit
import Derived.OpenShut
import Derived.Laws.BitsAllLaws
import Derived.Laws.Bits128
import Derived.Laws.CopyOwn
import Derived.Deep.QuietTactic
import Derived.BigQuiet
import Derived.Laws.AppendOwnNone
import Derived.Laws.IdiomStrings
import Derived.Laws.DeepStrings4
/- What each function of package field answers, whatever it is given: by walks over the program. -/
namespace Go.Proofs.YtilfjahbdlepjaaGreatDoor
open Go.ChangeShapes Go.WideShapes Go.ChangeAt Go.RowKit
theorem and128 (a : Nat) (ha : a < 256) : (bits BinOp.and IntKind.u8 (a : Int) 128 != 0) = decide (128 ≤ a) := by
  have e : bits BinOp.and IntKind.u8 (a : Int) 128 = ((a &&& 128 : Nat) : Int) := u8_and_nat a 128 ha (by omega)
  rw [e]
  have : ∀ x : Nat, x < 256 → ((x &&& 128 : Nat) != 0) = decide (128 ≤ x) := by decide +kernel
  have h := this a ha
  rw [← h, Bool.eq_iff_iff]; simp
theorem and1 (a : Nat) (ha : a < 256) : (bits BinOp.and IntKind.u8 (a : Int) 1 != 0) = decide (a % 2 = 1) := by
  have e : bits BinOp.and IntKind.u8 (a : Int) 1 = ((a &&& 1 : Nat) : Int) := u8_and_nat a 1 ha (by omega)
  rw [e, Nat.and_one_is_mod, Bool.eq_iff_iff]; simp; omega
theorem i64_and1 (n : Int) : bits .and .i64 n 1 = n % 2 := by
  have h1 : (BitVec.ofInt 64 1).toNat = 2 ^ 1 - 1 := by decide
  have key : (BitVec.ofInt 64 n &&& BitVec.ofInt 64 1).toNat = (n % ((2 ^ 64 : Nat) : Int)).toNat % 2 ^ 1 := by
    rw [BitVec.toNat_and, BitVec.toNat_ofInt, h1, Nat.and_two_pow_sub_one_eq_mod]
  show IntKind.i64.wrap ((BitVec.ofInt 64 n &&& BitVec.ofInt 64 1).toNat : Nat) = n % 2
  rw [key, IntKind.wrap_i64]
  omega
theorem iand1 (a : Nat) : (bits BinOp.and IntKind.i64 (a : Int) 1 != 0) = decide (a % 2 = 1) := by
  rw [i64_and1, Bool.eq_iff_iff]; simp; omega
theorem add_any (a b : Nat) (ha : a < 256) (hb : b < 256) (w : World) :
    Calls Tryz.prog 107 #[.int .u8 a, .int .u8 b] w fun e w' => e = .returned (.int .u8 ((a ^^^ b : Nat) : Int)) ∧ w' = w := by
  go_enter Tryz.func107, Tryz.ntmps107
  go_wp2
  go_ret
  exact ⟨ret_int (u8_xor_nat a b ha hb), rfl⟩
theorem xt_hi (a : Nat) (h : 128 ≤ a) : bits BinOp.xor IntKind.u8 ((a : Int) * 2 % 256) 29 = ((GF.xt a : Nat) : Int) := by
  have e : (a : Int) * 2 % 256 = ((2 * a % 256 : Nat) : Int) := by omega
  rw [e, show (29 : Int) = ((29 : Nat) : Int) from rfl, u8_xor_nat _ _ (by omega) (by omega)]
  unfold GF.xt
  rw [show Nat.ble 128 a = true from Nat.ble_eq ▸ h]; rfl
theorem xt_lo (a : Nat) (h : ¬ 128 ≤ a) : (a : Int) * 2 = ((GF.xt a : Nat) : Int) := by
  unfold GF.xt
  rw [show Nat.ble 128 a = false from by rw [Bool.eq_false_iff]; intro q; exact h (Nat.le_of_ble_eq_true q)]
  simp; omega
theorem timesX_any (a : Nat) (ha : a < 256) (w : World) :
    Calls Tryz.prog 108 #[.int .u8 a] w fun e w' => e = .returned (.int .u8 ((GF.xt a : Nat) : Int)) ∧ w' = w := by
  have h128 := and128 a ha
  by_cases h : 128 ≤ a
  · rw [decide_eq_true h] at h128
    go_enter Tryz.func108, Tryz.ntmps108
    go_wp2
    go_ret
    exact ⟨ret_int (xt_hi a h), rfl⟩
  · rw [decide_eq_false h] at h128
    go_enter Tryz.func108, Tryz.ntmps108
    go_wp2
    go_ret
    exact ⟨ret_int (xt_lo a h), rfl⟩
theorem half (y : Nat) : Value.int IntKind.u8 ((y : Int) / 2) = Value.int IntKind.u8 ((y / 2 : Nat) : Int) := by
  rw [show (y : Int) / 2 = ((y / 2 : Nat) : Int) from by omega]
theorem half64 (y : Nat) : Value.int IntKind.i64 ((y : Int) / 2) = Value.int IntKind.i64 ((y / 2 : Nat) : Int) := by
  rw [show (y : Int) / 2 = ((y / 2 : Nat) : Int) from by omega]
set_option maxHeartbeats 400000 in
theorem mul_any (a b : Nat) (ha : a < 256) (hb : b < 256) (w : World) :
    Calls Tryz.prog 95 #[.int .u8 a, .int .u8 b] w fun e w' => e = .returned (.int .u8 ((GF.mul a b : Nat) : Int)) ∧ w' = w := by
  go_enter Tryz.func95, Tryz.ntmps95
  go_wp2
  go_loop [0, 1, 5] (fun s t u => ∃ x y p : Nat, x < 256 ∧ y < 256 ∧ p < 256 ∧ s = .int .u8 x ∧ t = .int .u8 y ∧ u = .int .u8 p ∧ Hid (p ^^^ GF.mul x y = GF.mul a b)) (fun _ t _ => (intOf t).toNat)
  case atStart => exact ⟨a, b, 0, ha, hb, by omega, rfl, rfl, rfl, Nat.zero_xor _⟩
  case round =>
    obtain ⟨x, y, p, hx, hy, hp, rfl, rfl, rfl, HI⟩ := hrel
    by_cases hz : y = 0
    · subst hz
      go_wp2
      go_ret
      exact ⟨ret_int (by rw [← HI.out, GF.mul_zero, Nat.xor_zero]), rfl⟩
    · have hz' : ((y : Int) != 0) = true := by rw [bne_iff_ne]; omega
      have h1 := and1 y hy
      by_cases ho : y % 2 = 1
      · rw [decide_eq_true ho] at h1
        have HO : Hid (y % 2 = 1) := ho
        clear ho
        go_wp2_with (first | (go_at_call 107; refine (add_any _ _ hp hx _).mono ?_; rintro e w' ⟨rfl, rfl⟩) | (go_at_call 108; refine (timesX_any _ hx _).mono ?_; rintro e w' ⟨rfl, rfl⟩))
        go_round
        case rel => exact ⟨GF.xt x, y / 2, p ^^^ x, GF.xt_lt hx, by omega, GF.xor_lt hp hx, rfl, half y, rfl, (GF.mul_odd p hy HO.out).symm.trans HI.out⟩
        case measure => simp [intOf]; omega
      · rw [decide_eq_false ho] at h1
        have HO : Hid (¬ y % 2 = 1) := ho
        clear ho
        go_wp2_with (first | (go_at_call 108; refine (timesX_any _ hx _).mono ?_; rintro e w' ⟨rfl, rfl⟩))
        go_round
        case rel => exact ⟨GF.xt x, y / 2, p, GF.xt_lt hx, by omega, hp, rfl, half y, rfl, (GF.mul_even p hy HO.out).symm.trans HI.out⟩
        case measure => simp [intOf]; omega
theorem pow_odd {p x k : Nat} (hp : p < 256) (hx : x < 256) (h : k % 2 = 1) : GF.mul (GF.mul p x) (GF.pow (GF.mul x x) (k / 2)) = GF.mul p (GF.pow x k) := by
  rw [GF.pow_sq hx, GF.mul_assoc _ hp hx]
  congr 1
  have : k = 2 * (k / 2) + 1 := by omega
  exact (congrArg (GF.pow x) this).symm
theorem pow_even {x k : Nat} (p : Nat) (hx : x < 256) (h : ¬ k % 2 = 1) : GF.mul p (GF.pow (GF.mul x x) (k / 2)) = GF.mul p (GF.pow x k) := by
  rw [GF.pow_sq hx, show 2 * (k / 2) = k by omega]
set_option maxHeartbeats 400000 in
theorem power_any (a n : Nat) (ha : a < 256) (hn : n ≤ 9223372036854775807) (w : World) :
    Calls Tryz.prog 115 #[.int .u8 a, .int .i64 n] w fun e w' => e = .returned (.int .u8 ((GF.pow a n : Nat) : Int)) ∧ w' = w := by
  go_enter Tryz.func115, Tryz.ntmps115
  go_wp2
  go_loop [0, 1, 5] (fun s t u => ∃ x k p : Nat, x < 256 ∧ k ≤ 9223372036854775807 ∧ p < 256 ∧ s = .int .u8 x ∧ t = .int .i64 k ∧ u = .int .u8 p ∧ Hid (GF.mul p (GF.pow x k) = GF.pow a n)) (fun _ t _ => (intOf t).toNat)
  case atStart => exact ⟨a, n, 1, ha, hn, by omega, rfl, rfl, rfl, GF.one_mul (GF.pow_lt ha n)⟩
  case round =>
    obtain ⟨x, k, p, hx, hk, hp, rfl, rfl, rfl, HI⟩ := hrel
    by_cases hz : k = 0
    · subst hz
      go_wp2
      go_ret
      exact ⟨ret_int (by rw [← HI.out, GF.pow, GF.mul_one]), rfl⟩
    · have hz' : (0 : Int) < (k : Int) := by omega
      have h1 := iand1 k
      by_cases ho : k % 2 = 1
      · rw [decide_eq_true ho] at h1
        have HO : Hid (k % 2 = 1) := ho
        clear ho
        go_wp2_with fail
        refine (mul_any _ _ hp hx _).mono ?_
        rintro e w' ⟨rfl, rfl⟩
        go_wp2_with fail
        refine (mul_any _ _ hx hx _).mono ?_
        rintro e w' ⟨rfl, rfl⟩
        go_wp2_with fail
        go_round
        case rel => exact ⟨GF.mul x x, k / 2, GF.mul p x, GF.mul_lt x hx, by omega, GF.mul_lt x hp, rfl, half64 k, rfl, (pow_odd hp hx HO.out).trans HI.out⟩
        case measure => simp [intOf]; omega
      · rw [decide_eq_false ho] at h1
        have HO : Hid (¬ k % 2 = 1) := ho
        clear ho
        go_wp2_with fail
        refine (mul_any _ _ hx hx _).mono ?_
        rintro e w' ⟨rfl, rfl⟩
        go_wp2_with fail
        go_round
        case rel => exact ⟨GF.mul x x, k / 2, p, GF.mul_lt x hx, by omega, hp, rfl, half64 k, rfl, (pow_even p hx HO.out).trans HI.out⟩
        case measure => simp [intOf]; omega
end Go.Proofs.YtilfjahbdlepjaaGreatDoor

/- Lists of bytes in memory: a slice that reads as a list of elements, and one that the call itself made; what keeps them. -/
namespace Go.Proofs.YtilfjahbdlepjaaGreatDoor
open Go.RowKit El Pol
/-- an element as a value -/
abbrev eb (x : El) : Value := .int .u8 ((x.val : Nat) : Int)
/-- the slice v reads as xs -/
def Rd (w : World) (v : Value) (xs : List El) : Prop :=
  (v = .slice none 0 0 ∧ xs = []) ∨
  ∃ ad cap, v = .slice (some ad) xs.length cap ∧ xs.length ≤ cap ∧ cap ≤ 9223372036854775807 ∧ ∀ i, i < xs.length → w.cell? (ad.add i) = some (.int .u8 (((co xs i).val : Nat) : Int))
/-- the slice v is the call's own, its block from B on, and holds xs -/
def Ow (B : Nat) (w : World) (v : Value) (xs : List El) : Prop := w.ownsRow B 5 1 v xs.length (xs.map eb)
theorem map_eb (xs : List El) (i : Nat) (h : i < xs.length) : (xs.map eb)[i]? = some (.int .u8 (((co xs i).val : Nat) : Int)) := by
  simp [List.getElem?_map, List.getElem?_eq_getElem h, co, List.getD_eq_getElem?_getD]
theorem Rd.kept {w w' : World} {v : Value} {xs : List El} (h : Rd w v xs) (hk : xs ≠ [] → ∀ k, v.ownBlock = some k → k < w.heap.size → w'.heap[k]? = w.heap[k]?) : Rd w' v xs := by
  rcases h with h | ⟨ad, cap, rfl, h1, h2, h3⟩
  · exact .inl h
  · refine .inr ⟨ad, cap, rfl, h1, h2, fun i hi => ?_⟩
    have hc := h3 i hi
    have hb := World.block_lt_of_cell? w _ hc
    rw [add_block] at hb
    rw [World.cell?_of_block (w := w) (by rw [add_block]; exact hk (List.length_pos_iff.1 (by omega)) ad.block rfl hb)]
    exact hc
theorem Rd.old {w w' : World} {v : Value} {xs : List El} (h : Rd w v xs) (hb : Below w.heap.size w w') : Rd w' v xs :=
  h.kept (fun _ k _ hk => hb.block k hk)
theorem Rd.grown {w w' : World} {v : Value} {xs : List El} {g : Nat} (h : Rd w v xs) (hg : w.grownBy w' (some g)) (hne : xs ≠ [] → v.ownBlock ≠ some g) : Rd w' v xs :=
  h.kept (fun hx k hk hlt => hg.block k hlt (fun e => hne hx (by rw [hk, e])))
theorem Rd.alloc {w : World} {v : Value} {xs : List El} (h : Rd w v xs) (o : Obj) : Rd (w.alloc o) v xs :=
  h.kept (fun _ k _ hk => Below.heap_alloc w o k hk)
theorem Rd.drew {w : World} {v : Value} {xs : List El} (h : Rd w v xs) : Rd w.drew v xs := h.kept (fun _ _ _ _ => rfl)
theorem Rd.len {w : World} {v : Value} {xs : List El} (h : Rd w v xs) : ∃ ao cap, v = .slice ao xs.length cap ∧ xs.length ≤ cap ∧ cap ≤ 9223372036854775807 := by
  rcases h with ⟨rfl, rfl⟩ | ⟨ad, cap, rfl, h1, h2, _⟩
  · exact ⟨none, 0, rfl, Nat.le_refl _, by omega⟩
  · exact ⟨some ad, cap, rfl, h1, h2⟩
theorem Rd.lt {w : World} {v : Value} {xs : List El} (h : Rd w v xs) (hx : xs ≠ []) : ∀ k, v.ownBlock = some k → k < w.heap.size := by
  intro k hk
  rcases h with ⟨_, rfl⟩ | ⟨ad, cap, rfl, h1, h2, h3⟩
  · exact absurd rfl hx
  · have hb := World.block_lt_of_cell? w _ (h3 0 (List.length_pos_iff.2 hx))
    rw [add_block] at hb
    simp only [Value.ownBlock, Option.some.injEq] at hk
    omega
theorem Rd.ne {w : World} {v : Value} {xs : List El} {g : Nat} (h : Rd w v xs) (hg : w.heap.size ≤ g) : xs ≠ [] → v.ownBlock ≠ some g :=
  fun hx e => by have := h.lt hx g e; omega
theorem Ow.rd {B : Nat} {w : World} {v : Value} {xs : List El} (h : Ow B w v xs) : Rd w v xs := by
  have h0 := h
  obtain ⟨h1, h2⟩ := h
  rcases h2 with ⟨rfl, hn⟩ | ⟨g, cap, cur, rfl, hb, hg, hc, hm, _⟩
  · exact .inl ⟨rfl, List.length_eq_zero_iff.1 hn⟩
  · refine .inr ⟨_, cap, rfl, hc, by unfold maxLen at hm; omega, fun i hi => ?_⟩
    have e : (⟨g, 0, none⟩ : Addr).add i = ⟨g, i, none⟩ := by unfold Addr.add; split <;> simp_all
    rw [e, World.ownsRow.cellAt h0 i (by omega)]
    exact map_eb xs i hi
theorem Ow.old {B : Nat} {w w' : World} {v : Value} {xs : List El} (h : Ow B w v xs) (hb : Below w.heap.size w w') : Ow B w' v xs := by
  obtain ⟨h1, h2⟩ := h
  refine ⟨h1, ?_⟩
  rcases h2 with h2 | ⟨g, cap, cur, rfl, hB, hg, rest⟩
  · exact .inl h2
  · exact .inr ⟨g, cap, cur, rfl, hB, by rw [hb.block g (lt_of_block hg)]; exact hg, rest⟩
theorem Ow.grown {B : Nat} {w w' : World} {v : Value} {xs : List El} {g : Nat} (h : Ow B w v xs) (hg : w.grownBy w' (some g)) (hne : v.ownBlock ≠ some g) : Ow B w' v xs :=
  World.ownsRow.kept h hg (.inr hne)
theorem Ow.mono {B B' : Nat} {w : World} {v : Value} {xs : List El} (h : Ow B w v xs) (hB : B' ≤ B) : Ow B' w v xs := by
  obtain ⟨h1, h2⟩ := h
  refine ⟨h1, ?_⟩
  rcases h2 with h2 | ⟨g, cap, cur, rfl, hb, rest⟩
  · exact .inl h2
  · exact .inr ⟨g, cap, cur, rfl, by omega, rest⟩
theorem Ow.lt {B : Nat} {w : World} {v : Value} {xs : List El} (h : Ow B w v xs) : ∀ k, v.ownBlock = some k → B ≤ k ∧ k < w.heap.size := World.ownsRow.lt h
/-- what is owned and not empty has an address -/
theorem Ow.at {B : Nat} {w : World} {v : Value} {xs : List El} (h : Ow B w v xs) (hx : xs ≠ []) : ∃ g cap, v = .slice (some ⟨g, 0, none⟩) xs.length cap ∧ B ≤ g ∧ g < w.heap.size ∧ xs.length ≤ cap ∧ cap ≤ 9223372036854775807 := by
  obtain ⟨h1, h2⟩ := h
  rcases h2 with ⟨rfl, hn⟩ | ⟨g, cap, cur, rfl, hb, hg, hc, hm, _⟩
  · exact absurd (List.length_eq_zero_iff.1 hn) hx
  · exact ⟨g, cap, rfl, hb, lt_of_block hg, hc, by unfold maxLen at hm; omega⟩
theorem Ow.cell {B g n cap : Nat} {w : World} {xs : List El} (h : Ow B w (.slice (some ⟨g, 0, none⟩) n cap) xs) (hn : n = xs.length) (i : Nat) (hi : i < n) : w.cell? ⟨g, i, none⟩ = some (.int .u8 (((co xs i).val : Nat) : Int)) := by
  subst hn
  rw [World.ownsRow.cellAt h i (by omega)]
  exact map_eb xs i hi
theorem Ow.free {B g n cap : Nat} {w : World} {xs : List El} (h : Ow B w (.slice (some ⟨g, 0, none⟩) n cap) xs) (hn : n = xs.length) (i : Nat) : w.frozen? ⟨g, i, none⟩ = false := by
  subst hn; exact World.ownsRow.frozenAt h i
theorem Ow.stored {B g n cap : Nat} {w : World} {xs : List El} (h : Ow B w (.slice (some ⟨g, 0, none⟩) n cap) xs) (hn : n = xs.length) (i : Nat) (x : El) :
    Ow B (w.setCell ⟨g, i, none⟩ (.int .u8 ((x.val : Nat) : Int))) (.slice (some ⟨g, 0, none⟩) n cap) (xs.set i x) ∧ w.grownBy (w.setCell ⟨g, i, none⟩ (.int .u8 ((x.val : Nat) : Int))) (some g) := by
  subst hn
  have := World.ownsRow.stored h i (eb x)
  refine ⟨?_, this.2⟩
  unfold Ow
  rw [List.length_set, List.map_set]
  exact this.1
/-- cut at its end -/
theorem Ow.cut {B g n cap m : Nat} {w : World} {xs : List El} (h : Ow B w (.slice (some ⟨g, 0, none⟩) n cap) xs) (hn : n = xs.length) (hm : m ≤ n) : Ow B w (.slice (some ⟨g, 0, none⟩) m cap) (xs.take m) := by
  subst hn
  obtain ⟨h1, h2⟩ := h
  have hl : (xs.take m).length = m := by rw [List.length_take]; omega
  rcases h2 with ⟨h2, _⟩ | ⟨g', cap', cur, he, hb, hg, hc, hmx, hs, ht⟩
  · cases h2
  · simp only [Value.slice.injEq, Option.some.injEq, Addr.mk.injEq, true_and, and_true] at he
    obtain ⟨rfl, rfl⟩ := he
    refine ⟨by rw [hl, List.length_map, hl, Nat.mul_one], .inr ⟨g, cap, cur, by rw [hl], hb, hg, by rw [hl]; omega, hmx, hs, ?_⟩⟩
    rw [hl, List.map_take, ← ht, List.take_take]
    congr 1
    omega
/-- the first k of f, one behind the other -/
def row (f : Nat → El) (k : Nat) : List El := (List.range k).map f
theorem row_length (f : Nat → El) (k : Nat) : (row f k).length = k := by simp [row]
theorem row_succ (f : Nat → El) (k : Nat) : row f (k + 1) = row f k ++ [f k] := by simp [row, List.range_succ]
theorem co_row (f : Nat → El) (k i : Nat) : co (row f k) i = if i < k then f i else 0 := by
  by_cases h : i < k
  · simp [co, row, h]
  · rw [if_neg h]; exact co_beyond _ _ (by rw [row_length]; omega)
theorem row_co (l : List El) : row (co l) l.length = l := by
  apply List.ext_getElem (by simp [row])
  intro i h1 h2
  simp [row, co, List.getD_eq_getElem?_getD, List.getElem?_eq_getElem h2]
theorem row_congr {f g : Nat → El} {k : Nat} (h : ∀ i, i < k → f i = g i) : row f k = row g k := List.map_congr_left (fun i hi => h i (List.mem_range.1 hi))
end Go.Proofs.YtilfjahbdlepjaaGreatDoor

/- Lists of lists of bytes in memory: a slice of slices that reads as rows, and one that the call itself made, row by row; what keeps them. -/
namespace Go.Proofs.YtilfjahbdlepjaaGreatDoor
open Go.RowKit El Pol
/-- the slice v reads as n rows -/
def RdM (w : World) (v : Value) (n : Nat) (a : Nat → List El) : Prop :=
  (v = .slice none 0 0 ∧ n = 0) ∨
  ∃ ad cap, ∃ rv : Nat → Value, v = .slice (some ad) n cap ∧ n ≤ cap ∧ cap ≤ 9223372036854775807 ∧ ∀ i, i < n → w.cell? (ad.add i) = some (rv i) ∧ Rd w (rv i) (a i)
theorem RdM.old {w w' : World} {v : Value} {n : Nat} {a : Nat → List El} (h : RdM w v n a) (hb : Below w.heap.size w w') : RdM w' v n a := by
  rcases h with h | ⟨ad, cap, rv, rfl, h1, h2, h3⟩
  · exact .inl h
  · refine .inr ⟨ad, cap, rv, rfl, h1, h2, fun i hi => ?_⟩
    have hc := h3 i hi
    exact ⟨by rw [hb.cell (World.block_lt_of_cell? w _ hc.1)]; exact hc.1, hc.2.old hb⟩
theorem RdM.len {w : World} {v : Value} {n : Nat} {a : Nat → List El} (h : RdM w v n a) : ∃ ao cap, v = .slice ao n cap ∧ n ≤ cap ∧ cap ≤ 9223372036854775807 := by
  rcases h with ⟨rfl, rfl⟩ | ⟨ad, cap, rv, rfl, h1, h2, _⟩
  · exact ⟨none, 0, rfl, Nat.le_refl _, by omega⟩
  · exact ⟨some ad, cap, rfl, h1, h2⟩
theorem RdM.some {w : World} {ao : Option Addr} {n cap : Nat} {a : Nat → List El} (h : RdM w (.slice ao n cap) n a) (i : Nat) (hi : i < n) :
    ∃ ad av cv, ao = .some ad ∧ w.cell? (ad.add i) = .some (.slice av (a i).length cv) ∧ Rd w (.slice av (a i).length cv) (a i) := by
  rcases h with ⟨_, rfl⟩ | ⟨ad, cap', rv, he, _, _, h3⟩
  · omega
  · simp only [Value.slice.injEq] at he
    obtain ⟨rfl, _, rfl⟩ := he
    obtain ⟨hc, hr⟩ := h3 i hi
    obtain ⟨av, cv, e, _, _⟩ := hr.len
    rw [e] at hc hr
    exact ⟨ad, av, cv, rfl, hc, hr⟩
theorem RdM.congr {w : World} {v : Value} {n : Nat} {a b : Nat → List El} (h : RdM w v n a) (e : ∀ i, i < n → a i = b i) : RdM w v n b := by
  rcases h with h | ⟨ad, cap, rv, rfl, h1, h2, h3⟩
  · exact .inl h
  · exact .inr ⟨ad, cap, rv, rfl, h1, h2, fun i hi => ⟨(h3 i hi).1, by rw [← e i hi]; exact (h3 i hi).2⟩⟩
/-- the slice of slices v is the call's own, its rows too, each another one -/
structure OwM (B : Nat) (w : World) (v : Value) (n : Nat) (a : Nat → List El) (rv : Nat → Value) : Prop where
  out : w.ownsRow B 82 1 v n ((List.range n).map rv)
  row : ∀ i, i < n → Ow B w (rv i) (a i)
  apart : ∀ i j, i < n → j < n → i ≠ j → (rv i).ownBlock = none ∨ (rv i).ownBlock ≠ (rv j).ownBlock
theorem OwM.nil (B : Nat) (w : World) (a : Nat → List El) (rv : Nat → Value) : OwM B w (.slice none 0 0) 0 a rv :=
  ⟨World.ownsRow_nil _ _ _ _, fun i hi => by omega, fun i j hi => by omega⟩
theorem ownsRow_mono {B B' : Nat} {w : World} {e : TypeId} {v : Value} {n : Nat} {xs : List Value} (h : w.ownsRow B e 1 v n xs) (hB : B' ≤ B) : w.ownsRow B' e 1 v n xs := by
  obtain ⟨h1, h2⟩ := h
  refine ⟨h1, ?_⟩
  rcases h2 with h2 | ⟨g, cap, cur, rfl, hb, rest⟩
  · exact .inl h2
  · exact .inr ⟨g, cap, cur, rfl, by omega, rest⟩
theorem OwM.old {B : Nat} {w w' : World} {v : Value} {n : Nat} {a : Nat → List El} {rv : Nat → Value} (h : OwM B w v n a rv) (hb : Below w.heap.size w w') : OwM B w' v n a rv :=
  ⟨ownsRow_old h.out hb, fun i hi => (h.row i hi).old hb, h.apart⟩
theorem OwM.mono {B B' : Nat} {w : World} {v : Value} {n : Nat} {a : Nat → List El} {rv : Nat → Value} (h : OwM B w v n a rv) (hB : B' ≤ B) : OwM B' w v n a rv :=
  ⟨ownsRow_mono h.out hB, fun i hi => (h.row i hi).mono hB, h.apart⟩
theorem OwM.congr {B : Nat} {w : World} {v : Value} {n : Nat} {a b : Nat → List El} {rv : Nat → Value} (h : OwM B w v n a rv) (e : ∀ i, i < n → a i = b i) : OwM B w v n b rv :=
  ⟨h.out, fun i hi => by rw [← e i hi]; exact h.row i hi, h.apart⟩
theorem OwM.rd {B : Nat} {w : World} {v : Value} {n : Nat} {a : Nat → List El} {rv : Nat → Value} (h : OwM B w v n a rv) : RdM w v n a := by
  have h0 := h.out
  rcases h.out.2 with ⟨rfl, hn⟩ | ⟨g, cap, cur, rfl, hb, hg, hc, hm, _⟩
  · exact .inl ⟨rfl, hn⟩
  · refine .inr ⟨⟨g, 0, none⟩, cap, rv, rfl, hc, by unfold maxLen at hm; omega, fun i hi => ⟨?_, (h.row i hi).rd⟩⟩
    have e : (⟨g, 0, none⟩ : Addr).add i = ⟨g, i, none⟩ := by unfold Addr.add; split <;> simp_all
    rw [e, World.ownsRow.cellAt h0 i (by omega)]
    exact range_map_at rv n i hi
/-- the outer row and a row of bytes are two blocks: their elements are of two types -/
theorem own_types {B B' : Nat} {w : World} {v u : Value} {n : Nat} {xs : List Value} {ys : List El} (h : w.ownsRow B 82 1 v n xs) (k : Ow B' w u ys) : v.ownBlock = none ∨ v.ownBlock ≠ u.ownBlock := by
  rcases h.2 with ⟨rfl, _⟩ | ⟨g, cap, cur, rfl, _, hg, _⟩
  · exact .inl rfl
  · right
    rcases k.2 with ⟨rfl, _⟩ | ⟨g', cap', cur', rfl, _, hg', _⟩
    · simp [Value.ownBlock]
    · simp only [Value.ownBlock]
      intro e
      have : g = g' := Option.some.inj e
      subst this
      rw [hg] at hg'
      simp at hg'
/-- a row more -/
theorem OwM.push {B : Nat} {w w' : World} {v v' r : Value} {n : Nat} {a : Nat → List El} {rv : Nat → Value} {b : List El} (h : OwM B w v n a rv) (hr : Ow B w r b)
    (hne : ∀ i, i < n → (rv i).ownBlock = none ∨ (rv i).ownBlock ≠ r.ownBlock) (hg : w.grownBy w' v.ownBlock) (ho : w'.ownsRow B 82 1 v' (n + 1) ((List.range n).map rv ++ [r])) :
    OwM B w' v' (n + 1) (fun i => if i = n then b else a i) (fun i => if i = n then r else rv i) := by
  have kept : ∀ {u : Value} {ys : List El}, Ow B w u ys → Ow B w' u ys := fun {u ys} k => World.ownsRow.kept k hg (by
    rcases own_types h.out k with e | e
    · rw [e]; cases u.ownBlock <;> simp
    · exact .inr (fun q => e q.symm))
  refine ⟨?_, fun i hi => ?_, fun i j hi hj hij => ?_⟩
  · have e : (List.range (n + 1)).map (fun i => if i = n then r else rv i) = (List.range n).map rv ++ [r] := by
      rw [List.range_succ, List.map_append]
      congr 1
      · exact List.map_congr_left (fun i hi => if_neg (by have := List.mem_range.1 hi; omega))
      · simp
    rw [e]; exact ho
  · by_cases e : i = n
    · rw [if_pos e, if_pos e]; exact kept hr
    · rw [if_neg e, if_neg e]; exact kept (h.row i (by omega))
  · by_cases ei : i = n
    · rw [if_pos ei, if_neg (by omega)]
      rcases hne j (by omega) with q | q
      · by_cases hr0 : r.ownBlock = none
        · exact .inl hr0
        · exact .inr (by rw [q]; exact hr0)
      · exact .inr (fun e => q e.symm)
    · rw [if_neg ei]
      by_cases ej : j = n
      · rw [if_pos ej]; exact hne i (by omega)
      · rw [if_neg ej]; exact h.apart i j (by omega) (by omega) hij
/-- a byte of a row, written -/
theorem OwM.stored {B g cap : Nat} {w : World} {v : Value} {n : Nat} {a : Nat → List El} {rv : Nat → Value} (h : OwM B w v n a rv) (i : Nat) (hi : i < n) (hrv : rv i = .slice (some ⟨g, 0, none⟩) (a i).length cap) (j : Nat) (x : El) :
    OwM B (w.setCell ⟨g, j, none⟩ (.int .u8 ((x.val : Nat) : Int))) v n (fun k => if k = i then (a i).set j x else a k) rv ∧ w.grownBy (w.setCell ⟨g, j, none⟩ (.int .u8 ((x.val : Nat) : Int))) (some g) := by
  have hr := h.row i hi
  rw [hrv] at hr
  have hs := hr.stored rfl j x
  refine ⟨⟨?_, fun k hk => ?_, h.apart⟩, hs.2⟩
  · refine World.ownsRow.kept h.out hs.2 ?_
    have := own_types h.out (h.row i hi)
    rw [hrv] at this
    simpa [Value.ownBlock] using this
  · by_cases e : k = i
    · rw [if_pos e, e, hrv]
      have := hs.1
      unfold Ow at this ⊢
      rw [List.length_set] at this ⊢
      exact this
    · rw [if_neg e]
      refine World.ownsRow.kept (h.row k hk) hs.2 ?_
      have := h.apart k i hk hi e
      rw [hrv] at this
      simpa [Value.ownBlock] using this
end Go.Proofs.YtilfjahbdlepjaaGreatDoor

/- Matrices in memory: rows that are stored, swapped, and changed one by one; one byte list copied over another. -/
namespace Go.Proofs.YtilfjahbdlepjaaGreatDoor
open Go.RowKit El Pol
/-- p rows of q elements each -/
abbrev rws (A : Nat → Nat → El) (q : Nat) : Nat → List El := fun i => row (A i) q
theorem rws_up (A : Nat → Nat → El) (q i : Nat) (f : Nat → El) : up (rws A q) i (row f q) = rws (up A i f) q := by
  funext k
  by_cases h : k = i
  · subst h; rw [up_at]; show _ = row (up A k f k) q; rw [up_at]
  · rw [up_ne _ _ h]; show _ = row (up A i f k) q; rw [up_ne _ _ h]
theorem OwM.cell {B g n m cap : Nat} {w : World} {a : Nat → List El} {rv : Nat → Value} (h : OwM B w (.slice (some ⟨g, 0, none⟩) m cap) n a rv) (i : Nat) (hi : i < n) : w.cell? ⟨g, i, none⟩ = some (rv i) := by
  have h0 := h.out
  obtain ⟨_, h2⟩ := h0
  have hm : m = n := by
    rcases h2 with ⟨e, _⟩ | ⟨g', c', cur, e, _⟩
    · cases e
    · simp only [Value.slice.injEq] at e; exact e.2.1
  subst hm
  rw [World.ownsRow.cellAt h.out i (by omega)]
  exact range_map_at rv m i hi
theorem OwM.free {B g n m cap : Nat} {w : World} {a : Nat → List El} {rv : Nat → Value} (h : OwM B w (.slice (some ⟨g, 0, none⟩) m cap) n a rv) (i : Nat) : w.frozen? ⟨g, i, none⟩ = false := by
  obtain ⟨_, h2⟩ := h.out
  have hm : m = n := by
    rcases h2 with ⟨e, _⟩ | ⟨g', c', cur, e, _⟩
    · cases e
    · simp only [Value.slice.injEq] at e; exact e.2.1
  subst hm
  exact World.ownsRow.frozenAt h.out i
theorem OwM.lt {B g n m cap : Nat} {w : World} {a : Nat → List El} {rv : Nat → Value} (h : OwM B w (.slice (some ⟨g, 0, none⟩) m cap) n a rv) : B ≤ g ∧ g < w.heap.size := World.ownsRow.lt h.out g rfl
/-- a row changed -/
theorem OwM.turned {B : Nat} {w w' : World} {v : Value} {n : Nat} {a : Nat → List El} {rv : Nat → Value} {b : List El} (h : OwM B w v n a rv) (i : Nat) (hi : i < n) (hg : w.grownBy w' (rv i).ownBlock) (hr : Ow B w' (rv i) b) :
    OwM B w' v n (up a i b) rv := by
  refine ⟨?_, fun k hk => ?_, h.apart⟩
  · refine World.ownsRow.kept h.out hg ?_
    rcases own_types h.out (h.row i hi) with e | e
    · rw [e]; cases (rv i).ownBlock <;> simp
    · exact .inr e
  · by_cases e : k = i
    · subst e; rw [up_at]; exact hr
    · rw [up_ne _ _ e]
      refine World.ownsRow.kept (h.row k hk) hg ?_
      rcases h.apart k i hk hi e with q | q
      · rw [q]; cases (rv i).ownBlock <;> simp
      · exact .inr q
theorem OwM.below {B : Nat} {w w' : World} {v : Value} {n : Nat} {a : Nat → List El} {rv : Nat → Value} (h : OwM B w v n a rv) (hB : B ≤ w.heap.size) (i : Nat) (hi : i < n) (hg : w.grownBy w' (rv i).ownBlock) : Below B w w' :=
  below_of_grownR hg hB (fun g e => ((h.row i hi).lt g e).1)
/-- a row that stands elsewhere, stored -/
theorem OwM.put {B g n cap : Nat} {w : World} {a : Nat → List El} {rv : Nat → Value} {b : List El} (h : OwM B w (.slice (some ⟨g, 0, none⟩) n cap) n a rv) (i : Nat) (r : Value) (hr : Ow B w r b)
    (hne : ∀ k, k < n → k ≠ i → (rv k).ownBlock = none ∨ (rv k).ownBlock ≠ r.ownBlock) :
    OwM B (w.setCell ⟨g, i, none⟩ r) (.slice (some ⟨g, 0, none⟩) n cap) n (up a i b) (up rv i r) ∧ w.grownBy (w.setCell ⟨g, i, none⟩ r) (some g) := by
  have hs := World.ownsRow.stored h.out i r
  rw [set_map_up] at hs
  have kept : ∀ {u : Value} {ys : List El}, Ow B w u ys → Ow B (w.setCell ⟨g, i, none⟩ r) u ys := fun {u ys} k => World.ownsRow.kept k hs.2 (by
    rcases own_types h.out k with e | e
    · simp [Value.ownBlock] at e
    · exact .inr (fun q => e q.symm))
  refine ⟨⟨hs.1, fun k hk => ?_, fun k l hk hl hkl => ?_⟩, hs.2⟩
  · by_cases e : k = i
    · subst e; rw [up_at, up_at]; exact kept hr
    · rw [up_ne _ _ e, up_ne _ _ e]; exact kept (h.row k hk)
  · by_cases ek : k = i
    · subst ek
      rw [up_at, up_ne _ _ (Ne.symm hkl)]
      rcases hne l hl (Ne.symm hkl) with q | q
      · by_cases hr0 : r.ownBlock = none
        · exact .inl hr0
        · exact .inr (by rw [q]; exact hr0)
      · exact .inr (fun e => q e.symm)
    · rw [up_ne _ _ ek]
      by_cases el : l = i
      · subst el; rw [up_at]; exact hne k hk hkl
      · rw [up_ne _ _ el]; exact h.apart k l hk hl hkl
theorem up_up_sw {α : Type} (f : Nat → α) (i j : Nat) : up (up f i (f j)) j (f i) = fun k => f (Mx.sw i j k) := by
  funext k
  unfold up Mx.sw
  by_cases e : k = j
  · subst e
    rw [if_pos rfl]
    by_cases e2 : k = i
    · rw [if_pos e2, e2]
    · rw [if_neg e2, if_pos rfl]
  · rw [if_neg e]
    by_cases e2 : k = i
    · rw [if_pos e2, if_pos e2]
    · rw [if_neg e2, if_neg e2, if_neg e]
/-- two rows swapped -/
theorem OwM.swap {B g n cap : Nat} {w : World} {a : Nat → List El} {rv : Nat → Value} (h : OwM B w (.slice (some ⟨g, 0, none⟩) n cap) n a rv) (i j : Nat) (hi : i < n) (hj : j < n) :
    OwM B ((w.setCell ⟨g, i, none⟩ (rv j)).setCell ⟨g, j, none⟩ (rv i)) (.slice (some ⟨g, 0, none⟩) n cap) n (fun k => a (Mx.sw i j k)) (fun k => rv (Mx.sw i j k)) ∧ w.grownBy ((w.setCell ⟨g, i, none⟩ (rv j)).setCell ⟨g, j, none⟩ (rv i)) (some g) := by
  have h1 := World.ownsRow.stored h.out i (rv j)
  have h2 := World.ownsRow.stored h1.1 j (rv i)
  have hg := grownBy_trans h1.2 h2.2
  have e : (((List.range n).map rv).set i (rv j)).set j (rv i) = (List.range n).map (fun k => rv (Mx.sw i j k)) := by
    rw [set_map_up, set_map_up, up_up_sw]
  rw [e] at h2
  have kept : ∀ {u : Value} {ys : List El}, Ow B w u ys → Ow B ((w.setCell ⟨g, i, none⟩ (rv j)).setCell ⟨g, j, none⟩ (rv i)) u ys := fun {u ys} k => World.ownsRow.kept k hg (by
    rcases own_types h.out k with e | e
    · simp [Value.ownBlock] at e
    · exact .inr (fun q => e q.symm))
  exact ⟨⟨h2.1, fun k hk => kept (h.row _ (Mx.sw_lt hi hj hk)), fun k l hk hl hkl => h.apart _ _ (Mx.sw_lt hi hj hk) (Mx.sw_lt hi hj hl) (fun e => hkl (by
    have := congrArg (Mx.sw i j) e
    rwa [Mx.sw_sw, Mx.sw_sw] at this))⟩, hg⟩
theorem Rd.at {w : World} {ao : Option Addr} {n cap : Nat} {xs : List El} (h : Rd w (.slice ao n cap) xs) (i : Nat) (hi : i < xs.length) : ∃ ad, ao = .some ad ∧ w.cell? (ad.add i) = .some (.int .u8 (((co xs i).val : Nat) : Int)) := by
  rcases h with ⟨_, rfl⟩ | ⟨ad, cap', he, _, _, h3⟩
  · simp at hi
  · simp only [Value.slice.injEq] at he
    obtain ⟨rfl, rfl, rfl⟩ := he
    exact ⟨ad, rfl, h3 i hi⟩
/-- one list of bytes copied over the beginning of another -/
theorem run_copy_ow {P : Program} {w : World} (dT sT ty : TypeId) (hu : P.underlying dT = some (.slice 5)) (hsz : (P.info? 5).map (·.size) = some 1)
    (dv sv : Value) (B : Nat) (L xs : List El) (hO : Ow B w dv L) (hR : Rd w sv xs) (hl : xs.length ≤ L.length) :
    ∃ w', (Builtin.copy_ #[dT, sT] ty #[dv, sv]).run P w = .ok (.int .i64 ((xs.length : Nat) : Int)) w' ∧ Ow B w' dv (xs ++ L.drop xs.length) ∧ w.grownBy w' dv.ownBlock := by
  obtain ⟨da, dc, rfl, _, _⟩ := hO.rd.len
  obtain ⟨sa, sc, rfl, _, _⟩ := hR.len
  by_cases h0 : xs.length = 0
  · have hx0 : xs = [] := List.eq_nil_of_length_eq_zero h0
    subst hx0
    exact ⟨w, run_copy_none w dT sT ty _ _ _ _ _ _ _ hu hsz (by simp), by simpa using hO, grownBy_refl _ _⟩
  · have hO' := hO
    obtain ⟨h1, h2⟩ := hO'
    rcases h2 with ⟨_, hn⟩ | ⟨g, cap, cur, he, hB, hg, hc, hm, hcur, htk⟩
    · omega
    · simp only [Value.slice.injEq] at he
      obtain ⟨rfl, _, rfl⟩ := he
      obtain ⟨ad, rfl, _⟩ := hR.at 0 (by omega)
      have hsrc : ∀ j v, (xs.map eb)[j]? = some v → w.cell? (ad.add j) = some v := by
        intro j v hj
        have hjl : j < xs.length := by
          rcases Nat.lt_or_ge j xs.length with q | q
          · exact q
          · rw [List.getElem?_eq_none (by simpa using q)] at hj; cases hj
        obtain ⟨ad', e, hcell⟩ := hR.at j hjl
        cases e
        rw [hcell, ← hj, map_eb xs j hjl]
      have hcs : L.length ≤ cur.size := by omega
      have hrun := run_copy_row (P := P) w dT sT ty _ g 0 L.length dc ad xs.length sc cur _ (xs.map eb) hu hsz hg (by rw [List.length_map]; exact (Nat.min_eq_left hl).symm) hsrc (by rw [List.length_map]; omega) (by
        intro u hu; obtain ⟨x, _, rfl⟩ := List.mem_map.1 hu; rfl)
      rw [List.length_map] at hrun
      refine ⟨_, hrun, ?_, ?_⟩
      · have hlen : (xs ++ L.drop xs.length).length = L.length := by simp; omega
        refine ⟨by simp, .inr ⟨g, dc, (cur.toList.take 0 ++ xs.map eb ++ cur.toList.drop (0 + xs.length)).toArray, by rw [hlen], hB, by simpa using setRow_heap w g _ _ _ _ hg, by omega, hm, ?_, ?_⟩⟩
        · simp; omega
        · rw [hlen, List.map_append, List.map_drop, ← htk]
          simp only [List.take_zero, List.nil_append, Nat.zero_add]
          rw [List.drop_take, List.take_append, List.take_of_length_le (by simp; omega)]
          simp
      · exact ⟨rfl, rfl, rfl, by simp [World.setRow], fun k hk hn => setRow_other w g k _ (by simpa [Value.ownBlock, eq_comm] using hn)⟩
end Go.Proofs.YtilfjahbdlepjaaGreatDoor

/- What a made, an appended and a drawn piece of memory is: small laws that all walks share. -/
namespace Go.Proofs.YtilfjahbdlepjaaGreatDoor
open Go.ChangeShapes Go.WideShapes Go.ChangeAt Go.RowKit El Pol
theorem el_zero {x : El} (h : x.val = 0) : x = 0 := Fin.ext h
theorem info8 : (Tryz.prog.info? 5).map (fun i => (i.zero, i.size, i.bytes)) = some (some (.int .u8 0), 1, 1) := by kernel_rfl
theorem cells_take {w : World} {ad : Addr} {xs : List El} (m : Nat) (hc : ∀ i, i < xs.length → w.cell? (ad.add i) = some (.int .u8 (((co xs i).val : Nat) : Int))) :
    ∀ j u, ((xs.take m).map eb)[j]? = some u → w.cell? (ad.add j) = some u := by
  intro j u hj
  rw [List.getElem?_map, List.getElem?_take] at hj
  split at hj
  · cases hx : xs[j]? with
    | none => rw [hx] at hj; cases hj
    | some y =>
      rw [hx] at hj
      obtain ⟨hlt, rfl⟩ := List.getElem?_eq_some_iff.1 hx
      rw [hc j hlt]
      rw [← hj]
      simp [co, List.getD_eq_getElem?_getD, hlt]
  · cases hj
theorem eb_one (xs : List El) : ∀ u ∈ xs.map eb, u.oneCell' = true := by
  intro u hu
  obtain ⟨x, _, rfl⟩ := List.mem_map.1 hu
  rfl
theorem Ow.made {B n : Nat} {w : World} {v : Value} (h : w.ownsRow B 5 1 v n (madeCells #[Value.int .u8 0] n).toList) : Ow B w v (List.replicate n 0) := by
  unfold Ow
  rw [toList_madeCells_one] at h
  rw [List.length_replicate, List.map_replicate]
  exact h
theorem own_snoc {B : Nat} {w : World} {v : Value} {f : Nat → El} {k : Nat} {s : El} (h : w.ownsRow B 5 1 v ((row f k).length + 1) ((row f k).map eb ++ [.int .u8 ((s.val : Nat) : Int)])) (hs : s = f k) : Ow B w v (row f (k + 1)) := by
  unfold Ow
  rw [row_succ, ← hs, List.length_append, List.map_append]
  exact h
theorem one_one (s : El) : ∀ u ∈ [Value.int .u8 ((s.val : Nat) : Int)], u.oneCell' = true := by
  intro u hu; simp at hu; subst hu; rfl
end Go.Proofs.YtilfjahbdlepjaaGreatDoor

/- What a made, an appended and a drawn piece of memory is (MemJ), beside the walks of the field. -/

/- Texts in memory: elements as the bytes of a text. They want no function of the field. -/
namespace Go.Proofs.YtilfjahbdlepjaaGreatDoor
open Go.RowKit El Pol
/-- elements as the bytes of a text -/
def sb (xs : List El) : ByteArray := ⟨(xs.map (fun x => UInt8.ofNat x.val)).toArray⟩
abbrev st (xs : List El) : Value := .string (sb xs)
theorem sb_size (xs : List El) : (sb xs).size = xs.length := by
  show (xs.map (fun x => UInt8.ofNat x.val)).toArray.size = _
  simp
theorem u8_val (x : El) : (UInt8.ofNat x.val).toNat = x.val := by
  rw [UInt8.toNat_ofNat']
  exact Nat.mod_eq_of_lt x.isLt
theorem u8_inj {x y : El} (h : UInt8.ofNat x.val = UInt8.ofNat y.val) : x = y := by
  have := congrArg UInt8.toNat h
  rw [u8_val, u8_val] at this
  exact Fin.ext this
theorem sb_at (xs : List El) (i : Nat) (h : i < (sb xs).size) : ((sb xs)[i]'h).toNat = (co xs i).val := by
  have hl : i < xs.length := by rwa [sb_size] at h
  show ((xs.map (fun x => UInt8.ofNat x.val)).toArray[i]'(by simpa using hl)).toNat = _
  rw [List.getElem_toArray, List.getElem_map, u8_val]
  simp [co, List.getD_eq_getElem?_getD, hl]
theorem sb_of (s : ByteArray) : ∃ xs : List El, s = sb xs := by
  refine ⟨s.data.toList.map (fun b => b.toFin), ?_⟩
  obtain ⟨d⟩ := s
  show _ = ByteArray.mk ((d.toList.map (fun b => b.toFin)).map (fun x : El => UInt8.ofNat x.val)).toArray
  congr 1
  rw [List.map_map]
  have : ((fun x : El => UInt8.ofNat x.val) ∘ fun b : UInt8 => b.toFin) = id := by
    funext b
    show UInt8.ofNat b.toFin.val = b
    exact UInt8.ofNat_toNat
  rw [this, List.map_id]
theorem sb_list (xs : List El) : (sb xs).toList = xs.map (fun x => UInt8.ofNat x.val) := ByteArray.toList_mk _
theorem sb_same (xs ys : List El) : ((sb xs).toList == (sb ys).toList) = decide (xs = ys) := by
  rw [sb_list, sb_list, Bool.eq_iff_iff, beq_iff_eq, decide_eq_true_iff]
  constructor
  · exact fun h => List.map_inj_right (fun a b e => u8_inj e) |>.1 h
  · exact fun h => by rw [h]
theorem sb_inj {xs ys : List El} (h : sb xs = sb ys) : xs = ys := by
  have := sb_same xs ys
  rw [h] at this
  simpa using this.symm
/-- the bytes of a list as a text -/
theorem run_text {w : World} {v : Value} {xs : List El} (h : Rd w v xs) (src dst : TypeId) (hs : Tryz.prog.underlying src = some (.slice 5)) (hd : Tryz.prog.underlying dst = some .string) :
    (convert src dst v).run Tryz.prog w = .ok (st xs) w := by
  rcases h with ⟨rfl, rfl⟩ | ⟨ad, cap, rfl, h1, h2, h3⟩
  · rw [run_convert_bytes_string w src dst 5 none 0 0 hs Tryz.underlying5 hd]
    rfl
  · have := run_convert_bytes_back w src dst 5 ad cap (xs.map (fun x => UInt8.ofNat x.val)) hs Tryz.underlying5 hd (fun j hj => by
      rw [List.length_map] at hj
      rw [h3 j hj, List.getElem_map, u8_val]
      simp [co, List.getD_eq_getElem?_getD, hj])
    rw [List.length_map] at this
    exact this
theorem infoT : (Tryz.prog.info? 9).map (fun i => (i.zero, i.size, i.bytes)) = some (some (.string ⟨#[]⟩), 1, 16) := by kernel_rfl
end Go.Proofs.YtilfjahbdlepjaaGreatDoor

/- Texts, lists of texts and of truth values in memory: what is read, and what the call itself made. -/
namespace Go.Proofs.YtilfjahbdlepjaaGreatDoor
open Go.RowKit El Pol
/-- the rows of a list of lists, as it stands -/
theorem RdM.rdF {w : World} {v : Value} {n : Nat} {a : Nat → List El} (h : RdM w v n a) : ∃ rv : Nat → Value, RdF w v n rv ∧ ∀ i, i < n → Rd w (rv i) (a i) := by
  rcases h with ⟨rfl, rfl⟩ | ⟨ad, cap, rv, rfl, h1, h2, h3⟩
  · exact ⟨fun _ => .slice none 0 0, .inl ⟨rfl, rfl⟩, fun i hi => by omega⟩
  · exact ⟨rv, .inr ⟨ad, cap, rfl, h1, h2, fun i hi => (h3 i hi).1⟩, fun i hi => (h3 i hi).2⟩
theorem RdF.rdM {w : World} {v : Value} {n : Nat} {a : Nat → List El} {rv : Nat → Value} (h : RdF w v n rv) (hr : ∀ i, i < n → Rd w (rv i) (a i)) : RdM w v n a := by
  rcases h with h | ⟨ad, cap, rfl, h1, h2, h3⟩
  · exact .inl h
  · exact .inr ⟨ad, cap, rv, rfl, h1, h2, fun i hi => ⟨h3 i hi, hr i hi⟩⟩
end Go.Proofs.YtilfjahbdlepjaaGreatDoor
