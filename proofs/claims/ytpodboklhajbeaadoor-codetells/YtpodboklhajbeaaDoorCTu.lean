/- What code.Encode, Decode and Right answer, each in one form whether there is a fault or not. -/
import Derived.Test.YtpodboklhajbeaaDoorCodeN
import Derived.Test.YtpodboklhajbeaaDoorRefY
namespace Go.Proofs.YtpodboklhajbeaaDoor
open Go.ChangeShapes Go.WideShapes Go.ChangeAt Go.RowKit El Pol Mx
theorem ebad_ok {k m : Int} {n : Nat} {a : Nat → List El} (h : ebad k m n a = 0) : cbad k m = 0 ∧ (n : Int) = k ∧ bbad n a = 0 := by
  unfold ebad at h
  by_cases hc : cbad k m = 0
  · rw [if_neg (by simpa using hc)] at h
    by_cases hn : (n : Int) = k
    · rw [if_neg (by simpa using hn)] at h
      exact ⟨hc, hn, h⟩
    · rw [if_pos (by simpa using hn)] at h; omega
  · rw [if_pos hc] at h; omega
theorem encode_uni (k m : Int) (hk : I64 k) (hm : I64 m) (v : Value) (n f : Nat) (a : Nat → List El) (hf : f = ebad k m n a) (w : World) (h : RdF w v n (fun i => st (a i))) (hn : n ≤ 8796093021952) :
    Calls Tryd.prog 24 #[.int .i64 k, .int .i64 m, v] w fun e w' => ∃ v', e = .returned (.tuple #[v', errV f]) ∧ RdF w' v' (cnt f m.toNat) (fun i => st (row (mm k.toNat (par k.toNat) (mx a) i) (a 0).length)) ∧ Below w.heap.size w w' := by
  by_cases h0 : f = 0
  · rw [h0] at hf ⊢
    obtain ⟨hc, hnk, hb⟩ := ebad_ok hf.symm
    have := cbad_ok hc
    obtain ⟨k, rfl⟩ : ∃ k' : Nat, k = k' := ⟨k.toNat, by omega⟩
    obtain ⟨m, rfl⟩ : ∃ m' : Nat, m = m' := ⟨m.toNat, by omega⟩
    obtain rfl : n = k := by omega
    have hbb := bbad_ok hb
    exact (encode_ok n m (a 0).length (by omega) (by omega) v a w h hbb.1 hbb.2).mono fun e w' ⟨v', he, ho, hB⟩ => ⟨v', he, OwL.rdM ho, hB⟩
  · refine (encode_bad k m hk hm v n f a w h hn hf.symm h0).mono fun e w' ⟨he, hB⟩ => ⟨.slice none 0 0, by rw [he, errV_ne h0], by rw [cnt, if_neg h0]; exact rdf_none _ _, hB⟩
theorem dbad_ok {k m : Int} {np nl : Nat} {a : Nat → List El} {lost : Nat → Bool} (h : dbad k m np nl a lost = 0) : cbad k m = 0 ∧ (np : Int) = k + m ∧ (nl : Int) = k + m ∧ ¬ ((ix lost np).length : Int) < k ∧ bbad (ix lost np).length (fun i => a (at' lost np i)) = 0 := by
  unfold dbad at h
  by_cases hc : cbad k m = 0
  · rw [if_neg (by simpa using hc)] at h
    by_cases hn : (np : Int) ≠ k + m ∨ (nl : Int) ≠ k + m
    · rw [if_pos hn] at h; omega
    · rw [if_neg hn] at h
      by_cases h8 : ((ix lost np).length : Int) < k
      · rw [if_pos h8] at h; omega
      · rw [if_neg h8] at h
        exact ⟨hc, by omega, by omega, h8, h⟩
  · rw [if_pos hc] at h; omega
theorem decode_uni (k m : Int) (hk : I64 k) (hm : I64 m) (v lv : Value) (np nl f : Nat) (a : Nat → List El) (lost : Nat → Bool) (hf : f = dbad k m np nl a lost) (w : World) (h : RdF w v np (fun i => st (a i))) (hl : RdF w lv nl (fun i => .bool (lost i))) :
    Calls Tryd.prog 27 #[.int .i64 k, .int .i64 m, v, lv] w fun e w' => ∃ (v' : Value) (T : M), e = .returned (.tuple #[v', errV f]) ∧ (f = 0 → Inv k.toNat (fun i j => gen k.toNat (at' lost np i) j) T) ∧ RdF w' v' (cnt f k.toNat) (fun i => st (row (mm k.toNat T (mx (fun i => a (at' lost np i))) i) (a (at' lost np 0)).length)) ∧ Below w.heap.size w w' := by
  by_cases h0 : f = 0
  · rw [h0] at hf ⊢
    obtain ⟨hc, hnp, hnl, h8, hb⟩ := dbad_ok hf.symm
    have := cbad_ok hc
    obtain ⟨k, rfl⟩ : ∃ k' : Nat, k = k' := ⟨k.toNat, by omega⟩
    obtain ⟨m, rfl⟩ : ∃ m' : Nat, m = m' := ⟨m.toNat, by omega⟩
    obtain rfl : np = k + m := by omega
    obtain rfl : nl = k + m := by omega
    have hbb := bbad_ok hb
    exact (decode_ok k m (a (at' lost (k + m) 0)).length (by omega) (by omega) v lv a lost w h hl (by omega) hbb.1 hbb.2).mono fun e w' ⟨v', T, he, hI, ho, hB⟩ => ⟨v', T, he, fun _ => hI, OwL.rdM ho, hB⟩
  · exact (decode_bad k m hk hm v lv np nl f a lost w h hl hf.symm h0).mono fun e w' ⟨he, hB⟩ => ⟨.slice none 0 0, one, by rw [he, errV_ne h0], fun q => absurd q h0, by rw [cnt, if_neg h0]; exact rdf_none _ _, hB⟩
theorem rbad_ok {k m : Int} {n : Nat} {a : Nat → List El} (h : rbad k m n a = 0) : cbad k m = 0 ∧ (n : Int) = k + m ∧ bbad n a = 0 := by
  unfold rbad at h
  by_cases hc : cbad k m = 0
  · rw [if_neg (by simpa using hc)] at h
    by_cases hn : (n : Int) = k + m
    · rw [if_neg (by simpa using hn)] at h
      exact ⟨hc, hn, h⟩
    · rw [if_pos (by simpa using hn)] at h; omega
  · rw [if_pos hc] at h; omega
/-- is the parity that of the data, where there is no fault -/
def rgt (f k m : Nat) (a : Nat → List El) : Bool := if f = 0 then sameL m m (fun i => row (mm k (par k) (mx a) i) (a 0).length) (fun i => a (k + i)) else false
theorem right_uni (k m : Int) (hk : I64 k) (hm : I64 m) (v : Value) (n f : Nat) (a : Nat → List El) (hf : f = rbad k m n a) (w : World) (h : RdF w v n (fun i => st (a i))) (hn : n ≤ 8796093021952) :
    Calls Tryd.prog 28 #[.int .i64 k, .int .i64 m, v] w fun e w' => e = .returned (.tuple #[.bool (rgt f k.toNat m.toNat a), errV f]) ∧ Below w.heap.size w w' := by
  by_cases h0 : f = 0
  · rw [h0] at hf ⊢
    obtain ⟨hc, hnk, hb⟩ := rbad_ok hf.symm
    have := cbad_ok hc
    obtain ⟨k, rfl⟩ : ∃ k' : Nat, k = k' := ⟨k.toNat, by omega⟩
    obtain ⟨m, rfl⟩ : ∃ m' : Nat, m = m' := ⟨m.toNat, by omega⟩
    obtain rfl : n = k + m := by omega
    have hbb := bbad_ok hb
    exact right_ok k m (a 0).length (by omega) (by omega) v a w h hbb.1 hbb.2
  · refine (right_bad k m hk hm v n f a w h hn hf.symm h0).mono fun e w' ⟨he, hB⟩ => ⟨by rw [he, errV_ne h0, rgt, if_neg h0], hB⟩
theorem ccheck_uni (k m : Int) (hk : I64 k) (hm : I64 m) (w : World) : Calls Tryd.prog 21 #[.int .i64 k, .int .i64 m] w fun e w' => e = .returned (errV (cbad k m)) ∧ w' = w := ccheck_any k m hk hm w
end Go.Proofs.YtpodboklhajbeaaDoor
