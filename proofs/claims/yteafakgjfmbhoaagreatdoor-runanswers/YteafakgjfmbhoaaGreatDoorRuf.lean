/- Texts of plain mathematics, of memory and of walks, in one. -/
import Derived.Test.YteafakgjfmbhoaaGreatDoorMe
import Derived.Test.YteafakgjfmbhoaaGreatDoorRua
import Derived.Test.YteafakgjfmbhoaaGreatDoorBl
import Derived.Test.YteafakgjfmbhoaaGreatDoorRub
import Derived.Test.YteafakgjfmbhoaaGreatDoorSc
import Derived.Test.YteafakgjfmbhoaaGreatDoorYMkT
import Derived.Test.YteafakgjfmbhoaaGreatDoorGe
import Derived.Test.YteafakgjfmbhoaaGreatDoorDk
import Derived.Test.YteafakgjfmbhoaaGreatDoorRuc
import Derived.BigRegion
import Derived.Deep.RegionLaw
import Derived.Deep.AppendLies
/- What strconv.Itoa answers of a small number: a walk over the library's functions in the program. -/
namespace Go.Proofs.YteafakgjfmbhoaaGreatDoor
open Go.RowKit El Pol
theorem dgs_tab : ∀ n : Fin 10, (⟨#[48, 49, 50, 51, 52, 53, 54, 55, 56, 57, 97, 98, 99, 100, 101, 102, 103, 104, 105, 106, 107, 108, 109, 110, 111, 112, 113, 114, 115, 116, 117, 118, 119, 120, 121, 122]⟩ : ByteArray).extract n.val (n.val + 1) = sb (if n.val < 10 then [bt (48 + n.val)] else []) := by decide
set_option maxHeartbeats 1000000 in
set_option maxRecDepth 100000 in
theorem itoa_any (n : Nat) (hn : n < 10) (w : World) :
    Calls Tryz.prog 71 #[.int .i64 (n : Int)] w fun e w' => e = .returned (st (dgs n)) ∧ w' = w := by
  have HT : Hid ((⟨#[48, 49, 50, 51, 52, 53, 54, 55, 56, 57, 97, 98, 99, 100, 101, 102, 103, 104, 105, 106, 107, 108, 109, 110, 111, 112, 113, 114, 115, 116, 117, 118, 119, 120, 121, 122]⟩ : ByteArray).extract n (n + 1) = sb (dgs n)) := by
    (show _ = _)
    rw [dgs_one hn]
    have := dgs_tab ⟨n, hn⟩
    rw [if_pos hn] at this
    exact this
  have i1 : (n : Int) < 10 := by omega
  have i2 : (n : Int) + 1 ≤ 36 := by omega
  go_enter Tryz.func71, Tryz.ntmps71
  go_wp2
  go_ret
  refine ⟨?_, rfl⟩
  unfold st
  rw [← HT.out]
  rfl
end Go.Proofs.YteafakgjfmbhoaaGreatDoor

/- What the library's Join with a blank between, and the program's spotsOf answer: walks over the program. -/
namespace Go.Proofs.YteafakgjfmbhoaaGreatDoor
open Go.RowKit El Pol
/-- the first k texts with blanks between -/
def jnF (f : Nat → List El) (k : Nat) : List El := jnB ((List.range k).map f)
theorem jnF_one (f : Nat → List El) : jnF f 1 = f 0 := rfl
theorem jnF_succ (f : Nat → List El) {k : Nat} (h : 0 < k) : jnF f (k + 1) = jnF f k ++ [32] ++ f k := by
  unfold jnF
  rw [List.range_succ, List.map_append, List.map_singleton, jnB_snoc _ _ (by simp; omega), List.append_assoc]
  rfl
/-- how long they are: at most so long each -/
theorem jnF_le {f : Nat → List El} {m : Nat} : ∀ {k : Nat}, (∀ i, i < k → (f i).length ≤ m) → (jnF f k).length ≤ k * (m + 1)
  | 0, _ => by show 0 ≤ _; omega
  | 1, h => by rw [jnF_one]; have := h 0 (by omega); omega
  | k + 2, h => by
    rw [jnF_succ f (by omega), List.length_append, List.length_append, List.length_singleton]
    have h1 := jnF_le (k := k + 1) (fun i hi => h i (by omega))
    have h2 := h (k + 1) (by omega)
    rw [show (k + 2) * (m + 1) = (k + 1) * (m + 1) + (m + 1) from Nat.succ_mul (k + 1) (m + 1)]
    omega
theorem sum_le {f : Nat → List El} {k : Nat} (h : ∀ i, i < k → (f i).length ≤ 3) : ∀ {n : Nat}, n ≤ k → ((List.range n).map (fun i => (f i).length)).sum ≤ 3 * n
  | 0, _ => Nat.le_refl _
  | n + 1, hn => by
    rw [List.range_succ, List.map_append, List.sum_append, List.map_singleton, List.sum_singleton]
    have := sum_le h (n := n) (by omega)
    have := h n (by omega)
    omega
theorem sum_succ (f : Nat → List El) (n : Nat) : ((List.range (n + 1)).map (fun i => (f i).length)).sum = ((List.range n).map (fun i => (f i).length)).sum + (f n).length := by
  rw [List.range_succ, List.map_append, List.sum_append, List.map_singleton, List.sum_singleton]
theorem blank_one (v : Value) (f : Nat → List El) (w : World) (hr : RdT w v 1 f) :
    Calls Tryz.prog 107 #[v, .string ⟨#[32]⟩] w fun e w' => e = .returned (st (f 0)) ∧ w' = w := by
  obtain ⟨ao, cap, rfl, _, _⟩ := hr.len
  obtain ⟨ad, rfl, hc⟩ := hr.at 0 (by omega)
  rw [add_zero] at hc
  unfold st at hc ⊢
  generalize sb (f 0) = s at *
  clear hr
  go_enter Tryz.func107, Tryz.ntmps107
  go_wp2
  go_ret
  exact ⟨rfl, rfl⟩
set_option maxHeartbeats 4000000 in
set_option maxRecDepth 100000 in
/-- two and more, but few and short: with blanks between -/
theorem blank_many (v : Value) (n : Nat) (f : Nat → List El) (w : World) (hr : RdT w v n f) (h2 : 2 ≤ n) (hn : n ≤ 12) (hf : ∀ i, i < n → (f i).length ≤ 3) :
    Calls Tryz.prog 107 #[v, .string ⟨#[32]⟩] w fun e w' => e = .returned (st (jnF f n)) ∧ Below w.heap.size w w' := by
  obtain ⟨ao, cap, rfl, hcap, _⟩ := hr.len
  obtain ⟨ad, rfl, _⟩ := hr.at 0 (by omega)
  have HR : Hid (RdT w (.slice (some ad) n cap) n f) := hr
  have HF : Hid (∀ i, i < n → (f i).length ≤ 3) := hf
  have HT : Hid (∀ k, k ≤ n → (jnF f k).length ≤ 48) := fun k hk => by
    have := jnF_le (f := f) (k := k) (m := 3) (fun i hi => hf i (by omega))
    omega
  have HG : Hid (∀ k, k ≤ n → ((List.range k).map (fun i => (f i).length)).sum ≤ 36) := fun k hk => by
    have := sum_le (f := f) (k := n) hf (n := k) hk
    omega
  have HS : Hid (∀ k, ((List.range (k + 1)).map (fun i => (f i).length)).sum = ((List.range k).map (fun i => (f i).length)).sum + (f k).length) := sum_succ f
  clear hr hf
  have hq : (9223372036854775807 : Int) / ((n : Int) - 1) ≥ 2 := by
    have h1 : (0 : Int) < (n : Int) - 1 := by omega
    exact (Int.le_ediv_iff_mul_le h1).2 (by omega)
  go_enter Tryz.func107, Tryz.ntmps107
  go_wp2
  go_loop [5, 41] (fun m c => ∃ k : Nat, k ≤ n ∧ c = .int .i64 k ∧ m = .int .i64 ((((n - 1) + ((List.range k).map (fun i => (f i).length)).sum : Nat) : Int))) (fun _ c => n - (intOf c).toNat)
  case atStart => exact ⟨0, Nat.zero_le _, rfl, by (show Value.int .i64 ((n : Int) - 1) = Value.int .i64 (((n - 1 + 0 : Nat)) : Int)); congr 1; omega⟩
  case round =>
    obtain ⟨k, hk, rfl, rfl⟩ := hrel
    by_cases hlt : k < n
    · obtain ⟨ad', e, hc⟩ := HR.out.at k hlt
      cases e
      have hl := HF.out k hlt
      have ht := HG.out k hk
      have HST : Hid (n - 1 + ((List.range (k + 1)).map (fun i => (f i).length)).sum = n - 1 + ((List.range k).map (fun i => (f i).length)).sum + (f k).length) := by
        (show _ = _)
        rw [HS.out k]; omega
      have hs := sb_size (f k)
      have hm0 : n - 1 + ((List.range k).map (fun i => (f i).length)).sum ≤ 47 := by omega
      clear ht
      obtain ⟨m, hm⟩ : ∃ m, m = n - 1 + ((List.range k).map (fun i => (f i).length)).sum := ⟨_, rfl⟩
      rw [← hm] at HST hm0 ⊢
      clear hm
      obtain ⟨m2, hm2⟩ : ∃ m2, m2 = n - 1 + ((List.range (k + 1)).map (fun i => (f i).length)).sum := ⟨_, rfl⟩
      have HM2 : Hid (m2 = n - 1 + ((List.range (k + 1)).map (fun i => (f i).length)).sum) := hm2
      rw [← hm2] at HST
      clear hm2
      generalize (f k).length = l at *
      unfold st at hc
      generalize sb (f k) = s at *
      go_wp2
      go_round
      case rel => exact ⟨k + 1, by omega, by go_num, by rw [← HM2.out, HST.out]; (first | rfl | (congr 1; omega))⟩
      case measure => simp [intOf]; omega
    · have e : k = n := by omega
      have ht := HG.out k hk
      have hm0 : n - 1 + ((List.range k).map (fun i => (f i).length)).sum ≤ 47 := by omega
      have hck : ¬ (k : Int) < (n : Int) := by omega
      clear e ht
      generalize n - 1 + ((List.range k).map (fun i => (f i).length)).sum = m at *
      have G := bGrow (B := w.heap.size) (b := w.heap.size) (n := m) (w := w.alloc (.cells #[.pointer none, .slice none 0 0] 49)) (Nat.le_refl _) ⟨heap_alloc_new w _⟩ (by simp) (by omega)
      go_wp2_with fail
      refine G.mono ?_
      rintro e w1 ⟨rfl, hU1, hB1, _⟩
      have HB1 : Hid (Below w.heap.size w w1) := ((Below.refl w.heap.size w).alloc (Nat.le_refl _) _).trans hB1
      have HU1 : Hid (Bld w.heap.size w.heap.size [] w1) := hU1
      have hs1 := HB1.out.size
      clear G hU1 hB1
      obtain ⟨ad', e, hc⟩ := (HR.out.old HB1.out).at 0 (by omega)
      cases e
      rw [add_zero] at hc
      have hl := HF.out 0 (by omega)
      have W1 := bwrite_any (f 0) HU1.out (by simp; omega) hs1
      rw [List.nil_append] at W1
      unfold st at hc
      obtain ⟨s, hss⟩ : ∃ s, s = sb (f 0) := ⟨_, rfl⟩
      rw [← hss] at hc W1
      clear hss
      go_wp2_with fail
      refine W1.mono ?_
      rintro e w2 ⟨⟨z2, rfl⟩, hU2, hB2, _⟩
      have HB2 : Hid (Below w.heap.size w w2) := HB1.out.trans hB2
      have HU2 : Hid (Bld w.heap.size w.heap.size (jnF f (0 + 1)) w2) := hU2
      clear W1 hU2 hB2 HB1 HU1 hc hl
      go_wp2_with fail
      go_loopw [65] (fun c wr => ∃ j : Nat, j ≤ n - 1 ∧ c = .int .i64 j ∧ Hid (Bld w.heap.size w.heap.size (jnF f (j + 1)) wr) ∧ Hid (Below w.heap.size w wr)) (fun c _ => n - 1 - (intOf c).toNat)
      case atStart => exact ⟨0, Nat.zero_le _, rfl, HU2.out, HB2.out⟩
      case round =>
        clear HU2 HB2
        rename World => wr
        obtain ⟨j, hj, rfl, HU, HB⟩ := hrel
        have hsw := HB.out.size
        by_cases hjn : j < n - 1
        · obtain ⟨ad', e, hc⟩ := (HR.out.old HB.out).at (j + 1) (by omega)
          cases e
          have e1 : ad.add (j + 1) = ⟨ad.block, ad.off + 1 + j, none⟩ := by
            unfold Addr.add
            rw [if_neg (by omega)]
            congr 1
            omega
          rw [e1] at hc
          have hl := HF.out (j + 1) (by omega)
          have ht := HT.out (j + 1) (by omega)
          have W1 : Calls Tryz.prog 18 #[.pointer (some ⟨w.heap.size, 0, none⟩), .string ⟨#[32]⟩] wr fun e w' => (∃ z, e = .returned (.tuple #[.int .i64 z, .nilIface])) ∧ Bld w.heap.size w.heap.size (jnF f (j + 1) ++ [32]) w' ∧ Below w.heap.size wr w' ∧ (([32] : List El) = [] → NilB w.heap.size wr → NilB w.heap.size w') := bwrite_any [32] HU.out (by (show _ + 1 ≤ _); omega) hsw
          have HW2 : Hid (∀ w3, Bld w.heap.size w.heap.size (jnF f (j + 1) ++ [32]) w3 → w.heap.size ≤ w3.heap.size → Calls Tryz.prog 18 #[.pointer (some ⟨w.heap.size, 0, none⟩), .string (sb (f (j + 1)))] w3 fun e w' => (∃ z, e = .returned (.tuple #[.int .i64 z, .nilIface])) ∧ Bld w.heap.size w.heap.size (jnF f (j + 1 + 1)) w' ∧ Below w.heap.size w3 w' ∧ (f (j + 1) = [] → NilB w.heap.size w3 → NilB w.heap.size w')) := fun w3 h3 hs3 => by
            have := bwrite_any (f (j + 1)) h3 (by rw [List.length_append, List.length_singleton]; omega) hs3
            rw [← jnF_succ f (by omega)] at this
            exact this
          unfold st at hc
          clear hl ht e1
          generalize sb (f (j + 1)) = s at *
          go_wp2_with fail
          refine W1.mono ?_
          rintro e w3 ⟨⟨z3, rfl⟩, hU3, hB3, _⟩
          have W2 := HW2.out w3 hU3 (Nat.le_trans hsw hB3.size)
          have HB3 : Hid (Below w.heap.size w w3) := HB.out.trans hB3
          clear W1 hU3 hB3 HB HU hc
          go_wp2_with fail
          refine W2.mono ?_
          rintro e w4 ⟨⟨z4, rfl⟩, hU4, hB4, _⟩
          have HU4 : Hid (Bld w.heap.size w.heap.size (jnF f (j + 1 + 1)) w4) := hU4
          have HB4 : Hid (Below w.heap.size w w4) := HB3.out.trans hB4
          clear W2 hU4 hB4 HB3
          go_wp2
          go_roundw
          case rel => exact ⟨j + 1, by omega, by go_num, HU4.out, HB4.out⟩
          case measure => simp [intOf]; omega
        · have ej : j + 1 = n := by omega
          have hne : jnF f (j + 1) ≠ [] := by
            obtain ⟨i, rfl⟩ : ∃ i, j = i + 1 := ⟨j - 1, by omega⟩
            rw [jnF_succ f (by omega)]
            simp
          have W := bstring_some HU.out hne
          have HV : Hid (∀ s, s = sb (jnF f (j + 1)) → Value.string s = st (jnF f n)) := fun s hs => by rw [hs, ej]
          have hje : ¬ (j : Int) < (n : Int) - 1 := by omega
          unfold st at W
          obtain ⟨s, hss⟩ : ∃ s, s = sb (jnF f (j + 1)) := ⟨_, rfl⟩
          have HVS : Hid (Value.string s = st (jnF f n)) := HV.out s hss
          rw [← hss] at W
          clear hss ej HU HV hne
          go_wp2_with fail
          refine W.mono ?_
          rintro e w5 ⟨rfl, hB5⟩
          have HB5 : Hid (Below w.heap.size w w5) := HB.out.trans hB5
          clear W hB5
          go_wp2
          go_ret
          exact ⟨by rw [← HVS.out]; rfl, HB5.out⟩
/-- one and more -/
theorem blank_any (v : Value) (n : Nat) (f : Nat → List El) (w : World) (hr : RdT w v n f) (h1 : 1 ≤ n) (hn : n ≤ 12) (hf : ∀ i, i < n → (f i).length ≤ 3) :
    Calls Tryz.prog 107 #[v, .string ⟨#[32]⟩] w fun e w' => e = .returned (st (jnF f n)) ∧ Below w.heap.size w w' := by
  by_cases h2 : n = 1
  · subst h2
    exact (blank_one v f w hr).mono fun e w' ⟨h1, h2⟩ => ⟨h1, h2 ▸ Below.refl _ _⟩
  · exact blank_many v n f w hr (by omega) hn hf
end Go.Proofs.YteafakgjfmbhoaaGreatDoor

/- What the program's spotsOf answers: a walk over the program. -/
namespace Go.Proofs.YteafakgjfmbhoaaGreatDoor
open Go.RowKit El Pol
/-- the k-th spot as text -/
def spF (L : List (Nat × Nat)) (k : Nat) : List El := spT (L.getD k (0, 0))
theorem spF_map (L : List (Nat × Nat)) : jnF (spF L) L.length = jnB (L.map spT) := by
  unfold jnF
  congr 1
  apply List.ext_getElem?
  intro i
  rw [List.getElem?_map, List.getElem?_map]
  by_cases h : i < L.length
  · rw [List.getElem?_range h, List.getElem?_eq_getElem h]
    show some (spT (L.getD i (0, 0))) = some (spT L[i])
    rw [List.getD_eq_getElem?_getD, List.getElem?_eq_getElem h]
    rfl
  · rw [List.getElem?_eq_none (by rw [List.length_range]; omega), List.getElem?_eq_none (by omega)]
    rfl
theorem dgs_len1 {n : Nat} (h : n < 10) : (dgs n).length = 1 := by rw [dgs_one h]; rfl
theorem spF_len {L : List (Nat × Nat)} (h : ∀ p, p ∈ L → p.1 < 10 ∧ p.2 < 10) (k : Nat) : (spF L k).length = 3 := by
  have : (L.getD k (0, 0)).1 < 10 ∧ (L.getD k (0, 0)).2 < 10 := by
    rw [List.getD_eq_getElem?_getD]
    cases e : L[k]? with
    | none => exact ⟨by show 0 < 10; omega, by show 0 < 10; omega⟩
    | some p => exact h p (List.mem_of_getElem? e)
  unfold spF spT
  rw [List.length_append, List.length_cons, dgs_len1 this.1, dgs_len1 this.2]
theorem spF_low {L : List (Nat × Nat)} (h : ∀ p, p ∈ L → p.1 < 10 ∧ p.2 < 10) (k : Nat) : (L.getD k (0, 0)).1 < 10 ∧ (L.getD k (0, 0)).2 < 10 := by
  rw [List.getD_eq_getElem?_getD]
  cases e : L[k]? with
  | none => exact ⟨by show 0 < 10; omega, by show 0 < 10; omega⟩
  | some p => exact h p (List.mem_of_getElem? e)
/-- the first k are laid -/
structure SpW (w : World) (L : List (Nat × Nat)) (g k : Nat) (wr : World) : Prop where
  row : RowAt wr g L.length (fun j => if j < k then st (spF L j) else .string ⟨#[]⟩)
  low : Below w.heap.size w wr
theorem SpW.next {w wr w2 : World} {L : List (Nat × Nat)} {g k : Nat} (h : SpW w L g k wr) (hb : Below wr.heap.size wr w2) (hg : w.heap.size ≤ g) : SpW w L g (k + 1) (w2.setCell ⟨g, k, none⟩ (st (spF L k))) := by
  have hl2 : Below w.heap.size w w2 := h.low.trans (hb.mono h.low.size)
  refine ⟨(((h.row.old hb).put k (st (spF L k))).1).congr (fun j _ => ?_), hl2.setCell (p := ⟨g, k, none⟩) hg _⟩
  unfold up
  dsimp only
  by_cases e : j = k
  · rw [if_pos e, if_pos (by omega), e]
  · rw [if_neg e]
    by_cases q : j < k
    · rw [if_pos q, if_pos (by omega)]
    · rw [if_neg q, if_neg (by omega)]
theorem SpW.start (w : World) (L : List (Nat × Nat)) : SpW w L w.heap.size 0 (w.alloc (.cells (List.replicate L.length (.string ⟨#[]⟩)).toArray 9)) := by
  refine ⟨?_, (Below.refl _ w).alloc (Nat.le_refl _) _⟩
  have h := RowAt.new w L.length (.string ⟨#[]⟩) 9
  have e : Array.replicate L.length (Value.string ⟨#[]⟩) = (List.replicate L.length (Value.string ⟨#[]⟩)).toArray := by simp
  rw [e] at h
  exact h.congr (fun j _ => (if_neg (by omega)).symm)
theorem SpW.done {w wr : World} {L : List (Nat × Nat)} {g : Nat} (h : SpW w L g L.length wr) (hL : L.length ≤ 12) : RdT wr (.slice (some ⟨g, 0, none⟩) L.length L.length) L.length (spF L) := by
  refine .inr ⟨⟨g, 0, none⟩, L.length, rfl, Nat.le_refl _, by omega, fun i hi => ?_⟩
  rw [add_at0, (h.row.2 i hi).1]
  dsimp only
  rw [if_pos hi]
set_option maxHeartbeats 4000000 in
set_option maxRecDepth 100000 in
theorem spots_any (v : Value) (L : List (Nat × Nat)) (w : World) (hL : L.length ≤ 12) (hp : ∀ p, p ∈ L → p.1 < 10 ∧ p.2 < 10) (hv : RdS w v L) :
    Calls Tryz.prog 74 #[v] w fun e w' => e = .returned (st (scT L)) ∧ Below w.heap.size w w' := by
  have HV : Hid (RdS w v L) := hv
  obtain ⟨a1, c1, rfl⟩ := hv.len
  clear hv
  by_cases h0 : L.length = 0
  · have HR : Hid (st (scT L) = .string ⟨#[45]⟩) := by
      (show _ = _)
      rw [scT_jn, if_pos h0]
      rfl
    rw [h0, HR.out]
    clear HV HR
    go_enter Tryz.func74, Tryz.ntmps74
    go_wp2
    go_ret
    exact ⟨rfl, Below.refl _ _⟩
  · have HR : Hid (scT L = jnF (spF L) L.length) := by
      (show _ = _)
      rw [scT_jn, if_neg h0, spF_map]
    have HI : Hid (∀ n : Nat, n < 10 → ∀ W, Calls Tryz.prog 71 #[.int .i64 (n : Int)] W fun e w' => e = .returned (.string (sb (dgs n))) ∧ w' = W) := fun n hn W => itoa_any n hn W
    have HLO : Hid (∀ k, (L.getD k (0, 0)).1 < 10 ∧ (L.getD k (0, 0)).2 < 10) := spF_low hp
    have HSP : Hid (∀ k, sb (dgs (L.getD k (0, 0)).1) ++ ⟨#[46]⟩ ++ sb (dgs (L.getD k (0, 0)).2) = sb (spF L k)) := fun k => by
      rw [show (⟨#[46]⟩ : ByteArray) = sb [46] from rfl, sb_append, sb_append]
      unfold spF spT
      rw [List.append_assoc]
      rfl
    have hmk := makeT L.length (by omega) w
    have HS : Hid (SpW w L w.heap.size 0 (w.alloc (.cells (List.replicate L.length (.string ⟨#[]⟩)).toArray 9))) := SpW.start w L
    have HNX : Hid (∀ k wr w2, SpW w L w.heap.size k wr → Below wr.heap.size wr w2 → SpW w L w.heap.size (k + 1) (w2.setCell ⟨w.heap.size, k, none⟩ (st (spF L k)))) := fun k wr w2 h hb => h.next hb (Nat.le_refl _)
    have HJ : Hid (∀ wr, SpW w L w.heap.size L.length wr → Calls Tryz.prog 107 #[.slice (some ⟨w.heap.size, 0, none⟩) L.length L.length, .string ⟨#[32]⟩] wr fun e w' => e = .returned (st (scT L)) ∧ Below wr.heap.size wr w') := fun wr h => by
      rw [HR.out]
      exact blank_any _ L.length (spF L) wr (h.done hL) (by omega) hL (fun i _ => by rw [spF_len hp]; omega)
    obtain ⟨n, hn⟩ : ∃ n, n = L.length := ⟨_, rfl⟩
    have HN : Hid (n = L.length) := hn
    rw [← hn] at hL h0 hmk HS HJ ⊢
    have h0i : ((n : Int) == 0) = false := by rw [beq_eq_false_iff_ne]; omega
    clear hn hp HR
    go_enter Tryz.func74, Tryz.ntmps74
    go_wp2
    go_loopw [14] (fun i wr => ∃ k : Nat, k ≤ n ∧ i = .int .i64 k ∧ Hid (SpW w L w.heap.size k wr)) (fun i _ => n - (intOf i).toNat)
    case atStart =>
      refine ⟨0, Nat.zero_le _, rfl, ?_⟩
      first
        | exact HS
        | (have e : Array.replicate n (Value.string ⟨#[]⟩) = (List.replicate n (Value.string ⟨#[]⟩)).toArray := by simp
           rw [e]
           exact HS)
    case round =>
      clear HS hmk
      rename World => wr
      obtain ⟨k, hk, rfl, HX⟩ := hrel
      have hsz := HX.out.low.size
      by_cases hlt : k < n
      · obtain ⟨ad, rfl, c1', c2'⟩ := (HV.out.old HX.out.low).at k (by rw [← HN.out]; exact hlt)
        have hrow := HX.out.row.2 k (by rw [← HN.out]; exact hlt)
        have hf0 := hrow.2
        have hc0 : wr.cell? ⟨w.heap.size, k, none⟩ = some (.string ⟨#[]⟩) := by
          have := hrow.1
          dsimp only at this
          rw [if_neg (by omega)] at this
          exact this
        have hgl : w.heap.size < wr.heap.size := HX.out.row.1
        obtain ⟨q1, q2⟩ := HLO.out k
        have z1 : (sb (dgs (L.getD k (0, 0)).1)).size = 1 := by rw [sb_size, dgs_len1 q1]
        have z2 : (sb (dgs (L.getD k (0, 0)).2)).size = 1 := by rw [sb_size, dgs_len1 q2]
        have P1 := HI.out _ q1
        have P2 := HI.out _ q2
        have HSK : Hid (sb (dgs (L.getD k (0, 0)).1) ++ ⟨#[46]⟩ ++ sb (dgs (L.getD k (0, 0)).2) = sb (spF L k)) := HSP.out k
        have HNK : Hid (∀ w2, Below wr.heap.size wr w2 → SpW w L w.heap.size (k + 1) (w2.setCell ⟨w.heap.size, k, none⟩ (.string (sb (dgs (L.getD k (0, 0)).1) ++ ⟨#[46]⟩ ++ sb (dgs (L.getD k (0, 0)).2))))) := fun w2 hb => by
          rw [HSK.out]
          exact HNX.out k wr w2 HX.out hb
        clear hrow HX
        generalize sb (dgs (L.getD k (0, 0)).1) = s1 at *
        generalize sb (dgs (L.getD k (0, 0)).2) = s2 at *
        generalize (L.getD k (0, 0)).1 = y at *
        generalize (L.getD k (0, 0)).2 = z at *
        go_wp2
        refine region_last 11 (by kernel_rfl) (by kernel_rfl) ?_
        simp only [List.take_succ_cons, List.take_zero, List.drop_succ_cons, List.drop_zero]
        repeat (go_big_quiet_step ((first | (go_at_call 71; exact Calls.quiet_of_same (P1 _)) | (go_at_call 71; exact Calls.quiet_of_same (P2 _)))))
        refine wpQuiet_nil ?_
        intro w9 hw9
        obtain ⟨nq, rfl⟩ := hw9
        have HB : Hid (Below wr.heap.size wr ((wr.alloc (.cells #[.int .i64 (y : Int), .int .i64 (z : Int)] 170)).drewN nq)) := below_drewN ((Below.refl _ wr).alloc (Nat.le_refl _) _) nq
        have HZ := HNK.out _ HB.out
        have HZH : Hid (SpW w L w.heap.size (k + 1) _) := HZ
        clear HZ HNK HB c1' c2' P1 P2
        go_wp2
        go_roundw
        case rel => exact ⟨k + 1, by omega, by go_num, HZH.out⟩
        case measure => simp [intOf]; omega
      · obtain rfl : k = n := by omega
        have C := HJ.out wr HX.out
        have HLW : Hid (Below w.heap.size w wr) := HX.out.low
        unfold st at C
        obtain ⟨s, hs⟩ : ∃ s, s = sb (scT L) := ⟨_, rfl⟩
        have HSS : Hid (s = sb (scT L)) := hs
        rw [← hs] at C
        clear hs HX HJ HNX HSP HI
        go_wp2_with fail
        refine C.mono ?_
        rintro e w5 ⟨rfl, hb⟩
        have HB5 : Hid (Below w.heap.size w w5) := HLW.out.trans (hb.mono hsz)
        clear C hb
        go_wp2
        go_ret
        exact ⟨by (show _ = Ending.returned (Value.string (sb (scT L)))); rw [← HSS.out]; rfl, HB5.out⟩
end Go.Proofs.YteafakgjfmbhoaaGreatDoor

/- What the program's hexOf answers: a walk over the program. -/
namespace Go.Proofs.YteafakgjfmbhoaaGreatDoor
open Go.RowKit El Pol
theorem hx_take {xs : List El} {k : Nat} (h : k < xs.length) : hx (xs.take (k + 1)) = hx (xs.take k) ++ [hxC ((co xs k).val / 16), hxC ((co xs k).val % 16)] := by
  rw [List.take_add_one, co_at h, hx_append]
  rfl
theorem dg_tab : ∀ n : Fin 16, co dgT n.val = hxC n.val := by decide
theorem two_news (w : World) (a b : Value) (T : TypeId) : ∀ (j : Nat) u, [a, b][j]? = some u → (w.alloc (.cells #[a, b] T)).cell? ((⟨w.heap.size, 0, none⟩ : Addr).add j) = some u := fun j u hu =>
  World.news_of_block (heap_alloc_new w (.cells #[a, b] T)) j u hu
set_option maxHeartbeats 4000000 in
set_option maxRecDepth 100000 in
theorem hex_any (xs : List El) (hl : xs.length ≤ 1000) (w : World) :
    Calls Tryz.prog 65 #[st xs] w fun e w' => e = .returned (st (hx xs)) ∧ Below w.heap.size w w' := by
  obtain ⟨i0, hi, hz0, hz1, hz2⟩ := info_parts info8
  have hs := sb_size xs
  have hxx := sb_at xs
  have hdx : ∀ (i : Nat) (h : i < (⟨#[48, 49, 50, 51, 52, 53, 54, 55, 56, 57, 97, 98, 99, 100, 101, 102]⟩ : ByteArray).size), ((⟨#[48, 49, 50, 51, 52, 53, 54, 55, 56, 57, 97, 98, 99, 100, 101, 102]⟩ : ByteArray)[i]'h).toNat = (co dgT i).val := sb_at dgT
  have HK : Hid (∀ k, k < xs.length → hx (xs.take (k + 1)) = hx (xs.take k) ++ [hxC ((co xs k).val / 16), hxC ((co xs k).val % 16)]) := fun k hk => hx_take hk
  have HE : Hid (xs.take xs.length = xs) := List.take_length
  have HL : Hid (∀ k, (hx (xs.take k)).length ≤ 2000) := fun k => by
    rw [hx_len, List.length_take]; omega
  obtain ⟨n, hn⟩ : ∃ n, n = xs.length := ⟨_, rfl⟩
  have HNL : Hid (n = xs.length) := hn
  rw [← hn] at hs hl
  clear hn
  unfold st
  generalize sb xs = t at *
  go_enter Tryz.func65, Tryz.ntmps65
  go_wp2
  go_loopw [3, 7] (fun v i wr => ∃ k : Nat, k ≤ n ∧ i = .int .i64 k ∧ Hid (Ow w.heap.size wr v (hx (xs.take k))) ∧ Hid (Below w.heap.size w wr)) (fun _ i _ => n - (intOf i).toNat)
  case atStart => exact ⟨0, Nat.zero_le _, rfl, World.ownsRow_nil _ _ _ _, Below.refl _ _⟩
  case round =>
    rename World => wr
    obtain ⟨k, hk, rfl, HO, HB⟩ := hrel
    have hsz := HB.out.size
    by_cases hlt : k < n
    · have hO := HO.out
      have HOX := HO
      have hll := HL.out k
      unfold Ow at hO
      obtain ⟨x, hxe⟩ : ∃ x, x = (co xs k).val := ⟨_, rfl⟩
      have hx256 : x < 256 := by rw [hxe]; exact (co xs k).isLt
      have q1 : x / 16 < 16 := by omega
      have q2 : x % 16 < 16 := by omega
      have HX : Hid (x = (co xs k).val) := hxe
      have hxk : ∀ (h : k < t.size), (t[k]'h).toNat = x := fun h => by rw [hxx k h, hxe]
      clear hxe hxx
      have HKK := HK.out k (by rw [← HNL.out]; exact hlt)
      rw [← HX.out] at HKK
      have HK2 : Hid (hx (xs.take (k + 1)) = hx (xs.take k) ++ [hxC (x / 16), hxC (x % 16)]) := HKK
      clear HKK HO
      have hxk2 := hxk (by omega)
      clear hxk
      obtain ⟨a1, c1, rfl, _⟩ := (Ow.rd HOX.out).len
      have hw1 : IntKind.u8.wrap ((x : Int) / 16) = ((x / 16 : Nat) : Int) := by
        rw [IntKind.wrap_u8]; omega
      have hw2 : (x : Int).tmod 16 = ((x % 16 : Nat) : Int) := by
        rw [Int.tmod_eq_emod_of_nonneg (by omega)]; omega
      have e1 : co dgT (x / 16) = hxC (x / 16) := dg_tab ⟨x / 16, q1⟩
      have e2 : co dgT (x % 16) = hxC (x % 16) := dg_tab ⟨x % 16, q2⟩
      generalize hxC (x / 16) = d1 at *
      generalize hxC (x % 16) = d2 at *
      generalize x / 16 = y1 at *
      generalize x % 16 = y2 at *
      have hz16 : (⟨#[48, 49, 50, 51, 52, 53, 54, 55, 56, 57, 97, 98, 99, 100, 101, 102]⟩ : ByteArray).size = 16 := rfl
      have g1 := hdx y1 (by rw [hz16]; exact q1)
      have g2 := hdx y2 (by rw [hz16]; exact q2)
      rw [e1] at g1
      rw [e2] at g2
      clear hdx
      have y1i : (y1 : Int) < 16 := by omega
      have y2i : (y2 : Int) < 16 := by omega
      go_wp2
      go_region_law ((refine step_append_lies _ (by rfl) _ _ _ (by rfl) w.heap.size 5 i0 (.int .u8 0) 1 1 Tryz.underlying47 hi hz0 hz1 hz2 rfl (by decide) _ _ _ (by rfl) (World.ownsRow.alloc hO _) ⟨wr.heap.size, 0, none⟩ 2 2 [.int .u8 ((d1.val : Nat) : Int), .int .u8 ((d2.val : Nat) : Int)] (by rfl) rfl (two_news _ _ _ _) (by intro u hu; simp at hu; rcases hu with rfl | rfl <;> rfl) (by omega) (by unfold maxLen; omega) (by omega) (by simp; omega) _ rfl ?_; intro g cap w4 hO4 hg4 ha4 hl4))
      all_goals
        have hO5 : Hid (Ow w.heap.size w4 (.slice (some ⟨g, 0, none⟩) ((hx (xs.take k)).length + 2) cap) (hx (xs.take (k + 1)))) := by
          (show Ow _ _ _ _)
          rw [HK2.out]
          unfold Ow
          rw [List.length_append, List.map_append]
          exact hO4
        have hB5 : Hid (Below w.heap.size w w4) := by
          (show Below _ _ _)
          exact Below.grown (by first | exact Below.drew (Below.alloc HB.out hsz _) | exact Below.alloc (Below.drew HB.out) hsz _) hg4 (by simp; omega) (fun j hj => (HOX.out.lt j hj).1)
        clear hO4 hg4 ha4 hl4 hO HOX HK2 hll e1 e2 g1 g2 hw1 hw2 hxk2 HX
        generalize (hx (xs.take k)).length + 2 = z2 at *
        go_wp2
        go_roundw
        case rel => exact ⟨k + 1, by omega, by go_num, hO5, hB5⟩
        case measure => simp [intOf]; omega
    · have ek : k = n := by omega
      have HR : Hid (hx (xs.take k) = hx xs) := by
        (show _ = _)
        rw [ek, HNL.out, HE.out]
      have hO := HO
      rw [HR.out] at hO
      have CT := run_text (Ow.rd hO.out) 47 9 Tryz.underlying47 Tryz.underlying9
      have hck : ¬ (k : Int) < (n : Int) := by omega
      clear HO hO ek HR
      unfold st at CT
      obtain ⟨o, ho⟩ : ∃ o, o = sb (hx xs) := ⟨_, rfl⟩
      have HS : Hid (o = sb (hx xs)) := ho
      rw [← ho] at CT
      clear ho
      go_wp2
      go_ret
      exact ⟨by rw [← HS.out]; rfl, HB.out⟩
end Go.Proofs.YteafakgjfmbhoaaGreatDoor
