/- Texts, lists of texts and of truth values in memory: what is read, and what the call itself made. -/
import Derived.Test.YtkdalohgjiddeabDoorMe
import Derived.Laws.IdiomStrings
import Derived.Laws.DeepStrings4
namespace Go.Proofs.YtkdalohgjiddeabDoor
open Go.RowKit El Pol
/-- elements as the bytes of a text -/
def sb (xs : List El) : ByteArray := ⟨(xs.map (fun x => UInt8.ofNat x.val)).toArray⟩
abbrev st (xs : List El) : Value := .string (sb xs)
theorem sb_size (xs : List El) : (sb xs).size = xs.length := by
  show (xs.map (fun x => UInt8.ofNat x.val)).toArray.size = _
  simp
theorem u8_val (x : El) : (UInt8.ofNat x.val).toNat = x.val := by
  rw [UInt8.toNat_ofNat']
  exact Nat.mod_eq_of_lt x.isLt
theorem u8_inj {x y : El} (h : UInt8.ofNat x.val = UInt8.ofNat y.val) : x = y := by
  have := congrArg UInt8.toNat h
  rw [u8_val, u8_val] at this
  exact Fin.ext this
theorem sb_at (xs : List El) (i : Nat) (h : i < (sb xs).size) : ((sb xs)[i]'h).toNat = (co xs i).val := by
  have hl : i < xs.length := by rwa [sb_size] at h
  show ((xs.map (fun x => UInt8.ofNat x.val)).toArray[i]'(by simpa using hl)).toNat = _
  rw [List.getElem_toArray, List.getElem_map, u8_val]
  simp [co, List.getD_eq_getElem?_getD, hl]
theorem sb_of (s : ByteArray) : ∃ xs : List El, s = sb xs := by
  refine ⟨s.data.toList.map (fun b => b.toFin), ?_⟩
  obtain ⟨d⟩ := s
  show _ = ByteArray.mk ((d.toList.map (fun b => b.toFin)).map (fun x : El => UInt8.ofNat x.val)).toArray
  congr 1
  rw [List.map_map]
  have : ((fun x : El => UInt8.ofNat x.val) ∘ fun b : UInt8 => b.toFin) = id := by
    funext b
    show UInt8.ofNat b.toFin.val = b
    exact UInt8.ofNat_toNat
  rw [this, List.map_id]
theorem sb_list (xs : List El) : (sb xs).toList = xs.map (fun x => UInt8.ofNat x.val) := ByteArray.toList_mk _
theorem sb_same (xs ys : List El) : ((sb xs).toList == (sb ys).toList) = decide (xs = ys) := by
  rw [sb_list, sb_list, Bool.eq_iff_iff, beq_iff_eq, decide_eq_true_iff]
  constructor
  · exact fun h => List.map_inj_right (fun a b e => u8_inj e) |>.1 h
  · exact fun h => by rw [h]
theorem sb_inj {xs ys : List El} (h : sb xs = sb ys) : xs = ys := by
  have := sb_same xs ys
  rw [h] at this
  simpa using this.symm
/-- the slice v reads as f 0, f 1 .. -/
def RdF (w : World) (v : Value) (n : Nat) (f : Nat → Value) : Prop :=
  (v = .slice none 0 0 ∧ n = 0) ∨
  ∃ ad cap, v = .slice (some ad) n cap ∧ n ≤ cap ∧ cap ≤ 9223372036854775807 ∧ ∀ i, i < n → w.cell? (ad.add i) = some (f i)
theorem RdF.old {w w' : World} {v : Value} {n : Nat} {f : Nat → Value} (h : RdF w v n f) (hb : Below w.heap.size w w') : RdF w' v n f := by
  rcases h with h | ⟨ad, cap, rfl, h1, h2, h3⟩
  · exact .inl h
  · exact .inr ⟨ad, cap, rfl, h1, h2, fun i hi => by rw [hb.cell (World.block_lt_of_cell? w _ (h3 i hi))]; exact h3 i hi⟩
theorem RdF.len {w : World} {v : Value} {n : Nat} {f : Nat → Value} (h : RdF w v n f) : ∃ ao cap, v = .slice ao n cap ∧ n ≤ cap ∧ cap ≤ 9223372036854775807 := by
  rcases h with ⟨rfl, rfl⟩ | ⟨ad, cap, rfl, h1, h2, _⟩
  · exact ⟨none, 0, rfl, Nat.le_refl _, by omega⟩
  · exact ⟨some ad, cap, rfl, h1, h2⟩
theorem RdF.at {w : World} {ao : Option Addr} {m n cap : Nat} {f : Nat → Value} (h : RdF w (.slice ao m cap) n f) (i : Nat) (hi : i < n) : ∃ ad, ao = some ad ∧ w.cell? (ad.add i) = some (f i) := by
  rcases h with ⟨_, rfl⟩ | ⟨ad, cap', he, _, _, h3⟩
  · omega
  · simp only [Value.slice.injEq] at he
    obtain ⟨rfl, _, rfl⟩ := he
    exact ⟨ad, rfl, h3 i hi⟩
theorem RdF.congr {w : World} {v : Value} {n : Nat} {f g : Nat → Value} (h : RdF w v n f) (e : ∀ i, i < n → f i = g i) : RdF w v n g := by
  rcases h with h | ⟨ad, cap, rfl, h1, h2, h3⟩
  · exact .inl h
  · exact .inr ⟨ad, cap, rfl, h1, h2, fun i hi => by rw [← e i hi]; exact h3 i hi⟩
/-- cut at its end -/
theorem RdF.cut {w : World} {ao : Option Addr} {m n k cap : Nat} {f : Nat → Value} (h : RdF w (.slice ao m cap) n f) (hk : k ≤ n) : RdF w (.slice ao k cap) k f := by
  rcases h with ⟨e, rfl⟩ | ⟨ad, cap', he, h1, h2, h3⟩
  · cases e; exact .inl ⟨by rw [show k = 0 by omega], by omega⟩
  · simp only [Value.slice.injEq] at he
    obtain ⟨rfl, rfl, rfl⟩ := he
    exact .inr ⟨ad, cap, rfl, by omega, h2, fun i hi => h3 i (by omega)⟩
/-- the rows of a list of lists, as it stands -/
theorem RdM.rdF {w : World} {v : Value} {n : Nat} {a : Nat → List El} (h : RdM w v n a) : ∃ rv : Nat → Value, RdF w v n rv ∧ ∀ i, i < n → Rd w (rv i) (a i) := by
  rcases h with ⟨rfl, rfl⟩ | ⟨ad, cap, rv, rfl, h1, h2, h3⟩
  · exact ⟨fun _ => .slice none 0 0, .inl ⟨rfl, rfl⟩, fun i hi => by omega⟩
  · exact ⟨rv, .inr ⟨ad, cap, rfl, h1, h2, fun i hi => (h3 i hi).1⟩, fun i hi => (h3 i hi).2⟩
theorem RdF.rdM {w : World} {v : Value} {n : Nat} {a : Nat → List El} {rv : Nat → Value} (h : RdF w v n rv) (hr : ∀ i, i < n → Rd w (rv i) (a i)) : RdM w v n a := by
  rcases h with h | ⟨ad, cap, rfl, h1, h2, h3⟩
  · exact .inl h
  · exact .inr ⟨ad, cap, rv, rfl, h1, h2, fun i hi => ⟨h3 i hi, hr i hi⟩⟩
/-- the slice v is the call's own, and holds xs, each of one cell -/
abbrev OwL (B : Nat) (T : TypeId) (w : World) (v : Value) (xs : List Value) : Prop := w.ownsRow B T 1 v xs.length xs
theorem OwL.rdF {B : Nat} {T : TypeId} {w : World} {v : Value} {n : Nat} {xs : List Value} {f : Nat → Value} (h : w.ownsRow B T 1 v n xs) (hf : ∀ i, i < n → xs[i]? = some (f i)) : RdF w v n f := by
  have h0 := h
  rcases h.2 with ⟨rfl, hn⟩ | ⟨g, cap, cur, rfl, hb, hg, hc, hm, _⟩
  · exact .inl ⟨rfl, hn⟩
  · refine .inr ⟨⟨g, 0, none⟩, cap, rfl, hc, by unfold maxLen at hm; omega, fun i hi => ?_⟩
    have e : (⟨g, 0, none⟩ : Addr).add i = ⟨g, i, none⟩ := by unfold Addr.add; split <;> simp_all
    rw [e, World.ownsRow.cellAt h0 i (by omega)]
    exact hf i hi
theorem OwL.rdM {B : Nat} {T : TypeId} {w : World} {v : Value} {n : Nat} {f : Nat → Value} (h : w.ownsRow B T 1 v n ((List.range n).map f)) : RdF w v n f := OwL.rdF h (fun i hi => by simp [hi])
/-- the bytes of a list as a text -/
theorem run_text {w : World} {v : Value} {xs : List El} (h : Rd w v xs) (src dst : TypeId) (hs : Tryd.prog.underlying src = some (.slice 5)) (hd : Tryd.prog.underlying dst = some .string) :
    (convert src dst v).run Tryd.prog w = .ok (st xs) w := by
  rcases h with ⟨rfl, rfl⟩ | ⟨ad, cap, rfl, h1, h2, h3⟩
  · rw [run_convert_bytes_string w src dst 5 none 0 0 hs Tryd.underlying5 hd]
    rfl
  · have := run_convert_bytes_back w src dst 5 ad cap (xs.map (fun x => UInt8.ofNat x.val)) hs Tryd.underlying5 hd (fun j hj => by
      rw [List.length_map] at hj
      rw [h3 j hj, List.getElem_map, u8_val]
      simp [co, List.getD_eq_getElem?_getD, hj])
    rw [List.length_map] at this
    exact this
end Go.Proofs.YtkdalohgjiddeabDoor
