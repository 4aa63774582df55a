/- Texts one behind the other, and cut: as lists of elements. -/
import Derived.Test.YtdbanimlnjhhlaaDoorTxt
namespace Go.Proofs.YtdbanimlnjhhlaaDoor
open Go.RowKit El Pol
theorem sb_append (xs ys : List El) : sb xs ++ sb ys = sb (xs ++ ys) := by
  apply ByteArray.ext
  rw [ByteArray.data_append]
  show (xs.map _).toArray ++ (ys.map _).toArray = ((xs ++ ys).map _).toArray
  simp
theorem sb_extract (xs : List El) (a b : Nat) : (sb xs).extract a b = sb ((xs.take b).drop a) := by
  apply ByteArray.ext
  rw [ByteArray.data_extract]
  show (xs.map _).toArray.extract a b = (((xs.take b).drop a).map _).toArray
  simp [List.drop_take]
theorem sb_nil : sb [] = ⟨#[]⟩ := rfl
theorem st_nil : st [] = .string ⟨#[]⟩ := rfl
theorem sb_bytes (xs : List El) : (sb xs).data.toList = xs.map (fun x => UInt8.ofNat x.val) := by
  show (xs.map (fun x => UInt8.ofNat x.val)).toArray.toList = _
  simp
theorem sb_mk (xs : List El) : (⟨(xs.map (fun x => UInt8.ofNat x.val)).toArray⟩ : ByteArray) = sb xs := rfl
/-- at one place another byte -/
def wset (xs : List El) (j : Nat) (x : El) : List El := xs.take j ++ x :: xs.drop (j + 1)
theorem wset_len {xs : List El} {j : Nat} (h : j < xs.length) (x : El) : (wset xs j x).length = xs.length := by
  unfold wset
  rw [List.length_append, List.length_cons, List.length_take, List.length_drop]
  omega
theorem wset_self {xs : List El} {j : Nat} (h : j < xs.length) : wset xs j (co xs j) = xs := by
  unfold wset
  have : co xs j = xs[j] := by simp [co, List.getD_eq_getElem?_getD, h]
  rw [this, ← List.drop_eq_getElem_cons h, List.take_append_drop]
theorem wset_wset {xs : List El} {j : Nat} (h : j < xs.length) (x y : El) : wset (wset xs j x) j y = wset xs j y := by
  have h1 : (xs.take j).length = j := by rw [List.length_take]; omega
  unfold wset
  rw [List.take_left' h1, List.drop_append, List.drop_of_length_le (by rw [h1]; omega), List.nil_append, h1, Nat.add_sub_cancel_left, List.drop_succ_cons, List.drop_zero]
theorem sb_wset (xs : List El) (j : Nat) (x : El) : (sb xs).extract 0 j ++ sb [x] ++ (sb xs).extract (j + 1) xs.length = sb (wset xs j x) := by
  rw [sb_extract, sb_extract, sb_append, sb_append, List.drop_zero, List.take_length, List.append_assoc]
  rfl
end Go.Proofs.YtdbanimlnjhhlaaDoor
