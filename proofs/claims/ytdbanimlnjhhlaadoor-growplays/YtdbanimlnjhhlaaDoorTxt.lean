/- Texts in memory: elements as the bytes of a text. They want no function of the field. -/
import Derived.Test.YtdbanimlnjhhlaaDoorMem
import Derived.Laws.IdiomStrings
import Derived.Laws.DeepStrings4
namespace Go.Proofs.YtdbanimlnjhhlaaDoor
open Go.RowKit El Pol
/-- elements as the bytes of a text -/
def sb (xs : List El) : ByteArray := ⟨(xs.map (fun x => UInt8.ofNat x.val)).toArray⟩
abbrev st (xs : List El) : Value := .string (sb xs)
theorem sb_size (xs : List El) : (sb xs).size = xs.length := by
  show (xs.map (fun x => UInt8.ofNat x.val)).toArray.size = _
  simp
theorem u8_val (x : El) : (UInt8.ofNat x.val).toNat = x.val := by
  rw [UInt8.toNat_ofNat']
  exact Nat.mod_eq_of_lt x.isLt
theorem u8_inj {x y : El} (h : UInt8.ofNat x.val = UInt8.ofNat y.val) : x = y := by
  have := congrArg UInt8.toNat h
  rw [u8_val, u8_val] at this
  exact Fin.ext this
theorem sb_at (xs : List El) (i : Nat) (h : i < (sb xs).size) : ((sb xs)[i]'h).toNat = (co xs i).val := by
  have hl : i < xs.length := by rwa [sb_size] at h
  show ((xs.map (fun x => UInt8.ofNat x.val)).toArray[i]'(by simpa using hl)).toNat = _
  rw [List.getElem_toArray, List.getElem_map, u8_val]
  simp [co, List.getD_eq_getElem?_getD, hl]
theorem sb_of (s : ByteArray) : ∃ xs : List El, s = sb xs := by
  refine ⟨s.data.toList.map (fun b => b.toFin), ?_⟩
  obtain ⟨d⟩ := s
  show _ = ByteArray.mk ((d.toList.map (fun b => b.toFin)).map (fun x : El => UInt8.ofNat x.val)).toArray
  congr 1
  rw [List.map_map]
  have : ((fun x : El => UInt8.ofNat x.val) ∘ fun b : UInt8 => b.toFin) = id := by
    funext b
    show UInt8.ofNat b.toFin.val = b
    exact UInt8.ofNat_toNat
  rw [this, List.map_id]
theorem sb_list (xs : List El) : (sb xs).toList = xs.map (fun x => UInt8.ofNat x.val) := ByteArray.toList_mk _
theorem sb_same (xs ys : List El) : ((sb xs).toList == (sb ys).toList) = decide (xs = ys) := by
  rw [sb_list, sb_list, Bool.eq_iff_iff, beq_iff_eq, decide_eq_true_iff]
  constructor
  · exact fun h => List.map_inj_right (fun a b e => u8_inj e) |>.1 h
  · exact fun h => by rw [h]
theorem sb_inj {xs ys : List El} (h : sb xs = sb ys) : xs = ys := by
  have := sb_same xs ys
  rw [h] at this
  simpa using this.symm
/-- the bytes of a list as a text -/
theorem run_text {w : World} {v : Value} {xs : List El} (h : Rd w v xs) (src dst : TypeId) (hs : Tryd.prog.underlying src = some (.slice 5)) (hd : Tryd.prog.underlying dst = some .string) :
    (convert src dst v).run Tryd.prog w = .ok (st xs) w := by
  rcases h with ⟨rfl, rfl⟩ | ⟨ad, cap, rfl, h1, h2, h3⟩
  · rw [run_convert_bytes_string w src dst 5 none 0 0 hs Tryd.underlying5 hd]
    rfl
  · have := run_convert_bytes_back w src dst 5 ad cap (xs.map (fun x => UInt8.ofNat x.val)) hs Tryd.underlying5 hd (fun j hj => by
      rw [List.length_map] at hj
      rw [h3 j hj, List.getElem_map, u8_val]
      simp [co, List.getD_eq_getElem?_getD, hj])
    rw [List.length_map] at this
    exact this
theorem infoT : (Tryd.prog.info? 9).map (fun i => (i.zero, i.size, i.bytes)) = some (some (.string ⟨#[]⟩), 1, 16) := by kernel_rfl
end Go.Proofs.YtdbanimlnjhhlaaDoor
