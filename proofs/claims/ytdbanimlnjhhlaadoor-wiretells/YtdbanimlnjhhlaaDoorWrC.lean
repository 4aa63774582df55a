/- Bytes as a row, plainly: which bytes are such a row, and of which. -/
import Derived.Test.YtdbanimlnjhhlaaDoorWrB
namespace Go.Proofs.YtdbanimlnjhhlaaDoor
def wrow (t : List El) : Nat := (t.getD 0 0).val
def wmany (t : List El) : Nat := (t.getD 1 0).val
def wsize (t : List El) : Nat := (t.getD 2 0).val
/-- the i-th part -/
def wpt (t : List El) (i : Nat) : List El := (t.drop (3 + i * wsize t)).take (wsize t)
/-- bytes that are a row -/
structure WUn (t : List El) : Prop where
  len : t.length = 5 + wmany t * wsize t
  zero : wmany t = 0 → wsize t = 0
  row : wrow t < 20
  many : wmany t ≤ 12
  size : wsize t ≤ 16
  pk : Pkd t
theorem wpt_flat (t : List El) : ∀ k, wfl (wpt t) k = (t.drop 3).take (k * wsize t)
  | 0 => by simp [wfl]
  | k + 1 => by
    rw [wfl_succ, wpt_flat t k, Nat.add_mul, Nat.one_mul, List.take_add, List.drop_drop]
    rfl
theorem wpt_len {t : List El} (h : t.length = 5 + wmany t * wsize t) {i : Nat} (hi : i < wmany t) : (wpt t i).length = wsize t := by
  unfold wpt
  rw [List.length_take, List.length_drop]
  have h1 : (i + 1) * wsize t ≤ wmany t * wsize t := Nat.mul_le_mul_right _ hi
  rw [Nat.add_mul, Nat.one_mul] at h1
  omega
theorem wpt_size {t : List El} (h : WUn t) : wsz (wpt t) (wmany t) = wsize t := by
  unfold wsz
  split
  · rename_i e; exact (h.zero e).symm
  · exact wpt_len h.len (by omega)
theorem wun_ok {t : List El} (h : WUn t) : WOk (wrow t) (wmany t) (wpt t) :=
  ⟨h.row, h.many, fun i hi => by rw [wpt_size h]; exact wpt_len h.len hi, by rw [wpt_size h]; exact h.size⟩
theorem wb_of (x : El) : wb x.val = x := Fin.ext (wb_val x.isLt)
theorem three {t : List El} (h : 3 ≤ t.length) : t = wb (wrow t) :: wb (wmany t) :: wb (wsize t) :: t.drop 3 := by
  match t, h with
  | a :: b :: c :: l, _ =>
    show a :: b :: c :: l = wb a.val :: wb b.val :: wb c.val :: l
    rw [wb_of, wb_of, wb_of]
theorem wun_body {t : List El} (h : WUn t) : wbody (wrow t) (wmany t) (wpt t) = t.take (t.length - 2) := by
  have hl := h.len
  have h3 := three (t := t) (by omega)
  unfold wbody
  rw [wpt_size h, wpt_flat]
  have e : t.length - 2 = wmany t * wsize t + 1 + 1 + 1 := by omega
  rw [e]
  generalize wmany t * wsize t = q
  have h4 : t.take (q + 1 + 1 + 1) = (wb (wrow t) :: wb (wmany t) :: wb (wsize t) :: t.drop 3).take (q + 1 + 1 + 1) := congrArg (List.take (q + 1 + 1 + 1)) h3
  rw [h4, List.take_succ_cons, List.take_succ_cons, List.take_succ_cons]
/-- they are what is packed of it -/
theorem wun_pack {t : List El} (h : WUn t) : wpack (wrow t) (wmany t) (wpt t) = t := by
  unfold wpack
  rw [wun_body h, ← h.pk.2, List.take_append_drop]
/-- what is packed is such a row, and of that row -/
theorem pack_wun {row k : Nat} {f : Nat → List El} (h : WOk row k f) : WUn (wpack row k f) ∧ wrow (wpack row k f) = row ∧ wmany (wpack row k f) = k ∧ ∀ i, i < k → wpt (wpack row k f) i = f i := by
  have h1 := h.row
  have h2 := h.many
  have h3 := h.short
  have e1 : wrow (wpack row k f) = row := wb_val (by omega)
  have e2 : wmany (wpack row k f) = k := wb_val (by omega)
  have e3 : wsize (wpack row k f) = wsz f k := wb_val (by omega)
  have hu : WUn (wpack row k f) := ⟨by rw [wpack_len h, e2, e3], fun z => by rw [e3]; rw [e2] at z; unfold wsz; rw [if_pos z], by rw [e1]; exact h1, by rw [e2]; exact h2, by rw [e3]; exact h3, wpack_pkd _ _ _⟩
  refine ⟨hu, e1, e2, ?_⟩
  have hp := wun_pack hu
  rw [e1, e2] at hp
  have hk := wun_ok hu
  rw [e1, e2] at hk
  exact (wpack_inj hk h hp).2.2.2
/-- of one byte that is not known there is one alone with which they are a row -/
theorem wun_one {a b : List El} {y z : El} (hy : WUn (a ++ y :: b)) (hz : WUn (a ++ z :: b)) : y = z := pkd_one hy.pk hz.pk
end Go.Proofs.YtdbanimlnjhhlaaDoor
