/- PoolSlots: the state between the steps; which disks stand in slots. -/
import Derived.Test.YticgapgggoklfaaPoL
import Derived.Test.YticgapgggoklfaaScr
namespace Go.Proofs.Yticgapgggoklfaa
open Go.RowKit
namespace Plo
theorem fail_same (t : Plo) (d : Int) : (t.fail d).wk = t.wk ∧ (t.fail d).n = t.n := by
  unfold fail
  split
  · split <;> exact ⟨rfl, rfl⟩
  · exact ⟨rfl, rfl⟩
theorem fill_same (t : Plo) (d : Int) : (t.fill d).wk = t.wk ∧ (t.fill d).n = t.n := by
  unfold fill
  split <;> exact ⟨rfl, rfl⟩
theorem new_same (t : Plo) (d : Int) : (t.new d).wk = t.wk ∧ (t.new d).n = t.n := by
  unfold new
  split
  · split <;> exact ⟨rfl, rfl⟩
  · exact ⟨rfl, rfl⟩
/-- of the first k slots one has the disk d; one has none -/
def has (t : Plo) (k d : Nat) : Bool := anyB (fun j => decide (t.sl j = ((d : Nat) : Int))) k
def opn (t : Plo) (k : Nat) : Bool := anyB (fun j => decide (t.sl j = -1)) k
end Plo
theorem anyB_succ (p : Nat → Bool) (k : Nat) : anyB p (k + 1) = (anyB p k || p k) := by
  unfold anyB
  rw [List.range_succ, List.any_append]
  simp
namespace Plo
variable {t : Plo} {k m : Nat}
theorem has_none (h : t.sl k = -1) (d : Nat) : t.has (k + 1) d = t.has k d := by
  unfold has
  rw [anyB_succ, decide_eq_false (by omega), Bool.or_false]
theorem opn_none (h : t.sl k = -1) : t.opn (k + 1) = true := by
  unfold opn
  rw [anyB_succ, decide_eq_true h, Bool.or_true]
theorem has_disk (h : t.sl k = (m : Int)) (d : Nat) : t.has (k + 1) d = if d = m then true else t.has k d := by
  unfold has
  rw [anyB_succ]
  by_cases e : d = m
  · rw [if_pos e, decide_eq_true (by omega), Bool.or_true]
  · rw [if_neg e, decide_eq_false (by omega), Bool.or_false]
theorem opn_disk (h : t.sl k = (m : Int)) : t.opn (k + 1) = t.opn k := by
  unfold opn
  rw [anyB_succ, decide_eq_false (by omega), Bool.or_false]
theorem has_not (ho : t.ok) (hk : k < t.wk) (h : t.sl k = (m : Int)) : t.has k m = false := by
  unfold has
  rw [anyB_false]
  intro j hj
  refine decide_eq_false (fun e => ?_)
  have := ho.one j k (by omega) hk (e.trans h.symm) (by omega)
  omega
/-- of a disk that stands in a slot, and of one that stands in none -/
theorem has_yes (ho : t.ok) {d : Nat} (h : t.has t.wk d = true) : t.st d = 0 ∨ t.st d = 3 := by
  unfold has at h
  rw [anyB_true] at h
  obtain ⟨j, hj, e⟩ := h
  have e' := of_decide_eq_true e
  rcases ho.slot j hj with q | ⟨c, _, q, r⟩
  · omega
  · obtain rfl : c = d := by omega
    exact r
theorem has_no (ho : t.ok) {d : Nat} (hd : d < t.n) (h : t.has t.wk d = false) : (t.st d = 1 ∧ t.opn t.wk = false) ∨ t.st d = 2 := by
  have h3 := ho.s3 d
  unfold has at h
  rw [anyB_false] at h
  have h03 : ¬ (t.st d = 0 ∨ t.st d = 3) := fun q => by
    obtain ⟨j, hj, e⟩ := ho.all d hd q
    exact of_decide_eq_false (h j hj) e
  by_cases e : t.st d = 1
  · refine .inl ⟨e, ?_⟩
    unfold opn
    rw [anyB_false]
    intro j hj
    exact decide_eq_false (fun q => ho.full j hj q d hd e)
  · exact .inr (by omega)
end Plo
/-- the pool t of a slots and n disks at x -/
structure PN (w : World) (x : PP) (a n : Nat) (t : Plo) (wc : World) : Prop where
  pl : PL w x t wc
  wk : t.wk = a
  n : t.n = n
section
variable {w wc w1 : World} {x : PP} {a n : Nat} {t : Plo}
theorem PN.low (h : PN w x a n t wc) : Below w.heap.size w wc := h.pl.low
theorem PN.old (h : PN w x a n t wc) (hb : Below wc.heap.size wc w1) : PN w x a n t w1 := ⟨h.pl.old hb, h.wk, h.n⟩
theorem PN.elsewhere (h : PN w x a n t wc) {F : Nat → Prop} (hb : But F wc w1) (hF : ∀ k, F k → w.heap.size ≤ k) (hn : ∀ k, x.F k → ¬ F k) : PN w x a n t w1 := ⟨h.pl.elsewhere hb hF hn, h.wk, h.n⟩
theorem PN.fail (h : PN w x a n t wc) (d : Int) : Calls Try.prog 8 #[.pointer (some ⟨x.p, 0, none⟩), .int .i64 d] wc fun e w' => e = .returned (.tuple #[.int .i64 (t.failN d), errV (t.failE d)]) ∧ PN w x a n (t.fail d) w' ∧ But x.F wc w' :=
  (h.pl.fail d).mono (by rintro e w' ⟨rfl, hI, hb⟩; exact ⟨rfl, ⟨hI, (t.fail_same d).1.trans h.wk, (t.fail_same d).2.trans h.n⟩, hb⟩)
theorem PN.fill (h : PN w x a n t wc) (d : Int) : Calls Try.prog 10 #[.pointer (some ⟨x.p, 0, none⟩), .int .i64 d] wc fun e w' => e = .returned (errV (t.fillE d)) ∧ PN w x a n (t.fill d) w' ∧ But x.F wc w' :=
  (h.pl.fill d).mono (by rintro e w' ⟨rfl, hI, hb⟩; exact ⟨rfl, ⟨hI, (t.fill_same d).1.trans h.wk, (t.fill_same d).2.trans h.n⟩, hb⟩)
theorem PN.new (h : PN w x a n t wc) (d : Int) : Calls Try.prog 11 #[.pointer (some ⟨x.p, 0, none⟩), .int .i64 d] wc fun e w' => e = .returned (.tuple #[.int .i64 (t.newN d), errV (t.newE d)]) ∧ PN w x a n (t.new d) w' ∧ But x.F wc w' :=
  (h.pl.new d).mono (by rintro e w' ⟨rfl, hI, hb⟩; exact ⟨rfl, ⟨hI, (t.new_same d).1.trans h.wk, (t.new_same d).2.trans h.n⟩, hb⟩)
theorem PN.slots (h : PN w x a n t wc) : Calls Try.prog 9 #[.pointer (some ⟨x.p, 0, none⟩)] wc fun e w' => ∃ v, e = .returned v ∧ OwI wc.heap.size w' v a t.sl ∧ Below wc.heap.size wc w' := by
  have := pslots h.pl.isp h.pl.ok
  rw [h.wk] at this
  exact this
theorem PN.states (h : PN w x a n t wc) : Calls Try.prog 12 #[.pointer (some ⟨x.p, 0, none⟩)] wc fun e w' => ∃ v, e = .returned v ∧ OwI wc.heap.size w' v n (fun d => ((t.st d : Nat) : Int)) ∧ Below wc.heap.size wc w' := by
  have := pstates h.pl.isp h.pl.ok
  rw [h.n] at this
  exact this
theorem VN.newP (h : PN w x a n t wc) (ty : TypeId) : VN w x.F wc.heap.size 2 (wc.alloc (.cells #[.int .i64 0, .int .i64 0] ty)) (fun _ => 0) :=
  ⟨RowAt.new wc 2 (.int .i64 0) ty, h.low.size, fun hf => by have := h.pl.isp.lt _ hf; omega⟩
end
/-- the pool, its slots and states as they were told, and which disks were met (at g) -/
structure SJ (w : World) (x : PP) (a n : Nat) (t : Plo) (g : Nat) (al : Option Addr) (cl : Nat) (at1 : Option Addr) (cs : Nat) (f : Nat → Bool) (wc : World) : Prop where
  pn : PN w x a n t wc
  rl : RdF wc (.slice al a cl) a (fun i => vi (t.sl i))
  rs : RdF wc (.slice at1 n cs) n (fun d => vi ((t.st d : Nat) : Int))
  row : RowAt wc g 20 (fun d => .bool (f d))
  nl : ∀ k, (Value.slice al a cl).ownBlock = some k → k ≠ g
  ns : ∀ k, (Value.slice at1 n cs).ownBlock = some k → k ≠ g
  nx : ∀ k, x.F k → k ≠ g
  hg : w.heap.size ≤ g
section
variable {w wc : World} {x : PP} {a n g cl cs : Nat} {t : Plo} {al at1 : Option Addr} {f f' : Nat → Bool}
theorem SJ.put (h : SJ w x a n t g al cl at1 cs f wc) (i : Nat) (b : Bool) (hf : ∀ d, d < 20 → f' d = if d = i then b else f d) : SJ w x a n t g al cl at1 cs f' (wc.setCell ⟨g, i, none⟩ (.bool b)) := by
  have hb := but_cell wc g i (.bool b)
  refine ⟨h.pn.elsewhere hb (fun k hk => by rw [hk]; exact h.hg) h.nx, h.rl.but hb h.nl, h.rs.but hb h.ns, (h.row.put i _).1.congr (fun k hk => ?_), h.nl, h.ns, h.nx, h.hg⟩
  rw [hf k hk]
  by_cases e : k = i
  · rw [e, up_at, if_pos rfl]
  · rw [up_ne _ _ e, if_neg e]
theorem SJ.congr (h : SJ w x a n t g al cl at1 cs f wc) (hf : ∀ d, f' d = f d) : SJ w x a n t g al cl at1 cs f' wc := by
  rw [show f' = f from funext hf]; exact h
theorem SJ.start (h : PN w x a n t wc) (rl : RdF wc (.slice al a cl) a (fun i => vi (t.sl i))) (rs : RdF wc (.slice at1 n cs) n (fun d => vi ((t.st d : Nat) : Int))) (ty : TypeId)
    (nl : ∀ k, (Value.slice al a cl).ownBlock = some k → k < wc.heap.size) (ns : ∀ k, (Value.slice at1 n cs).ownBlock = some k → k < wc.heap.size) :
    SJ w x a n t wc.heap.size al cl at1 cs (t.has 0) (wc.alloc (.cells (Array.replicate 20 (.bool false)) ty)) :=
  have hb := al_below wc (.cells (Array.replicate 20 (.bool false)) ty)
  ⟨h.old hb, rl.old hb, rs.old hb, RowAt.new wc 20 (.bool false) ty, fun k hk => by have := nl k hk; omega, fun k hk => by have := ns k hk; omega, fun k hk => by have := h.pl.isp.lt k hk; omega, h.low.size⟩
end
end Go.Proofs.Yticgapgggoklfaa
