/- A cache, plainly: what it has, what reads, writes, flushes and crashes make of it, and that what is read is what was written last. -/
import Derived.Test.YtfeikmmojilmbaaDoorRoA
namespace Go.Proofs.YtfeikmmojilmbaaDoor
open El Pol
/-- a list without a number -/
def wo (l : List Nat) (i : Nat) : List Nat := l.filter (fun k => decide (k ≠ i))
theorem mem_wo {l : List Nat} {i k : Nat} : k ∈ wo l i ↔ k ∈ l ∧ k ≠ i := by simp [wo]
theorem wo_nodup {l : List Nat} (h : l.Nodup) (i : Nat) : (wo l i).Nodup := List.Pairwise.filter _ h
theorem wo_len (l : List Nat) (i : Nat) : (wo l i).length ≤ l.length := List.length_filter_le _ _
theorem wo_none {l : List Nat} {i : Nat} (h : i ∉ l) : wo l i = l := List.filter_eq_self.2 (fun k hk => decide_eq_true (fun e => h (by rw [← e]; exact hk)))
theorem wo_head {l : List Nat} {i : Nat} (h : i ∉ l) : wo (i :: l) i = l := by
  show List.filter _ (i :: l) = l
  rw [List.filter_cons_of_neg (by simp)]
  exact wo_none h
structure Che where
  n : Nat
  below : Nat → List El
  room : Nat
  row : List Nat
  val : Nat → List El
  dirty : List Nat
  hits : Nat
namespace Che
def fresh (n : Nat) (f : Nat → List El) (room : Nat) : Che := ⟨n, f, room, [], fun _ => [], [], 0⟩
/-- a cell as it is read -/
def now (c : Che) (i : Nat) : List El := if i ∈ c.row then c.val i else c.below i
/-- the row with a cell as the newest -/
def newest (c : Che) (i : Nat) : List Nat := wo c.row i ++ [i]
/-- which goes, ahead of one more than room -/
def old (c : Che) (i : Nat) : Nat := (c.newest i).headD 0
def use (c : Che) (i : Nat) (b : List El) : Che :=
  if c.room < (c.newest i).length then ⟨c.n, if c.old i ∈ c.dirty then up c.below (c.old i) (up c.val i b (c.old i)) else c.below, c.room, wo (c.newest i) (c.old i), up c.val i b, wo c.dirty (c.old i), c.hits⟩
  else ⟨c.n, c.below, c.room, c.newest i, up c.val i b, c.dirty, c.hits⟩
def read (c : Che) (i : Nat) : Che := use ⟨c.n, c.below, c.room, c.row, c.val, c.dirty, c.hits + if i ∈ c.row then 1 else 0⟩ i (c.now i)
def soil (c : Che) (i : Nat) : Che := ⟨c.n, c.below, c.room, c.row, c.val, if i ∈ c.dirty then c.dirty else c.dirty ++ [i], c.hits⟩
def write (c : Che) (i : Nat) (b : List El) : Che := (c.use i b).soil i
def flush (c : Che) (m : Nat) : Che := ⟨c.n, fun k => if k ∈ c.dirty.take m then c.val k else c.below k, c.room, c.row, c.val, c.dirty.drop m, c.hits⟩
def crash (c : Che) : Che := ⟨c.n, c.below, c.room, [], c.val, [], c.hits⟩
/-- in order, but that one may be another one than below, though not dirty -/
structure okB (x : Option Nat) (c : Che) : Prop where
  r1 : 1 ≤ c.room
  r12 : c.room ≤ 12
  n40 : c.n ≤ 40
  nd : c.row.Nodup
  len : c.row.length ≤ c.room
  inn : ∀ i ∈ c.row, i < c.n
  dnd : c.dirty.Nodup
  dsub : ∀ i ∈ c.dirty, i ∈ c.row
  clean : ∀ i ∈ c.row, i ∉ c.dirty → x ≠ some i → c.val i = c.below i
  sb : ∀ i, i < c.n → (c.below i).length ≤ 16
  sv : ∀ i ∈ c.row, (c.val i).length ≤ 16
abbrev ok (c : Che) : Prop := okB none c
variable {c : Che} {i : Nat} {b : List El}
theorem fresh_ok {n room : Nat} {f : Nat → List El} (hn : n ≤ 40) (hs : ∀ i, i < n → (f i).length ≤ 16) (h1 : 1 ≤ room) (h2 : room ≤ 12) : (fresh n f room).ok :=
  ⟨h1, h2, hn, List.nodup_nil, Nat.zero_le _, fun _ h => (by cases h), List.nodup_nil, fun _ h => (by cases h), fun _ h => (by cases h), hs, fun _ h => (by cases h)⟩
theorem newest_nodup (h : c.ok) (i : Nat) : (c.newest i).Nodup := by
  unfold newest
  rw [List.nodup_append]
  refine ⟨wo_nodup h.nd i, by simp, fun a ha b hb => ?_⟩
  have h1 := (mem_wo.1 ha).2
  have h2 := List.mem_singleton.1 hb
  rw [h2]
  exact h1
theorem mem_newest {k : Nat} : k ∈ c.newest i ↔ k ∈ c.row ∨ k = i := by
  unfold newest
  rw [List.mem_append, mem_wo, List.mem_singleton]
  constructor
  · rintro (h | h)
    · exact .inl h.1
    · exact .inr h
  · rintro (h | h)
    · by_cases e : k = i
      · exact .inr e
      · exact .inl ⟨h, e⟩
    · exact .inr h
theorem newest_len (h : c.ok) (i : Nat) : (c.newest i).length ≤ c.room + 1 := by
  have h1 := wo_len c.row i
  have h2 := h.len
  unfold newest
  rw [List.length_append, List.length_singleton]
  omega
/-- one more than room: another one goes, which was there -/
theorem old_spec (h : c.ok) (hl : c.room < (c.newest i).length) : ∃ l, c.newest i = c.old i :: l ∧ c.old i ≠ i ∧ c.old i ∈ c.row ∧ wo (c.newest i) (c.old i) = l ∧ i ∉ c.row := by
  have hin : i ∉ c.row := fun hm => by
    have h1 : (wo c.row i).length < c.row.length := by
      unfold wo
      rcases Nat.lt_or_ge (List.filter (fun k => decide (k ≠ i)) c.row).length c.row.length with q | q
      · exact q
      · exfalso
        have h2 := List.length_filter_le (fun k => decide (k ≠ i)) c.row
        have h3 : (List.filter (fun k => decide (k ≠ i)) c.row).length = c.row.length := by omega
        have h4 := List.length_filter_eq_length_iff.1 h3 i hm
        simp at h4
    have h2 := h.len
    unfold newest at hl
    rw [List.length_append, List.length_singleton] at hl
    omega
  have hnw : c.newest i = c.row ++ [i] := by unfold newest; rw [wo_none hin]
  cases hr : c.row with
  | nil =>
    exfalso
    have h1 := h.r1
    rw [hnw, hr] at hl
    simp at hl
    omega
  | cons a l =>
    have e1 : c.newest i = a :: (l ++ [i]) := by rw [hnw, hr]; rfl
    have e2 : c.old i = a := by unfold old; rw [e1]; rfl
    have hn := newest_nodup h i
    rw [e1] at hn
    rw [e2, ← hr]
    refine ⟨l ++ [i], e1, fun e => ?_, by rw [hr]; exact List.mem_cons_self, ?_, hin⟩
    · rw [← e, hr] at hin
      exact hin List.mem_cons_self
    · rw [e1]
      exact wo_head (List.nodup_cons.1 hn).1
theorem now_use (h : c.ok) (i : Nat) (b : List El) : (c.use i b).now = up c.now i b := by
  funext k
  unfold use
  by_cases hl : c.room < (c.newest i).length
  · rw [if_pos hl]
    obtain ⟨l, e1, e2, e3, e4, e5⟩ := old_spec h hl
    have hm : ∀ k, k ∈ wo (c.newest i) (c.old i) ↔ (k ∈ c.row ∨ k = i) ∧ k ≠ c.old i := fun k => by rw [mem_wo, mem_newest]
    unfold now
    dsimp only
    by_cases hk : k = i
    · subst hk
      rw [if_pos ((hm k).2 ⟨.inr rfl, fun e => e2 e.symm⟩), up_at, up_at]
    · rw [up_ne _ _ hk, up_ne (fun i => if i ∈ c.row then c.val i else c.below i) _ hk]
      by_cases ho : k = c.old i
      · rw [if_neg (fun q => ((hm k).1 q).2 ho), ho, if_pos e3]
        by_cases hd : c.old i ∈ c.dirty
        · rw [if_pos hd, up_at, up_ne _ _ e2]
        · rw [if_neg hd]
          exact (h.clean _ e3 hd nofun).symm
      · have hb : (if c.old i ∈ c.dirty then up c.below (c.old i) (up c.val i b (c.old i)) else c.below) k = c.below k := by
          split
          · exact up_ne _ _ ho
          · rfl
        rw [hb]
        by_cases hr : k ∈ c.row
        · rw [if_pos ((hm k).2 ⟨.inl hr, ho⟩), if_pos hr]
        · rw [if_neg (fun q => ((hm k).1 q).1.elim hr hk), if_neg hr]
  · rw [if_neg hl]
    unfold now
    dsimp only
    by_cases hk : k = i
    · subst hk
      rw [if_pos (mem_newest.2 (.inr rfl)), up_at, up_at]
    · rw [up_ne _ _ hk, up_ne _ _ hk]
      by_cases hr : k ∈ c.row
      · rw [if_pos (mem_newest.2 (.inl hr)), if_pos hr]
      · rw [if_neg (fun q => (mem_newest.1 q).elim hr hk), if_neg hr]
/-- what a use leaves in order, but that the cell itself may be another one than below -/
theorem use_okB (h : c.ok) (hi : i < c.n) (hb : b.length ≤ 16) : okB (some i) (c.use i b) := by
  unfold use
  by_cases hl : c.room < (c.newest i).length
  · rw [if_pos hl]
    obtain ⟨l, e1, e2, e3, e4, e5⟩ := old_spec h hl
    have hm : ∀ k, k ∈ wo (c.newest i) (c.old i) ↔ (k ∈ c.row ∨ k = i) ∧ k ≠ c.old i := fun k => by rw [mem_wo, mem_newest]
    have hbl : ∀ k, k ≠ c.old i → (if c.old i ∈ c.dirty then up c.below (c.old i) (up c.val i b (c.old i)) else c.below) k = c.below k := fun k ho => by
      split
      · exact up_ne _ _ ho
      · rfl
    refine ⟨h.r1, h.r12, h.n40, wo_nodup (newest_nodup h i) _, ?_, fun k hk => ?_, wo_nodup h.dnd _, fun k hk => ?_, fun k hk hd hx => ?_, fun k hk => ?_, fun k hk => ?_⟩
    · show (wo (c.newest i) (c.old i)).length ≤ c.room
      have h1 := newest_len h i
      rw [e1, List.length_cons] at h1
      rw [e4]
      omega
    · rcases ((hm k).1 hk).1 with q | q
      · exact h.inn k q
      · rw [q]; exact hi
    · have h1 := mem_wo.1 hk
      exact (hm k).2 ⟨.inl (h.dsub k h1.1), h1.2⟩
    · have h1 := (hm k).1 hk
      show up c.val i b k = (if c.old i ∈ c.dirty then up c.below (c.old i) (up c.val i b (c.old i)) else c.below) k
      rw [hbl k h1.2]
      have hd' : k ∉ c.dirty := fun q => hd (mem_wo.2 ⟨q, h1.2⟩)
      have e : k ≠ i := fun e => hx (by rw [e])
      rw [up_ne _ _ e]
      exact h.clean k (h1.1.resolve_right e) hd' nofun
    · show ((if c.old i ∈ c.dirty then up c.below (c.old i) (up c.val i b (c.old i)) else c.below) k).length ≤ 16
      by_cases ho : k = c.old i
      · rw [ho]
        split
        · rw [up_at, up_ne _ _ e2]
          exact h.sv _ e3
        · exact h.sb _ (by rw [← ho]; exact hk)
      · rw [hbl k ho]
        exact h.sb k hk
    · show (up c.val i b k).length ≤ 16
      by_cases e : k = i
      · rw [e, up_at]; exact hb
      · rw [up_ne _ _ e]
        exact h.sv k (((hm k).1 hk).1.resolve_right e)
  · rw [if_neg hl]
    refine ⟨h.r1, h.r12, h.n40, newest_nodup h i, by show (c.newest i).length ≤ c.room; omega, fun k hk => ?_, h.dnd, fun k hk => mem_newest.2 (.inl (h.dsub k hk)), fun k hk hd hx => ?_, h.sb, fun k hk => ?_⟩
    · rcases mem_newest.1 hk with q | q
      · exact h.inn k q
      · rw [q]; exact hi
    · show up c.val i b k = c.below k
      have e : k ≠ i := fun e => hx (by rw [e])
      rw [up_ne _ _ e]
      exact h.clean k ((mem_newest.1 hk).resolve_right e) hd nofun
    · show (up c.val i b k).length ≤ 16
      by_cases e : k = i
      · rw [e, up_at]; exact hb
      · rw [up_ne _ _ e]
        exact h.sv k ((mem_newest.1 hk).resolve_right e)
theorem now_short (h : c.ok) (hi : i < c.n) : (c.now i).length ≤ 16 := by
  unfold now
  split
  · rename_i q; exact h.sv i q
  · exact h.sb i hi
theorem hits_ok (h : c.ok) (x : Nat) : ok ⟨c.n, c.below, c.room, c.row, c.val, c.dirty, x⟩ := ⟨h.r1, h.r12, h.n40, h.nd, h.len, h.inn, h.dnd, h.dsub, h.clean, h.sb, h.sv⟩
/-- behind a use the cell is there, as it was used; below it is as it was -/
theorem use_in (h : c.ok) (i : Nat) (b : List El) : i ∈ (c.use i b).row ∧ (c.use i b).n = c.n ∧ (c.use i b).room = c.room ∧ (c.use i b).val i = b ∧ (c.use i b).below i = c.below i ∧ (i ∈ (c.use i b).dirty ↔ i ∈ c.dirty) ∧ (c.use i b).hits = c.hits := by
  unfold use
  by_cases hl : c.room < (c.newest i).length
  · rw [if_pos hl]
    obtain ⟨l, e1, e2, e3, e4, e5⟩ := old_spec h hl
    refine ⟨mem_wo.2 ⟨mem_newest.2 (.inr rfl), fun e => e2 e.symm⟩, rfl, rfl, up_at _ _ _, ?_, ?_, rfl⟩
    · show (if c.old i ∈ c.dirty then up c.below (c.old i) (up c.val i b (c.old i)) else c.below) i = c.below i
      split
      · exact up_ne _ _ (fun e => e2 e.symm)
      · rfl
    · show i ∈ wo c.dirty (c.old i) ↔ _
      rw [mem_wo]
      exact ⟨fun q => q.1, fun q => ⟨q, fun e => e2 e.symm⟩⟩
  · rw [if_neg hl]
    exact ⟨mem_newest.2 (.inr rfl), rfl, rfl, up_at _ _ _, rfl, Iff.rfl, rfl⟩
theorem read_ok (h : c.ok) (hi : i < c.n) : (c.read i).ok := by
  have h0 := hits_ok h (c.hits + if i ∈ c.row then 1 else 0)
  have hB := use_okB h0 (i := i) hi (now_short h hi)
  obtain ⟨u1, u2, u3, u4, u5, u6, _⟩ := use_in h0 i (c.now i)
  refine ⟨hB.r1, hB.r12, hB.n40, hB.nd, hB.len, hB.inn, hB.dnd, hB.dsub, fun k hk hd _ => ?_, hB.sb, hB.sv⟩
  by_cases e : k = i
  · subst e
    refine u4.trans (Eq.trans ?_ u5.symm)
    show c.now k = c.below k
    unfold now
    split
    · rename_i q; exact h.clean k q (fun z => hd (u6.2 z)) nofun
    · rfl
  · exact hB.clean k hk hd (fun z => e (Option.some.inj z).symm)
theorem now_read (h : c.ok) (i : Nat) : (c.read i).now = c.now := by
  unfold read
  rw [now_use (hits_ok h _)]
  funext k
  by_cases e : k = i
  · rw [e, up_at]
  · rw [up_ne _ _ e]
    rfl
theorem now_soil (c : Che) (i : Nat) : (c.soil i).now = c.now := rfl
theorem now_write (h : c.ok) (i : Nat) (b : List El) : (c.write i b).now = up c.now i b := by
  unfold write
  rw [now_soil, now_use h]
/-- of one that is not dirty there is below what is read -/
theorem below_now (h : c.ok) {k : Nat} (hd : k ∉ c.dirty) : c.below k = c.now k := by
  unfold now
  split
  · rename_i q; exact (h.clean k q hd nofun).symm
  · rfl
theorem mem_soil {k : Nat} : k ∈ (c.soil i).dirty ↔ k ∈ c.dirty ∨ k = i := by
  show k ∈ (if i ∈ c.dirty then c.dirty else c.dirty ++ [i]) ↔ _
  split
  · rename_i q
    constructor
    · exact .inl
    · rintro (z | z)
      · exact z
      · rw [z]; exact q
  · rw [List.mem_append, List.mem_singleton]
theorem soil_ok (h : okB (some i) c) (hi : i ∈ c.row) : (c.soil i).ok := by
  refine ⟨h.r1, h.r12, h.n40, h.nd, h.len, h.inn, ?_, fun k hk => ?_, fun k hk hd _ => ?_, h.sb, h.sv⟩
  · show (if i ∈ c.dirty then c.dirty else c.dirty ++ [i]).Nodup
    split
    · exact h.dnd
    · rename_i q
      rw [List.nodup_append]
      refine ⟨h.dnd, by simp, fun a ha b hb => ?_⟩
      rw [List.mem_singleton.1 hb]
      exact fun e => q (by rw [← e]; exact ha)
  · rcases mem_soil.1 hk with q | q
    · exact h.dsub k q
    · rw [q]; exact hi
  · exact h.clean k hk (fun q => hd (mem_soil.2 (.inl q))) (fun e => hd (mem_soil.2 (.inr (Option.some.inj e).symm)))
theorem write_ok (h : c.ok) (hi : i < c.n) (hb : b.length ≤ 16) : (c.write i b).ok := soil_ok (use_okB h hi hb) (use_in h i b).1
theorem flush_ok (h : c.ok) (m : Nat) : (c.flush m).ok := by
  have hsp : ∀ k, k ∈ c.dirty → k ∈ c.dirty.take m ∨ k ∈ c.dirty.drop m := fun k hk => by
    rw [← List.take_append_drop m c.dirty] at hk
    exact List.mem_append.1 hk
  refine ⟨h.r1, h.r12, h.n40, h.nd, h.len, h.inn, (List.drop_sublist m c.dirty).nodup h.dnd, fun k hk => h.dsub k (List.mem_of_mem_drop hk), fun k hk hd _ => ?_, fun k hk => ?_, h.sv⟩
  · show c.val k = if k ∈ c.dirty.take m then c.val k else c.below k
    split
    · rfl
    · rename_i q
      exact h.clean k hk (fun z => (hsp k z).elim q hd) nofun
  · show (if k ∈ c.dirty.take m then c.val k else c.below k).length ≤ 16
    split
    · rename_i q; exact h.sv k (h.dsub k (List.mem_of_mem_take q))
    · exact h.sb k hk
theorem now_flush (h : c.ok) (m : Nat) : (c.flush m).now = c.now := by
  funext k
  show (if k ∈ c.row then c.val k else if k ∈ c.dirty.take m then c.val k else c.below k) = if k ∈ c.row then c.val k else c.below k
  split
  · rfl
  · rename_i q
    rw [if_neg (fun z => q (h.dsub k (List.mem_of_mem_take z)))]
theorem crash_ok (h : c.ok) : c.crash.ok := ⟨h.r1, h.r12, h.n40, List.nodup_nil, Nat.zero_le _, fun _ q => (by cases q), List.nodup_nil, fun _ q => (by cases q), fun _ q => (by cases q), h.sb, fun _ q => (by cases q)⟩
theorem now_crash (c : Che) : c.crash.now = c.below := by
  funext k
  show (if k ∈ ([] : List Nat) then _ else c.below k) = _
  rw [if_neg (by simp)]
/-- the first of those dirty, written below -/
theorem flush_succ (c : Che) (m : Nat) (hm : m < c.dirty.length) : (c.flush (m + 1)).below = up (c.flush m).below (c.dirty[m]) (c.val (c.dirty[m])) ∧ (c.flush m).dirty = c.dirty[m] :: (c.flush (m + 1)).dirty := by
  constructor
  · funext k
    show (if k ∈ c.dirty.take (m + 1) then c.val k else c.below k) = up (fun k => if k ∈ c.dirty.take m then c.val k else c.below k) (c.dirty[m]) (c.val (c.dirty[m])) k
    rw [List.take_succ_eq_append_getElem hm]
    by_cases e : k = c.dirty[m]
    · rw [e, up_at, if_pos (List.mem_append_right _ (List.mem_singleton.2 rfl))]
    · rw [up_ne _ _ e]
      by_cases q : k ∈ c.dirty.take m
      · rw [if_pos (List.mem_append_left _ q), if_pos q]
      · rw [if_neg (fun z => (List.mem_append.1 z).elim q (fun y => e (List.mem_singleton.1 y))), if_neg q]
  · exact List.drop_eq_getElem_cons hm
end Che
end Go.Proofs.YtfeikmmojilmbaaDoor
