/- A cache, plainly, with turns: when each cell was used last, and when it became dirty; what each step makes of them. -/
import Derived.Test.YtfeikmmojilmbaaDoorChA
namespace Go.Proofs.YtfeikmmojilmbaaDoor
open El Pol
/-- lists in the order of their turns are one list, if they have the same numbers -/
theorem srt_one {f : Nat → Nat} : ∀ {l m : List Nat}, l.Pairwise (fun i j => f i < f j) → m.Pairwise (fun i j => f i < f j) → (∀ k, k ∈ l ↔ k ∈ m) → l = m
  | [], [], _, _, _ => rfl
  | [], b :: m, _, _, h => absurd ((h b).2 List.mem_cons_self) (by simp)
  | a :: l, [], _, _, h => absurd ((h a).1 List.mem_cons_self) (by simp)
  | a :: l, b :: m, hl, hm, h => by
    obtain ⟨l1, l2⟩ := List.pairwise_cons.1 hl
    obtain ⟨m1, m2⟩ := List.pairwise_cons.1 hm
    have e : a = b := by
      rcases List.mem_cons.1 ((h a).1 List.mem_cons_self) with q | q
      · exact q
      · rcases List.mem_cons.1 ((h b).2 List.mem_cons_self) with z | z
        · exact z.symm
        · have h1 := m1 a q
          have h2 := l1 b z
          omega
    subst e
    rw [srt_one l2 m2 (fun k => ?_)]
    constructor
    · intro hk
      rcases List.mem_cons.1 ((h k).1 (List.mem_cons_of_mem _ hk)) with q | q
      · have := l1 k hk
        rw [q] at this
        omega
      · exact q
    · intro hk
      rcases List.mem_cons.1 ((h k).2 (List.mem_cons_of_mem _ hk)) with q | q
      · have := m1 k hk
        rw [q] at this
        omega
      · exact q
theorem wo_sub (l : List Nat) (i : Nat) : (wo l i).Sublist l := List.filter_sublist
theorem wo_len1 {l : List Nat} (hn : l.Nodup) {i : Nat} (hi : i ∈ l) : (wo l i).length + 1 = l.length := by
  obtain ⟨a, b, rfl⟩ := List.append_of_mem hi
  have h1 := List.nodup_append.1 hn
  have h2 := List.nodup_cons.1 h1.2.1
  have ha : i ∉ a := fun q => h1.2.2 i q i List.mem_cons_self rfl
  have e : wo (a ++ i :: b) i = a ++ b := by
    unfold wo
    rw [List.filter_append]
    have e1 := wo_none ha
    have e2 := wo_head h2.1
    unfold wo at e1 e2
    rw [e1, e2]
  rw [e]
  simp
  omega
namespace Che
/-- written below, and dirty no more -/
def settle (c : Che) (i : Nat) : Che := ⟨c.n, up c.below i (c.val i), c.room, c.row, c.val, wo c.dirty i, c.hits⟩
/-- the oldest goes -/
def shed (c : Che) : Che := ⟨c.n, if c.row.headD 0 ∈ c.dirty then up c.below (c.row.headD 0) (c.val (c.row.headD 0)) else c.below, c.room, c.row.tail, c.val, wo c.dirty (c.row.headD 0), c.hits⟩
/-- it comes, as the newest -/
def push (c : Che) (i : Nat) (b : List El) : Che := ⟨c.n, c.below, c.room, c.newest i, up c.val i b, c.dirty, c.hits⟩
variable {c : Che} {i : Nat} {b : List El}
theorem use_push (h : c.ok) (hf : ¬ (i ∉ c.row ∧ c.row.length = c.room)) : c.use i b = c.push i b := by
  unfold use
  rw [if_neg (fun hl => ?_)]
  · rfl
  · obtain ⟨l, e1, e2, e3, e4, e5⟩ := old_spec h hl
    refine hf ⟨e5, ?_⟩
    have h1 : (c.newest i).length = c.row.length + 1 := by unfold newest; rw [wo_none e5, List.length_append, List.length_singleton]
    have h2 := h.len
    omega
theorem use_shed (h : c.ok) (hi : i ∉ c.row) (hf : c.row.length = c.room) : c.use i b = c.shed.push i b ∧ ∃ o l, c.row = o :: l ∧ o ≠ i := by
  have hnw : c.newest i = c.row ++ [i] := by unfold newest; rw [wo_none hi]
  have hl : c.room < (c.newest i).length := by rw [hnw, List.length_append, List.length_singleton]; omega
  obtain ⟨l, e1, e2, e3, e4, e5⟩ := old_spec h hl
  have h1 := h.r1
  cases hr : c.row with
  | nil => rw [hr] at hf; simp at hf; omega
  | cons o m =>
    have eo : c.old i = o := by unfold old; rw [hnw, hr]; rfl
    refine ⟨?_, o, m, rfl, by rw [← eo]; exact e2⟩
    have hm : i ∉ m := fun q => hi (by rw [hr]; exact List.mem_cons_of_mem _ q)
    have ew : wo (c.newest i) (c.old i) = m ++ [i] := by
      rw [e4]
      have := e1
      rw [hnw, hr, eo] at this
      exact (List.cons.inj this).2.symm
    unfold use
    rw [if_pos hl, ew, eo]
    unfold shed push newest
    dsimp only
    rw [hr]
    dsimp only [List.headD, List.tail]
    rw [wo_none hm, up_ne _ _ (by rw [← eo]; exact e2)]
    rfl
theorem shed_ok (h : c.ok) {o : Nat} {l : List Nat} (hr : c.row = o :: l) : c.shed.ok := by
  have hnd := h.nd
  rw [hr] at hnd
  obtain ⟨n1, n2⟩ := List.nodup_cons.1 hnd
  have hin : ∀ k ∈ l, k ∈ c.row := fun k hk => by rw [hr]; exact List.mem_cons_of_mem _ hk
  have ho : o ∈ c.row := by rw [hr]; exact List.mem_cons_self
  unfold shed
  rw [hr]
  dsimp only [List.headD, List.tail]
  have hlen := h.len
  rw [hr, List.length_cons] at hlen
  have hbl : ∀ k, k ≠ o → (if o ∈ c.dirty then up c.below o (c.val o) else c.below) k = c.below k := fun k hk => by
    split
    · exact up_ne _ _ hk
    · rfl
  refine ⟨h.r1, h.r12, h.n40, n2, ?_, fun k hk => h.inn k (hin k hk), wo_nodup h.dnd _, fun k hk => ?_, fun k hk hd _ => ?_, fun k hk => ?_, fun k hk => h.sv k (hin k hk)⟩
  · show l.length ≤ c.room
    omega
  · obtain ⟨d1, d2⟩ := mem_wo.1 hk
    have := h.dsub k d1
    rw [hr] at this
    exact (List.mem_cons.1 this).resolve_left d2
  · have hne : k ≠ o := fun e => n1 (by rw [← e]; exact hk)
    show c.val k = (if o ∈ c.dirty then up c.below o (c.val o) else c.below) k
    rw [hbl k hne]
    exact h.clean k (hin k hk) (fun q => hd (mem_wo.2 ⟨q, hne⟩)) nofun
  · show ((if o ∈ c.dirty then up c.below o (c.val o) else c.below) k).length ≤ 16
    by_cases e : k = o
    · rw [e]
      split
      · rw [up_at]; exact h.sv o ho
      · exact h.sb o (by rw [← e]; exact hk)
    · rw [hbl k e]
      exact h.sb k hk
theorem settle_ok (h : c.ok) (hi : i ∈ c.row) : (c.settle i).ok := by
  refine ⟨h.r1, h.r12, h.n40, h.nd, h.len, h.inn, wo_nodup h.dnd _, fun k hk => h.dsub k (mem_wo.1 hk).1, fun k hk hd _ => ?_, fun k hk => ?_, h.sv⟩
  · show c.val k = up c.below i (c.val i) k
    by_cases e : k = i
    · rw [e, up_at]
    · rw [up_ne _ _ e]
      exact h.clean k hk (fun q => hd (mem_wo.2 ⟨q, e⟩)) nofun
  · show (up c.below i (c.val i) k).length ≤ 16
    by_cases e : k = i
    · rw [e, up_at]; exact h.sv i hi
    · rw [up_ne _ _ e]; exact h.sb k hk
theorem flush_zero (c : Che) : c.flush 0 = c := by
  unfold flush
  simp
theorem flush_settle (h : c.ok) {m : Nat} (hm : m < c.dirty.length) : (c.flush m).settle (c.dirty[m]) = c.flush (m + 1) := by
  obtain ⟨e1, e2⟩ := flush_succ c m hm
  have hnd : (c.flush m).dirty.Nodup := (flush_ok h m).dnd
  rw [e2] at hnd
  have e3 : wo (c.flush m).dirty (c.dirty[m]) = (c.flush (m + 1)).dirty := by
    rw [e2]
    exact wo_head (List.nodup_cons.1 hnd).1
  unfold settle
  rw [e3]
  show Che.mk c.n (up (c.flush m).below (c.dirty[m]) (c.val (c.dirty[m]))) c.room c.row c.val (c.flush (m + 1)).dirty c.hits = _
  rw [← e1]
  rfl
theorem flush_all (c : Che) {m : Nat} (hm : c.dirty.length ≤ m) : c.flush m = c.flush c.dirty.length := by
  unfold flush
  rw [List.take_of_length_le hm, List.drop_of_length_le hm, List.take_of_length_le (Nat.le_refl _), List.drop_of_length_le (Nat.le_refl _)]
theorem flush_min (c : Che) (m : Nat) : c.flush (min m c.dirty.length) = c.flush m := by
  rcases Nat.le_total m c.dirty.length with q | q
  · rw [Nat.min_eq_left q]
  · rw [Nat.min_eq_right q, flush_all c q]
end Che
/-- the turns: us: of the last use; si: since when it is dirty -/
structure Tns (c : Che) (us si : Nat → Nat) (T : Nat) : Prop where
  ru : ∀ i ∈ c.row, 1 ≤ us i ∧ us i ≤ T
  rp : c.row.Pairwise (fun i j => us i < us j)
  du : ∀ i ∈ c.dirty, 1 ≤ si i ∧ si i ≤ T
  dp : c.dirty.Pairwise (fun i j => si i < si j)
  dn : ∀ i ∈ c.row, i ∉ c.dirty → si i = 0
namespace Tns
variable {c : Che} {us si : Nat → Nat} {T : Nat}
theorem fresh (n : Nat) (f : Nat → List El) (room : Nat) : Tns (Che.fresh n f room) (fun _ => 0) (fun _ => 0) 0 :=
  ⟨fun _ h => (by cases h), List.Pairwise.nil, fun _ h => (by cases h), List.Pairwise.nil, fun _ h => (by cases h)⟩
theorem crash (c : Che) (us si : Nat → Nat) (T : Nat) : Tns c.crash us si T :=
  ⟨fun _ h => (by cases h), List.Pairwise.nil, fun _ h => (by cases h), List.Pairwise.nil, fun _ h => (by cases h)⟩
theorem mono (h : Tns c us si T) {T' : Nat} (ht : T ≤ T') : Tns c us si T' :=
  ⟨fun i hi => ⟨(h.ru i hi).1, Nat.le_trans (h.ru i hi).2 ht⟩, h.rp, fun i hi => ⟨(h.du i hi).1, Nat.le_trans (h.du i hi).2 ht⟩, h.dp, h.dn⟩
theorem hits (h : Tns c us si T) (x : Nat) : Tns ⟨c.n, c.below, c.room, c.row, c.val, c.dirty, x⟩ us si T := ⟨h.ru, h.rp, h.du, h.dp, h.dn⟩
theorem dirty_iff (h : Tns c us si T) {i : Nat} (hi : i ∈ c.row) : si i ≠ 0 ↔ i ∈ c.dirty := by
  constructor
  · intro q
    by_cases e : i ∈ c.dirty
    · exact e
    · exact absurd (h.dn i hi e) q
  · intro q
    have := (h.du i q).1
    omega
theorem settle (h : Tns c us si T) (i : Nat) : Tns (c.settle i) us (up si i 0) T := by
  refine ⟨h.ru, h.rp, fun k hk => ?_, ?_, fun k hk hd => ?_⟩
  · obtain ⟨d1, d2⟩ := mem_wo.1 hk
    rw [up_ne _ _ d2]
    exact h.du k d1
  · refine List.Pairwise.imp_of_mem ?_ (List.Pairwise.sublist (wo_sub c.dirty i) h.dp)
    intro a b ha hb hab
    rw [up_ne _ _ (mem_wo.1 ha).2, up_ne _ _ (mem_wo.1 hb).2]
    exact hab
  · by_cases e : k = i
    · rw [e, up_at]
    · rw [up_ne _ _ e]
      exact h.dn k hk (fun q => hd (mem_wo.2 ⟨q, e⟩))
theorem shed (h : Tns c us si T) (hk : c.ok) {o : Nat} {l : List Nat} (hr : c.row = o :: l) : Tns c.shed us si T := by
  have hnd := hk.nd
  rw [hr] at hnd
  obtain ⟨n1, _⟩ := List.nodup_cons.1 hnd
  have hin : ∀ k ∈ l, k ∈ c.row := fun k hk => by rw [hr]; exact List.mem_cons_of_mem _ hk
  have hrp := h.rp
  rw [hr] at hrp
  have er : c.shed.row = l := by unfold Che.shed; rw [hr]; rfl
  have ed : c.shed.dirty = wo c.dirty o := by unfold Che.shed; rw [hr]; rfl
  refine ⟨fun k hk => ?_, ?_, fun k hk => ?_, ?_, fun k hk hd => ?_⟩
  · rw [er] at hk; exact h.ru k (hin k hk)
  · rw [er]; exact (List.pairwise_cons.1 hrp).2
  · rw [ed] at hk; exact h.du k (mem_wo.1 hk).1
  · rw [ed]; exact List.Pairwise.sublist (wo_sub c.dirty o) h.dp
  · rw [er] at hk
    rw [ed] at hd
    exact h.dn k (hin k hk) (fun q => hd (mem_wo.2 ⟨q, fun e => n1 (by rw [← e]; exact hk)⟩))
/-- how since stands to it, when a cell is used -/
def Since (c : Che) (si : Nat → Nat) (T i s : Nat) : Prop := (s = 0 ∧ i ∉ c.dirty) ∨ (i ∈ c.dirty ∧ s = si i) ∨ (i ∉ c.dirty ∧ 1 ≤ s ∧ s ≤ T ∧ ∀ k ∈ c.dirty, si k < s)
/-- what comes of it -/
def soiled (c : Che) (i s : Nat) : Che := if s = 0 then c else c.soil i
theorem push (h : Tns c us si T) {i s : Nat} (hS : Since c si T i s) (b : List El) : Tns (soiled (c.push i b) i s) (up us i (T + 1)) (up si i s) (T + 1) := by
  have hrow : (soiled (c.push i b) i s).row = wo c.row i ++ [i] := by unfold soiled; split <;> rfl
  have hr1 : ∀ k ∈ wo c.row i ++ [i], 1 ≤ up us i (T + 1) k ∧ up us i (T + 1) k ≤ T + 1 := fun k hk => by
    by_cases e : k = i
    · rw [e, up_at]; omega
    · rw [up_ne _ _ e]
      rcases List.mem_append.1 hk with q | q
      · have := h.ru k (mem_wo.1 q).1; omega
      · exact absurd (List.mem_singleton.1 q) e
  have hr2 : (wo c.row i ++ [i]).Pairwise (fun a b => up us i (T + 1) a < up us i (T + 1) b) := by
    rw [List.pairwise_append]
    refine ⟨?_, List.pairwise_singleton _ _, fun a ha b hb => ?_⟩
    · refine List.Pairwise.imp_of_mem ?_ (List.Pairwise.sublist (wo_sub c.row i) h.rp)
      intro a b ha hb hab
      rw [up_ne _ _ (mem_wo.1 ha).2, up_ne _ _ (mem_wo.1 hb).2]
      exact hab
    · rw [List.mem_singleton.1 hb, up_at, up_ne _ _ (mem_wo.1 ha).2]
      have := h.ru a (mem_wo.1 ha).1
      omega
  have hin : ∀ k, k ∈ wo c.row i ++ [i] → k = i ∨ k ∈ c.row := fun k hk => by
    rcases List.mem_append.1 hk with q | q
    · exact .inr (mem_wo.1 q).1
    · exact .inl (List.mem_singleton.1 q)
  rcases hS with ⟨rfl, hd⟩ | ⟨hd, rfl⟩ | ⟨hd, s1, s2, s3⟩
  · have ed : (soiled (c.push i b) i 0).dirty = c.dirty := by unfold soiled; rw [if_pos rfl]; rfl
    have hne : ∀ k ∈ c.dirty, k ≠ i := fun k hk e => hd (by rw [← e]; exact hk)
    refine ⟨by rw [hrow]; exact hr1, by rw [hrow]; exact hr2, fun k hk => ?_, ?_, fun k hk hk2 => ?_⟩
    · rw [ed] at hk
      rw [up_ne _ _ (hne k hk)]
      have := h.du k hk
      omega
    · rw [ed]
      refine List.Pairwise.imp_of_mem ?_ h.dp
      intro a b ha hb hab
      rw [up_ne _ _ (hne a ha), up_ne _ _ (hne b hb)]
      exact hab
    · rw [hrow] at hk
      rw [ed] at hk2
      by_cases e : k = i
      · rw [e, up_at]
      · rw [up_ne _ _ e]
        exact h.dn k ((hin k hk).resolve_left e) hk2
  · have h1 := (h.du i hd).1
    have ed : (soiled (c.push i b) i (si i)).dirty = c.dirty := by
      unfold soiled
      rw [if_neg (by omega)]
      show (if i ∈ c.dirty then c.dirty else c.dirty ++ [i]) = _
      rw [if_pos hd]
    have hup : up si i (si i) = si := by
      funext k
      by_cases e : k = i
      · rw [e, up_at]
      · rw [up_ne _ _ e]
    rw [hup]
    refine ⟨by rw [hrow]; exact hr1, by rw [hrow]; exact hr2, fun k hk => ?_, ?_, fun k hk hk2 => ?_⟩
    · rw [ed] at hk
      have := h.du k hk
      omega
    · rw [ed]; exact h.dp
    · rw [hrow] at hk
      rw [ed] at hk2
      exact h.dn k ((hin k hk).resolve_left (fun e => hk2 (by rw [e]; exact hd))) hk2
  · have ed : (soiled (c.push i b) i s).dirty = c.dirty ++ [i] := by
      unfold soiled
      rw [if_neg (by omega)]
      show (if i ∈ c.dirty then c.dirty else c.dirty ++ [i]) = _
      rw [if_neg hd]
    have hne : ∀ k ∈ c.dirty, k ≠ i := fun k hk e => hd (by rw [← e]; exact hk)
    refine ⟨by rw [hrow]; exact hr1, by rw [hrow]; exact hr2, fun k hk => ?_, ?_, fun k hk hk2 => ?_⟩
    · rw [ed] at hk
      rcases List.mem_append.1 hk with q | q
      · rw [up_ne _ _ (hne k q)]
        have := h.du k q
        omega
      · rw [List.mem_singleton.1 q, up_at]; omega
    · rw [ed, List.pairwise_append]
      refine ⟨?_, List.pairwise_singleton _ _, fun a ha b hb => ?_⟩
      · refine List.Pairwise.imp_of_mem ?_ h.dp
        intro a b ha hb hab
        rw [up_ne _ _ (hne a ha), up_ne _ _ (hne b hb)]
        exact hab
      · rw [List.mem_singleton.1 hb, up_at, up_ne _ _ (hne a ha)]
        exact s3 a ha
    · rw [hrow] at hk
      rw [ed] at hk2
      have e : k ≠ i := fun e => hk2 (by rw [e]; exact List.mem_append_right _ (List.mem_singleton.2 rfl))
      rw [up_ne _ _ e]
      exact h.dn k ((hin k hk).resolve_left e) (fun q => hk2 (List.mem_append_left _ q))
/-- what of since is left, when the oldest has gone -/
theorem Since.shed {i s : Nat} (hS : Since c si T i s) {o : Nat} {l : List Nat} (hr : c.row = o :: l) (ho : o ≠ i) : Since c.shed si T i s := by
  have ed : c.shed.dirty = wo c.dirty o := by unfold Che.shed; rw [hr]; rfl
  unfold Since
  rw [ed]
  rcases hS with ⟨e, hd⟩ | ⟨hd, e⟩ | ⟨hd, s1, s2, s3⟩
  · exact .inl ⟨e, fun q => hd (mem_wo.1 q).1⟩
  · exact .inr (.inl ⟨mem_wo.2 ⟨hd, fun e => ho e.symm⟩, e⟩)
  · exact .inr (.inr ⟨fun q => hd (mem_wo.1 q).1, s1, s2, fun k hk => s3 k (mem_wo.1 hk).1⟩)
end Tns
end Go.Proofs.YtfeikmmojilmbaaDoor
