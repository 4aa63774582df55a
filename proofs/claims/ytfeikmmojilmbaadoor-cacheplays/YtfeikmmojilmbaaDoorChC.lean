/- What inTurn lists: those there are that have a turn, in the order of their turns: walks over the program. -/
import Derived.Test.YtfeikmmojilmbaaDoorChB
import Derived.Test.YtfeikmmojilmbaaDoorOwNs
import Derived.Deep.Cut
namespace Go.Proofs.YtfeikmmojilmbaaDoor
open Go.RowKit Go.Maps El Pol
theorem OwN.base {B B' : Nat} {w : World} {v : Value} {l : List Nat} (h : OwN B w v l) (hB : B' ≤ B) : OwN B' w v l := by
  obtain ⟨h1, h2⟩ := h
  refine ⟨h1, ?_⟩
  rcases h2 with h2 | ⟨g, cap, cur, rfl, hg, rest⟩
  · exact .inl h2
  · exact .inr ⟨g, cap, cur, rfl, Nat.le_trans hB hg, rest⟩
/-- by their places -/
theorem OwN.places {B : Nat} {w : World} {v : Value} {l : List Nat} (h : OwN B w v l) : OwF B w v l.length (fun i => l.getD i 0) := by
  have e : vn l = (List.range l.length).map (fun i => vi ((l.getD i 0 : Nat) : Int)) := by
    apply List.ext_getElem (by simp [vn])
    intro i h1 h2
    have hi : i < l.length := by simpa [vn] using h1
    simp [vn, hi]
  unfold OwF OwI
  rw [← e]
  exact h
theorem OwF.list {B n : Nat} {w : World} {v : Value} {f : Nat → Nat} (h : OwF B w v n f) : OwN B w v ((List.range n).map f) := by
  have e : vn ((List.range n).map f) = (List.range n).map (fun i => vi ((f i : Nat) : Int)) := by simp [vn]
  unfold OwN
  rw [e, List.length_map, List.length_range]
  exact h
theorem srt_list {F : Nat → Nat} {n : Nat} {f : Nat → Nat} (h : SrtN F n f) : ((List.range n).map f).Pairwise (fun i j => F i < F j) := by
  rw [List.pairwise_map]
  refine List.Pairwise.imp_of_mem ?_ (List.pairwise_lt_range (n := n))
  intro a b _ hb hab
  exact h a b hab (List.mem_range.1 hb)
theorem mem_places (l : List Nat) (k : Nat) : k ∈ l ↔ ∃ i, i < l.length ∧ l.getD i 0 = k := by
  rw [List.mem_iff_getElem]
  constructor
  · rintro ⟨i, hi, e⟩
    exact ⟨i, hi, by simp [List.getD_eq_getElem?_getD, hi]; exact e⟩
  · rintro ⟨i, hi, e⟩
    refine ⟨i, hi, ?_⟩
    simpa [List.getD_eq_getElem?_getD, hi] using e
/-- those that are in the order of F are apart by it -/
theorem apart_of {F : Nat → Nat} {L : List Nat} (hL : L.Pairwise (fun i j => F i < F j)) {a b : Nat} (ha : a ∈ L) (hb : b ∈ L) (hne : a ≠ b) : F a ≠ F b := by
  induction L with
  | nil => cases ha
  | cons x l ih =>
    obtain ⟨h1, h2⟩ := List.pairwise_cons.1 hL
    rcases List.mem_cons.1 ha with e | e <;> rcases List.mem_cons.1 hb with d | d
    · exact absurd (e.trans d.symm) hne
    · have := h1 b d; rw [← e] at this; omega
    · have := h1 a e; rw [← d] at this; omega
    · exact ih h2 e d
theorem inj_places {F : Nat → Nat} {l L : List Nat} (hn : l.Nodup) (hL : L.Pairwise (fun i j => F i < F j)) (hs : ∀ k ∈ l, k ∈ L) : InjN F l.length (fun i => l.getD i 0) := fun p q hp hq hne => by
  have e1 : l.getD p 0 = l[p] := by simp [List.getD_eq_getElem?_getD, hp]
  have e2 : l.getD q 0 = l[q] := by simp [List.getD_eq_getElem?_getD, hq]
  dsimp only
  rw [e1, e2]
  refine apart_of hL (hs _ (List.getElem_mem _)) (hs _ (List.getElem_mem _)) (fun e => hne ?_)
  exact List.getElem_inj hn |>.1 e
/-- sorted it is L -/
theorem srt_is {F : Nat → Nat} {l L : List Nat} {f : Nat → Nat} (hL : L.Pairwise (fun i j => F i < F j)) (hm : ∀ k, k ∈ l ↔ k ∈ L) (hs : SrtN F l.length f) (hf : SameN l.length (fun i => l.getD i 0) f) : (List.range l.length).map f = L := by
  refine srt_one (srt_list hs) hL (fun k => ?_)
  have hk := (mem_places l k).trans (hf k)
  rw [← hm k, hk, List.mem_map]
  constructor
  · rintro ⟨i, hi, e⟩
    exact ⟨i, List.mem_range.1 hi, e⟩
  · rintro ⟨i, hi, e⟩
    exact ⟨i, List.mem_range.2 hi, e⟩
section
variable {w : World} {b rr cnt : Nat} {r : List Nat} {V : Nat → Hd} {D : DataW Unit} {left : Lit → Bool} {ops : Array Oper} {rest : List Oper} {o : Oper} {a : Act} {Q : Exit → Act → World → Prop}
/-- the next of a map's -/
theorem wp_nextH {w0 : World} (hH : HasH w0 b r V D) (hl : ∀ kl, left kl = true → Maps.has D kl = true) (h : w.ranges Tryd.prog 3 heldElem b rr 1000 D left cnt) (hg : o.guard = none) (it : Operand) (hop : o.op = Op.next it false) (hit : a.eval it = .pointer (some ⟨rr, 0, none⟩))
    (hDone : cnt = 0 → (∀ kl, left kl = false) → wpList Tryd.prog ops Q rest (a.put o.dst (.tuple #[.bool false])) w)
    (hMore : ∀ (k : Nat) (s : ByteArray) (u t : Nat) (w' : World) (cnt' : Nat), k ∈ r → left (kI (k : Int)) = true → hv (V k) = .agg #[.string s, .int .i64 (u : Int), .int .i64 (t : Int)] → (V k).2.1 = u → (V k).2.2 = t → w'.ranges Tryd.prog 3 heldElem b rr 1000 D (fun z => left z && !z.sameKey (kI (k : Int))) cnt' → cnt' < cnt →
      w.grownBy w' (some rr) → w'.heap.size = w.heap.size → (Instr.entry (.pointer (some ⟨rr, 0, none⟩))).run Tryd.prog w' = .ok (.tuple #[.int .i64 (k : Int), .agg #[.string s, .int .i64 (u : Int), .int .i64 (t : Int)]]) w' →
      wpList Tryd.prog ops Q rest (a.put o.dst (.tuple #[.bool true, .int .i64 (k : Int), .agg #[.string s, .int .i64 (u : Int), .int .i64 (t : Int)]])) w') :
    wpList Tryd.prog ops Q (o :: rest) a w := by
  refine wpList_next_ranges w hg it hop 3 lawI heldElem (Value.int .i64) (fun c : ByteArray × Int × Int => .agg #[.string c.1, .int .i64 c.2.1, .int .i64 c.2.2]) (fun key kl hkey => ?_) (fun v y hv => ?_) b rr 1000 D left cnt hit h hDone ?_
  · obtain ⟨x, rfl, _⟩ := Maps.keyOf_int_inv Tryd.underlying3 hkey
    exact ⟨x, rfl⟩
  · obtain ⟨s, u, t, e, _⟩ := heldElem_inv hv
    exact ⟨(s, u, t), e⟩
  · intro x c kl y w' cnt' hkey hlk hv' hat hrg hlt hgr hsz hen
    obtain ⟨x', ex, rfl, hwx⟩ := Maps.keyOf_int_inv Tryd.underlying3 hkey
    cases ex
    obtain ⟨k, rfl, hk⟩ := hH.key (hl _ hlk)
    have e1 : y.1 = hD (V k) := (hat (hD hz)).symm.trans (hH.val k hk)
    have e2 : heldElem (.agg #[.string c.1, .int .i64 c.2.1, .int .i64 c.2.2]) = some (hD (V k), y.2) := by rw [hv', ← e1]
    have e3 := heldElem_is e2
    have e4 : (Value.agg #[.string c.1, .int .i64 c.2.1, .int .i64 c.2.2]) = .agg #[.string (sb (V k).1), .int .i64 (((V k).2.1 : Nat) : Int), .int .i64 (((V k).2.2 : Nat) : Int)] := e3
    rw [e4] at hen ⊢
    exact hMore k _ _ _ w' cnt' hk hlk rfl rfl rfl hrg hlt hgr hsz hen
end
/-- what has come of a map, when some are left: l, those that have a turn -/
structure Lst (pr : Hd → Nat) (r : List Nat) (V : Nat → Hd) (D : DataW Unit) (left : Lit → Bool) (cnt : Nat) (l : List Nat) : Prop where
  has : ∀ kl, left kl = true → Maps.has D kl = true
  nd : l.Nodup
  inn : ∀ k ∈ l, k ∈ r ∧ pr (V k) ≠ 0 ∧ left (kI (k : Int)) = false
  all : ∀ k ∈ r, pr (V k) ≠ 0 → left (kI (k : Int)) = false → k ∈ l
  len : l.length + cnt ≤ r.length
theorem Lst.start {pr : Hd → Nat} {w : World} {b : Nat} {r : List Nat} {V : Nat → Hd} {D : DataW Unit} (h : HasH w b r V D) : Lst pr r V D (Maps.has D) (Maps.size D) [] :=
  ⟨fun _ h => h, List.nodup_nil, fun _ h => (by cases h), fun k hk _ hf => (by rw [h.has, decide_eq_true hk] at hf; cases hf), by rw [h.size]; simp⟩
theorem left_off {left : Lit → Bool} {k j : Nat} : (left (kI (j : Int)) && !(kI (j : Int)).sameKey (kI (k : Int))) = false ↔ left (kI (j : Int)) = false ∨ j = k := by
  by_cases e : j = k
  · subst e
    have : (kI (j : Int)).sameKey (kI (j : Int)) = true := by simp [Lit.sameKey]
    rw [this]
    simp
  · rw [Maps.sameKey_ne (kI_natne e)]
    simp [e]
theorem Lst.yes {pr : Hd → Nat} {r : List Nat} {V : Nat → Hd} {D : DataW Unit} {left : Lit → Bool} {cnt cnt' : Nat} {l : List Nat} (h : Lst pr r V D left cnt l) {k : Nat} (hk : k ∈ r) (hl : left (kI (k : Int)) = true) (hp : pr (V k) ≠ 0) (hc : cnt' < cnt) :
    Lst pr r V D (fun z => left z && !z.sameKey (kI (k : Int))) cnt' (l ++ [k]) := by
  refine ⟨fun kl hkl => h.has kl (by simp at hkl; exact hkl.1), ?_, fun j hj => ?_, fun j hj hpj hf => ?_, ?_⟩
  · rw [List.nodup_append]
    refine ⟨h.nd, by simp, fun a ha c hc => ?_⟩
    rw [List.mem_singleton.1 hc]
    intro e
    have := (h.inn a ha).2.2
    rw [e, hl] at this
    cases this
  · rcases List.mem_append.1 hj with q | q
    · exact ⟨(h.inn j q).1, (h.inn j q).2.1, left_off.2 (.inl (h.inn j q).2.2)⟩
    · rw [List.mem_singleton.1 q]
      exact ⟨hk, hp, left_off.2 (.inr rfl)⟩
  · rcases left_off.1 hf with q | q
    · exact List.mem_append_left _ (h.all j hj hpj q)
    · rw [q]; exact List.mem_append_right _ (List.mem_singleton.2 rfl)
  · have := h.len
    rw [List.length_append, List.length_singleton]
    omega
theorem Lst.no {pr : Hd → Nat} {r : List Nat} {V : Nat → Hd} {D : DataW Unit} {left : Lit → Bool} {cnt cnt' : Nat} {l : List Nat} (h : Lst pr r V D left cnt l) {k : Nat} (hp : pr (V k) = 0) (hc : cnt' < cnt) :
    Lst pr r V D (fun z => left z && !z.sameKey (kI (k : Int))) cnt' l := by
  refine ⟨fun kl hkl => h.has kl (by simp at hkl; exact hkl.1), h.nd, fun j hj => ⟨(h.inn j hj).1, (h.inn j hj).2.1, left_off.2 (.inl (h.inn j hj).2.2)⟩, fun j hj hpj hf => ?_, by have := h.len; omega⟩
  rcases left_off.1 hf with q | q
  · exact h.all j hj hpj q
  · rw [q] at hpj; exact absurd hp hpj
set_option maxRecDepth 100000 in
set_option maxHeartbeats 4000000 in
theorem hasturn_any {w : World} {p b : Nat} {r : List Nat} {V : Nat → Hd} {D : DataW Unit} (hH : HasH w b r V D) (hp : w.cell? ⟨p, 2, none⟩ = some (.map (some b))) (hr : r.length ≤ 12) {L : List Nat} (hL : L.Pairwise (fun i j => (V i).2.1 < (V j).2.1)) (hm : ∀ k, k ∈ L ↔ k ∈ r ∧ (V k).2.1 ≠ 0) :
    Calls Tryd.prog 49 #[.pointer (some ⟨p, 0, none⟩), .func (.func 50) #[] #[]] w fun e w' => ∃ v, e = .returned v ∧ OwN w.heap.size w' v L ∧ Below w.heap.size w w' := by
  obtain ⟨j0, hj, hy0, hy1, hy2⟩ := info_parts infoI
  obtain ⟨wb, hwb⟩ : ∃ wb, wb = (w.alloc (.cells #[.pointer (some ⟨p, 0, none⟩)] 25)).alloc (.cells #[.func (.func 50) #[] #[]] 94) := ⟨_, rfl⟩
  have hB0 : Below w.heap.size w wb := by rw [hwb]; exact (al_below _ _).alloc (by simp) _
  have hKP : KPt 50 (w.heap.size + 1) w.heap.size p b r V wb := by
    have hz : (w.alloc (.cells #[.pointer (some ⟨p, 0, none⟩)] 25)).heap.size = w.heap.size + 1 := by simp
    refine ⟨?_, ?_, (hB0.cell (World.block_lt_of_cell? w _ hp)).trans hp, D, hH.old hB0⟩
    · rw [hwb, ← hz]
      exact cell_new _ _ _
    · rw [hwb]
      rw [(al_below _ _).cell (by rw [hz]; exact Nat.lt_succ_self _)]
      exact cell_new _ _ _
  have HH : Hid (HasH wb b r V D) := hH.old hB0
  have HKP : Hid (KPt 50 (w.heap.size + 1) w.heap.size p b r V wb) := hKP
  have HM : Hid (∀ k, k ∈ L ↔ k ∈ r ∧ (V k).2.1 ≠ 0) := hm
  have k1 := hKP.k1
  have k2 := hKP.k2
  have k3 := hKP.k3
  have hsz : w.heap.size + 2 = wb.heap.size := by rw [hwb]; simp
  have HL : Hid (L.Pairwise (fun i j => (V i).2.1 < (V j).2.1)) := hL
  clear hH hKP hm hp hL
  go_enter Tryd.func49, Tryd.ntmps49
  go_upto_region 1 with fail
  rw [← hwb]
  clear hwb
  go_wp2_with (first | (at_range; refine wpList_range_own _ rfl _ 79 rfl 3 86 lawI Tryd.underlying79 _ b 1000 D rfl HH.out.own ?_; intro w0 hrg0 hg0 hs0))
  go_frame
  go_loopw [5] (fun o wr => ∃ (left : Lit → Bool) (cnt : Nat) (l : List Nat), wr.ranges Tryd.prog 3 heldElem b wb.heap.size 1000 D left cnt ∧ Below wb.heap.size wb wr ∧ wb.heap.size + 1 ≤ wr.heap.size ∧ OwN (wb.heap.size + 1) wr o l ∧ Lst (fun h => h.2.1) r V D left cnt l) (fun _ wr => wr.rangeLeft b wb.heap.size)
  case atStart => exact ⟨_, _, [], hrg0, below_of_grown hg0, by omega, World.ownsRow_nil _ _ _ _, Lst.start HH.out⟩
  case round =>
    obtain ⟨left, cnt, l, hrg, hB, hsr, hO, hLs⟩ := hrel
    clear hrg0 hg0 hs0 k1 k2 k3
    have HLs : Hid (Lst (fun h => h.2.1) r V D left cnt l) := hLs
    have HO : Hid (OwN (wb.heap.size + 1) wr u5 l) := hO
    clear hLs hO
    go_wp2_with (first | (at_next; refine wp_nextH HH.out HLs.out.has hrg rfl _ rfl rfl ?_ ?_))
    · intro _ hl0
      have HMM : Hid (∀ k, k ∈ l ↔ k ∈ L) := fun k => by
        rw [HM.out k]
        exact ⟨fun q => ⟨(HLs.out.inn k q).1, (HLs.out.inn k q).2.1⟩, fun q => HLs.out.all k q.1 q.2 (hl0 _)⟩
      have HF : Hid (L.Pairwise (fun i j => (atH r V i).2.1 < (atH r V j).2.1)) := by
        refine List.Pairwise.imp_of_mem ?_ HL.out
        intro x y hx hy hxy
        unfold atH
        rw [if_pos ((HM.out x).1 hx).1, if_pos ((HM.out y).1 hy).1]
        exact hxy
      have HKr : Hid (KPt 50 (w.heap.size + 1) w.heap.size p b r V wr) := HKP.out.old hB
      have hll : l.length ≤ 12 := by have := HLs.out.len; omega
      have hB1 : Below w.heap.size w wr := hB0.trans (hB.mono hB0.size)
      rcases HO.out.2 with ⟨e5, en⟩ | ⟨g, cap, cur, e5, hg, rest⟩
      · have S := sort_none (w.heap.size + 1) w.heap.size wr
        have HE : Hid (L = []) := by
          have hl : l = [] := List.eq_nil_of_length_eq_zero en
          apply List.eq_nil_iff_forall_not_mem.2
          intro x hx
          have := (HMM.out x).2 hx
          rw [hl] at this
          cases this
        clear HF HKr HMM HLs HO hrg hl0 en HKP HM HL HH hll hB
        subst e5
        go_wp2_with fail
        refine S.mono ?_
        rintro e w2 ⟨rfl, hw⟩
        obtain rfl := hw.symm
        clear S hw
        go_wp2
        go_ret
        refine ⟨_, rfl, ?_, hB1⟩
        rw [HE.out]
        exact World.ownsRow_nil _ _ _ _
      · subst e5
        have hgw : w.heap.size + 2 < g := by omega
        have hne : ∀ x, x < wb.heap.size → ¬ (x = g) := fun x hx => by omega
        have hq1 := World.block_lt_of_cell? wb _ HKP.out.k3
        have hq2 := HH.out.blt
        have S := sort_any (KP := KPt 50 (w.heap.size + 1) w.heap.size p b r V) (F := fun k => (atH r V k).2.1) (B := wb.heap.size + 1) (b := g) (n := l.length) (cap := cap) (f0 := fun i => l.getD i 0) (w := wr) (fun W W' hk hb => hk.but hb (hne _ (by omega)) (hne _ (by omega)) (hne _ hq1) (hne _ hq2)) (fun W x y hx hy hk => hascmp_any W x y hx hy hk) hll
          ⟨OwN.places HO.out, HKr.out, But.refl _ _, SameN.refl _ _, inj_places HLs.out.nd HF.out (fun k hk => (HMM.out k).1 hk), fun i hi => by
            have e1 : l.getD i 0 = l[i] := by simp [List.getD_eq_getElem?_getD, hi]
            show l.getD i 0 < 1000
            rw [e1]
            exact HH.out.lt _ (HLs.out.inn _ (List.getElem_mem _)).1⟩
        have hlz : (l.length : Int) ≤ 12 := by omega
        clear HKr HKP HM HL HH HO hrg hl0 rest hne hq1 hq2 HLs hB
        obtain ⟨n, hn⟩ : ∃ n, n = l.length := ⟨_, rfl⟩
        have HN : Hid (n = l.length) := hn
        rw [← hn] at S hll hlz
        rw [← hn]
        clear hn
        go_wp2_with fail
        refine S.mono ?_
        rintro e w2 ⟨rfl, f, hS, hW⟩
        have HP : Hid (OwN w.heap.size w2 (.slice (some ⟨g, 0, none⟩) n cap) L ∧ Below w.heap.size w w2) := by
          have h1 := OwF.list hW.own
          have h2 : (List.range n).map f = L := by
            have h3 := hW.same
            rw [HN.out] at hS h3 ⊢
            exact srt_is HF.out HMM.out hS h3
          rw [h2] at h1
          exact ⟨OwN.base h1 (by omega), hB1.trans (hW.but.below hB1.size (fun x hx => by omega))⟩
        clear S hS hW HF HMM hB1
        go_wp2
        go_ret
        exact ⟨_, rfl, HP.out⟩
    · intro k s u t w1 cnt1 hk hlk hvk hu ht hrg1 hlt hg1 hs1 hen
      have hB1 : Below wb.heap.size wb w1 := hB.trans (below_of_grownAt hg1 hB.size (Nat.le_refl _))
      have C := hasof_any (V k)
      rw [hvk] at C
      obtain ⟨m, hm⟩ : ∃ m, m = (V k).2.1 := ⟨_, rfl⟩
      have Hm : Hid (m = (V k).2.1) := hm
      rw [← hm] at C
      clear hm hu ht hvk
      have HO1 : Hid (OwN (wb.heap.size + 1) w1 u5 l) := ownsRow_but HO.out (But.grown (F := fun x => x = wb.heap.size) hg1 (fun x e => by injection e with e; exact e.symm)) (fun x hx e => by
        have := (World.ownsRow.lt HO.out x hx).1
        omega)
      have HK1 : Hid (KPt 50 (w.heap.size + 1) w.heap.size p b r V w1) := HKP.out.old hB1
      have HR1 : Hid (w1.ranges Tryd.prog 3 heldElem b wb.heap.size 1000 D (fun z => left z && !z.sameKey (kI (k : Int))) cnt1) := hrg1
      have HR0 : Hid (wr.ranges Tryd.prog 3 heldElem b wb.heap.size 1000 D left cnt) := hrg
      clear hrg hrg1 hg1 HO
      go_upto_region 5 with fail
      have hBa : Below w1.heap.size w1 (w1.alloc (.cells #[.string s, .int .i64 (u : Int), .int .i64 (t : Int)] 86)) := al_below _ _
      have hrow : (w1.alloc (.cells #[.string s, .int .i64 (u : Int), .int .i64 (t : Int)] 86)).heap[wr.heap.size]? = some (.cells #[.string s, .int .i64 (u : Int), .int .i64 (t : Int)] 86 (0, 0)) := by rw [← hs1]; exact heap_alloc_new w1 _
      have a0 := cell_of_row _ _ 0 _ _ _ hrow
      have a1 := cell_of_row _ _ 1 _ _ _ hrow
      have a2 := cell_of_row _ _ 2 _ _ _ hrow
      have b1 := (HK1.out.old hBa).k1
      have HOa : Hid (OwN (wb.heap.size + 1) (w1.alloc (.cells #[.string s, .int .i64 (u : Int), .int .i64 (t : Int)] 86)) u5 l) := ownsRow_old HO1.out hBa
      have HRa : Hid ((w1.alloc (.cells #[.string s, .int .i64 (u : Int), .int .i64 (t : Int)] 86)).ranges Tryd.prog 3 heldElem b wb.heap.size 1000 D (fun z => left z && !z.sameKey (kI (k : Int))) cnt1) := HR1.out.alloc _
      have hB2 : Below wb.heap.size wb (w1.alloc (.cells #[.string s, .int .i64 (u : Int), .int .i64 (t : Int)] 86)) := hB1.trans (hBa.mono hB1.size)
      have hsa : (w1.alloc (.cells #[.string s, .int .i64 (u : Int), .int .i64 (t : Int)] 86)).heap.size = wr.heap.size + 1 := by simp [hs1]
      simp only [List.getElem?_toArray, List.getElem?_cons_zero, List.getElem?_cons_succ] at a0 a1 a2
      clear hrow hBa HO1 HK1 HR1 hB1
      generalize (w1.alloc (.cells #[.string s, .int .i64 (u : Int), .int .i64 (t : Int)] 86)) = wa at *
      clear hs1 hen
      go_wp2_with fail
      refine (C wa).mono ?_
      rintro e w2 ⟨rfl, hBc⟩
      have HOc : Hid (OwN (wb.heap.size + 1) w2 u5 l) := ownsRow_old HOa.out hBc
      have HRc : Hid (w2.ranges Tryd.prog 3 heldElem b wb.heap.size 1000 D (fun z => left z && !z.sameKey (kI (k : Int))) cnt1) := HRa.out.kept (row := none) (below_grown hBc) (by simp) (by simp)
      have hB3 : Below wb.heap.size wb w2 := hB2.trans (hBc.mono hB2.size)
      have hsz3 : wb.heap.size + 1 ≤ w2.heap.size := by have := hBc.size; omega
      clear C HOa HRa hBc hB2 a0 a1 a2 b1 hsa
      by_cases hm0 : m = 0
      · have HLn : Hid (Lst (fun h => h.2.1) r V D (fun z => left z && !z.sameKey (kI (k : Int))) cnt1 l) := HLs.out.no (by show (V k).2.1 = 0; rw [← Hm.out]; exact hm0) hlt
        have hz : ((m : Int) != 0) = false := by simp [hm0]
        have hz2 : (m : Int) = 0 := by omega
        clear HLs Hm hm0
        go_wp2
        go_roundw
        case rel => exact ⟨_, cnt1, l, HRc.out, hB3, hsz3, HOc.out, HLn.out⟩
        case measure => rw [HRc.out.left_eq, HR0.out.left_eq]; exact hlt
      · have HLn : Hid (Lst (fun h => h.2.1) r V D (fun z => left z && !z.sameKey (kI (k : Int))) cnt1 (l ++ [k])) := HLs.out.yes hk hlk (by show (V k).2.1 ≠ 0; rw [← Hm.out]; exact hm0) hlt
        have hz : ((m : Int) != 0) = true := by simp [hm0]
        have hz2 : ¬ (m : Int) = 0 := by omega
        have hll : l.length ≤ 12 := by have := HLs.out.len; omega
        have hvl := vn_len l
        have hO2 : w2.ownsRow (wb.heap.size + 1) 3 1 u5 l.length (vn l) := HOc.out
        have HVN : Hid (vn (l ++ [k]) = vn l ++ [vi (k : Int)]) := (by simp [vn] : vn (l ++ [k]) = vn l ++ [vi (k : Int)])
        have HRb : Hid (b < wb.heap.size) := HH.out.blt
        obtain ⟨ao, co, rfl⟩ := OwN.len HOc.out
        have HLL : Hid ((l ++ [k]).length = l.length + 1) := (by simp : (l ++ [k]).length = l.length + 1)
        clear HLs Hm hm0 HOc
        generalize vn l = xs at *
        generalize l.length = ln at *
        go_wp2_with (first | (at_builtin; refine wpList_append_own _ rfl _ _ 34 rfl (wb.heap.size + 1) 3 j0 (.int .i64 0) 1 8 Tryd.underlying34 hj hy0 hy1 hy2 rfl (by decide) _ _ _ rfl (World.ownsRow.alloc hO2 _) ⟨w2.heap.size, 0, none⟩ 1 1 [.int .i64 (k : Int)] rfl rfl (one_cell _) (by intro u hu; simp at hu; subst hu; rfl) (by unfold maxLen; omega) (by omega) (by simp; omega) ?_))
        intro v' w3 hown hgrow _
        have HO3 : Hid (OwN (wb.heap.size + 1) w3 v' (l ++ [k])) := by
          (show World.ownsRow _ _ _ _ _ _ _)
          rw [HVN.out, HLL.out]
          exact hown
        have hg3 : ∀ g, Value.ownBlock (.slice ao ln co) = some g → wb.heap.size + 1 ≤ g := fun g hg => (World.ownsRow.lt hO2 g hg).1
        have hB4 : Below wb.heap.size wb w3 := (hB3.alloc (by omega) _).grown hgrow (by simp; omega) (fun g hg => by have := hg3 g hg; omega)
        have HR3 : Hid (w3.ranges Tryd.prog 3 heldElem b wb.heap.size 1000 D (fun z => left z && !z.sameKey (kI (k : Int))) cnt1) := by
          refine (HRc.out.alloc _).kept hgrow (fun e => ?_) (fun e => ?_)
          · have := hg3 _ e.symm
            have := HRb.out
            omega
          · have := hg3 _ e.symm
            omega
        have hs4 : wb.heap.size + 1 ≤ w3.heap.size := by have := hgrow.size; simp at this; omega
        clear hown hgrow hO2 HRc hB3 HVN HLL hg3 HRb
        go_wp2
        go_roundw
        case rel => exact ⟨_, cnt1, l ++ [k], HR3.out, hB4, hs4, HO3.out, HLn.out⟩
        case measure => rw [HR3.out.left_eq, HR0.out.left_eq]; exact hlt
set_option maxRecDepth 100000 in
set_option maxHeartbeats 4000000 in
theorem dirturn_any {w : World} {p b : Nat} {r : List Nat} {V : Nat → Hd} {D : DataW Unit} (hH : HasH w b r V D) (hp : w.cell? ⟨p, 2, none⟩ = some (.map (some b))) (hr : r.length ≤ 12) {L : List Nat} (hL : L.Pairwise (fun i j => (V i).2.2 < (V j).2.2)) (hm : ∀ k, k ∈ L ↔ k ∈ r ∧ (V k).2.2 ≠ 0) :
    Calls Tryd.prog 49 #[.pointer (some ⟨p, 0, none⟩), .func (.func 51) #[] #[]] w fun e w' => ∃ v, e = .returned v ∧ OwN w.heap.size w' v L ∧ Below w.heap.size w w' := by
  obtain ⟨j0, hj, hy0, hy1, hy2⟩ := info_parts infoI
  obtain ⟨wb, hwb⟩ : ∃ wb, wb = (w.alloc (.cells #[.pointer (some ⟨p, 0, none⟩)] 25)).alloc (.cells #[.func (.func 51) #[] #[]] 94) := ⟨_, rfl⟩
  have hB0 : Below w.heap.size w wb := by rw [hwb]; exact (al_below _ _).alloc (by simp) _
  have hKP : KPt 51 (w.heap.size + 1) w.heap.size p b r V wb := by
    have hz : (w.alloc (.cells #[.pointer (some ⟨p, 0, none⟩)] 25)).heap.size = w.heap.size + 1 := by simp
    refine ⟨?_, ?_, (hB0.cell (World.block_lt_of_cell? w _ hp)).trans hp, D, hH.old hB0⟩
    · rw [hwb, ← hz]
      exact cell_new _ _ _
    · rw [hwb]
      rw [(al_below _ _).cell (by rw [hz]; exact Nat.lt_succ_self _)]
      exact cell_new _ _ _
  have HH : Hid (HasH wb b r V D) := hH.old hB0
  have HKP : Hid (KPt 51 (w.heap.size + 1) w.heap.size p b r V wb) := hKP
  have HM : Hid (∀ k, k ∈ L ↔ k ∈ r ∧ (V k).2.2 ≠ 0) := hm
  have k1 := hKP.k1
  have k2 := hKP.k2
  have k3 := hKP.k3
  have hsz : w.heap.size + 2 = wb.heap.size := by rw [hwb]; simp
  have HL : Hid (L.Pairwise (fun i j => (V i).2.2 < (V j).2.2)) := hL
  clear hH hKP hm hp hL
  go_enter Tryd.func49, Tryd.ntmps49
  go_upto_region 1 with fail
  rw [← hwb]
  clear hwb
  go_wp2_with (first | (at_range; refine wpList_range_own _ rfl _ 79 rfl 3 86 lawI Tryd.underlying79 _ b 1000 D rfl HH.out.own ?_; intro w0 hrg0 hg0 hs0))
  go_frame
  go_loopw [5] (fun o wr => ∃ (left : Lit → Bool) (cnt : Nat) (l : List Nat), wr.ranges Tryd.prog 3 heldElem b wb.heap.size 1000 D left cnt ∧ Below wb.heap.size wb wr ∧ wb.heap.size + 1 ≤ wr.heap.size ∧ OwN (wb.heap.size + 1) wr o l ∧ Lst (fun h => h.2.2) r V D left cnt l) (fun _ wr => wr.rangeLeft b wb.heap.size)
  case atStart => exact ⟨_, _, [], hrg0, below_of_grown hg0, by omega, World.ownsRow_nil _ _ _ _, Lst.start HH.out⟩
  case round =>
    obtain ⟨left, cnt, l, hrg, hB, hsr, hO, hLs⟩ := hrel
    clear hrg0 hg0 hs0 k1 k2 k3
    have HLs : Hid (Lst (fun h => h.2.2) r V D left cnt l) := hLs
    have HO : Hid (OwN (wb.heap.size + 1) wr u5 l) := hO
    clear hLs hO
    go_wp2_with (first | (at_next; refine wp_nextH HH.out HLs.out.has hrg rfl _ rfl rfl ?_ ?_))
    · intro _ hl0
      have HMM : Hid (∀ k, k ∈ l ↔ k ∈ L) := fun k => by
        rw [HM.out k]
        exact ⟨fun q => ⟨(HLs.out.inn k q).1, (HLs.out.inn k q).2.1⟩, fun q => HLs.out.all k q.1 q.2 (hl0 _)⟩
      have HF : Hid (L.Pairwise (fun i j => (atH r V i).2.2 < (atH r V j).2.2)) := by
        refine List.Pairwise.imp_of_mem ?_ HL.out
        intro x y hx hy hxy
        unfold atH
        rw [if_pos ((HM.out x).1 hx).1, if_pos ((HM.out y).1 hy).1]
        exact hxy
      have HKr : Hid (KPt 51 (w.heap.size + 1) w.heap.size p b r V wr) := HKP.out.old hB
      have hll : l.length ≤ 12 := by have := HLs.out.len; omega
      have hB1 : Below w.heap.size w wr := hB0.trans (hB.mono hB0.size)
      rcases HO.out.2 with ⟨e5, en⟩ | ⟨g, cap, cur, e5, hg, rest⟩
      · have S := sort_none (w.heap.size + 1) w.heap.size wr
        have HE : Hid (L = []) := by
          have hl : l = [] := List.eq_nil_of_length_eq_zero en
          apply List.eq_nil_iff_forall_not_mem.2
          intro x hx
          have := (HMM.out x).2 hx
          rw [hl] at this
          cases this
        clear HF HKr HMM HLs HO hrg hl0 en HKP HM HL HH hll hB
        subst e5
        go_wp2_with fail
        refine S.mono ?_
        rintro e w2 ⟨rfl, hw⟩
        obtain rfl := hw.symm
        clear S hw
        go_wp2
        go_ret
        refine ⟨_, rfl, ?_, hB1⟩
        rw [HE.out]
        exact World.ownsRow_nil _ _ _ _
      · subst e5
        have hgw : w.heap.size + 2 < g := by omega
        have hne : ∀ x, x < wb.heap.size → ¬ (x = g) := fun x hx => by omega
        have hq1 := World.block_lt_of_cell? wb _ HKP.out.k3
        have hq2 := HH.out.blt
        have S := sort_any (KP := KPt 51 (w.heap.size + 1) w.heap.size p b r V) (F := fun k => (atH r V k).2.2) (B := wb.heap.size + 1) (b := g) (n := l.length) (cap := cap) (f0 := fun i => l.getD i 0) (w := wr) (fun W W' hk hb => hk.but hb (hne _ (by omega)) (hne _ (by omega)) (hne _ hq1) (hne _ hq2)) (fun W x y hx hy hk => dircmp_any W x y hx hy hk) hll
          ⟨OwN.places HO.out, HKr.out, But.refl _ _, SameN.refl _ _, inj_places HLs.out.nd HF.out (fun k hk => (HMM.out k).1 hk), fun i hi => by
            have e1 : l.getD i 0 = l[i] := by simp [List.getD_eq_getElem?_getD, hi]
            show l.getD i 0 < 1000
            rw [e1]
            exact HH.out.lt _ (HLs.out.inn _ (List.getElem_mem _)).1⟩
        have hlz : (l.length : Int) ≤ 12 := by omega
        clear HKr HKP HM HL HH HO hrg hl0 rest hne hq1 hq2 HLs hB
        obtain ⟨n, hn⟩ : ∃ n, n = l.length := ⟨_, rfl⟩
        have HN : Hid (n = l.length) := hn
        rw [← hn] at S hll hlz
        rw [← hn]
        clear hn
        go_wp2_with fail
        refine S.mono ?_
        rintro e w2 ⟨rfl, f, hS, hW⟩
        have HP : Hid (OwN w.heap.size w2 (.slice (some ⟨g, 0, none⟩) n cap) L ∧ Below w.heap.size w w2) := by
          have h1 := OwF.list hW.own
          have h2 : (List.range n).map f = L := by
            have h3 := hW.same
            rw [HN.out] at hS h3 ⊢
            exact srt_is HF.out HMM.out hS h3
          rw [h2] at h1
          exact ⟨OwN.base h1 (by omega), hB1.trans (hW.but.below hB1.size (fun x hx => by omega))⟩
        clear S hS hW HF HMM hB1
        go_wp2
        go_ret
        exact ⟨_, rfl, HP.out⟩
    · intro k s u t w1 cnt1 hk hlk hvk hu ht hrg1 hlt hg1 hs1 hen
      have hB1 : Below wb.heap.size wb w1 := hB.trans (below_of_grownAt hg1 hB.size (Nat.le_refl _))
      have C := dirof_any (V k)
      rw [hvk] at C
      obtain ⟨m, hm⟩ : ∃ m, m = (V k).2.2 := ⟨_, rfl⟩
      have Hm : Hid (m = (V k).2.2) := hm
      rw [← hm] at C
      clear hm hu ht hvk
      have HO1 : Hid (OwN (wb.heap.size + 1) w1 u5 l) := ownsRow_but HO.out (But.grown (F := fun x => x = wb.heap.size) hg1 (fun x e => by injection e with e; exact e.symm)) (fun x hx e => by
        have := (World.ownsRow.lt HO.out x hx).1
        omega)
      have HK1 : Hid (KPt 51 (w.heap.size + 1) w.heap.size p b r V w1) := HKP.out.old hB1
      have HR1 : Hid (w1.ranges Tryd.prog 3 heldElem b wb.heap.size 1000 D (fun z => left z && !z.sameKey (kI (k : Int))) cnt1) := hrg1
      have HR0 : Hid (wr.ranges Tryd.prog 3 heldElem b wb.heap.size 1000 D left cnt) := hrg
      clear hrg hrg1 hg1 HO
      go_upto_region 5 with fail
      have hBa : Below w1.heap.size w1 (w1.alloc (.cells #[.string s, .int .i64 (u : Int), .int .i64 (t : Int)] 86)) := al_below _ _
      have hrow : (w1.alloc (.cells #[.string s, .int .i64 (u : Int), .int .i64 (t : Int)] 86)).heap[wr.heap.size]? = some (.cells #[.string s, .int .i64 (u : Int), .int .i64 (t : Int)] 86 (0, 0)) := by rw [← hs1]; exact heap_alloc_new w1 _
      have a0 := cell_of_row _ _ 0 _ _ _ hrow
      have a1 := cell_of_row _ _ 1 _ _ _ hrow
      have a2 := cell_of_row _ _ 2 _ _ _ hrow
      have b1 := (HK1.out.old hBa).k1
      have HOa : Hid (OwN (wb.heap.size + 1) (w1.alloc (.cells #[.string s, .int .i64 (u : Int), .int .i64 (t : Int)] 86)) u5 l) := ownsRow_old HO1.out hBa
      have HRa : Hid ((w1.alloc (.cells #[.string s, .int .i64 (u : Int), .int .i64 (t : Int)] 86)).ranges Tryd.prog 3 heldElem b wb.heap.size 1000 D (fun z => left z && !z.sameKey (kI (k : Int))) cnt1) := HR1.out.alloc _
      have hB2 : Below wb.heap.size wb (w1.alloc (.cells #[.string s, .int .i64 (u : Int), .int .i64 (t : Int)] 86)) := hB1.trans (hBa.mono hB1.size)
      have hsa : (w1.alloc (.cells #[.string s, .int .i64 (u : Int), .int .i64 (t : Int)] 86)).heap.size = wr.heap.size + 1 := by simp [hs1]
      simp only [List.getElem?_toArray, List.getElem?_cons_zero, List.getElem?_cons_succ] at a0 a1 a2
      clear hrow hBa HO1 HK1 HR1 hB1
      generalize (w1.alloc (.cells #[.string s, .int .i64 (u : Int), .int .i64 (t : Int)] 86)) = wa at *
      clear hs1 hen
      go_wp2_with fail
      refine (C wa).mono ?_
      rintro e w2 ⟨rfl, hBc⟩
      have HOc : Hid (OwN (wb.heap.size + 1) w2 u5 l) := ownsRow_old HOa.out hBc
      have HRc : Hid (w2.ranges Tryd.prog 3 heldElem b wb.heap.size 1000 D (fun z => left z && !z.sameKey (kI (k : Int))) cnt1) := HRa.out.kept (row := none) (below_grown hBc) (by simp) (by simp)
      have hB3 : Below wb.heap.size wb w2 := hB2.trans (hBc.mono hB2.size)
      have hsz3 : wb.heap.size + 1 ≤ w2.heap.size := by have := hBc.size; omega
      clear C HOa HRa hBc hB2 a0 a1 a2 b1 hsa
      by_cases hm0 : m = 0
      · have HLn : Hid (Lst (fun h => h.2.2) r V D (fun z => left z && !z.sameKey (kI (k : Int))) cnt1 l) := HLs.out.no (by show (V k).2.2 = 0; rw [← Hm.out]; exact hm0) hlt
        have hz : ((m : Int) != 0) = false := by simp [hm0]
        have hz2 : (m : Int) = 0 := by omega
        clear HLs Hm hm0
        go_wp2
        go_roundw
        case rel => exact ⟨_, cnt1, l, HRc.out, hB3, hsz3, HOc.out, HLn.out⟩
        case measure => rw [HRc.out.left_eq, HR0.out.left_eq]; exact hlt
      · have HLn : Hid (Lst (fun h => h.2.2) r V D (fun z => left z && !z.sameKey (kI (k : Int))) cnt1 (l ++ [k])) := HLs.out.yes hk hlk (by show (V k).2.2 ≠ 0; rw [← Hm.out]; exact hm0) hlt
        have hz : ((m : Int) != 0) = true := by simp [hm0]
        have hz2 : ¬ (m : Int) = 0 := by omega
        have hll : l.length ≤ 12 := by have := HLs.out.len; omega
        have hvl := vn_len l
        have hO2 : w2.ownsRow (wb.heap.size + 1) 3 1 u5 l.length (vn l) := HOc.out
        have HVN : Hid (vn (l ++ [k]) = vn l ++ [vi (k : Int)]) := (by simp [vn] : vn (l ++ [k]) = vn l ++ [vi (k : Int)])
        have HRb : Hid (b < wb.heap.size) := HH.out.blt
        obtain ⟨ao, co, rfl⟩ := OwN.len HOc.out
        have HLL : Hid ((l ++ [k]).length = l.length + 1) := (by simp : (l ++ [k]).length = l.length + 1)
        clear HLs Hm hm0 HOc
        generalize vn l = xs at *
        generalize l.length = ln at *
        go_wp2_with (first | (at_builtin; refine wpList_append_own _ rfl _ _ 34 rfl (wb.heap.size + 1) 3 j0 (.int .i64 0) 1 8 Tryd.underlying34 hj hy0 hy1 hy2 rfl (by decide) _ _ _ rfl (World.ownsRow.alloc hO2 _) ⟨w2.heap.size, 0, none⟩ 1 1 [.int .i64 (k : Int)] rfl rfl (one_cell _) (by intro u hu; simp at hu; subst hu; rfl) (by unfold maxLen; omega) (by omega) (by simp; omega) ?_))
        intro v' w3 hown hgrow _
        have HO3 : Hid (OwN (wb.heap.size + 1) w3 v' (l ++ [k])) := by
          (show World.ownsRow _ _ _ _ _ _ _)
          rw [HVN.out, HLL.out]
          exact hown
        have hg3 : ∀ g, Value.ownBlock (.slice ao ln co) = some g → wb.heap.size + 1 ≤ g := fun g hg => (World.ownsRow.lt hO2 g hg).1
        have hB4 : Below wb.heap.size wb w3 := (hB3.alloc (by omega) _).grown hgrow (by simp; omega) (fun g hg => by have := hg3 g hg; omega)
        have HR3 : Hid (w3.ranges Tryd.prog 3 heldElem b wb.heap.size 1000 D (fun z => left z && !z.sameKey (kI (k : Int))) cnt1) := by
          refine (HRc.out.alloc _).kept hgrow (fun e => ?_) (fun e => ?_)
          · have := hg3 _ e.symm
            have := HRb.out
            omega
          · have := hg3 _ e.symm
            omega
        have hs4 : wb.heap.size + 1 ≤ w3.heap.size := by have := hgrow.size; simp at this; omega
        clear hown hgrow hO2 HRc hB3 HVN HLL hg3 HRb
        go_wp2
        go_roundw
        case rel => exact ⟨_, cnt1, l ++ [k], HR3.out, hB4, hs4, HO3.out, HLn.out⟩
        case measure => rw [HR3.out.left_eq, HR0.out.left_eq]; exact hlt
end Go.Proofs.YtfeikmmojilmbaaDoor
