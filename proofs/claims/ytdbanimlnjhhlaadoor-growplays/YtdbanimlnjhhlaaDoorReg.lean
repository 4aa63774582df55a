/- A statement that draws its order, whose operations only read or draw, but for the last, which waits for all others: one walk of the text's order serves every order. -/
import Derived.Deep.Quiet
import Derived.Deep.QuietTactic
import Derived.BigQuiet
namespace Go.Proofs.YtdbanimlnjhhlaaDoor
open Go
section
variable {P : Program} {ops : Array Oper} {C : World → Prop} {T : Act → Prop}
/-- an operation that stands apart from those ahead of it may come up first -/
theorem first_up' (hs : ∀ o ∈ ops.toList, ∀ cs b, o.op ≠ .select cs b) {oi : Oper} (hi : oi ∈ ops.toList) (l2 : List Oper) : ∀ (l1 : List Oper) (a : Act), (∀ o ∈ l1, o ∈ ops.toList) → (∀ o ∈ l1, o.apart ops oi = true) →
    wpQuiet P ops C T (l1 ++ oi :: l2) a → ∃ v, YieldsIn P ops C oi v a ∧ wpQuiet P ops C T (l1 ++ l2) (a.put oi.dst v)
  | [], a, _, _, h => by
    have h' : if Region.wanted oi (yielded ops a.tmps) then oi.quiet P a C (wpQuiet P ops C T l2) else wpQuiet P ops C T l2 (a.put oi.dst undef) := h
    by_cases hw : Region.wanted oi (yielded ops a.tmps) = true
    · rw [if_pos hw] at h'
      obtain ⟨v, h1, h2⟩ := h'
      exact ⟨v, .inl ⟨hw, h1⟩, h2⟩
    · rw [if_neg hw] at h'
      exact ⟨undef, .inr ⟨by simpa using hw, rfl⟩, h'⟩
  | oj :: l1, a, hm, hap, h => by
    obtain ⟨p1, p2, p3⟩ := Oper.apart_spec (hap oj (List.mem_cons_self ..))
    have hsj := hs oj (hm oj (List.mem_cons_self ..))
    have hsi := hs oi hi
    have go : ∀ u, wpQuiet P ops C T (l1 ++ oi :: l2) (a.put oj.dst u) → ∃ v, YieldsIn P ops C oi v a ∧ wpQuiet P ops C T (l1 ++ l2) ((a.put oi.dst v).put oj.dst u) := fun u hu => by
      obtain ⟨v, hy, hr⟩ := first_up' hs hi l2 l1 (a.put oj.dst u) (fun o ho => hm o (List.mem_cons_of_mem _ ho)) (fun o ho => hap o (List.mem_cons_of_mem _ ho)) hu
      refine ⟨v, hy.of_same (execOp_put oi hsi a oj.dst u p1).symm (wanted_put oi a oj.dst u p1).symm, ?_⟩
      rw [Act.put_comm a v u (fun d hd he => p2 d he hd)]
      exact hr
    have h' : if Region.wanted oj (yielded ops a.tmps) then oj.quiet P a C (wpQuiet P ops C T (l1 ++ oi :: l2)) else wpQuiet P ops C T (l1 ++ oi :: l2) (a.put oj.dst undef) := h
    by_cases hw : Region.wanted oj (yielded ops a.tmps) = true
    · rw [if_pos hw] at h'
      obtain ⟨u, h1, h2⟩ := h'
      obtain ⟨v, hy, hr⟩ := go u h2
      refine ⟨v, hy, ?_⟩
      show if Region.wanted oj (yielded ops (a.put oi.dst v).tmps) then _ else _
      rw [wanted_put oj a oi.dst v p3, if_pos hw]
      refine ⟨u, fun w hC => ?_, hr⟩
      have := h1 w hC
      unfold Oper.quietAt at *
      rwa [execOp_put oj hsj a oi.dst v p3]
    · rw [if_neg hw] at h'
      obtain ⟨v, hy, hr⟩ := go undef h'
      refine ⟨v, hy, ?_⟩
      show if Region.wanted oj (yielded ops (a.put oi.dst v).tmps) then _ else _
      rw [wanted_put oj a oi.dst v p3, if_neg hw]
      exact hr
/-- operation j waits for operation i -/
def waits (ops : Array Oper) (j i : Nat) : Bool := match ops[j]? with
  | some o => o.after.any (fun e => Region.binds .any e && e.on == i)
  | none => false
/-- n operations, each of which waits for such alone as stand ahead of it, two of them apart where the later doesn't wait, and each is waited for; then one more -/
def lastB (ops : Array Oper) (n : Nat) : Bool :=
  Region.noSelect ops && decide (ops.size = n + 1) &&
  (List.range (n + 1)).all (fun i => match ops[i]? with | some o => o.after.toList.all (fun e => !Region.binds .any e || decide (e.on < i)) | none => false) &&
  (List.range n).all (fun i => (List.range i).all (fun j => waits ops i j || match ops[j]?, ops[i]? with | some oj, some oi => oj.apart ops oi | _, _ => false)) &&
  (List.range n).all (fun i => (List.range (n + 1)).any (fun j => decide (i < j) && waits ops j i))
theorem waits_iff {ops : Array Oper} {j i : Nat} (h : waits ops j i = true) : ∃ o, ops[j]? = some o ∧ ∃ e ∈ o.after, Region.binds .any e = true ∧ e.on = i := by
  unfold waits at h
  split at h
  · rename_i o ho
    obtain ⟨e, he, hb⟩ := Array.any_eq_true'.1 h
    simp only [Bool.and_eq_true, beq_iff_eq] at hb
    exact ⟨o, ho, e, he, hb.1, hb.2⟩
  · cases h
/-- those of the first n that have not come up -/
def un (n : Nat) (listed : Array Bool) : List Nat := (List.range n).filter (fun i => !listed.getD i true)
theorem mem_un {n i : Nat} {listed : Array Bool} : i ∈ un n listed ↔ i < n ∧ listed.getD i true = false := by
  unfold un
  rw [List.mem_filter, List.mem_range]
  simp
theorem getD_tf {listed : Array Bool} {i : Nat} (h : i < listed.size) : listed.getD i true = listed.getD i false := by simp [h]
theorem un_set {n i : Nat} {listed : Array Bool} (hi : i < listed.size) {l1 l2 : List Nat} (h : un n listed = l1 ++ i :: l2) : un n (listed.setIfInBounds i true) = l1 ++ l2 := by
  have hp : (un n listed).Pairwise (· < ·) := List.Pairwise.filter _ List.pairwise_lt_range
  have e : un n (listed.setIfInBounds i true) = (un n listed).filter (fun j => decide (j ≠ i)) := by
    unfold un
    rw [List.filter_filter]
    refine List.filter_congr (fun j _ => ?_)
    by_cases hj : j = i
    · subst hj; simp [hi]
    · rw [getD_set_ne true (Ne.symm hj)]; simp [hj]
  rw [h] at hp
  obtain ⟨_, h2, h3⟩ := List.pairwise_append.1 hp
  have h4 := (List.pairwise_cons.1 h2).1
  rw [e, h, List.filter_append, List.filter_cons_of_neg (by simp), List.filter_eq_self.2 (fun x hx => ?_), List.filter_eq_self.2 (fun x hx => ?_)]
  · have := h4 x hx; simp; omega
  · have := h3 x hx i (List.mem_cons_self ..); simp; omega
theorem any_last {Q : Exit → Act → World → Prop} {n : Nat} (hB : lastB ops n = true) : ∀ (c : Nat) (listed : Array Bool) (a : Act) (w : World), C w → (un n listed).length = c → listed.size = n + 1 → listed.getD n true = false →
    (∀ j o, ops[j]? = some o → listed.getD j false = true → ∀ e ∈ o.after, Region.binds .any e = true → listed.getD e.on false = true) →
    wpQuiet P ops C (fun a => ∀ w, C w → wpOp P ops Q n (fun a w => Q .normal a w) a w) ((un n listed).filterMap (fun i => ops[i]?)) a → wpAny P .any ops Q (c + 1) listed a w := by
  unfold lastB at hB
  simp only [Bool.and_eq_true, decide_eq_true_eq, List.all_eq_true, List.mem_range] at hB
  obtain ⟨⟨⟨⟨hsel, hsz⟩, hlow⟩, hap⟩, hwt⟩ := hB
  have hget : ∀ i, i < n + 1 → ∃ o, ops[i]? = some o := fun i hi => ⟨ops[i]'(by omega), by simp [show i < ops.size by omega]⟩
  have hdep : ∀ i o, i < n + 1 → ops[i]? = some o → ∀ e ∈ o.after, Region.binds .any e = true → e.on < i := fun i o hi ho e he hb => by
    have := hlow i hi
    rw [ho] at this
    simp only [List.all_eq_true] at this
    have := this e (by simpa using he)
    simpa [hb] using this
  have hops : ∀ i o, ops[i]? = some o → o ∈ ops.toList := fun i o h => by
    have := Array.mem_of_getElem? h
    simpa using this
  have hselo : ∀ o ∈ ops.toList, ∀ cs b, o.op ≠ .select cs b := fun o ho cs b => by
    obtain ⟨i, hi, rfl⟩ := Array.getElem_of_mem (by simpa using ho : o ∈ ops)
    exact Region.noSelect_spec hsel i _ cs b (by simp [hi])
  intro c
  induction c with
  | zero =>
    intro listed a w hC hl hls hn _ hq
    have hnil : un n listed = [] := List.eq_nil_of_length_eq_zero hl
    rw [hnil] at hq
    have hall : ∀ i, i < n → listed.getD i true = true := fun i hi => by
      cases h : listed.getD i true with
      | true => rfl
      | false =>
        have : i ∈ un n listed := mem_un.2 ⟨hi, h⟩
        rw [hnil] at this
        cases this
    obtain ⟨on, hon⟩ := hget n (by omega)
    have hnr : n ∈ Region.ready .any ops listed := mem_ready.2 ⟨hn, on, hon, fun e he hb => by
      have := hdep n on (by omega) hon e he hb
      rw [← getD_tf (by omega)]
      exact hall _ this⟩
    refine ⟨fun h => (by rw [h] at hnr; cases hnr), fun i hi => ?_⟩
    obtain ⟨h0, o, ho, _⟩ := mem_ready.1 hi
    have hi1 : i < n + 1 := by
      have := (Array.getElem?_eq_some_iff.1 ho).1
      omega
    have hin : i = n := by
      rcases Nat.lt_or_ge i n with h | h
      · rw [hall i h] at h0; cases h0
      · omega
    subst hin
    refine wpOp_mono (fun a' w' h' => ?_) ((show ∀ w, C w → wpOp P ops Q i (fun a w => Q .normal a w) a w from hq) w hC)
    refine ⟨?_, h'⟩
    rw [List.eq_nil_iff_forall_not_mem]
    intro j hj
    obtain ⟨h0, o, ho, _⟩ := mem_ready.1 hj
    have hj1 : j < i + 1 := by
      have := (Array.getElem?_eq_some_iff.1 ho).1
      omega
    by_cases e : j = i
    · subst e; simp [show j < listed.size by omega] at h0
    · rw [getD_set_ne true (Ne.symm e), hall j (by omega)] at h0; cases h0
  | succ c ih =>
    intro listed a w hC hl hls hn hcl hq
    -- as long as one has not come up, the last can't
    have hlast : ∀ d i, n - i = d → i < n → listed.getD i true = false → n ∉ Region.ready .any ops listed := by
      intro d
      induction d using Nat.strongRecOn with
      | _ d ihd =>
        intro i hd hi hu hr
        obtain ⟨j, hj, hj2⟩ := List.any_eq_true.1 (hwt i hi)
        simp only [Bool.and_eq_true, decide_eq_true_eq] at hj2
        obtain ⟨oj, hoj, e, he, hb, hon⟩ := waits_iff hj2.2
        have hjn : j < n + 1 := List.mem_range.1 hj
        have hui : listed.getD i false = false := by rw [← getD_tf (by omega)]; exact hu
        by_cases ej : j = n
        · subst ej
          obtain ⟨_, o, ho, hall⟩ := mem_ready.1 hr
          rw [hoj] at ho
          cases ho
          have := hall e he hb
          rw [hon, hui] at this
          cases this
        · refine ihd (n - j) (by omega) j rfl (by omega) ?_ hr
          cases h : listed.getD j true with
          | false => rfl
          | true =>
            rw [getD_tf (by omega)] at h
            have := hcl j oj hoj h e he hb
            rw [hon, hui] at this
            cases this
    have hne : un n listed ≠ [] := fun e => by rw [e] at hl; cases hl
    refine ⟨fun h => ?_, fun i hi => ?_⟩
    · -- the least that has not come up is ready
      exfalso
      cases hu : un n listed with
      | nil => exact hne hu
      | cons i l =>
        have hiu : i ∈ un n listed := by rw [hu]; exact List.mem_cons_self ..
        obtain ⟨hin, hi0⟩ := mem_un.1 hiu
        obtain ⟨oi, hoi⟩ := hget i (by omega)
        have hp : (un n listed).Pairwise (· < ·) := List.Pairwise.filter _ List.pairwise_lt_range
        rw [hu] at hp
        have : i ∈ Region.ready .any ops listed := mem_ready.2 ⟨hi0, oi, hoi, fun e he hb => by
          have hlt := hdep i oi (by omega) hoi e he hb
          rw [← getD_tf (by omega)]
          cases h : listed.getD e.on true with
          | true => rfl
          | false =>
            have hm : e.on ∈ un n listed := mem_un.2 ⟨by omega, h⟩
            rw [hu] at hm
            rcases List.mem_cons.1 hm with h1 | h1
            · omega
            · have := (List.pairwise_cons.1 hp).1 _ h1
              omega⟩
        rw [h] at this
        cases this
    · obtain ⟨hi0, oi, hoi, hall⟩ := mem_ready.1 hi
      have hi1 : i < n + 1 := by
        have := (Array.getElem?_eq_some_iff.1 hoi).1
        omega
      have hin : i < n := by
        rcases Nat.lt_or_ge i n with h | h
        · exact h
        · exfalso
          have : i = n := by omega
          subst this
          obtain ⟨k, hk⟩ := List.exists_mem_of_ne_nil _ hne
          obtain ⟨h1, h2⟩ := mem_un.1 hk
          exact hlast _ k rfl h1 h2 hi
      obtain ⟨l1, l2, hsp⟩ := List.append_of_mem (mem_un.2 ⟨hin, hi0⟩)
      have hp : (un n listed).Pairwise (· < ·) := List.Pairwise.filter _ List.pairwise_lt_range
      rw [hsp] at hp
      have hl1 : ∀ x ∈ l1, x < i := fun x hx => (List.pairwise_append.1 hp).2.2 x hx i (List.mem_cons_self ..)
      have hl1u : ∀ x ∈ l1, listed.getD x true = false := fun x hx => (mem_un.1 (show x ∈ un n listed by rw [hsp]; exact List.mem_append_left _ hx)).2
      rw [hsp, List.filterMap_append, List.filterMap_cons, hoi] at hq
      obtain ⟨v, hy, hr⟩ := first_up' hselo (hops i oi hoi) _ _ a (fun o ho => by
        obtain ⟨x, _, hx⟩ := List.mem_filterMap.1 ho
        exact hops x o hx) (fun o ho => by
        obtain ⟨x, hx, hxo⟩ := List.mem_filterMap.1 ho
        have h1 := hap i hin x (hl1 x hx)
        simp only [Bool.or_eq_true] at h1
        rcases h1 with h1 | h1
        · exfalso
          obtain ⟨o', ho', e, he, hb, hon⟩ := waits_iff h1
          rw [hoi] at ho'
          cases ho'
          have := hall e he hb
          rw [hon, ← getD_tf (by have := hl1 x hx; omega), hl1u x hx] at this
          cases this
        · rw [hxo, hoi] at h1
          exact h1) hq
      have hun := un_set (n := n) (listed := listed) (i := i) (by omega) hsp
      refine wpOp_of_qOp hC (fun a' w' hC' h' => ih (listed.setIfInBounds i true) a' w' hC' ?_ (by simpa using hls) ?_ ?_ h') (hy.qOp hoi ?_)
      · rw [hun]
        rw [hsp] at hl
        simp at hl ⊢
        omega
      · rw [getD_set_ne true (by omega)]; exact hn
      · intro j o ho hj e he hb
        by_cases ej : j = i
        · subst ej
          rw [hoi] at ho
          cases ho
          exact getD_set_true (hall e he hb)
        · rw [getD_set_ne false (Ne.symm ej)] at hj
          exact getD_set_true (hcl j o ho hj e he hb)
      · rw [hun, List.filterMap_append]; exact hr
end
theorem fm_take (l : List Oper) : ∀ n, (List.range n).filterMap (fun i => l.toArray[i]?) = l.take n
  | 0 => by simp
  | n + 1 => by
    rw [List.range_succ, List.filterMap_append, fm_take l n, List.take_add_one]
    congr 1
    cases h : l[n]? <;> simp [h]
/-- the whole statement -/
theorem region_last {P : Program} {id : Nat} {Q : Exit → Act → World → Prop} {a : Act} {w : World} {l : List Oper} (n : Nat) (hm : P.follows .mixedOrders = true) (hB : lastB l.toArray n = true)
    (h : wpQuiet P l.toArray (fun w' => ∃ n, w' = w.drewN n) (fun a' => ∀ w', (∃ n, w' = w.drewN n) → wpList P l.toArray Q (l.drop n) a' w') (l.take n) a) : (Code.region id l.toArray true).wp P Q a w := by
  have hsz : l.length = n + 1 := by
    have := hB
    unfold lastB at this
    simp only [Bool.and_eq_true, decide_eq_true_eq] at this
    simpa using this.1.1.1.2
  obtain ⟨o, ho⟩ : ∃ o, l[n]? = some o := ⟨l[n]'(by omega), by simp [hsz]⟩
  have hdrop : l.drop n = [o] := by
    rw [List.drop_eq_getElem_cons (by omega)]
    rw [List.getElem?_eq_getElem (by omega)] at ho
    rw [Option.some.inj ho, List.drop_eq_nil_of_le (by omega)]
  have hU : un n (Array.replicate (n + 1) false) = List.range n := by
    unfold un
    rw [List.filter_eq_self]
    intro i hi
    have := List.mem_range.1 hi
    simp [show i < n + 1 by omega]
  have hF : (List.range n).filterMap (fun i => l.toArray[i]?) = l.take n := fm_take l n
  refine wp_region_any hm ?_
  have hs : l.toArray.size = n + 1 := by simpa using hsz
  rw [hs]
  refine any_last (C := fun w' => ∃ n, w' = w.drewN n) hB n _ a _ ⟨1, rfl⟩ ?_ (by simp) (by simp) (fun j o _ hj => ?_) ?_
  · rw [hU]; simp
  · exfalso
    rcases Nat.lt_or_ge j (n + 1) with q | q
    · simp [q] at hj
    · simp [q] at hj
  · rw [hU, hF]
    have e : (fun a' => ∀ w', (∃ n, w' = w.drewN n) → wpList P l.toArray Q (l.drop n) a' w') = fun a' => ∀ w', (∃ n, w' = w.drewN n) → wpOp P l.toArray Q n (fun a w => Q .normal a w) a' w' := by
      funext a'
      rw [hdrop]
      refine propext ⟨fun hh w' hw' => ?_, fun hh w' hw' => ?_⟩
      · have := hh w' hw'
        unfold wpOp
        simp only [List.getElem?_toArray, ho]
        exact this
      · have := hh w' hw'
        unfold wpOp at this
        simp only [List.getElem?_toArray, ho] at this
        exact this
    rw [e] at h
    exact h
end Go.Proofs.YtdbanimlnjhhlaaDoor
