/- ScrubMends: the state between its loops, and what keeps it. -/
import Derived.Test.YtilfjahbdlepjaaGreatDoorSc
import Derived.Test.YtilfjahbdlepjaaGreatDoorAr
import Derived.Test.YtilfjahbdlepjaaGreatDoorPa
import Derived.Test.YtilfjahbdlepjaaGreatDoorGe
namespace Go.Proofs.YtilfjahbdlepjaaGreatDoor
open Go.RowKit El Pol Mx Lay
theorem nl_write (A : Arr) (b : Int) (t : List El) (r : Nat) : (A.write b t).nl r = A.nl r := by
  unfold Arr.write
  split <;> rfl
theorem same_w (A : Arr) (b : Int) (t : List El) : (A.write b t).n = A.n ∧ (A.write b t).rows = A.rows ∧ (A.write b t).size = A.size := by
  unfold Arr.write
  split <;> exact ⟨rfl, rfl, rfl⟩
/-- the array keeps the blocks c, and nothing of it is lost -/
structure MK (w : World) (x : PAd) (n rows : Nat) (A : Arr) (c : Nat → List El) (N : Nat) (wr : World) : Prop where
  al : AL w x A N wr
  keep : Keep A c
  hn : A.n = n
  hr : A.rows = rows
  hs : A.size = 2
  nl : ∀ r, r < rows → A.nl r = 0
section
variable {w wr w1 : World} {x : PAd} {n rows : Nat} {A : Arr} {c : Nat → List El} {N : Nat}
theorem MK.old (h : MK w x n rows A c N wr) (hb : Below wr.heap.size wr w1) : MK w x n rows A c N w1 := ⟨h.al.old hb, h.keep, h.hn, h.hr, h.hs, h.nl⟩
theorem MK.noB (h : MK w x n rows A c N wr) {b : Nat} (hb : b < rows * (n - 2)) : ¬ A.noB (b : Int) := by
  unfold Arr.noB
  rw [h.hn, h.hr]
  omega
theorem MK.write (h : MK w x n rows A c N wr) (hN : N < 900000) (b : Nat) (hb : b < rows * (n - 2)) (h160 : rows * (n - 2) ≤ 160) (t : List El) (ht : t.length = 2) :
    Calls Tryz.prog 11 #[.pointer (some ⟨x.p, 0, none⟩), .int .i64 b, st t] wr fun e w1 => e = .returned .nilIface ∧ MK w x n rows (A.write (b : Int) t) (up c b t) (N + 3) w1 := by
  have := pa_write h.al.pa h.keep.ok hN (b : Int) (by omega) t
  rw [h.keep.writeE (h.noB hb) (by rw [h.hs]; exact ht), errV, if_pos rfl] at this
  obtain ⟨s1, s2, s3⟩ := same_w A (b : Int) t
  refine this.mono fun e w1 ⟨he, hp, hbb⟩ => ⟨he, h.al.next hp hbb s1, ?_, s1.trans h.hn, s2.trans h.hr, s3.trans h.hs, fun r hr => by rw [nl_write]; exact h.nl r hr⟩
  have := h.keep.write (h.noB hb) (x := t) (by rw [h.hs]; exact ht)
  rw [Int.toNat_natCast] at this
  exact this
theorem MK.read (h : MK w x n rows A c N wr) (b : Nat) (hb : b < rows * (n - 2)) (h160 : rows * (n - 2) ≤ 160) :
    Calls Tryz.prog 21 #[.pointer (some ⟨x.p, 0, none⟩), .int .i64 b] wr fun e w1 => e = .returned (.tuple #[st (c b), .nilIface]) ∧ Below wr.heap.size wr w1 := by
  have := pa_read h.al.pa h.keep.ok (b : Int) (by omega)
  obtain ⟨e1, e2⟩ := h.keep.read (h.noB hb)
  rw [e1, e2, errV, if_pos rfl, Int.toNat_natCast] at this
  exact this
end
/-- the blocks c stand at g -/
structure MG (w : World) (x : PAd) (n g m : Nat) (c : Nat → List El) (wr : World) : Prop where
  row : RowAt wr g m (fun i => st (c i))
  ng : ¬ x.F n g
  hg : w.heap.size ≤ g
theorem MG.old {w wr w1 : World} {x : PAd} {n g m : Nat} {c : Nat → List El} (h : MG w x n g m c wr) (hb : Below wr.heap.size wr w1) : MG w x n g m c w1 := ⟨h.row.old hb, h.ng, h.hg⟩
theorem MG.but {w wr w1 : World} {x : PAd} {n g m : Nat} {c : Nat → List El} (h : MG w x n g m c wr) (hb : But (x.F n) wr w1) : MG w x n g m c w1 := ⟨h.row.but hb h.ng, h.ng, h.hg⟩
/-- rows behind the k-th are as they are to be -/
structure MH (w : World) (x : PAd) (n rows g m B : Nat) (c : Nat → List El) (A : Arr) (D : Nat → Nat) (T : Nat → List El) (k N : Nat) (v : Value) (wr : World) : Prop where
  al : AL w x A N wr
  hurt : Hurt A c D T
  hn : A.n = n
  hr : A.rows = rows
  hs : A.size = 2
  late : ∀ r, k ≤ r → r < rows → T r = rt A c r (D r)
  mg : MG w x n g m c wr
  own : OwS B wr v (wrongs A c D T k)
  xB : ∀ i, x.F n i → i < B
  gB : g < B
  wB : w.heap.size ≤ B
  Bw : B ≤ wr.heap.size
theorem wrongs_up {A A' : Arr} {c : Nat → List El} {D : Nat → Nat} {T : Nat → List El} (h1 : A'.n = A.n) (h2 : A'.size = A.size) (k d : Nat) (t : List El) : ∀ j, j ≤ k → wrongs A' c (up D k d) (up T k t) j = wrongs A c D T j
  | 0, _ => rfl
  | j + 1, h => by
    unfold wrongs
    rw [wrongs_up h1 h2 k d t j (by omega), up_ne _ _ (by omega), up_ne _ _ (by omega), rt_same h1 h2]
theorem wrongs_len (A : Arr) (c : Nat → List El) (D : Nat → Nat) (T : Nat → List El) : ∀ k, (wrongs A c D T k).length ≤ k
  | 0 => Nat.le_refl _
  | k + 1 => by
    have := wrongs_len A c D T k
    unfold wrongs
    rw [List.length_append]
    split
    · simp; omega
    · simp; omega
theorem wrongs_on {A : Arr} {c : Nat → List El} {D : Nat → Nat} {T : Nat → List El} {k : Nat} (h : T k = rt A c k (D k)) : wrongs A c D T (k + 1) = wrongs A c D T k := by
  show wrongs A c D T k ++ _ = _
  rw [if_pos h, List.append_nil]
theorem wrongs_late {A : Arr} {c : Nat → List El} {D : Nat → Nat} {T : Nat → List El} {k : Nat} : ∀ m, (∀ r, k ≤ r → r < k + m → T r = rt A c r (D r)) → wrongs A c D T (k + m) = wrongs A c D T k
  | 0, _ => rfl
  | m + 1, h => by
    rw [show k + (m + 1) = (k + m) + 1 by omega, wrongs_on (h (k + m) (by omega) (by omega))]
    exact wrongs_late m (fun r h1 h2 => h r h1 (by omega))
section
variable {w wr w1 : World} {x : PAd} {n rows g m B : Nat} {A : Arr} {c : Nat → List El} {D : Nat → Nat} {T : Nat → List El} {k N : Nat} {v : Value}
theorem MH.old (h : MH w x n rows g m B c A D T k N v wr) (hb : Below wr.heap.size wr w1) : MH w x n rows g m B c A D T k N v w1 :=
  ⟨h.al.old hb, h.hurt, h.hn, h.hr, h.hs, h.late, h.mg.old hb, h.own.old hb, h.xB, h.gB, h.wB, Nat.le_trans h.Bw hb.size⟩
theorem MH.start (h : MK w x n rows A c N wr) (hg : MG w x n g m c wr) (hgw : g < wr.heap.size) : MH w x n rows g m wr.heap.size c A (fun _ => 0) (fun r => rt A c r 0) 0 N (.slice none 0 0) wr :=
  ⟨h.al, h.keep.hurt (fun r hr => h.nl r (by rw [← h.hr]; exact hr)), h.hn, h.hr, h.hs, fun _ _ _ => rfl, hg, OwS.nil _ _, fun i hi => h.al.pa.lt i (by rw [h.hn]; exact hi), hgw, h.al.low.size, Nat.le_refl _⟩
theorem MH.skip (h : MH w x n rows g m B c A D T k N v wr) (hk : k < rows) : MH w x n rows g m B c A D T (k + 1) N v wr :=
  ⟨h.al, h.hurt, h.hn, h.hr, h.hs, fun r h1 h2 => h.late r (by omega) h2, h.mg, by rw [wrongs_on (h.late k (Nat.le_refl _) hk)]; exact h.own, h.xB, h.gB, h.wB, h.Bw⟩
theorem MH.cell (h : MH w x n rows g m B c A D T k N v wr) (hk : k < rows) {d : Nat} (hd : d < n) : A.cell d k = rt A c k d := by
  have hb := h.hurt.2 k (by rw [h.hr]; exact hk)
  by_cases q : d = D k
  · rw [q, hb.me, h.late k (Nat.le_refl _) hk]
  · exact hb.oth d (by rw [h.hn]; exact hd) q
theorem MH.part (h : MH w x n rows g m B c A D T k N v wr) (hk : k < rows) {d : Nat} (hd : d < n) : A.part k (pos n k d) = rt A c k d := by
  have hb := h.hurt.2 k (by rw [h.hr]; exact hk)
  have h3 := h.hurt.1.1
  have hlo : A.lo k (pos n k d) = false := hb.all _ (ord_lt h3.1)
  unfold Arr.part
  rw [hlo, if_neg Bool.false_ne_true, h.hn, ord_pos (by rw [← h.hn]; exact h3.1) (by rw [← h.hn]; exact h3.2) hd]
  exact h.cell hk hd
/-- a disk is poked -/
theorem MH.poke (h : MH w x n rows g m B c A D T k N v wr) (hN : N < 900000) (hk : k < rows) {d : Nat} (hd : d < n) {t : List El} (ht : t.length = 2) :
    Calls Tryz.prog 19 #[.pointer (some ⟨x.p, 0, none⟩), .int .i64 d, .int .i64 k, st t] wr fun e w1 => e = .returned .nilIface ∧
      (t = rt A c k d → MH w x n rows g m B c (A.poke (d : Int) (k : Int) t) (up D k d) (up T k t) (k + 1) (N + 1) v w1) ∧
      (t ≠ rt A c k d → ∀ v' w2, (w2.ownsRow B 60 2 v' ((wrongs A c D T k).length + 1) ((wrongs A c D T k).flatMap spv ++ spv (d, k))) → (w1.alloc (.cells #[.int .i64 (d : Int), .int .i64 (k : Int)] 60)).grownBy w2 v.ownBlock → MH w x n rows g m B c (A.poke (d : Int) (k : Int) t) (up D k d) (up T k t) (k + 1) (N + 1) v' w2) ∧
      (w1.ownsRow B 60 2 v (wrongs A c D T k).length ((wrongs A c D T k).flatMap spv)) ∧ B ≤ w1.heap.size ∧ Below w.heap.size w w1 := by
  have hk' : k < A.rows := by rw [h.hr]; exact hk
  have hd' : d < A.n := by rw [h.hn]; exact hd
  have ht' : t.length = A.size := by rw [h.hs]; exact ht
  obtain ⟨e1, e2⟩ := h.hurt.poke hk' hd' (h.late k (Nat.le_refl _) hk) ht'
  have := pa_poke h.al.pa h.hurt.1 hN (d : Int) (k : Int) t
  rw [e1, errV, if_pos rfl] at this
  obtain ⟨s1, s2, s3, _, _⟩ := Arr.poke_same A (d : Int) (k : Int) t
  refine this.mono fun e w1 ⟨he, hp, hb⟩ => ?_
  have hb' : But (x.F n) wr w1 := by rw [← h.hn]; exact hb
  have hal := h.al.next hp hb s1
  have hown : OwS B w1 v (wrongs A c D T k) := h.own.but hb' (fun i hi q => by have := h.xB i q; omega)
  have hBw : B ≤ w1.heap.size := Nat.le_trans h.Bw hb.size
  have hlate : ∀ r, k + 1 ≤ r → r < rows → up T k t r = rt (A.poke (d : Int) (k : Int) t) c r (up D k d r) := fun r h1 h2 => by
    rw [up_ne _ _ (by omega), up_ne _ _ (by omega), rt_same s1 s3]
    exact h.late r (by omega) h2
  have hw : wrongs (A.poke (d : Int) (k : Int) t) c (up D k d) (up T k t) (k + 1) = wrongs A c D T k ++ if t = rt A c k d then [] else [(d, k)] := by
    show wrongs _ _ _ _ k ++ _ = _
    rw [wrongs_up s1 s3 k d t k (Nat.le_refl _), up_at, up_at, rt_same s1 s3]
  refine ⟨he, fun q => ⟨hal, e2, s1.trans h.hn, s2.trans h.hr, s3.trans h.hs, hlate, h.mg.but hb', ?_, h.xB, h.gB, h.wB, hBw⟩, fun q v' w2 ho hgr => ?_, hown, hBw, hal.low⟩
  · rw [hw, if_pos q, List.append_nil]
    exact hown
  · have hal2 := hal.old (al_below w1 (.cells #[.int .i64 (d : Int), .int .i64 (k : Int)] 60))
    have hlow : ∀ i, v.ownBlock = some i → B ≤ i := fun i hi => (hown.lt i hi).1
    have hbg : But (fun i => v.ownBlock = some i) (w1.alloc (.cells #[.int .i64 (d : Int), .int .i64 (k : Int)] 60)) w2 := But.grown hgr (fun i hi => hi)
    refine ⟨hal2.grown hgr (fun i hi => ⟨by have := hlow i hi; have := h.wB; omega, fun q => ?_⟩), e2, s1.trans h.hn, s2.trans h.hr, s3.trans h.hs, hlate, ?_, ?_, h.xB, h.gB, h.wB, Nat.le_trans hBw (Nat.le_trans (al_below w1 _).size hgr.size)⟩
    · rw [s1, h.hn] at q
      have := h.xB i q
      have := hlow i hi
      omega
    · have hm := (h.mg.but hb').old (al_below w1 (.cells #[.int .i64 (d : Int), .int .i64 (k : Int)] 60))
      exact ⟨hm.row.but hbg (fun q => by have := hlow _ q; have := h.gB; omega), hm.ng, hm.hg⟩
    · rw [hw, if_neg q]
      exact OwS.snoc ho
end
end Go.Proofs.YtilfjahbdlepjaaGreatDoor
