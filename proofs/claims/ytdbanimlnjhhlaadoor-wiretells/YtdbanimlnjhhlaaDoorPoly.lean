/- Polynomials over the field of 256 as lists of coefficients, that of x to the 0 first: sums, products, values, division with a rest, the one through points: each is the only one of its kind. -/
import Derived.Test.YtdbanimlnjhhlaaDoorElem
namespace Go.Proofs.YtdbanimlnjhhlaaDoor
namespace Pol
open El
def co (p : List El) (i : Nat) : El := p.getD i 0
def trim : List El → List El
  | [] => []
  | c :: p => if trim p = [] ∧ c = 0 then [] else c :: trim p
def add : List El → List El → List El
  | [], b => b
  | x :: a, [] => x :: a
  | x :: a, y :: b => pl x y :: add a b
def scale (c : El) (p : List El) : List El := p.map (ti c)
def mul : List El → List El → List El
  | [], _ => []
  | x :: a, b => add (scale x b) (0 :: mul a b)
def ev : List El → El → El
  | [], _ => 0
  | c :: p, x => pl c (ti x (ev p x))
/-- the sum of the first n -/
def sm : Nat → (Nat → El) → El
  | 0, _ => 0
  | n + 1, f => pl (sm n f) (f n)

theorem co_nil (i : Nat) : co [] i = 0 := by simp [co]
theorem co_zero (c : El) (p : List El) : co (c :: p) 0 = c := by simp [co]
theorem co_succ (c : El) (p : List El) (i : Nat) : co (c :: p) (i + 1) = co p i := by simp [co]
theorem co_beyond (p : List El) (i : Nat) (h : p.length ≤ i) : co p i = 0 := by simp [co, h]
theorem co_trim (p : List El) : ∀ i, co (trim p) i = co p i := by
  induction p with
  | nil => intro i; rfl
  | cons c p ih =>
    intro i
    by_cases h : trim p = [] ∧ c = 0
    · rw [show trim (c :: p) = [] from if_pos h, co_nil]
      cases i with
      | zero => rw [co_zero, h.2]
      | succ i => rw [co_succ, ← ih i, h.1, co_nil]
    · rw [show trim (c :: p) = c :: trim p from if_neg h]
      cases i with
      | zero => rw [co_zero, co_zero]
      | succ i => rw [co_succ, co_succ, ih]
theorem trim_nil_iff (p : List El) : trim p = [] ↔ ∀ i, co p i = 0 := by
  constructor
  · intro h i; rw [← co_trim, h, co_nil]
  · induction p with
    | nil => intro _; rfl
    | cons c p ih =>
      intro h
      have h0 := h 0
      rw [co_zero] at h0
      have hp := ih (fun i => by have := h (i + 1); rwa [co_succ] at this)
      exact if_pos ⟨hp, h0⟩
theorem trim_ext : ∀ a b : List El, (∀ i, co a i = co b i) → trim a = trim b
  | [], b, h => ((trim_nil_iff b).2 (fun i => by rw [← h i, co_nil])).symm
  | x :: a, [], h => (trim_nil_iff (x :: a)).2 (fun i => by rw [h i, co_nil])
  | x :: a, y :: b, h => by
    have h0 := h 0
    rw [co_zero, co_zero] at h0
    have ht := trim_ext a b (fun i => by have := h (i + 1); rwa [co_succ, co_succ] at this)
    simp only [trim, ht, h0]
theorem trim_trim (p : List El) : trim (trim p) = trim p := trim_ext _ _ (co_trim p)
theorem trim_length_le (p : List El) : (trim p).length ≤ p.length := by
  induction p with
  | nil => exact Nat.le_refl _
  | cons c p ih =>
    by_cases h : trim p = [] ∧ c = 0
    · rw [show trim (c :: p) = [] from if_pos h]; simp
    · rw [show trim (c :: p) = c :: trim p from if_neg h]; simpa using ih
theorem trim_top (p : List El) (h : trim p ≠ []) : co p ((trim p).length - 1) ≠ 0 := by
  induction p with
  | nil => exact absurd rfl h
  | cons c p ih =>
    by_cases hc : trim p = [] ∧ c = 0
    · exact absurd (if_pos hc) h
    · rw [show trim (c :: p) = c :: trim p from if_neg hc]
      by_cases hp : trim p = []
      · rw [hp]
        intro e
        exact hc ⟨hp, by rwa [List.length_singleton, Nat.sub_self, co_zero] at e⟩
      · have hl : 0 < (trim p).length := List.length_pos_iff.2 hp
        rw [List.length_cons, Nat.add_sub_cancel, show (trim p).length = (trim p).length - 1 + 1 by omega, co_succ]
        exact ih hp
theorem trim_length_iff (p : List El) (n : Nat) : (trim p).length ≤ n ↔ ∀ i, n ≤ i → co p i = 0 := by
  constructor
  · intro h i hi; rw [← co_trim]; exact co_beyond _ _ (by omega)
  · intro h
    by_cases e : trim p = []
    · simp [e]
    · have ht := trim_top p e
      have hl : 0 < (trim p).length := List.length_pos_iff.2 e
      rcases Nat.lt_or_ge n (trim p).length with k | k
      · exact absurd (h _ (by omega)) ht
      · exact k

theorem sm_congr (n : Nat) {f g : Nat → El} (h : ∀ i, i < n → f i = g i) : sm n f = sm n g := by
  induction n with
  | zero => rfl
  | succ n ih => rw [sm, sm, ih (fun i hi => h i (by omega)), h n (by omega)]
theorem sm_zero (n : Nat) {f : Nat → El} (h : ∀ i, i < n → f i = 0) : sm n f = 0 := by
  induction n with
  | zero => rfl
  | succ n ih => rw [sm, ih (fun i hi => h i (by omega)), h n (by omega), pl_zero]
theorem sm_pl (n : Nat) (f g : Nat → El) : sm n (fun i => pl (f i) (g i)) = pl (sm n f) (sm n g) := by
  induction n with
  | zero => exact (pl_self 0).symm
  | succ n ih => rw [sm, sm, sm, ih, pl_swap]
theorem sm_ti (n : Nat) (c : El) (f : Nat → El) : sm n (fun i => ti c (f i)) = ti c (sm n f) := by
  induction n with
  | zero => exact (ti_zero c).symm
  | succ n ih => rw [sm, sm, ih, ti_pl]
theorem sm_front (n : Nat) (f : Nat → El) : sm (n + 1) f = pl (f 0) (sm n (fun i => f (i + 1))) := by
  induction n with
  | zero => rw [sm, sm, sm, zero_pl, pl_zero]
  | succ n ih => rw [sm, ih, sm, pl_assoc]
theorem sm_one (n j : Nat) (hj : j < n) {f : Nat → El} (h : ∀ i, i < n → i ≠ j → f i = 0) : sm n f = f j := by
  induction n with
  | zero => omega
  | succ n ih =>
    by_cases e : j = n
    · subst e; rw [sm, sm_zero j (fun i hi => h i (by omega) (by omega)), zero_pl]
    · rw [sm, ih (by omega) (fun i hi hne => h i (by omega) hne), h n (by omega) (fun q => e q.symm), pl_zero]

theorem co_add : ∀ (a b : List El) (i : Nat), co (add a b) i = pl (co a i) (co b i)
  | [], b, i => by rw [co_nil, zero_pl]; rfl
  | x :: a, [], i => by rw [co_nil, pl_zero]; rfl
  | x :: a, y :: b, 0 => by rw [co_zero, co_zero]; rfl
  | x :: a, y :: b, i + 1 => by rw [co_succ, co_succ]; exact co_add a b i
theorem co_scale (c : El) (p : List El) : ∀ i, co (scale c p) i = ti c (co p i) := by
  induction p with
  | nil => intro i; show co [] i = _; rw [co_nil, ti_zero]
  | cons x p ih =>
    intro i
    cases i with
    | zero => rw [co_zero]; rfl
    | succ i => rw [co_succ]; exact ih i
theorem co_mul (a b : List El) : ∀ n, co (mul a b) n = sm (n + 1) (fun i => ti (co a i) (co b (n - i))) := by
  induction a with
  | nil => intro n; rw [show mul [] b = [] from rfl, co_nil, sm_zero]; intro i _; rw [co_nil, zero_ti]
  | cons x a ih =>
    intro n
    rw [show mul (x :: a) b = add (scale x b) (0 :: mul a b) from rfl, co_add, co_scale, sm_front, co_zero]
    cases n with
    | zero => rw [co_zero]; rfl
    | succ n =>
      rw [co_succ, ih n]
      congr 1
      exact sm_congr _ (fun i hi => by rw [co_succ, show n + 1 - (i + 1) = n - i by omega])
/-- the sum the other way round -/
theorem sm_rev (n : Nat) : ∀ f : Nat → El, sm (n + 1) f = sm (n + 1) (fun i => f (n - i)) := by
  induction n with
  | zero => intro f; rfl
  | succ n ih =>
    intro f
    rw [sm_front (n + 1) (fun i => f (n + 1 - i)), sm, pl_comm, ih f]
    congr 1
    exact sm_congr _ (fun i hi => by rw [show n + 1 - (i + 1) = n - i by omega])
theorem mul_comm_co (a b : List El) (n : Nat) : co (mul a b) n = co (mul b a) n := by
  rw [co_mul, co_mul, sm_rev]
  exact sm_congr _ (fun i hi => by rw [show n - (n - i) = i by omega, ti_comm])

theorem ev_zero (p : List El) (h : ∀ i, co p i = 0) (x : El) : ev p x = 0 := by
  induction p with
  | nil => rfl
  | cons c p ih =>
    have h0 := h 0
    rw [co_zero] at h0
    rw [ev, h0, ih (fun i => by have := h (i + 1); rwa [co_succ] at this), ti_zero, pl_zero]
theorem ev_add : ∀ (a b : List El) (x : El), ev (add a b) x = pl (ev a x) (ev b x)
  | [], b, x => (zero_pl _).symm
  | y :: a, [], x => (pl_zero _).symm
  | y :: a, z :: b, x => by
    show pl (pl y z) (ti x (ev (add a b) x)) = _
    rw [ev_add a b x, ti_pl, pl_swap]; rfl
theorem ev_scale (c : El) (p : List El) (x : El) : ev (scale c p) x = ti c (ev p x) := by
  induction p with
  | nil => exact (ti_zero c).symm
  | cons y p ih =>
    show pl (ti c y) (ti x (ev (scale c p) x)) = ti c (pl y (ti x (ev p x)))
    rw [ih, ti_pl, ti_left_comm]
theorem ev_mul (a b : List El) (x : El) : ev (mul a b) x = ti (ev a x) (ev b x) := by
  induction a with
  | nil => exact (zero_ti _).symm
  | cons y a ih =>
    show ev (add (scale y b) (0 :: mul a b)) x = ti (pl y (ti x (ev a x))) (ev b x)
    rw [ev_add, ev_scale, ev, ih, zero_pl, pl_ti, ti_assoc]
theorem ev_ext (a b : List El) (h : ∀ i, co a i = co b i) (x : El) : ev a x = ev b x := by
  have : ev (add a b) x = 0 := ev_zero _ (fun i => by rw [co_add, h i, pl_self]) x
  rw [ev_add] at this
  exact pl_eq_zero this
theorem ev_trim (p : List El) (x : El) : ev (trim p) x = ev p x := ev_ext _ _ (co_trim p) x
theorem ev_sum (p : List El) (x : El) : ev p x = sm p.length (fun i => ti (co p i) (pw x i)) := by
  induction p with
  | nil => rfl
  | cons c p ih =>
    rw [List.length_cons, sm_front, co_zero, show pw x 0 = 1 from rfl, ti_one, ev, ih, ← sm_ti]
    congr 1
    exact sm_congr _ (fun i _ => by rw [co_succ, ti_left_comm]; rfl)

theorem co_mul_top (a b : List El) (n m : Nat) (ha : ∀ i, n < i → co a i = 0) (hb : ∀ i, m < i → co b i = 0) : co (mul a b) (n + m) = ti (co a n) (co b m) := by
  rw [co_mul, sm_one _ n (by omega)]
  · rw [show n + m - n = m by omega]
  · intro i hi hne
    rcases Nat.lt_or_ge n i with k | k
    · rw [ha i k, zero_ti]
    · rw [hb (n + m - i) (by omega), ti_zero]
theorem co_mul_beyond (a b : List El) (n m : Nat) (ha : ∀ i, n < i → co a i = 0) (hb : ∀ i, m < i → co b i = 0) (k : Nat) (hk : n + m < k) : co (mul a b) k = 0 := by
  rw [co_mul]
  refine sm_zero _ (fun i hi => ?_)
  rcases Nat.lt_or_ge n i with q | q
  · rw [ha i q, zero_ti]
  · rw [hb (k - i) (by omega), ti_zero]
/-- a product of two that are not 0 is as long as both, less one -/
theorem mul_length (a b : List El) (ha : trim a ≠ []) (hb : trim b ≠ []) : (trim (mul a b)).length = (trim a).length + (trim b).length - 1 := by
  have la : 0 < (trim a).length := List.length_pos_iff.2 ha
  have lb : 0 < (trim b).length := List.length_pos_iff.2 hb
  have za := (trim_length_iff a (trim a).length).1 (Nat.le_refl _)
  have zb := (trim_length_iff b (trim b).length).1 (Nat.le_refl _)
  have top := co_mul_top a b ((trim a).length - 1) ((trim b).length - 1) (fun i hi => za i (by omega)) (fun i hi => zb i (by omega))
  have ne : co (mul a b) ((trim a).length - 1 + ((trim b).length - 1)) ≠ 0 := by
    rw [top]; exact ti_ne_zero (trim_top a ha) (trim_top b hb)
  apply Nat.le_antisymm
  · exact (trim_length_iff _ _).2 (fun i hi => co_mul_beyond a b ((trim a).length - 1) ((trim b).length - 1) (fun i hi => za i (by omega)) (fun i hi => zb i (by omega)) i (by omega))
  · rcases Nat.lt_or_ge (trim (mul a b)).length ((trim a).length + (trim b).length - 1) with k | k
    · exact absurd ((trim_length_iff (mul a b) (trim (mul a b)).length).1 (Nat.le_refl _) _ (by omega)) ne
    · exact k
theorem mul_zero_left (a b : List El) (h : ∀ i, co a i = 0) (n : Nat) : co (mul a b) n = 0 := by
  rw [co_mul]; exact sm_zero _ (fun i _ => by rw [h i, zero_ti])
theorem co_mul_add (a a' b : List El) (n : Nat) : co (mul (add a a') b) n = pl (co (mul a b) n) (co (mul a' b) n) := by
  rw [co_mul, co_mul, co_mul, ← sm_pl]
  exact sm_congr _ (fun i _ => by rw [co_add, pl_ti])
/-- how often, and the rest: there is one answer -/
theorem div_unique (b q q' r r' : List El) (hr : (trim r).length < (trim b).length) (hr' : (trim r').length < (trim b).length)
    (h : ∀ i, pl (co (mul q b) i) (co r i) = pl (co (mul q' b) i) (co r' i)) : trim q = trim q' ∧ trim r = trim r' := by
  have hb : trim b ≠ [] := by intro e; rw [e] at hr; simp at hr
  have hs : ∀ i, co (mul (add q q') b) i = co (add r r') i := by
    intro i
    rw [co_mul_add, co_add]
    have := h i
    have e : pl (pl (co (mul q b) i) (co r i)) (pl (co (mul q' b) i) (co r' i)) = 0 := by rw [this, pl_self]
    rw [pl_swap] at e
    exact pl_eq_zero e
  have hq : ∀ i, co (add q q') i = 0 := by
    rw [← trim_nil_iff]
    by_cases e : trim (add q q') = []
    · exact e
    · exfalso
      have l1 := mul_length (add q q') b e hb
      rw [trim_ext _ _ hs] at l1
      have lq : 0 < (trim (add q q')).length := List.length_pos_iff.2 e
      have l2 : (trim (add r r')).length ≤ (trim b).length - 1 := (trim_length_iff _ _).2 (fun i hi => by
        rw [co_add, (trim_length_iff r ((trim b).length - 1)).1 (by omega) i hi, (trim_length_iff r' ((trim b).length - 1)).1 (by omega) i hi, pl_self])
      omega
  refine ⟨trim_ext _ _ (fun i => pl_eq_zero (by rw [← co_add]; exact hq i)), trim_ext _ _ (fun i => pl_eq_zero ?_)⟩
  rw [← co_add, ← hs i]
  exact mul_zero_left _ _ hq i

/-- what is left of p when x less c is taken out -/
def qt (c : El) : List El → List El
  | [] => []
  | _ :: p => ev p c :: qt c p
theorem ev_qt (c : El) (p : List El) (x : El) : ev p x = pl (ti (pl x c) (ev (qt c p) x)) (ev p c) := by
  induction p with
  | nil => show (0 : El) = pl (ti (pl x c) 0) 0; rw [ti_zero, pl_zero]
  | cons y p ih =>
    show pl y (ti x (ev p x)) = pl (ti (pl x c) (pl (ev p c) (ti x (ev (qt c p) x)))) (pl y (ti c (ev p c)))
    have e : ti (pl x c) (pl (ev p c) (ti x (ev (qt c p) x))) = pl (ti x (ev p x)) (ti c (ev p c)) := by
      rw [ti_pl, ti_left_comm, ih, ti_pl, pl_ti, pl_assoc, pl_assoc, pl_comm (ti c (ev p c)), pl_comm (ti x _), pl_assoc]
      rw [pl_comm (ti c (ev p c)) (ti x (ev p c))]
    rw [e, pl_comm y, pl_comm y, pl_assoc, ← pl_assoc (ti c (ev p c)), pl_self, zero_pl]
theorem co_qt_zero (c : El) (p : List El) : co p 0 = pl (ti c (co (qt c p) 0)) (ev p c) := by
  cases p with
  | nil => show co [] 0 = pl (ti c (co [] 0)) 0; rw [co_nil, ti_zero, pl_zero]
  | cons y p => rw [co_zero, qt, co_zero, ev, pl_comm y, ← pl_assoc, pl_self, zero_pl]
theorem co_qt (c : El) (p : List El) : ∀ i, co p (i + 1) = pl (co (qt c p) i) (ti c (co (qt c p) (i + 1))) := by
  induction p with
  | nil => intro i; rw [show qt c [] = [] from rfl, co_nil, co_nil, ti_zero, pl_zero]
  | cons y p ih =>
    intro i
    rw [co_succ, qt, co_succ]
    cases i with
    | zero => rw [co_zero, co_qt_zero c p, pl_comm]
    | succ i => rw [co_succ]; exact ih i
theorem qt_beyond (c : El) (p : List El) (n : Nat) (h : ∀ i, n + 1 ≤ i → co p i = 0) : ∀ i, n ≤ i → co (qt c p) i = 0 := by
  have key : ∀ (p : List El) (n : Nat), (∀ i, n + 1 ≤ i → co p i = 0) → ∀ i, n ≤ i → co (qt c p) i = 0 := by
    intro p
    induction p with
    | nil => intro n _ i _; exact co_nil i
    | cons y p ih =>
      intro n h i hi
      cases n with
      | zero =>
        have hz : ∀ j, co p j = 0 := fun j => by have := h (j + 1) (by omega); rwa [co_succ] at this
        cases i with
        | zero => rw [qt, co_zero, ev_zero p hz]
        | succ i => rw [qt, co_succ]; exact ih 0 (fun j _ => hz j) i (by omega)
      | succ n =>
        obtain ⟨i, rfl⟩ : ∃ k, i = k + 1 := ⟨i - 1, by omega⟩
        rw [qt, co_succ]
        exact ih n (fun j hj => by have := h (j + 1) (by omega); rwa [co_succ] at this) i (by omega)
  exact key p n h
/-- one that is no longer than there are places where it is 0, each another one, is 0 -/
theorem zero_of_roots : ∀ (xs : List El) (p : List El), xs.Nodup → (∀ i, xs.length ≤ i → co p i = 0) → (∀ x ∈ xs, ev p x = 0) → ∀ i, co p i = 0 := by
  intro xs
  induction xs with
  | nil => intro p _ h _ i; exact h i (Nat.zero_le _)
  | cons c xs ih =>
    intro p hn hl hz
    have hc := hz c (List.mem_cons_self ..)
    obtain ⟨hc1, hn1⟩ := List.nodup_cons.1 hn
    have hq := ih (qt c p) hn1 (qt_beyond c p xs.length (fun i hi => hl i (by simpa using hi))) (fun x hx => by
      have e := ev_qt c p x
      rw [hz x (List.mem_cons_of_mem _ hx), hc, pl_zero] at e
      rcases ti_eq_zero e.symm with k | k
      · exact absurd (pl_eq_zero k ▸ hx) hc1
      · exact k)
    intro i
    cases i with
    | zero => rw [co_qt_zero c p, hq 0, hc, ti_zero, pl_zero]
    | succ i => rw [co_qt c p i, hq i, hq (i + 1), ti_zero, pl_zero]
/-- through so many points, each X another one, goes one that is no longer -/
theorem through_unique (xs : List El) (p q : List El) (hn : xs.Nodup) (hp : (trim p).length ≤ xs.length) (hq : (trim q).length ≤ xs.length)
    (h : ∀ x ∈ xs, ev p x = ev q x) : trim p = trim q := by
  refine trim_ext _ _ (fun i => pl_eq_zero ?_)
  rw [← co_add]
  refine zero_of_roots xs (add p q) hn (fun i hi => ?_) (fun x hx => ?_) i
  · rw [co_add, (trim_length_iff p xs.length).1 hp i hi, (trim_length_iff q xs.length).1 hq i hi, pl_self]
  · rw [ev_add, h x hx, pl_self]
/-- the product of x less each of l -/
def made : List El → List El
  | [] => [1]
  | c :: l => mul (made l) [c, 1]
theorem ev_made (l : List El) (x : El) : ev (made l) x = 0 ↔ x ∈ l := by
  have two : ∀ c : El, ev [c, 1] x = pl c x := fun c => by show pl c (ti x (pl 1 (ti x 0))) = _; rw [ti_zero, pl_zero, ti_one]
  induction l with
  | nil =>
    constructor
    · intro h
      have : ev (made []) x = 1 := by show pl 1 (ti x 0) = 1; rw [ti_zero, pl_zero]
      rw [this] at h
      exact absurd h (by decide)
    · intro h; cases h
  | cons c l ih =>
    rw [made, ev_mul, two, List.mem_cons]
    constructor
    · intro h
      rcases ti_eq_zero h with k | k
      · exact .inr (ih.1 k)
      · exact .inl (pl_eq_zero k).symm
    · intro h
      rcases h with k | k
      · rw [k, pl_self, ti_zero]
      · rw [ih.2 k, zero_ti]
end Pol
end Go.Proofs.YtdbanimlnjhhlaaDoor
