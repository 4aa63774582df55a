/- Those that wait, one by one: plain; lists of whole numbers of the call's own. -/
import Derived.Test.YtagindfgfamacaaDoorLkP
import Derived.Test.YtagindfgfamacaaDoorOwIs
namespace Go.Proofs.YtagindfgfamacaaDoor
open Go.RowKit
namespace Lks
theorem go_snoc : ∀ (l : List Lk) (t : Lks) (x : Lk), go t (l ++ [x]) = (go t l).add x
  | [], _, _ => rfl
  | y :: l, t, x => go_snoc l (t.add y) x
theorem goW_snoc : ∀ (l : List Lk) (t : Lks) (x : Lk), goW t (l ++ [x]) = goW t l ++ (if (go t l).free' x = true then [x.who] else [])
  | [], t, x => by
    (show (if t.free' x = true then [x.who] else []) ++ [] = [] ++ _)
    rw [List.append_nil, List.nil_append]
    rfl
  | y :: l, t, x => by
    (show (if t.free' y = true then [y.who] else []) ++ goW (t.add y) (l ++ [x]) = _)
    rw [goW_snoc l (t.add y) x, ← List.append_assoc]
    rfl
theorem take_next {l : List Lk} {k : Nat} (h : k < l.length) : l.take (k + 1) = l.take k ++ [lka l k] := by rw [lka_get l k h]; exact (List.take_append_getElem h).symm
theorem go_next (t : Lks) {l : List Lk} {k : Nat} (h : k < l.length) : go t (l.take (k + 1)) = (go t (l.take k)).add (lka l k) := by rw [take_next h, go_snoc]
theorem goW_next (t : Lks) {l : List Lk} {k : Nat} (h : k < l.length) : goW t (l.take (k + 1)) = goW t (l.take k) ++ (if (go t (l.take k)).free' (lka l k) = true then [(lka l k).who] else []) := by rw [take_next h, goW_snoc]
theorem goW_len : ∀ (l : List Lk) (t : Lks), (goW t l).length ≤ l.length
  | [], _ => Nat.le_refl _
  | x :: l, t => by
    (show ((if t.free' x = true then [x.who] else []) ++ goW (t.add x) l).length ≤ l.length + 1)
    have := goW_len l (t.add x)
    rw [List.length_append]
    split <;> simp <;> omega
end Lks
/-- whole numbers of the call's own; such that read so -/
def vz (l : List Int) : List Value := l.map vi
theorem vz_snoc (l : List Int) (z : Int) : vz (l ++ [z]) = vz l ++ [vi z] := by simp [vz]
abbrev OwZ (B : Nat) (w : World) (v : Value) (l : List Int) : Prop := w.ownsRow B 3 1 v l.length (vz l)
abbrev RdZ (w : World) (v : Value) (l : List Int) : Prop := RdF w v l.length (fun i => vi (l.getD i 0))
theorem OwZ.rd {B : Nat} {w : World} {v : Value} {l : List Int} (h : OwZ B w v l) : RdZ w v l := OwL.rdF h (fun i hi => by simp [vz, hi])
theorem OwZ.nil (B : Nat) (w : World) : OwZ B w (.slice none 0 0) [] := World.ownsRow_nil _ _ _ _
theorem OwZ.old {B : Nat} {w w' : World} {v : Value} {l : List Int} (h : OwZ B w v l) (hb : Below w.heap.size w w') : OwZ B w' v l := ownsRow_old h hb
theorem OwZ.but {F : Nat → Prop} {B : Nat} {w w' : World} {v : Value} {l : List Int} (h : OwZ B w v l) (hb : But F w w') (hn : ∀ k, v.ownBlock = some k → ¬ F k) : OwZ B w' v l := ownsRow_but h hb hn
theorem OwZ.len {B : Nat} {w : World} {v : Value} {l : List Int} (h : OwZ B w v l) : ∃ ao cap, v = .slice ao l.length cap := by
  rcases h.2 with ⟨rfl, e⟩ | ⟨g, cap, cur, rfl, _⟩
  · exact ⟨none, 0, by rw [e]⟩
  · exact ⟨_, cap, rfl⟩
theorem OwZ.type {B : Nat} {w : World} {v : Value} {l : List Int} {k : Nat} (h : OwZ B w v l) (hk : v.ownBlock = some k) : ∃ c r, w.heap[k]? = some (.cells c 3 r) := by
  rcases h.2 with ⟨rfl, _⟩ | ⟨g, cap, cur, rfl, _, hg, _⟩
  · cases hk
  · simp only [Value.ownBlock, Option.some.injEq] at hk
    subst hk
    exact ⟨_, _, hg⟩
/-- a list of numbers lies in none of the blocks of locks -/
theorem OwZ.apart {T : TypeId} {B B' : Nat} {w : World} {x : LP} {t : Lks} {v : Value} {l : List Int} (hz : OwZ B' w v l) (h : IsK T B w x t) (hT : T ≠ 3) : ∀ k, v.ownBlock = some k → ¬ x.F k := by
  rintro k hk (rfl | q | q)
  · exact lk_type_ne h.pt (hz.type hk) hT
  · exact lk_type_ne (OwLk.type h.hd q) (hz.type hk) (by decide)
  · exact lk_type_ne (OwLk.type h.wt q) (hz.type hk) (by decide)
/-- the lists are others, those that wait are none -/
theorem IsK.reset {T : TypeId} {B : Nat} {w w2 : World} {x : LP} {t : Lks} (h : IsK T B w x t) {uh : Value} {l : List Lk} (hb : But (fun k => x.vh.ownBlock = some k ∨ x.vw.ownBlock = some k) w w2) (hO : OwLk B w2 uh l) :
    IsK T B ((w2.setCell ⟨x.p, 0, none⟩ uh).setCell ⟨x.p, 1, none⟩ (.slice none 0 0)) ⟨x.p, uh, .slice none 0 0⟩ ⟨l, []⟩ ∧ But (· = x.p) w2 ((w2.setCell ⟨x.p, 0, none⟩ uh).setCell ⟨x.p, 1, none⟩ (.slice none 0 0)) := by
  have hr : w2.heap[x.p]? = some (.cells #[x.vh, x.vw] T (0, 0)) := (hb.block x.p h.plt (fun e => e.elim (fun q => h.hdp q rfl) (fun q => h.wtp q rfl))).trans h.row
  have hb2 : But (· = x.p) w2 ((w2.setCell ⟨x.p, 0, none⟩ uh).setCell ⟨x.p, 1, none⟩ (.slice none 0 0)) := ((But.refl (· = x.p) w2).setCell (p := ⟨x.p, 0, none⟩) rfl uh).setCell (p := ⟨x.p, 1, none⟩) rfl _
  have hpt : ∃ c r, w2.heap[x.p]? = some (.cells c T r) := ⟨_, _, hr⟩
  refine ⟨⟨?_, OwLk.but hO hb2 (fun k hk e => by subst e; exact lk_type_ne hpt (OwLk.type hO hk) h.ht), OwLk.nil _ _, fun _ _ e => (by cases e), h.hp, h.ht⟩, hb2⟩
  rw [heap_setCell_same _ _ _ _ _ _ (heap_setCell_same _ _ _ _ _ _ hr)]
  rfl
end Go.Proofs.YtagindfgfamacaaDoor
