/- A cell of a grow is written: a walk over the program. -/
import Derived.Test.YtdbanimlnjhhlaaDoorGrI
namespace Go.Proofs.YtdbanimlnjhhlaaDoor
open Go.RowKit El Pol
variable {B : Nat} {w : World} {x : GP} {g : Grw}
set_option maxRecDepth 100000 in
set_option maxHeartbeats 1000000 in
theorem gwrite_any (h : IsG B w x g) (ho : g.ok) (i : Int) (b : List El) :
    Calls Tryd.prog 15 #[.pointer (some ⟨x.p, 0, none⟩), .int .i64 i, st b] w fun e w' => e = .returned (errV (g.writeE i b)) ∧ IsG B w' x (g.write i b) ∧ But x.F w w' := by
  have C := giscell_any h i
  have HI : Hid (IsG B w x g) := h
  have hsz := sb_size b
  by_cases q : g.noC i
  · have e1 : g.writeE i b = 1 := if_pos (.inl q)
    have e2 : g.write i b = g := if_pos (.inl q)
    rw [decide_eq_false (fun z => z q)] at C
    rw [e1, e2, errV, if_neg (by omega)]
    clear h ho q e1 e2
    go_enter Tryd.func15, Tryd.ntmps15
    go_wp2_with fail
    refine C.mono ?_
    rintro e w1 ⟨rfl, hw⟩
    obtain rfl := hw.symm
    clear C hw
    go_wp2
    go_ret
    exact ⟨rfl, HI.out, But.refl _ _⟩
  · rw [decide_eq_true q] at C
    by_cases q2 : 16 < b.length
    · have e1 : g.writeE i b = 1 := if_pos (.inr q2)
      have e2 : g.write i b = g := if_pos (.inr q2)
      rw [e1, e2, errV, if_neg (by omega)]
      have hs : (16 : Int) < ((sb b).size : Int) := by omega
      clear h ho q e1 e2 q2
      unfold st
      generalize sb b = s at *
      go_enter Tryd.func15, Tryd.ntmps15
      go_wp2_with fail
      refine C.mono ?_
      rintro e w1 ⟨rfl, hw⟩
      obtain rfl := hw.symm
      clear C hw
      go_wp2
      go_ret
      exact ⟨rfl, HI.out, But.refl _ _⟩
    · obtain ⟨k, rfl, hk⟩ := Grw.nat_of q
      rw [Grw.writeE_nat hk (by omega), Grw.write_nat hk (by omega), errV, if_pos rfl]
      obtain ⟨gb, cap, hv, _, hgl, hcap, _⟩ := OwT.at h.cls (by omega)
      have hm := ho.m40
      have hs : ((sb b).size : Int) ≤ 16 := by omega
      have HC : Hid (∀ W, Below w.heap.size w W → W.cell? ⟨x.p, 0, none⟩ = some (.slice (some ⟨gb, 0, none⟩) g.m cap) ∧ W.cell? ⟨gb, k, none⟩ = some (st (g.c k)) ∧ W.frozen? ⟨gb, k, none⟩ = false ∧ (W.setCell ⟨gb, k, none⟩ (st b)).cell? ⟨x.p, 0, none⟩ = some (.slice (some ⟨gb, 0, none⟩) g.m cap)) := fun W hB => by
        have h2 := HI.out.old hB
        have c0 := h2.c0
        have hc := h2.cls
        rw [hv] at c0 hc
        exact ⟨c0, OwT.cell hc k hk, OwT.free hc k, by rw [← hv]; exact (h2.putC hv k b).1.c0⟩
      have HF : Hid (∀ W, Below w.heap.size w W → IsG B (W.setCell ⟨gb, k, none⟩ (st b)) x ⟨g.n, g.m, g.t, up g.c k b⟩ ∧ But x.F w (W.setCell ⟨gb, k, none⟩ (st b))) := fun W hB => by
        have P := (HI.out.old hB).putC hv k b
        exact ⟨P.1, (Below.but hB x.F).trans P.2 (Grows.refl _ _)⟩
      have hdr : Below w.heap.size w w.drew := ⟨rfl, rfl, rfl, Nat.le_refl _, fun _ _ => rfl⟩
      have c0 := (HC.out w.drew hdr).1
      unfold st at HF HC ⊢
      have D := clone_any (sb b) w.drew (by omega)
      have hki : (k : Int) < (g.m : Int) := by omega
      clear h ho q q2 HI hv
      generalize sb b = s at *
      generalize g.m = m at *
      go_enter Tryd.func15, Tryd.ntmps15
      go_wp2_with fail
      refine C.mono ?_
      rintro e w1 ⟨rfl, hw⟩
      obtain rfl := hw.symm
      clear C hw
      go_wp2
      go_region_held3 (fun W => W.cell? ⟨x.p, 0, none⟩ = some (.slice (some ⟨gb, 0, none⟩) m cap)) (first | exact d9 | exact d0 | exact c0) ((first | (go_at_call 38; refine D.mono ?_; rintro e w2 ⟨rfl, hB2⟩; have hB3 := hdr.trans hB2; have d0 := (HC.out w2 hB3).1; have d1 := (HC.out w2 hB3).2.1; have d2 := (HC.out w2 hB3).2.2.1; have d9 := (HC.out w2 hB3).2.2.2)))
      have P := HF.out w2 hB3
      have HP : Hid _ := P
      clear P d0 d1 d2 d9 HF HC D
      go_wp2
      go_ret
      exact ⟨rfl, HP.out⟩
end Go.Proofs.YtdbanimlnjhhlaaDoor
