/- A list that a variable holds, gathered one by one. -/
import Derived.Test.YtkmdamljhagogaaDoorRep
import Derived.Test.YtkmdamljhagogaaDoorOrders
namespace Go.Proofs.YtkmdamljhagogaaDoor
open Go.RowKit

theorem add_eq (b o j : Nat) : (⟨b, o, none⟩ : Addr).add j = ⟨b, o + j, none⟩ := by
  by_cases h0 : j = 0 <;> simp [Addr.add, h0]
theorem wrap_in (n : Int) (h0 : -9223372036854775808 ≤ n) (h1 : n ≤ 9223372036854775807) : IntKind.i64.wrap n = n := by
  rw [IntKind.wrap_i64]; omega
/-- These cells, stored one behind the other. -/
def putAll (w : World) (g : Nat) : Nat → List Value → World
  | _, [] => w
  | o, u :: us => putAll (w.setCell ⟨g, o, none⟩ u) g (o + 1) us
def setAll (cs : List Value) : Nat → List Value → List Value
  | _, [] => cs
  | o, u :: us => setAll (cs.set o u) (o + 1) us
theorem Fr.putAll {S : Nat → Prop} {g : Nat} {us : List Value} {a b : World} {o : Nat} (h : Fr S a b) (hp : S g ∨ a.heap.size ≤ g) : Fr S a (putAll b g o us) := by
  induction us generalizing b o with
  | nil => exact h
  | cons u us ih => exact ih (b := b.setCell ⟨g, o, none⟩ u) (o := o + 1) (h.setCell (p := ⟨g, o, none⟩) hp u)
theorem putAll_far {g : Nat} {p : Addr} (h : g ≠ p.block) {us : List Value} {w : World} {o : Nat} : (putAll w g o us).cell? p = w.cell? p := by
  induction us generalizing w o with
  | nil => rfl
  | cons u us ih => exact (ih (w := w.setCell ⟨g, o, none⟩ u) (o := o + 1)).trans (World.cell?_setCell_far w ⟨g, o, none⟩ _ _ h)
theorem putAll_frozen {g : Nat} {p : Addr} {us : List Value} {w : World} {o : Nat} : (putAll w g o us).frozen? p = w.frozen? p := by
  induction us generalizing w o with
  | nil => rfl
  | cons u us ih => exact (ih (w := w.setCell ⟨g, o, none⟩ u) (o := o + 1)).trans (World.frozen?_setCell ..)
theorem owns_putAll {base E sz n cap g : Nat} {us cs : List Value} {w : World} {o : Nat} (h : w.ownsRow base E sz (.slice (some ⟨g, 0, none⟩) n cap) n cs) : (putAll w g o us).ownsRow base E sz (.slice (some ⟨g, 0, none⟩) n cap) n (setAll cs o us) := by
  induction us generalizing w o cs with
  | nil => exact h
  | cons u us ih => exact ih (w := w.setCell ⟨g, o, none⟩ u) (o := o + 1) (cs := cs.set o u) (h.stored o u).1
theorem setAll_end : ∀ (us : List Value) (xs zs : List Value), zs.length = us.length → setAll (xs ++ zs) xs.length us = xs ++ us
  | [], xs, zs, h => by
    have : zs = [] := List.length_eq_zero_iff.1 h
    subst this
    rfl
  | u :: us, xs, [], h => by simp at h
  | u :: us, xs, y :: zs, h => by
    have e : (xs ++ y :: zs).set xs.length u = (xs ++ [u]) ++ zs := by
      rw [List.set_append_right _ _ (Nat.le_refl _)]
      simp
    show setAll ((xs ++ y :: zs).set xs.length u) (xs.length + 1) us = _
    rw [e]
    have h2 := setAll_end us (xs ++ [u]) zs (by simpa using h)
    rw [List.length_append] at h2
    simp only [List.length_cons, List.length_nil] at h2
    rw [h2]
    simp
/-- The variable at bx, off, holds what was gathered. -/
structure JL {ρ α : Type} (w0 : World) (rb E sz : Nat) (enc : ρ → List Value) (ok : World → (Nat → Prop) → ρ → α → Prop) (w1 : World) (bx off : Nat) (acc : List α) (l : Bs) (z : Int) (w : World) : Prop where
  pw : Pw w0 rb l z w
  fr : Fr (fun k => k = rb ∨ k = bx) w1 w
  fz : ∀ j, w.frozen? ⟨bx, j, none⟩ = w1.frozen? ⟨bx, j, none⟩
  old : ∀ j, j ≠ off → w.cell? ⟨bx, j, none⟩ = w1.cell? ⟨bx, j, none⟩
  le : z = 0 → acc.length + l.length ≤ 1500
  row : ∃ s : Slc, w.cell? ⟨bx, off, none⟩ = some s.v ∧ Row E sz enc ok w1.heap.size s.v acc w
section
variable {ρ α : Type} {w0 : World} {rb E sz : Nat} {enc : ρ → List Value} {ok : World → (Nat → Prop) → ρ → α → Prop} {w1 : World} {bx off : Nat}
theorem JL.move (hst : Stays ok) (hbx : bx < w1.heap.size) (hrb : rb < w1.heap.size) (hne : bx ≠ rb) {acc : List α} {l l' : Bs} {z z' : Int} {w w' : World} (h : JL w0 rb E sz enc ok w1 bx off acc l z w)
    (hp : Pr rb l' z' w') (hl : l'.length ≤ l.length) (hz : z' = 0 → z = 0) (hf : Fr (at_ rb) w w') : JL w0 rb E sz enc ok w1 bx off acc l' z' w' := by
  have hsz := h.fr.size
  obtain ⟨s, h1, h2⟩ := h.row
  exact { pw := h.pw.of hp hl hf
          fr := h.fr.trans (hf.mono (fun k _ e => .inl e))
          fz := fun j => (hf.frozen (p := ⟨bx, j, none⟩) (by show bx < _; omega) hne).trans (h.fz j)
          old := fun j hj => (hf.cell (p := ⟨bx, j, none⟩) (by show bx < _; omega) hne).trans (h.old j hj)
          le := fun h0 => by have := h.le (hz h0); omega
          row := ⟨s, (hf.cell (p := ⟨bx, off, none⟩) (by show bx < _; omega) hne).trans h1, h2.fr hst hf (fun k e => by show k < _; have : k = rb := e; omega)⟩ }
/-- One more. -/
theorem JL.push (hst : Stays ok) (hlen : ∀ r, (enc r).length = sz) (hbx : bx < w1.heap.size) (hrb : rb < w1.heap.size) (hne : bx ≠ rb) (hw0 : w0.heap.size ≤ bx ∧ w0.heap.size ≤ w1.heap.size) {acc : List α} {l l' : Bs} {z' : Int} {w wA w6 w9 : World} {s : Slc} {g cp H : Nat} {r : ρ} {x : α} {xs zs us : List Value} (h : JL w0 rb E sz enc ok w1 bx off acc l 0 w)
    (hrow : Row E sz enc ok w1.heap.size s.v acc w) (hF : Fr (at_ rb) w wA) (hpA : Pw w0 rb l' z' wA) (hx : ok wA (fun k => w.heap.size ≤ k ∧ k < wA.heap.size) r x) (hless : z' = 0 → l'.length < l.length)
    (hxs : wA.ownsRow w1.heap.size E sz s.v acc.length xs) (hr6 : w6.ownsRow w1.heap.size E sz (.slice (some ⟨g, 0, none⟩) (acc.length + 1) cp) (acc.length + 1) (xs ++ zs)) (hg6 : wA.grownBy w6 s.v.ownBlock) (hat : s.v.ownBlock = some g ∨ g = H) (hH : wA.heap.size ≤ H)
    (hzs : zs.length = sz) (hus : us = enc r) (hk6 : w6.cell? ⟨bx, off, none⟩ = some s.v)
    (h9 : w9 = (putAll w6 g (acc.length * sz) us).setCell ⟨bx, off, none⟩ (.slice (some ⟨g, 0, none⟩) (acc.length + 1) cp) ∨ w9 = putAll (w6.setCell ⟨bx, off, none⟩ (.slice (some ⟨g, 0, none⟩) (acc.length + 1) cp)) g (acc.length * sz) us ∨ (zs = us ∧ w9 = w6.setCell ⟨bx, off, none⟩ (.slice (some ⟨g, 0, none⟩) (acc.length + 1) cp))) :
    JL w0 rb E sz enc ok w1 bx off (acc ++ [x]) l' z' w9 := by
  subst hus
  have hsz := h.fr.size
  have hszA := hF.size
  have hownlt : ∀ k, s.v.ownBlock = some k → w1.heap.size ≤ k ∧ k < wA.heap.size := hxs.lt
  have hgb : g ≠ bx := by
    rcases hat with e | e
    · have := (hownlt g e).1; omega
    · omega
  have hgr : g ≠ rb := by
    rcases hat with e | e
    · have := (hownlt g e).1; omega
    · omega
  have hat' : s.v.ownBlock = some g ∨ wA.heap.size ≤ g := by
    rcases hat with e | e
    · exact .inl e
    · exact .inr (by omega)
  have F6 : Fr (fun k => k = bx ∨ s.v.ownBlock = some k) wA w6 := (Fr.refl _ wA).grown hg6 (fun k hk => .inl (.inr hk))
  have hgS : (g = bx ∨ s.v.ownBlock = some g) ∨ wA.heap.size ≤ g := hat'.imp .inr id
  have hA9 : Fr (fun k => k = bx ∨ s.v.ownBlock = some k) wA w9 := by
    rcases h9 with rfl | rfl | ⟨hzu, rfl⟩
    · exact (F6.putAll hgS).setCell (p := ⟨bx, off, none⟩) (.inl (.inl rfl)) _
    · exact Fr.putAll (F6.setCell (p := ⟨bx, off, none⟩) (.inl (.inl rfl)) _) hgS
    · exact F6.setCell (p := ⟨bx, off, none⟩) (.inl (.inl rfl)) _
  have hbS : ∀ (wa : World) (cs : List Value), wa.ownsRow w1.heap.size E sz (.slice (some ⟨g, 0, none⟩) (acc.length + 1) cp) (acc.length + 1) cs → (wa.setCell ⟨bx, off, none⟩ (.slice (some ⟨g, 0, none⟩) (acc.length + 1) cp)).ownsRow w1.heap.size E sz (.slice (some ⟨g, 0, none⟩) (acc.length + 1) cp) (acc.length + 1) cs := fun wa cs hh =>
    owns_fr hh (Fr.setCell (Fr.refl (fun k => k = bx) wa) (p := ⟨bx, off, none⟩) (.inl rfl) _) (fun k hk e => by
      have : g = k := by simpa [Value.ownBlock] using hk
      omega)
  have hend : setAll (xs ++ zs) (acc.length * sz) (enc r) = xs ++ enc r := by
    have := setAll_end (enc r) xs zs (by rw [hzs, hlen])
    rwa [hxs.1] at this
  have row9 : w9.ownsRow w1.heap.size E sz (.slice (some ⟨g, 0, none⟩) (acc.length + 1) cp) (acc.length + 1) (xs ++ enc r) := by
    rcases h9 with rfl | rfl | ⟨hzu, rfl⟩
    · have := owns_putAll (us := enc r) (o := acc.length * sz) hr6
      rw [hend] at this
      exact hbS _ _ this
    · have := owns_putAll (us := enc r) (o := acc.length * sz) (hbS _ _ hr6)
      rw [hend] at this
      exact this
    · rw [hzu] at hr6
      exact hbS _ _ hr6
  have hcell : w9.cell? ⟨bx, off, none⟩ = some (.slice (some ⟨g, 0, none⟩) (acc.length + 1) cp) := by
    rcases h9 with rfl | rfl | ⟨hzu, rfl⟩
    · exact World.cell?_setCell_same _ _ _ (by rw [putAll_far hgb]; exact hk6)
    · rw [putAll_far hgb]; exact World.cell?_setCell_same _ _ _ hk6
    · exact World.cell?_setCell_same _ _ _ hk6
  have hfar : some bx ≠ s.v.ownBlock := fun e => by have := (hownlt bx e.symm).1; omega
  have hcell6 : ∀ j, j ≠ off → w9.cell? ⟨bx, j, none⟩ = w6.cell? ⟨bx, j, none⟩ := fun j hj => by
    rcases h9 with rfl | rfl | ⟨hzu, rfl⟩
    · rw [World.cell?_setCell_other _ ⟨bx, off, none⟩ ⟨bx, j, none⟩ _ (fun e => hj (by cases e; rfl)), putAll_far hgb]
    · rw [putAll_far hgb, World.cell?_setCell_other _ ⟨bx, off, none⟩ ⟨bx, j, none⟩ _ (fun e => hj (by cases e; rfl))]
    · rw [World.cell?_setCell_other _ ⟨bx, off, none⟩ ⟨bx, j, none⟩ _ (fun e => hj (by cases e; rfl))]
  have hfz6 : ∀ j, w9.frozen? ⟨bx, j, none⟩ = w6.frozen? ⟨bx, j, none⟩ := fun j => by
    rcases h9 with rfl | rfl | ⟨hzu, rfl⟩
    · rw [World.frozen?_setCell, putAll_frozen]
    · rw [putAll_frozen, World.frozen?_setCell]
    · rw [World.frozen?_setCell]
  have hbA : bx < wA.heap.size := by omega
  exact { pw := hpA.fr hA9 (fun e => by
            rcases e with e | e
            · exact hne e.symm
            · have := (hownlt rb e).1; omega) (fun k e => by
            rcases e with e | e
            · omega
            · have := (hownlt k e).1; omega)
          fr := (h.fr.trans (hF.mono (fun k _ e => .inl e))).then hA9 (fun j hj e => by
            rcases e with e | e
            · exact .inr e
            · have := (hownlt j e).1; omega)
          fz := fun j => (hfz6 j).trans ((hg6.frozen_far ⟨bx, j, none⟩ hbA hfar).trans ((hF.frozen (p := ⟨bx, j, none⟩) (by show bx < _; omega) hne).trans (h.fz j)))
          old := fun j hj => (hcell6 j hj).trans ((hg6.cell_far ⟨bx, j, none⟩ hbA hfar).trans ((hF.cell (p := ⟨bx, j, none⟩) (by show bx < _; omega) hne).trans (h.old j hj)))
          le := fun h0 => by have := h.le rfl; have := hless h0; simp; omega
          row := ⟨⟨some ⟨g, 0, none⟩, acc.length + 1, cp⟩, hcell, hrow.push hst hF (fun k e => by show k < _; have : k = rb := e; omega) (Nat.le_refl _) hx hA9 (fun k e => by
              rcases e with e | e
              · exact .inl (by omega)
              · exact .inr e) (fun rs hrs => by
              have h2 : wA.ownsRow w1.heap.size E sz s.v acc.length (rs.flatMap enc) := owns_fr hrs hF (fun k hk e => by have := (hrs.lt k hk).1; have : k = rb := e; omega)
              have : rs.flatMap enc = xs := owns_same h2 hxs
              rw [this]
              exact row9) (by
              rcases hat' with e | e
              · exact .inl e.symm
              · exact .inr ⟨g, rfl, e⟩)⟩ }
end
end Go.Proofs.YtkmdamljhagogaaDoor
