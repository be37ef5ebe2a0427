/- Rep; Push; ClosE. -/
import Derived.Lib.AppendIntMem
import Derived.Shelf.Strconv.Itoa3
import Derived.Test.YtpemfikdmkmgbaaDoorPartB1
import Derived.Test.YtpemfikdmkmgbaaDoorPartB7
import Derived.Test.YtpemfikdmkmgbaaDoorPartB8
import Derived.Test.YtpemfikdmkmgbaaDoorPartB6
section
/- Expressions, statements and functions as the machine holds them. -/
namespace Go.Proofs.YtpemfikdmkmgbaaDoor
open Go.RowKit
abbrev Tab (w : World) : Prop := Lib.TabIs Tryd.prog w "internal/strconv.uint64pow10" .u64 Lib.pow10Tab
theorem grow_fr (w : World) (n : Nat) (os : Array Obj) : Fr nothing w (Sort.grow (w.drewN n) os) :=
  ⟨rfl, rfl, rfl, by simp [Sort.grow], fun k hk _ => by simp [Sort.grow, Array.getElem?_append_left hk]⟩
/-- What strconv's errors are, at their places. -/
structure Er (w : World) : Prop where
  s : ∃ ev, w.cell? ⟨3, 0, none⟩ = some ev ∧ (ev = .nilIface ∨ ∃ te pe, ev = .iface te pe)
  r : ∃ ev, w.cell? ⟨4, 0, none⟩ = some ev ∧ (ev = .nilIface ∨ ∃ te pe, ev = .iface te pe)
theorem Er.fr {S : Nat → Prop} {w w' : World} (h : Er w) (hf : Fr S w w') (h0 : ¬ S 3) (h1 : ¬ S 4) : Er w' := by
  obtain ⟨⟨a, ha, ha'⟩, ⟨b, hb, hb'⟩⟩ := h
  exact ⟨⟨a, (hf.cell (p := ⟨3, 0, none⟩) (lt_of_cell ha) h0).trans ha, ha'⟩, ⟨b, (hf.cell (p := ⟨4, 0, none⟩) (lt_of_cell hb) h1).trans hb, hb'⟩⟩

/-- The reader, and what lay there ahead of all. -/
structure Pw (w0 : World) (rb : Nat) (l : Bs) (z : Int) (w : World) : Prop where
  pr : Pr rb l z w
  len : l.length ≤ 1500
  bel : Below w0.heap.size w0 w
  ge : w0.heap.size ≤ rb
  tab : Tab w0
  er : Er w0
theorem Pw.of {w0 : World} {rb : Nat} {l l' : Bs} {z z' : Int} {w w' : World} (h : Pw w0 rb l z w) (hp : Pr rb l' z' w') (hl : l'.length ≤ l.length) (hf : Fr (at_ rb) w w') : Pw w0 rb l' z' w' :=
  ⟨hp, Nat.le_trans hl h.len, h.bel.trans (hf.below h.bel.size (fun k hk e => by have := h.ge; omega)), h.ge, h.tab, h.er⟩
/-- New blocks, and such as came since, may turn. -/
theorem Pw.fr {w0 : World} {rb : Nat} {l : Bs} {z : Int} {w w' : World} {S : Nat → Prop} (h : Pw w0 rb l z w) (hf : Fr S w w') (hs : ¬ S rb) (hS : ∀ k, S k → w0.heap.size ≤ k) : Pw w0 rb l z w' :=
  ⟨h.pr.fr hf hs, h.len, h.bel.trans (hf.below h.bel.size (fun k hk e => by have := hS k e; omega)), h.ge, h.tab, h.er⟩
theorem Pw.erw {w0 : World} {rb : Nat} {l : Bs} {z : Int} {w : World} (h : Pw w0 rb l z w) : Er w := by
  have hf : Fr nothing w0 w := Fr.of_below h.bel (Nat.le_refl _) nothing
  exact h.er.fr hf id id
theorem Pw.tabw {w0 : World} {rb : Nat} {l : Bs} {z : Int} {w : World} (h : Pw w0 rb l z w) : Tab w := Lib.tabBelow_of_tabIs h.tab w h.bel
end Go.Proofs.YtpemfikdmkmgbaaDoor
end
section
/- A list that a variable holds, gathered one by one. -/
namespace Go.Proofs.YtpemfikdmkmgbaaDoor
open Go.RowKit

/-- These cells, stored one behind the other. -/
def putAll (w : World) (g : Nat) : Nat → List Value → World
  | _, [] => w
  | o, u :: us => putAll (w.setCell ⟨g, o, none⟩ u) g (o + 1) us
def setAll (cs : List Value) : Nat → List Value → List Value
  | _, [] => cs
  | o, u :: us => setAll (cs.set o u) (o + 1) us
theorem Fr.putAll {S : Nat → Prop} {g : Nat} {us : List Value} {a b : World} {o : Nat} (h : Fr S a b) (hp : S g ∨ a.heap.size ≤ g) : Fr S a (putAll b g o us) := by
  induction us generalizing b o with
  | nil => exact h
  | cons u us ih => exact ih (b := b.setCell ⟨g, o, none⟩ u) (o := o + 1) (h.setCell (p := ⟨g, o, none⟩) hp u)
theorem putAll_far {g : Nat} {p : Addr} (h : g ≠ p.block) {us : List Value} {w : World} {o : Nat} : (putAll w g o us).cell? p = w.cell? p := by
  induction us generalizing w o with
  | nil => rfl
  | cons u us ih => exact (ih (w := w.setCell ⟨g, o, none⟩ u) (o := o + 1)).trans (World.cell?_setCell_far w ⟨g, o, none⟩ _ _ h)
theorem putAll_frozen {g : Nat} {p : Addr} {us : List Value} {w : World} {o : Nat} : (putAll w g o us).frozen? p = w.frozen? p := by
  induction us generalizing w o with
  | nil => rfl
  | cons u us ih => exact (ih (w := w.setCell ⟨g, o, none⟩ u) (o := o + 1)).trans (World.frozen?_setCell ..)
theorem owns_putAll {base E sz n cap g : Nat} {us cs : List Value} {w : World} {o : Nat} (h : w.ownsRow base E sz (.slice (some ⟨g, 0, none⟩) n cap) n cs) : (putAll w g o us).ownsRow base E sz (.slice (some ⟨g, 0, none⟩) n cap) n (setAll cs o us) := by
  induction us generalizing w o cs with
  | nil => exact h
  | cons u us ih => exact ih (w := w.setCell ⟨g, o, none⟩ u) (o := o + 1) (cs := cs.set o u) (h.stored o u).1
theorem setAll_end : ∀ (us : List Value) (xs zs : List Value), zs.length = us.length → setAll (xs ++ zs) xs.length us = xs ++ us
  | [], xs, zs, h => by
    have : zs = [] := List.length_eq_zero_iff.1 h
    subst this
    rfl
  | u :: us, xs, [], h => by simp at h
  | u :: us, xs, y :: zs, h => by
    have e : (xs ++ y :: zs).set xs.length u = (xs ++ [u]) ++ zs := by
      rw [List.set_append_right _ _ (Nat.le_refl _)]
      simp
    show setAll ((xs ++ y :: zs).set xs.length u) (xs.length + 1) us = _
    rw [e]
    have h2 := setAll_end us (xs ++ [u]) zs (by simpa using h)
    rw [List.length_append] at h2
    simp only [List.length_cons, List.length_nil] at h2
    rw [h2]
    simp
/-- The variable at bx, off, holds what was gathered. -/
structure JL {ρ α : Type} (w0 : World) (rb E sz : Nat) (enc : ρ → List Value) (ok : World → (Nat → Prop) → ρ → α → Prop) (w1 : World) (bx off : Nat) (acc : List α) (l : Bs) (z : Int) (w : World) : Prop where
  pw : Pw w0 rb l z w
  fr : Fr (fun k => k = rb ∨ k = bx) w1 w
  fz : ∀ j, w.frozen? ⟨bx, j, none⟩ = w1.frozen? ⟨bx, j, none⟩
  old : ∀ j, j ≠ off → w.cell? ⟨bx, j, none⟩ = w1.cell? ⟨bx, j, none⟩
  le : z = 0 → acc.length + l.length ≤ 1500
  row : ∃ s : Slc, w.cell? ⟨bx, off, none⟩ = some s.v ∧ Row E sz enc ok w1.heap.size s.v acc w
section
variable {ρ α : Type} {w0 : World} {rb E sz : Nat} {enc : ρ → List Value} {ok : World → (Nat → Prop) → ρ → α → Prop} {w1 : World} {bx off : Nat}
theorem JL.move (hst : Stays ok) (hbx : bx < w1.heap.size) (hrb : rb < w1.heap.size) (hne : bx ≠ rb) {acc : List α} {l l' : Bs} {z z' : Int} {w w' : World} (h : JL w0 rb E sz enc ok w1 bx off acc l z w)
    (hp : Pr rb l' z' w') (hl : l'.length ≤ l.length) (hz : z' = 0 → z = 0) (hf : Fr (at_ rb) w w') : JL w0 rb E sz enc ok w1 bx off acc l' z' w' := by
  have hsz := h.fr.size
  obtain ⟨s, h1, h2⟩ := h.row
  exact { pw := h.pw.of hp hl hf
          fr := h.fr.trans (hf.mono (fun k _ e => .inl e))
          fz := fun j => (hf.frozen (p := ⟨bx, j, none⟩) (by show bx < _; omega) hne).trans (h.fz j)
          old := fun j hj => (hf.cell (p := ⟨bx, j, none⟩) (by show bx < _; omega) hne).trans (h.old j hj)
          le := fun h0 => by have := h.le (hz h0); omega
          row := ⟨s, (hf.cell (p := ⟨bx, off, none⟩) (by show bx < _; omega) hne).trans h1, h2.fr hst hf (fun k e => by show k < _; have : k = rb := e; omega)⟩ }
/-- One more. -/
theorem JL.push (hst : Stays ok) (hlen : ∀ r, (enc r).length = sz) (hbx : bx < w1.heap.size) (hrb : rb < w1.heap.size) (hne : bx ≠ rb) (hw0 : w0.heap.size ≤ bx ∧ w0.heap.size ≤ w1.heap.size) {acc : List α} {l l' : Bs} {z' : Int} {w wA w6 w9 : World} {s : Slc} {g cp H : Nat} {r : ρ} {x : α} {xs zs us : List Value} (h : JL w0 rb E sz enc ok w1 bx off acc l 0 w)
    (hrow : Row E sz enc ok w1.heap.size s.v acc w) (hF : Fr (at_ rb) w wA) (hpA : Pw w0 rb l' z' wA) (hx : ok wA (fun k => w.heap.size ≤ k ∧ k < wA.heap.size) r x) (hless : z' = 0 → l'.length < l.length)
    (hxs : wA.ownsRow w1.heap.size E sz s.v acc.length xs) (hr6 : w6.ownsRow w1.heap.size E sz (.slice (some ⟨g, 0, none⟩) (acc.length + 1) cp) (acc.length + 1) (xs ++ zs)) (hg6 : wA.grownBy w6 s.v.ownBlock) (hat : s.v.ownBlock = some g ∨ g = H) (hH : wA.heap.size ≤ H)
    (hzs : zs.length = sz) (hus : us = enc r) (hk6 : w6.cell? ⟨bx, off, none⟩ = some s.v)
    (h9 : w9 = (putAll w6 g (acc.length * sz) us).setCell ⟨bx, off, none⟩ (.slice (some ⟨g, 0, none⟩) (acc.length + 1) cp) ∨ w9 = putAll (w6.setCell ⟨bx, off, none⟩ (.slice (some ⟨g, 0, none⟩) (acc.length + 1) cp)) g (acc.length * sz) us ∨ (zs = us ∧ w9 = w6.setCell ⟨bx, off, none⟩ (.slice (some ⟨g, 0, none⟩) (acc.length + 1) cp))) :
    JL w0 rb E sz enc ok w1 bx off (acc ++ [x]) l' z' w9 := by
  subst hus
  have hsz := h.fr.size
  have hszA := hF.size
  have hownlt : ∀ k, s.v.ownBlock = some k → w1.heap.size ≤ k ∧ k < wA.heap.size := hxs.lt
  have hgb : g ≠ bx := by
    rcases hat with e | e
    · have := (hownlt g e).1; omega
    · omega
  have hgr : g ≠ rb := by
    rcases hat with e | e
    · have := (hownlt g e).1; omega
    · omega
  have hat' : s.v.ownBlock = some g ∨ wA.heap.size ≤ g := by
    rcases hat with e | e
    · exact .inl e
    · exact .inr (by omega)
  have F6 : Fr (fun k => k = bx ∨ s.v.ownBlock = some k) wA w6 := (Fr.refl _ wA).grown hg6 (fun k hk => .inl (.inr hk))
  have hgS : (g = bx ∨ s.v.ownBlock = some g) ∨ wA.heap.size ≤ g := hat'.imp .inr id
  have hA9 : Fr (fun k => k = bx ∨ s.v.ownBlock = some k) wA w9 := by
    rcases h9 with rfl | rfl | ⟨hzu, rfl⟩
    · exact (F6.putAll hgS).setCell (p := ⟨bx, off, none⟩) (.inl (.inl rfl)) _
    · exact Fr.putAll (F6.setCell (p := ⟨bx, off, none⟩) (.inl (.inl rfl)) _) hgS
    · exact F6.setCell (p := ⟨bx, off, none⟩) (.inl (.inl rfl)) _
  have hbS : ∀ (wa : World) (cs : List Value), wa.ownsRow w1.heap.size E sz (.slice (some ⟨g, 0, none⟩) (acc.length + 1) cp) (acc.length + 1) cs → (wa.setCell ⟨bx, off, none⟩ (.slice (some ⟨g, 0, none⟩) (acc.length + 1) cp)).ownsRow w1.heap.size E sz (.slice (some ⟨g, 0, none⟩) (acc.length + 1) cp) (acc.length + 1) cs := fun wa cs hh =>
    owns_fr hh (Fr.setCell (Fr.refl (fun k => k = bx) wa) (p := ⟨bx, off, none⟩) (.inl rfl) _) (fun k hk e => by
      have : g = k := by simpa [Value.ownBlock] using hk
      omega)
  have hend : setAll (xs ++ zs) (acc.length * sz) (enc r) = xs ++ enc r := by
    have := setAll_end (enc r) xs zs (by rw [hzs, hlen])
    rwa [hxs.1] at this
  have row9 : w9.ownsRow w1.heap.size E sz (.slice (some ⟨g, 0, none⟩) (acc.length + 1) cp) (acc.length + 1) (xs ++ enc r) := by
    rcases h9 with rfl | rfl | ⟨hzu, rfl⟩
    · have := owns_putAll (us := enc r) (o := acc.length * sz) hr6
      rw [hend] at this
      exact hbS _ _ this
    · have := owns_putAll (us := enc r) (o := acc.length * sz) (hbS _ _ hr6)
      rw [hend] at this
      exact this
    · rw [hzu] at hr6
      exact hbS _ _ hr6
  have hcell : w9.cell? ⟨bx, off, none⟩ = some (.slice (some ⟨g, 0, none⟩) (acc.length + 1) cp) := by
    rcases h9 with rfl | rfl | ⟨hzu, rfl⟩
    · exact World.cell?_setCell_same _ _ _ (by rw [putAll_far hgb]; exact hk6)
    · rw [putAll_far hgb]; exact World.cell?_setCell_same _ _ _ hk6
    · exact World.cell?_setCell_same _ _ _ hk6
  have hfar : some bx ≠ s.v.ownBlock := fun e => by have := (hownlt bx e.symm).1; omega
  have hcell6 : ∀ j, j ≠ off → w9.cell? ⟨bx, j, none⟩ = w6.cell? ⟨bx, j, none⟩ := fun j hj => by
    rcases h9 with rfl | rfl | ⟨hzu, rfl⟩
    · rw [World.cell?_setCell_other _ ⟨bx, off, none⟩ ⟨bx, j, none⟩ _ (fun e => hj (by cases e; rfl)), putAll_far hgb]
    · rw [putAll_far hgb, World.cell?_setCell_other _ ⟨bx, off, none⟩ ⟨bx, j, none⟩ _ (fun e => hj (by cases e; rfl))]
    · rw [World.cell?_setCell_other _ ⟨bx, off, none⟩ ⟨bx, j, none⟩ _ (fun e => hj (by cases e; rfl))]
  have hfz6 : ∀ j, w9.frozen? ⟨bx, j, none⟩ = w6.frozen? ⟨bx, j, none⟩ := fun j => by
    rcases h9 with rfl | rfl | ⟨hzu, rfl⟩
    · rw [World.frozen?_setCell, putAll_frozen]
    · rw [putAll_frozen, World.frozen?_setCell]
    · rw [World.frozen?_setCell]
  have hbA : bx < wA.heap.size := by omega
  exact { pw := hpA.fr hA9 (fun e => by
            rcases e with e | e
            · exact hne e.symm
            · have := (hownlt rb e).1; omega) (fun k e => by
            rcases e with e | e
            · omega
            · have := (hownlt k e).1; omega)
          fr := (h.fr.trans (hF.mono (fun k _ e => .inl e))).then hA9 (fun j hj e => by
            rcases e with e | e
            · exact .inr e
            · have := (hownlt j e).1; omega)
          fz := fun j => (hfz6 j).trans ((hg6.frozen_far ⟨bx, j, none⟩ hbA hfar).trans ((hF.frozen (p := ⟨bx, j, none⟩) (by show bx < _; omega) hne).trans (h.fz j)))
          old := fun j hj => (hcell6 j hj).trans ((hg6.cell_far ⟨bx, j, none⟩ hbA hfar).trans ((hF.cell (p := ⟨bx, j, none⟩) (by show bx < _; omega) hne).trans (h.old j hj)))
          le := fun h0 => by have := h.le rfl; have := hless h0; simp; omega
          row := ⟨⟨some ⟨g, 0, none⟩, acc.length + 1, cp⟩, hcell, hrow.push hst hF (fun k e => by show k < _; have : k = rb := e; omega) (Nat.le_refl _) hx hA9 (fun k e => by
              rcases e with e | e
              · exact .inl (by omega)
              · exact .inr e) (fun rs hrs => by
              have h2 : wA.ownsRow w1.heap.size E sz s.v acc.length (rs.flatMap enc) := owns_fr hrs hF (fun k hk e => by have := (hrs.lt k hk).1; have : k = rb := e; omega)
              have : rs.flatMap enc = xs := owns_same h2 hxs
              rw [this]
              exact row9) (by
              rcases hat' with e | e
              · exact .inl e.symm
              · exact .inr ⟨g, rfl, e⟩)⟩ }
end
end Go.Proofs.YtpemfikdmkmgbaaDoor
end
section
/- An expression's parts, gathered one by one. -/
namespace Go.Proofs.YtpemfikdmkmgbaaDoor
open Go.RowKit

def XPost {ρ α : Type} (vv : ρ → Value) (ok : World → (Nat → Prop) → ρ → α → Prop) (rb : Nat) (w : World) (res : Rd α) (e : Ending) (w' : World) : Prop :=
  ∃ r : ρ, e = .returned (vv r) ∧ Fr (at_ rb) w w' ∧ Pr rb res.l res.z w' ∧ ok w' (fun k => w.heap.size ≤ k ∧ k < w'.heap.size) r res.v
theorem sizeEx : (Tryd.prog.info? 131).map (fun i => (i.zero, i.size, i.bytes)) = some (some (.agg #[.int .i64 0, .int .i64 0, .string ⟨#[]⟩, .slice none 0 0]), 4, 56) := by kernel_rfl
--WALK
set_option maxHeartbeats 1000000 in
set_option maxRecDepth 20000 in
theorem clE (w0 : World) (rb : Nat) (w1 : World) (bp bd bx : Nat) (deep : Int) (one : Reader Ex) (acc : List Ex) (l : Bs) (w : World)
    (hone : ∀ l w, Pw w0 rb l 0 w → Calls Tryd.prog 65 #[.pointer (some ⟨rb, 0, none⟩), .int .i64 (deep + 1)] w (XPost ev ExOk rb w (one l 0)))
    (hless : Less one) (hsmall : Small one) (hd0 : 0 ≤ deep) (hd1 : deep ≤ 100)
    (hcp : w1.cell? ⟨bp, 0, none⟩ = some (.pointer (some ⟨rb, 0, none⟩))) (hcd : w1.cell? ⟨bd, 0, none⟩ = some (.int .i64 deep)) (hbx : bx < w1.heap.size) (hrb : rb < w1.heap.size)
    (hne : bp ≠ rb ∧ bp ≠ bx ∧ bd ≠ rb ∧ bd ≠ bx ∧ bx ≠ rb) (hw0 : w0.heap.size ≤ bx ∧ w0.heap.size ≤ w1.heap.size) (hfz : w1.frozen? ⟨bx, 3, none⟩ = false)
    (hJ : JL w0 rb 131 4 encE ExOk w1 bx 3 acc l 0 w) :
    Calls Tryd.prog 72 #[.pointer (some ⟨bx, 0, none⟩), .pointer (some ⟨bp, 0, none⟩), .pointer (some ⟨bd, 0, none⟩)] w fun e w' => e = .returned (.tuple #[]) ∧ JL w0 rb 131 4 encE ExOk w1 bx 3 (acc ++ [(one l 0).v]) (one l 0).l (one l 0).z w' := by
  obtain ⟨⟨va, vn, vc⟩, hx3, hrow⟩ := hJ.row
  obtain rfl : vn = acc.length := by
    obtain ⟨a, c, h⟩ := hrow.shape
    cases h; rfl
  have hlbp : bp < w1.heap.size := lt_of_cell hcp
  have hlbd : bd < w1.heap.size := lt_of_cell hcd
  have a1 : w.cell? ⟨bp, 0, none⟩ = some (.pointer (some ⟨rb, 0, none⟩)) := (hJ.fr.cell (p := ⟨bp, 0, none⟩) hlbp (by show ¬ (bp = rb ∨ bp = bx); omega)).trans hcp
  have a2 : w.cell? ⟨bd, 0, none⟩ = some (.int .i64 deep) := (hJ.fr.cell (p := ⟨bd, 0, none⟩) hlbd (by show ¬ (bd = rb ∨ bd = bx); omega)).trans hcd
  have hsz1 := hJ.fr.size
  have l1 : bp < w.heap.size := by omega
  have l2 : bd < w.heap.size := by omega
  have l3 : bx < w.heap.size := by omega
  have fx : w.frozen? ⟨bx, 3, none⟩ = false := (hJ.fz 3).trans hfz
  have hacc : acc.length ≤ 1500 := by have := hJ.le rfl; omega
  have HC : Hid (∀ w', Fr nothing w w' → Calls Tryd.prog 65 #[.pointer (some ⟨rb, 0, none⟩), .int .i64 (deep + 1)] w' (XPost ev ExOk rb w' (one l 0))) := fun w' hf => hone l w' (hJ.pw.fr hf id (fun k e => e.elim))
  have HJ := hide hJ
  have HR := hide hrow
  have HL : Hid ((one l 0).z = 0 → (one l 0).l.length < l.length) := hless l
  have HSM : Hid ((one l 0).l.length ≤ l.length) := hsmall l 0
  have i0 : (0 : Int) ≤ (acc.length : Int) := by omega
  have i1 : (acc.length : Int) < (acc.length : Int) + 1 := by omega
  have i2 : (acc.length : Int) < ((acc.length + 1 : Nat) : Int) := by omega
  clear hJ hone hcp hcd hrow hless hsmall
  have hwr : IntKind.i64.wrap (deep + 1) = deep + 1 := wrap_in _ (by omega) (by omega)
  obtain ⟨j0, hj0, hy0, hy1, hy2⟩ := info_parts sizeEx
  have frame : ∀ w', Fr (at_ rb) w w' → w'.cell? ⟨bx, 3, none⟩ = some (.slice va acc.length vc) ∧ w'.cell? ⟨bp, 0, none⟩ = some (.pointer (some ⟨rb, 0, none⟩)) ∧ w'.cell? ⟨bd, 0, none⟩ = some (.int .i64 deep) := fun w' hf =>
    ⟨(hf.cell (p := ⟨bx, 3, none⟩) l3 (by show ¬ bx = rb; omega)).trans hx3, (hf.cell (p := ⟨bp, 0, none⟩) l1 (by show ¬ bp = rb; omega)).trans a1, (hf.cell (p := ⟨bd, 0, none⟩) l2 (by show ¬ bd = rb; omega)).trans a2⟩
  have HFR := hide frame
  clear frame
  go_enter Tryd.func72, Tryd.ntmps72
  refine wp_region_T (S := fun w' => w'.cell? ⟨bx, 3, none⟩ = some (.slice va acc.length vc) ∧ w'.cell? ⟨bp, 0, none⟩ = some (.pointer (some ⟨rb, 0, none⟩)) ∧ w'.cell? ⟨bd, 0, none⟩ = some (.int .i64 deep)) (by kernel_rfl) [8] ?_ (fun hHeld => ?_)
  · exact ⟨hx3, a1, a2⟩
  refine wpAnyT_take (i := 0) (oi := { dst := some 3, op := Op.fieldAddr 131 (Operand.tmp 0) 3, type := 0, pos := "ref.go:415", after := #[], guard := none }) (v := ?v1) rfl (by kernel_rfl) (by kernel_rfl) (by kernel_rfl) (by kernel_rfl) (by kernel_rfl) (fun _ _ _ h => h) (Or.inl ⟨by rfl, ?hy1⟩) (by assumption) ?rest1
  case hy1 => (intro w hSw; (try dsimp only at hSw); obtain ⟨hS1, hS2, hS3⟩ := hSw; go_simp; try with_reducible rfl)
  try simp only [Act.put, List.setIfInBounds_toArray, List.set_cons_zero, List.set_cons_succ]
  refine wpAnyT_take (i := 1) (oi := { dst := some 4, op := Op.load 126 (Operand.tmp 3), type := 126, pos := "ref.go:415", after := #[{ on := 0, ground := Ground.data }], guard := none }) (v := ?v2) rfl (by kernel_rfl) (by kernel_rfl) (by kernel_rfl) (by kernel_rfl) (by kernel_rfl) (fun _ _ _ h => h) (Or.inl ⟨by rfl, ?hy2⟩) (by assumption) ?rest2
  case hy2 => (intro w hSw; (try dsimp only at hSw); obtain ⟨hS1, hS2, hS3⟩ := hSw; go_simp; try with_reducible rfl)
  try simp only [Act.put, List.setIfInBounds_toArray, List.set_cons_zero, List.set_cons_succ]
  refine wpAnyT_take (i := 2) (oi := { dst := some 5, op := Op.load 105 (Operand.tmp 1), type := 105, pos := "ref.go:415", after := #[], guard := none }) (v := ?v3) rfl (by kernel_rfl) (by kernel_rfl) (by kernel_rfl) (by kernel_rfl) (by kernel_rfl) (fun _ _ _ h => h) (Or.inl ⟨by rfl, ?hy3⟩) (by assumption) ?rest3
  case hy3 => (intro w hSw; (try dsimp only at hSw); obtain ⟨hS1, hS2, hS3⟩ := hSw; go_simp; try with_reducible rfl)
  try simp only [Act.put, List.setIfInBounds_toArray, List.set_cons_zero, List.set_cons_succ]
  refine wpAnyT_take (i := 3) (oi := { dst := some 6, op := Op.load 3 (Operand.tmp 2), type := 3, pos := "ref.go:415", after := #[], guard := none }) (v := ?v4) rfl (by kernel_rfl) (by kernel_rfl) (by kernel_rfl) (by kernel_rfl) (by kernel_rfl) (fun _ _ _ h => h) (Or.inl ⟨by rfl, ?hy4⟩) (by assumption) ?rest4
  case hy4 => (intro w hSw; (try dsimp only at hSw); obtain ⟨hS1, hS2, hS3⟩ := hSw; go_simp; try with_reducible rfl)
  try simp only [Act.put, List.setIfInBounds_toArray, List.set_cons_zero, List.set_cons_succ]
  refine wpAnyT_take (i := 4) (oi := { dst := some 7, op := Op.binOp BinOp.add 3 (Operand.tmp 6) (Operand.const (Value.int IntKind.i64 1)) 3, type := 3, pos := "ref.go:415", after := #[{ on := 3, ground := Ground.data }], guard := none }) (v := ?v5) rfl (by kernel_rfl) (by kernel_rfl) (by kernel_rfl) (by kernel_rfl) (by kernel_rfl) (fun _ _ _ h => h) (Or.inl ⟨by rfl, ?hy5⟩) (by assumption) ?rest5
  case hy5 => (intro w hSw; (try dsimp only at hSw); obtain ⟨hS1, hS2, hS3⟩ := hSw; go_simp; try with_reducible rfl)
  try simp only [Act.put, List.setIfInBounds_toArray, List.set_cons_zero, List.set_cons_succ]
  refine wpAnyT_take (i := 6) (oi := { dst := some 9, op := Op.call { callee := Callee.builtin Builtin.len, args := #[Operand.tmp 4], argTypes := #[126] }, type := 3, pos := "ref.go:415", after := #[{ on := 1, ground := Ground.data }], guard := none }) (v := ?v6) rfl (by kernel_rfl) (by kernel_rfl) (by kernel_rfl) (by kernel_rfl) (by kernel_rfl) (fun _ _ _ h => h) (Or.inl ⟨by rfl, ?hy6⟩) (by assumption) ?rest6
  case hy6 => (intro w hSw; (try dsimp only at hSw); obtain ⟨hS1, hS2, hS3⟩ := hSw; go_simp; try with_reducible rfl)
  try simp only [Act.put, List.setIfInBounds_toArray, List.set_cons_zero, List.set_cons_succ]
  refine wpAnyT_ready (rs := [5, 7]) (by kernel_rfl) (by simp) ?_
  refine AllReadyT.cons (o := { dst := some 8, op := Op.call { callee := Callee.value (Operand.func 65), args := #[Operand.tmp 5, Operand.tmp 7], argTypes := #[105, 3] }, type := 131, pos := "ref.go:415", after := #[{ on := 2, ground := Ground.data }, { on := 4, ground := Ground.data }], guard := none }) rfl (fun K hK => ?_) (AllReadyT.cons (o := { dst := some 10, op := Op.buildSlice 126 1 #[(0, Operand.const (Value.agg #[Value.int IntKind.i64 0, Value.int IntKind.i64 0, Value.string { data := #[] }, Value.slice none 0 0]))], type := 126, pos := "ref.go:415", after := #[], guard := none }) rfl (fun K hK => ?_) AllReadyT.nil)
  · refine step_call rfl 65 Tryd.f65 #[.tmp 5, .tmp 7] #[105, 3] rfl Tryd.func65 (by kernel_rfl) (by kernel_rfl) #[.pointer (some ⟨rb, 0, none⟩), .int .i64 (deep + 1)] (by simp [Act.eval]) _ (HC.out _ ((Fr.refl _ w).drew)) ?_
    rintro e w2 ⟨r, rfl, hF2, hP2, hx2⟩
    have F2 : Fr (at_ rb) w w2 := ((Fr.refl _ w).drew).trans hF2
    refine ⟨_, rfl, hK.out _ _ (HFR.out _ F2) ?_⟩
    clear hK K hHeld
    have hHeld := HFR.out _ F2
    try simp only [Act.put, List.setIfInBounds_toArray, List.set_cons_zero, List.set_cons_succ]
    refine wpAnyT_ready (rs := [7]) (by kernel_rfl) (by simp) ?_
    refine AllReadyT.cons (o := { dst := some 10, op := Op.buildSlice 126 1 #[(0, Operand.const (Value.agg #[Value.int IntKind.i64 0, Value.int IntKind.i64 0, Value.string { data := #[] }, Value.slice none 0 0]))], type := 126, pos := "ref.go:415", after := #[], guard := none }) rfl (fun K hK => ?_) AllReadyT.nil
    go_simp
    refine hK.out _ _ (HFR.out _ (F2.alloc _)) ?_
    clear hK K hHeld
    have hHeld := HFR.out _ (F2.alloc (.cells #[.int .i64 0, .int .i64 0, .string ⟨#[]⟩, .slice none 0 0] 131))
    try simp only [Act.put, List.setIfInBounds_toArray, List.set_cons_zero, List.set_cons_succ]
    have FA : Fr (at_ rb) w (w2.alloc (.cells #[.int .i64 0, .int .i64 0, .string ⟨#[]⟩, .slice none 0 0] 131)) := F2.alloc _
    have PA : Pr rb (one l 0).l (one l 0).z (w2.alloc (.cells #[.int .i64 0, .int .i64 0, .string ⟨#[]⟩, .slice none 0 0] 131)) := hP2.fr ((Fr.refl nothing w2).alloc _) id
    have XA : ExOk (w2.alloc (.cells #[.int .i64 0, .int .i64 0, .string ⟨#[]⟩, .slice none 0 0] 131)) (fun k => w.heap.size ≤ k ∧ k < (w2.alloc (.cells #[.int .i64 0, .int .i64 0, .string ⟨#[]⟩, .slice none 0 0] 131)).heap.size) r (one l 0).v := ex_stays _ _ nothing _ _ _ _ hx2 ((Fr.refl nothing w2).alloc _) (fun _ _ => id) (fun k hk => ⟨hk.1, by have := hk.2; simp; omega⟩)
    have NW : ∀ j u, ([.int .i64 0, .int .i64 0, .string ⟨#[]⟩, .slice none 0 0] : List Value)[j]? = some u → (w2.alloc (.cells #[.int .i64 0, .int .i64 0, .string ⟨#[]⟩, .slice none 0 0] 131)).cell? ((⟨w2.heap.size, 0, none⟩ : Addr).add j) = some u := World.news_of_block (cs := #[.int .i64 0, .int .i64 0, .string ⟨#[]⟩, .slice none 0 0]) (t := 131) (fr := (0, 0)) (heap_new _ _)
    have PW : Pw w0 rb (one l 0).l (one l 0).z (w2.alloc (.cells #[.int .i64 0, .int .i64 0, .string ⟨#[]⟩, .slice none 0 0] 131)) := HJ.out.pw.of PA HSM.out FA
    obtain ⟨rs, hown, hbase, heach⟩ := HR.out
    have hownA : (w2.alloc (.cells #[.int .i64 0, .int .i64 0, .string ⟨#[]⟩, .slice none 0 0] 131)).ownsRow w1.heap.size 131 4 (.slice va acc.length vc) acc.length (rs.flatMap encE) := owns_fr hown FA (fun k hk e => by have := (hown.lt k hk).1; have : k = rb := e; omega)
    have hbA : w1.heap.size ≤ (w2.alloc (.cells #[.int .i64 0, .int .i64 0, .string ⟨#[]⟩, .slice none 0 0] 131)).heap.size := Nat.le_trans hsz1 FA.size
    have OF := owns_far hownA (b := bx) hbx
    have gx : bx < (w2.alloc (.cells #[.int .i64 0, .int .i64 0, .string ⟨#[]⟩, .slice none 0 0] 131)).heap.size := by omega
    have fxA : (w2.alloc (.cells #[.int .i64 0, .int .i64 0, .string ⟨#[]⟩, .slice none 0 0] 131)).frozen? ⟨bx, 3, none⟩ = false := (FA.frozen (p := ⟨bx, 3, none⟩) l3 (by show ¬ bx = rb; omega)).trans fx
    have HOA := hide hownA
    have HPW := hide PW
    have HXA := hide XA
    have HFA := hide FA
    clear heach hown hownA PW XA FA PA
    refine wpAnyT_ready (rs := [8]) (by kernel_rfl) (by simp) ?_
    refine AllReadyT.last (o := { dst := some 11, op := Op.call { callee := Callee.builtin Builtin.append, args := #[Operand.tmp 4, Operand.tmp 10], argTypes := #[126, 126] }, type := 126, pos := "ref.go:415", after := #[{ on := 1, ground := Ground.data }, { on := 7, ground := Ground.data }, { on := 5, ground := Ground.chain }, { on := 0, ground := Ground.phase }, { on := 1, ground := Ground.phase }, { on := 2, ground := Ground.phase }, { on := 3, ground := Ground.phase }, { on := 4, ground := Ground.phase }, { on := 5, ground := Ground.phase }, { on := 6, ground := Ground.phase }, { on := 7, ground := Ground.phase }], guard := none }) rfl (by kernel_rfl) (fun K hK => ?_) AllReadyT.nil
    refine step_append_lies _ (by rfl) (.tmp 4) (.tmp 10) 126 (by rfl) w1.heap.size 131 j0 _ 4 56 Tryd.underlying126 hj0 hy0 hy1 hy2 rfl (by decide) (.slice va acc.length vc) acc.length _ (by simp [Act.eval]) HOA.out ⟨w2.heap.size, 0, none⟩ 1 1 [.int .i64 0, .int .i64 0, .string ⟨#[]⟩, .slice none 0 0] (by simp [Act.eval]) rfl NW (by simp [Value.oneCell']) (by decide) (by unfold maxLen; omega) (by omega) hbA _ rfl ?_
    intro g cp w6 hr6 hg6 hat6 hlt6
    have k3 : w6.cell? ⟨bx, 3, none⟩ = some (.slice va acc.length vc) := (hg6.cell_far ⟨bx, 3, none⟩ gx OF).trans hHeld.1
    have kz : w6.frozen? ⟨bx, 3, none⟩ = false := (hg6.frozen_far ⟨bx, 3, none⟩ gx OF).trans fxA
    have k6 : bx < w6.heap.size := by have := hg6.size; omega
    obtain ⟨⟨q0, q1, q2, q3⟩, y0, y1, y2, y3⟩ := new_cells4 hr6 HOA.out.1
    have gbx : ¬ g = bx := by
      rcases hat6 with h | h
      · intro e; subst e; exact OF h.symm
      · omega
    have gbx' : ¬ bx = g := fun e => gbx e.symm
    have HR6 := hide hr6
    have HG6 := hide hg6
    have HAT := hide hat6
    clear hr6 hg6 hat6 NW
    refine hK.out _ _ ?_
    clear hK K hHeld
    try simp only [Act.put, List.setIfInBounds_toArray, List.set_cons_zero, List.set_cons_succ]
    refine wpAny_take (i := 9) (oi := { dst := some 12, op := Op.indexAddr 126 (Operand.tmp 11) (Operand.tmp 9), type := 0, pos := "ref.go:415", after := #[{ on := 8, ground := Ground.data }, { on := 6, ground := Ground.data }, { on := 0, ground := Ground.phase }, { on := 1, ground := Ground.phase }, { on := 2, ground := Ground.phase }, { on := 3, ground := Ground.phase }, { on := 4, ground := Ground.phase }, { on := 5, ground := Ground.phase }, { on := 6, ground := Ground.phase }, { on := 7, ground := Ground.phase }, { on := 8, ground := Ground.phase }, { on := 12, ground := Ground.gcOnly Departure.appendInPlace }], guard := none }) (v := ?v7) rfl (by kernel_rfl) (by kernel_rfl) (by kernel_rfl) (fun _ _ _ h => h) (Or.inl ⟨by rfl, ?hy7⟩) ?rest7
    case hy7 => (intro w; go_simp; try with_reducible rfl)
    try simp only [Act.put, List.setIfInBounds_toArray, List.set_cons_zero, List.set_cons_succ]
    refine wpAny_take (i := 11) (oi := { dst := some 13, op := Op.fieldAddr 131 (Operand.tmp 0) 3, type := 0, pos := "ref.go:415", after := #[{ on := 0, ground := Ground.phase }, { on := 1, ground := Ground.phase }, { on := 2, ground := Ground.phase }, { on := 3, ground := Ground.phase }, { on := 4, ground := Ground.phase }, { on := 5, ground := Ground.phase }, { on := 6, ground := Ground.phase }, { on := 7, ground := Ground.phase }, { on := 8, ground := Ground.phase }, { on := 9, ground := Ground.textOnly Departure.appendInPlace }, { on := 10, ground := Ground.textOnly Departure.appendInPlace }], guard := none }) (v := ?v8) rfl (by kernel_rfl) (by kernel_rfl) (by kernel_rfl) (fun _ _ _ h => h) (Or.inl ⟨by rfl, ?hy8⟩) ?rest8
    case hy8 => (intro w; go_simp; try with_reducible rfl)
    try simp only [Act.put, List.setIfInBounds_toArray, List.set_cons_zero, List.set_cons_succ]
    refine wpAny_ready (rs := [10, 12]) (by kernel_rfl) (by simp) ?_
    refine AllReady.cons (o := { dst := none, op := Op.store 131 (Operand.tmp 12) (Operand.tmp 8), type := 0, pos := "ref.go:415", after := #[{ on := 9, ground := Ground.data }, { on := 5, ground := Ground.data }, { on := 8, ground := Ground.chain }, { on := 0, ground := Ground.phase }, { on := 1, ground := Ground.phase }, { on := 2, ground := Ground.phase }, { on := 3, ground := Ground.phase }, { on := 4, ground := Ground.phase }, { on := 5, ground := Ground.phase }, { on := 6, ground := Ground.phase }, { on := 7, ground := Ground.phase }, { on := 8, ground := Ground.phase }, { on := 12, ground := Ground.gcOnly Departure.appendInPlace }], guard := none }) rfl (fun K hK => ?_) (AllReady.cons (o := { dst := none, op := Op.store 126 (Operand.tmp 13) (Operand.tmp 11), type := 0, pos := "ref.go:415", after := #[{ on := 11, ground := Ground.data }, { on := 8, ground := Ground.data }, { on := 8, ground := Ground.chain }, { on := 10, ground := Ground.textOnly Departure.appendInPlace }, { on := 0, ground := Ground.phase }, { on := 1, ground := Ground.phase }, { on := 2, ground := Ground.phase }, { on := 3, ground := Ground.phase }, { on := 4, ground := Ground.phase }, { on := 5, ground := Ground.phase }, { on := 6, ground := Ground.phase }, { on := 7, ground := Ground.phase }, { on := 8, ground := Ground.phase }, { on := 9, ground := Ground.textOnly Departure.appendInPlace }, { on := 10, ground := Ground.textOnly Departure.appendInPlace }], guard := none }) rfl (fun K hK => ?_) AllReady.nil)
    · go_simp
      refine hK _ _ ?_
      clear hK K
      try simp only [Act.put, List.setIfInBounds_toArray, List.set_cons_zero, List.set_cons_succ]
      refine wpAny_ready (rs := [12]) (by kernel_rfl) (by simp) ?_
      refine AllReady.cons (o := { dst := none, op := Op.store 126 (Operand.tmp 13) (Operand.tmp 11), type := 0, pos := "ref.go:415", after := #[{ on := 11, ground := Ground.data }, { on := 8, ground := Ground.data }, { on := 8, ground := Ground.chain }, { on := 10, ground := Ground.textOnly Departure.appendInPlace }, { on := 0, ground := Ground.phase }, { on := 1, ground := Ground.phase }, { on := 2, ground := Ground.phase }, { on := 3, ground := Ground.phase }, { on := 4, ground := Ground.phase }, { on := 5, ground := Ground.phase }, { on := 6, ground := Ground.phase }, { on := 7, ground := Ground.phase }, { on := 8, ground := Ground.phase }, { on := 9, ground := Ground.textOnly Departure.appendInPlace }, { on := 10, ground := Ground.textOnly Departure.appendInPlace }], guard := none }) rfl (fun K hK => ?_) AllReady.nil
      go_simp
      refine hK _ _ ?_
      clear hK K
      try simp only [Act.put, List.setIfInBounds_toArray, List.set_cons_zero, List.set_cons_succ]
      refine wpAny_done (by kernel_rfl) ?_ _
      go_end0
      refine ⟨rfl, ?_⟩
      exact JL.push ex_stays encE_len hbx hrb hne.2.2.2.2 hw0 (us := [.int .i64 r.k, .int .i64 r.n, .string (bs r.t), .slice r.s.a r.s.n r.s.c]) HJ.out HR.out HFA.out HPW.out HXA.out HL.out HOA.out HR6.out HG6.out HAT.out (Nat.le_refl _) rfl rfl k3 (.inl rfl)
    · go_simp
      refine hK _ _ ?_
      clear hK K
      try simp only [Act.put, List.setIfInBounds_toArray, List.set_cons_zero, List.set_cons_succ]
      refine wpAny_ready (rs := [10]) (by kernel_rfl) (by simp) ?_
      refine AllReady.cons (o := { dst := none, op := Op.store 131 (Operand.tmp 12) (Operand.tmp 8), type := 0, pos := "ref.go:415", after := #[{ on := 9, ground := Ground.data }, { on := 5, ground := Ground.data }, { on := 8, ground := Ground.chain }, { on := 0, ground := Ground.phase }, { on := 1, ground := Ground.phase }, { on := 2, ground := Ground.phase }, { on := 3, ground := Ground.phase }, { on := 4, ground := Ground.phase }, { on := 5, ground := Ground.phase }, { on := 6, ground := Ground.phase }, { on := 7, ground := Ground.phase }, { on := 8, ground := Ground.phase }, { on := 12, ground := Ground.gcOnly Departure.appendInPlace }], guard := none }) rfl (fun K hK => ?_) AllReady.nil
      go_simp
      refine hK _ _ ?_
      clear hK K
      try simp only [Act.put, List.setIfInBounds_toArray, List.set_cons_zero, List.set_cons_succ]
      refine wpAny_done (by kernel_rfl) ?_ _
      go_end0
      refine ⟨rfl, ?_⟩
      exact JL.push ex_stays encE_len hbx hrb hne.2.2.2.2 hw0 (us := [.int .i64 r.k, .int .i64 r.n, .string (bs r.t), .slice r.s.a r.s.n r.s.c]) HJ.out HR.out HFA.out HPW.out HXA.out HL.out HOA.out HR6.out HG6.out HAT.out (Nat.le_refl _) rfl rfl k3 (.inr (.inl rfl))
  · go_simp
    refine hK.out _ _ (HFR.out _ ((Fr.refl _ w).drew.alloc _)) ?_
    clear hK K hHeld
    have F1 : Fr (at_ rb) w (w.drew.alloc (.cells #[.int .i64 0, .int .i64 0, .string ⟨#[]⟩, .slice none 0 0] 131)) := (Fr.refl _ w).drew.alloc _
    have hHeld := HFR.out _ F1
    try simp only [Act.put, List.setIfInBounds_toArray, List.set_cons_zero, List.set_cons_succ]
    refine wpAnyT_ready (rs := [5]) (by kernel_rfl) (by simp) ?_
    refine AllReadyT.cons (o := { dst := some 8, op := Op.call { callee := Callee.value (Operand.func 65), args := #[Operand.tmp 5, Operand.tmp 7], argTypes := #[105, 3] }, type := 131, pos := "ref.go:415", after := #[{ on := 2, ground := Ground.data }, { on := 4, ground := Ground.data }], guard := none }) rfl (fun K hK => ?_) AllReadyT.nil
    refine step_call rfl 65 Tryd.f65 #[.tmp 5, .tmp 7] #[105, 3] rfl Tryd.func65 (by kernel_rfl) (by kernel_rfl) #[.pointer (some ⟨rb, 0, none⟩), .int .i64 (deep + 1)] (by simp [Act.eval]) _ (HC.out _ ((Fr.refl _ w).drew.alloc _)) ?_
    rintro e w2 ⟨r, rfl, hF2, hP2, hx2⟩
    have FA : Fr (at_ rb) w w2 := F1.trans hF2
    refine ⟨_, rfl, hK.out _ _ (HFR.out _ FA) ?_⟩
    clear hK K hHeld
    have hHeld := HFR.out _ FA
    try simp only [Act.put, List.setIfInBounds_toArray, List.set_cons_zero, List.set_cons_succ]
    have PA : Pr rb (one l 0).l (one l 0).z w2 := hP2
    have XA : ExOk w2 (fun k => w.heap.size ≤ k ∧ k < w2.heap.size) r (one l 0).v := ex_stays _ _ nothing _ _ _ _ hx2 (Fr.refl nothing w2) (fun _ _ => id) (fun k hk => ⟨by have := hk.1; simp at this; omega, hk.2⟩)
    have NW : ∀ j u, ([.int .i64 0, .int .i64 0, .string ⟨#[]⟩, .slice none 0 0] : List Value)[j]? = some u → w2.cell? ((⟨w.heap.size, 0, none⟩ : Addr).add j) = some u := fun j u hu => by
      have h1 := World.news_of_block (cs := #[.int .i64 0, .int .i64 0, .string ⟨#[]⟩, .slice none 0 0]) (t := 131) (fr := (0, 0)) (heap_new w.drew _) j u hu
      rw [add_eq] at h1 ⊢
      exact (hF2.cell (p := ⟨w.heap.size, 0 + j, none⟩) (by show w.heap.size < _; simp) (by show ¬ w.heap.size = rb; omega)).trans h1
    have PW : Pw w0 rb (one l 0).l (one l 0).z w2 := HJ.out.pw.of PA HSM.out FA
    obtain ⟨rs, hown, hbase, heach⟩ := HR.out
    have hownA : w2.ownsRow w1.heap.size 131 4 (.slice va acc.length vc) acc.length (rs.flatMap encE) := owns_fr hown FA (fun k hk e => by have := (hown.lt k hk).1; have : k = rb := e; omega)
    have hbA : w1.heap.size ≤ w2.heap.size := Nat.le_trans hsz1 FA.size
    have OF := owns_far hownA (b := bx) hbx
    have gx : bx < w2.heap.size := by omega
    have fxA : w2.frozen? ⟨bx, 3, none⟩ = false := (FA.frozen (p := ⟨bx, 3, none⟩) l3 (by show ¬ bx = rb; omega)).trans fx
    have HOA := hide hownA
    have HPW := hide PW
    have HXA := hide XA
    have HFA := hide FA
    clear heach hown hownA PW XA FA PA
    refine wpAnyT_ready (rs := [8]) (by kernel_rfl) (by simp) ?_
    refine AllReadyT.last (o := { dst := some 11, op := Op.call { callee := Callee.builtin Builtin.append, args := #[Operand.tmp 4, Operand.tmp 10], argTypes := #[126, 126] }, type := 126, pos := "ref.go:415", after := #[{ on := 1, ground := Ground.data }, { on := 7, ground := Ground.data }, { on := 5, ground := Ground.chain }, { on := 0, ground := Ground.phase }, { on := 1, ground := Ground.phase }, { on := 2, ground := Ground.phase }, { on := 3, ground := Ground.phase }, { on := 4, ground := Ground.phase }, { on := 5, ground := Ground.phase }, { on := 6, ground := Ground.phase }, { on := 7, ground := Ground.phase }], guard := none }) rfl (by kernel_rfl) (fun K hK => ?_) AllReadyT.nil
    refine step_append_lies _ (by rfl) (.tmp 4) (.tmp 10) 126 (by rfl) w1.heap.size 131 j0 _ 4 56 Tryd.underlying126 hj0 hy0 hy1 hy2 rfl (by decide) (.slice va acc.length vc) acc.length _ (by simp [Act.eval]) HOA.out ⟨w.heap.size, 0, none⟩ 1 1 [.int .i64 0, .int .i64 0, .string ⟨#[]⟩, .slice none 0 0] (by simp [Act.eval]) rfl NW (by simp [Value.oneCell']) (by decide) (by unfold maxLen; omega) (by omega) hbA _ rfl ?_
    intro g cp w6 hr6 hg6 hat6 hlt6
    have k3 : w6.cell? ⟨bx, 3, none⟩ = some (.slice va acc.length vc) := (hg6.cell_far ⟨bx, 3, none⟩ gx OF).trans hHeld.1
    have kz : w6.frozen? ⟨bx, 3, none⟩ = false := (hg6.frozen_far ⟨bx, 3, none⟩ gx OF).trans fxA
    have k6 : bx < w6.heap.size := by have := hg6.size; omega
    obtain ⟨⟨q0, q1, q2, q3⟩, y0, y1, y2, y3⟩ := new_cells4 hr6 HOA.out.1
    have gbx : ¬ g = bx := by
      rcases hat6 with h | h
      · intro e; subst e; exact OF h.symm
      · omega
    have gbx' : ¬ bx = g := fun e => gbx e.symm
    have HR6 := hide hr6
    have HG6 := hide hg6
    have HAT := hide hat6
    clear hr6 hg6 hat6 NW
    refine hK.out _ _ ?_
    clear hK K hHeld
    try simp only [Act.put, List.setIfInBounds_toArray, List.set_cons_zero, List.set_cons_succ]
    refine wpAny_take (i := 9) (oi := { dst := some 12, op := Op.indexAddr 126 (Operand.tmp 11) (Operand.tmp 9), type := 0, pos := "ref.go:415", after := #[{ on := 8, ground := Ground.data }, { on := 6, ground := Ground.data }, { on := 0, ground := Ground.phase }, { on := 1, ground := Ground.phase }, { on := 2, ground := Ground.phase }, { on := 3, ground := Ground.phase }, { on := 4, ground := Ground.phase }, { on := 5, ground := Ground.phase }, { on := 6, ground := Ground.phase }, { on := 7, ground := Ground.phase }, { on := 8, ground := Ground.phase }, { on := 12, ground := Ground.gcOnly Departure.appendInPlace }], guard := none }) (v := ?v9) rfl (by kernel_rfl) (by kernel_rfl) (by kernel_rfl) (fun _ _ _ h => h) (Or.inl ⟨by rfl, ?hy9⟩) ?rest9
    case hy9 => (intro w; go_simp; try with_reducible rfl)
    try simp only [Act.put, List.setIfInBounds_toArray, List.set_cons_zero, List.set_cons_succ]
    refine wpAny_take (i := 11) (oi := { dst := some 13, op := Op.fieldAddr 131 (Operand.tmp 0) 3, type := 0, pos := "ref.go:415", after := #[{ on := 0, ground := Ground.phase }, { on := 1, ground := Ground.phase }, { on := 2, ground := Ground.phase }, { on := 3, ground := Ground.phase }, { on := 4, ground := Ground.phase }, { on := 5, ground := Ground.phase }, { on := 6, ground := Ground.phase }, { on := 7, ground := Ground.phase }, { on := 8, ground := Ground.phase }, { on := 9, ground := Ground.textOnly Departure.appendInPlace }, { on := 10, ground := Ground.textOnly Departure.appendInPlace }], guard := none }) (v := ?v10) rfl (by kernel_rfl) (by kernel_rfl) (by kernel_rfl) (fun _ _ _ h => h) (Or.inl ⟨by rfl, ?hy10⟩) ?rest10
    case hy10 => (intro w; go_simp; try with_reducible rfl)
    try simp only [Act.put, List.setIfInBounds_toArray, List.set_cons_zero, List.set_cons_succ]
    refine wpAny_ready (rs := [10, 12]) (by kernel_rfl) (by simp) ?_
    refine AllReady.cons (o := { dst := none, op := Op.store 131 (Operand.tmp 12) (Operand.tmp 8), type := 0, pos := "ref.go:415", after := #[{ on := 9, ground := Ground.data }, { on := 5, ground := Ground.data }, { on := 8, ground := Ground.chain }, { on := 0, ground := Ground.phase }, { on := 1, ground := Ground.phase }, { on := 2, ground := Ground.phase }, { on := 3, ground := Ground.phase }, { on := 4, ground := Ground.phase }, { on := 5, ground := Ground.phase }, { on := 6, ground := Ground.phase }, { on := 7, ground := Ground.phase }, { on := 8, ground := Ground.phase }, { on := 12, ground := Ground.gcOnly Departure.appendInPlace }], guard := none }) rfl (fun K hK => ?_) (AllReady.cons (o := { dst := none, op := Op.store 126 (Operand.tmp 13) (Operand.tmp 11), type := 0, pos := "ref.go:415", after := #[{ on := 11, ground := Ground.data }, { on := 8, ground := Ground.data }, { on := 8, ground := Ground.chain }, { on := 10, ground := Ground.textOnly Departure.appendInPlace }, { on := 0, ground := Ground.phase }, { on := 1, ground := Ground.phase }, { on := 2, ground := Ground.phase }, { on := 3, ground := Ground.phase }, { on := 4, ground := Ground.phase }, { on := 5, ground := Ground.phase }, { on := 6, ground := Ground.phase }, { on := 7, ground := Ground.phase }, { on := 8, ground := Ground.phase }, { on := 9, ground := Ground.textOnly Departure.appendInPlace }, { on := 10, ground := Ground.textOnly Departure.appendInPlace }], guard := none }) rfl (fun K hK => ?_) AllReady.nil)
    · go_simp
      refine hK _ _ ?_
      clear hK K
      try simp only [Act.put, List.setIfInBounds_toArray, List.set_cons_zero, List.set_cons_succ]
      refine wpAny_ready (rs := [12]) (by kernel_rfl) (by simp) ?_
      refine AllReady.cons (o := { dst := none, op := Op.store 126 (Operand.tmp 13) (Operand.tmp 11), type := 0, pos := "ref.go:415", after := #[{ on := 11, ground := Ground.data }, { on := 8, ground := Ground.data }, { on := 8, ground := Ground.chain }, { on := 10, ground := Ground.textOnly Departure.appendInPlace }, { on := 0, ground := Ground.phase }, { on := 1, ground := Ground.phase }, { on := 2, ground := Ground.phase }, { on := 3, ground := Ground.phase }, { on := 4, ground := Ground.phase }, { on := 5, ground := Ground.phase }, { on := 6, ground := Ground.phase }, { on := 7, ground := Ground.phase }, { on := 8, ground := Ground.phase }, { on := 9, ground := Ground.textOnly Departure.appendInPlace }, { on := 10, ground := Ground.textOnly Departure.appendInPlace }], guard := none }) rfl (fun K hK => ?_) AllReady.nil
      go_simp
      refine hK _ _ ?_
      clear hK K
      try simp only [Act.put, List.setIfInBounds_toArray, List.set_cons_zero, List.set_cons_succ]
      refine wpAny_done (by kernel_rfl) ?_ _
      go_end0
      refine ⟨rfl, ?_⟩
      exact JL.push ex_stays encE_len hbx hrb hne.2.2.2.2 hw0 (us := [.int .i64 r.k, .int .i64 r.n, .string (bs r.t), .slice r.s.a r.s.n r.s.c]) HJ.out HR.out HFA.out HPW.out HXA.out HL.out HOA.out HR6.out HG6.out HAT.out (Nat.le_refl _) rfl rfl k3 (.inl rfl)
    · go_simp
      refine hK _ _ ?_
      clear hK K
      try simp only [Act.put, List.setIfInBounds_toArray, List.set_cons_zero, List.set_cons_succ]
      refine wpAny_ready (rs := [10]) (by kernel_rfl) (by simp) ?_
      refine AllReady.cons (o := { dst := none, op := Op.store 131 (Operand.tmp 12) (Operand.tmp 8), type := 0, pos := "ref.go:415", after := #[{ on := 9, ground := Ground.data }, { on := 5, ground := Ground.data }, { on := 8, ground := Ground.chain }, { on := 0, ground := Ground.phase }, { on := 1, ground := Ground.phase }, { on := 2, ground := Ground.phase }, { on := 3, ground := Ground.phase }, { on := 4, ground := Ground.phase }, { on := 5, ground := Ground.phase }, { on := 6, ground := Ground.phase }, { on := 7, ground := Ground.phase }, { on := 8, ground := Ground.phase }, { on := 12, ground := Ground.gcOnly Departure.appendInPlace }], guard := none }) rfl (fun K hK => ?_) AllReady.nil
      go_simp
      refine hK _ _ ?_
      clear hK K
      try simp only [Act.put, List.setIfInBounds_toArray, List.set_cons_zero, List.set_cons_succ]
      refine wpAny_done (by kernel_rfl) ?_ _
      go_end0
      refine ⟨rfl, ?_⟩
      exact JL.push ex_stays encE_len hbx hrb hne.2.2.2.2 hw0 (us := [.int .i64 r.k, .int .i64 r.n, .string (bs r.t), .slice r.s.a r.s.n r.s.c]) HJ.out HR.out HFA.out HPW.out HXA.out HL.out HOA.out HR6.out HG6.out HAT.out (Nat.le_refl _) rfl rfl k3 (.inr (.inl rfl))
end Go.Proofs.YtpemfikdmkmgbaaDoor
end
