/- Names, gathered one by one: a function's parameters. -/
import Derived.Test.YtbplfhjpajkcoabDoorExpr
namespace Go.Proofs.YtbplfhjpajkcoabDoor
open Go.RowKit

/-- A list in a variable of its own, gathered one by one. -/
structure JL {ρ α : Type} (E sz : Nat) (enc : ρ → List Value) (ok : World → (Nat → Prop) → ρ → α → Prop) (T : ByteArray) (mb rb : Nat) (w1 : World) (bl : Nat) (acc : List α) (p : Nat) (w : World) : Prop where
  ry : Ry T mb rb p w
  fr : Fr (fun k => k = rb ∨ k = bl) w1 w
  fz : w.frozen? ⟨bl, 0, none⟩ = false
  le : acc.length ≤ p
  row : ∃ v, w.cell? ⟨bl, 0, none⟩ = some v ∧ Row E sz enc ok w1.heap.size v acc w
/-- What stays, whatever is wrong. -/
def KL (rb : Nat) (w1 : World) (bl : Nat) (w : World) : Prop := Fr (fun k => k = rb ∨ k = bl) w1 w ∧ ∃ s : Slc, w.cell? ⟨bl, 0, none⟩ = some s.v
theorem JL.k {ρ α : Type} {E sz : Nat} {enc : ρ → List Value} {ok : World → (Nat → Prop) → ρ → α → Prop} {T : ByteArray} {mb rb : Nat} {w1 : World} {bl : Nat} {acc : List α} {p : Nat} {w : World} (h : JL E sz enc ok T mb rb w1 bl acc p w) : KL rb w1 bl w := by
  obtain ⟨v, hv, hr⟩ := h.row
  obtain ⟨a, c, rfl⟩ := hr.shape
  exact ⟨h.fr, ⟨a, _, c⟩, hv⟩
theorem KL.move {rb : Nat} {w1 : World} {bl : Nat} {w w' : World} (h : KL rb w1 bl w) (hf : Fr (fun k => k = rb) w w') (hb : bl < w1.heap.size) (hne : bl ≠ rb) : KL rb w1 bl w' := by
  obtain ⟨h1, s, h2⟩ := h
  have := h1.size
  exact ⟨h1.trans (hf.mono (fun _ _ e => .inl e)), s, (hf.cell (p := ⟨bl, 0, none⟩) (by show bl < _; omega) hne).trans h2⟩
theorem JL.move {ρ α : Type} {E sz : Nat} {enc : ρ → List Value} {ok : World → (Nat → Prop) → ρ → α → Prop} (hst : Stays ok) {T : ByteArray} {mb rb : Nat} {w1 : World} {bl : Nat} {acc : List α} {p p' : Nat} {w w' : World} (h : JL E sz enc ok T mb rb w1 bl acc p w)
    (hp : p ≤ p') (hY : Ry T mb rb p' w') (hf : Fr (fun k => k = rb) w w') (hb : bl < w1.heap.size) (hne : bl ≠ rb) (hrb : rb < w1.heap.size) : JL E sz enc ok T mb rb w1 bl acc p' w' := by
  have hs := h.fr.size
  obtain ⟨v, hv, hrow⟩ := h.row
  have hb' : bl < w.heap.size := by omega
  exact ⟨hY, h.fr.trans (hf.mono (fun _ _ e => .inl e)), (hf.frozen (p := ⟨bl, 0, none⟩) hb' hne).trans h.fz, Nat.le_trans h.le hp, v, (hf.cell (p := ⟨bl, 0, none⟩) hb' hne).trans hv, hrow.fr hst hf (fun k e => by subst e; omega)⟩
def NPost (T : ByteArray) (mb rb : Nat) (w : World) (res : R Bs) (e : Ending) (w' : World) : Prop :=
  ∃ v z, e = .returned (.tuple #[.string (bs v), .int .i64 z]) ∧ Fr (fun k => k = rb) w w' ∧ ((∃ l p, res = .ok v l ∧ z = 0 ∧ At T p l ∧ Ry T mb rb p w') ∨ (res = .bad z ∧ z ≠ 0))
theorem name_any (T : ByteArray) (mb rb p : Nat) (w : World) (h : Ry T mb rb p w) : Calls Tryd.prog 32 #[.pointer (some ⟨rb, 0, none⟩)] w (NPost T mb rb w (nameP (T.data.toList.drop p))) := by
  cases hn : nameP (T.data.toList.drop p) with
  | ok v l => exact (name_ok T mb rb p w h.rx h.le h.big hn).mono fun e w' ⟨p', e1, e2, e3, e4⟩ => ⟨v, 0, e1, e4, .inl ⟨l, p', rfl, rfl, e2, h.of e3.rd e2.1 e4⟩⟩
  | bad z => exact (name_bad T mb rb p w h.rx h.le h.big hn).mono fun e w' ⟨e1, e2, e3⟩ => ⟨[], z, e1, e3, .inr ⟨rfl, e2⟩⟩
theorem size9 : (Tryd.prog.info? 9).map (fun i => (i.zero, i.size, i.bytes)) = some (some (.string ⟨#[]⟩), 1, 16) := by kernel_rfl
theorem new1 (w : World) (a : Value) (t : TypeId) {g : Nat} (hg : g = w.heap.size) : ∀ j u, ([a] : List Value)[j]? = some u → (w.alloc (.cells #[a] t)).cell? ((⟨g, 0, none⟩ : Addr).add j) = some u := by
  subst hg
  exact World.news_of_block (cs := #[a]) (t := t) (fr := (0, 0)) (heap_new _ _)
theorem clN_fin {T : ByteArray} {mb rb : Nat} {w1 : World} {bl : Nat} {acc : List Bs} {p : Nat} {w w2 w6 : World} {z : Int} {v : Bs} {va : Option Addr} {vc g cp H : Nat} {A : Obj} {res : R Bs}
    (hless : ∀ x l, res = .ok x l → l.length < (T.data.toList.drop p).length) (hbl : bl < w1.heap.size) (h1 : bl ≠ rb ∧ bl ≠ mb ∧ 2 ≤ bl) (hmb : mb < w1.heap.size) (hrb : rb < w1.heap.size) (hJ : JL 9 1 encN NmOk T mb rb w1 bl acc p w)
    (hrow : Row 9 1 encN NmOk w1.heap.size (.slice va acc.length vc) acc w) (hF2 : Fr (fun k => k = rb) w w2)
    (hres : (∃ l p', res = .ok v l ∧ z = 0 ∧ At T p' l ∧ Ry T mb rb p' w2) ∨ (res = .bad z ∧ z ≠ 0))
    (hg6 : (w2.alloc A).grownBy w6 (Value.slice va acc.length vc).ownBlock) {xs : List Value} (hr6 : w6.ownsRow w1.heap.size 9 1 (.slice (some ⟨g, 0, none⟩) (acc.length + 1) cp) (acc.length + 1) (xs ++ [.string (bs v)]))
    (hat : (Value.slice va acc.length vc).ownBlock = some g ∨ g = H) (hH : H = w2.heap.size + 1) (hxs : w2.ownsRow w1.heap.size 9 1 (.slice va acc.length vc) acc.length xs) (k1 : w6.cell? ⟨bl, 0, none⟩ = some (.slice va acc.length vc)) (k2 : w6.frozen? ⟨bl, 0, none⟩ = false) :
    KL rb w1 bl (w6.setCell ⟨bl, 0, none⟩ (.slice (some ⟨g, 0, none⟩) (acc.length + 1) cp)) ∧
      ((∃ x l p', res = .ok x l ∧ z = 0 ∧ At T p' l ∧ JL 9 1 encN NmOk T mb rb w1 bl (acc ++ [x]) p' (w6.setCell ⟨bl, 0, none⟩ (.slice (some ⟨g, 0, none⟩) (acc.length + 1) cp))) ∨ (res = .bad z ∧ z ≠ 0)) := by
  have hownlt : ∀ k, (Value.slice va acc.length vc).ownBlock = some k → w1.heap.size ≤ k ∧ k < w2.heap.size := hxs.lt
  have hsz := hJ.fr.size
  have hsz2 := hF2.size
  have hne : g ≠ bl := by
    rcases hat with h | h
    · have := (hownlt _ h).1; omega
    · omega
  have F9 : Fr (fun k => k = bl ∨ (Value.slice va acc.length vc).ownBlock = some k) w2 (w6.setCell ⟨bl, 0, none⟩ (.slice (some ⟨g, 0, none⟩) (acc.length + 1) cp)) :=
    Fr.setCell (p := ⟨bl, 0, none⟩) (((Fr.refl _ w2).alloc A).grown hg6 (fun k hk => .inl (.inr hk))) (.inl (.inl rfl)) _
  have c3 : (w6.setCell ⟨bl, 0, none⟩ (.slice (some ⟨g, 0, none⟩) (acc.length + 1) cp)).cell? ⟨bl, 0, none⟩ = some (.slice (some ⟨g, 0, none⟩) (acc.length + 1) cp) := World.cell?_setCell_same _ _ _ k1
  have cf : (w6.setCell ⟨bl, 0, none⟩ (.slice (some ⟨g, 0, none⟩) (acc.length + 1) cp)).frozen? ⟨bl, 0, none⟩ = false := by rw [World.frozen?_setCell]; exact k2
  have hr9 : (w6.setCell ⟨bl, 0, none⟩ (.slice (some ⟨g, 0, none⟩) (acc.length + 1) cp)).ownsRow w1.heap.size 9 1 (.slice (some ⟨g, 0, none⟩) (acc.length + 1) cp) (acc.length + 1) (xs ++ [.string (bs v)]) :=
    owns_fr hr6 (Fr.setCell (Fr.refl (fun k => k = bl) w6) (p := ⟨bl, 0, none⟩) (.inl rfl) _) (fun k hk e => by
      have : g = k := by simpa [Value.ownBlock] using hk
      omega)
  generalize w6.setCell ⟨bl, 0, none⟩ (.slice (some ⟨g, 0, none⟩) (acc.length + 1) cp) = w9 at *
  have hfr9 : Fr (fun k => k = rb ∨ k = bl) w1 w9 := (hJ.fr.trans (hF2.mono (fun k _ e => .inl e))).then F9 (fun j hj e => by
    rcases e with e | e
    · exact .inr e
    · have := (hownlt j e).1; omega)
  refine ⟨⟨hfr9, ⟨_, _, _⟩, c3⟩, ?_⟩
  rcases hres with ⟨l, p1, e1, e2, e3, e4⟩ | hres
  · refine .inl ⟨v, l, p1, e1, e2, e3, e4.frS F9 ?_ ?_ ?_ ?_, hfr9, cf, ?_, _, c3, ?_⟩
    · rintro (e | e)
      · omega
      · have := (hownlt _ e).1; omega
    · rintro (e | e)
      · omega
      · have := (hownlt _ e).1; omega
    · rintro (e | e)
      · omega
      · have := (hownlt _ e).1; omega
    · rintro (e | e)
      · omega
      · have := (hownlt _ e).1; omega
    · have := hJ.le
      have := e3.less' (hless _ _ e1)
      simp
      omega
    · refine hrow.push nm_stays hF2 (fun k e => by omega) (Nat.le_refl _) (r := v) rfl F9 (fun k e => ?_) (fun rs hrs => ?_) ?_
      · rcases e with e | e
        · exact .inl (by omega)
        · exact .inr e
      · have h2 : w2.ownsRow w1.heap.size 9 1 (.slice va acc.length vc) acc.length (rs.flatMap encN) := owns_fr hrs hF2 (fun k hk e => by have := (hrs.lt k hk).1; omega)
        have : rs.flatMap encN = xs := owns_same h2 hxs
        rw [this]
        exact hr9
      · rcases hat with e | e
        · exact .inl e.symm
        · exact .inr ⟨g, rfl, by omega⟩
  · exact .inr hres
set_option maxHeartbeats 1000000 in
set_option maxRecDepth 20000 in
theorem clN (T : ByteArray) (mb rb : Nat) (w1 : World) (br bl : Nat) (acc : List Bs) (p : Nat) (w : World)
    (hcr : w1.cell? ⟨br, 0, none⟩ = some (.pointer (some ⟨rb, 0, none⟩))) (hbl : bl < w1.heap.size)
    (h1 : br ≠ rb ∧ br ≠ bl ∧ bl ≠ rb ∧ bl ≠ mb ∧ 2 ≤ bl) (hmb : mb < w1.heap.size) (hrb : rb < w1.heap.size) (hJ : JL 9 1 encN NmOk T mb rb w1 bl acc p w) :
    Calls Tryd.prog 49 #[.pointer (some ⟨br, 0, none⟩), .pointer (some ⟨bl, 0, none⟩)] w (OPost T (KL rb w1 bl) (JL 9 1 encN NmOk T mb rb w1 bl) acc (nameP (T.data.toList.drop p))) := by
  obtain ⟨v0, hx3, hrow⟩ := hJ.row
  obtain ⟨va, vc, rfl⟩ := hrow.shape
  have hlbr := lt_of_cell hcr
  have a1 : w.cell? ⟨br, 0, none⟩ = some (.pointer (some ⟨rb, 0, none⟩)) := (hJ.fr.cell (p := ⟨br, 0, none⟩) hlbr (by show ¬ (br = rb ∨ br = bl); omega)).trans hcr
  have hsz1 := hJ.fr.size
  have l1 : br < w.heap.size := by have : br < w1.heap.size := hlbr; omega
  have l3 : bl < w.heap.size := by omega
  have HC := hide (name_any T mb rb p w hJ.ry)
  have HJ := hide hJ
  have HR := hide hrow
  have hacc : acc.length ≤ 1500 := by have := hJ.le; have := hJ.ry.le; have := hJ.ry.big; omega
  have bf := hJ.fz
  clear hJ hcr
  obtain ⟨rs, hown, _, _⟩ := hrow
  have OF := hide (owns_far hown (b := bl) hbl)
  have HO := hide hown
  clear hown
  obtain ⟨j0, hj0, hy0, hy1, hy2⟩ := info_parts size9
  go_enter Tryd.func49, Tryd.ntmps49
  go_wp2_with (first
    | (go_at_call 32; refine HC.out.mono ?_; rintro e w2 ⟨v, z, rfl, hF2, hres⟩; have b3 : w2.cell? ⟨bl, 0, none⟩ = some (.slice va acc.length vc) := (hF2.cell (p := ⟨bl, 0, none⟩) l3 (by show ¬ bl = rb; omega)).trans hx3; have bz : w2.frozen? ⟨bl, 0, none⟩ = false := (hF2.frozen (p := ⟨bl, 0, none⟩) l3 (by show ¬ bl = rb; omega)).trans bf; have m3 : bl < w2.heap.size := (Nat.lt_of_lt_of_le l3 hF2.size); have hown2 := (owns_fr HO.out hF2 (fun k hk e => by have := (HO.out.lt k hk).1; omega)); have hw2 : w1.heap.size ≤ w2.heap.size := (Nat.le_trans hsz1 hF2.size); have HF2 := hide hF2; have HRES := hide hres; clear hF2 hres)
    | (at_builtin; go_must (refine wpList_append_lies _ rfl _ _ 32 rfl w1.heap.size 9 j0 _ 1 16 Tryd.underlying32 hj0 hy0 hy1 hy2 rfl (by decide) (.slice va acc.length vc) acc.length _ rfl (hown2.alloc _) ⟨w2.heap.size, 0, none⟩ 1 1 [.string (bs v)] rfl rfl (new1 _ _ _ rfl) (by simp [Value.oneCell']) (by decide) (by unfold maxLen; omega) (by omega) (by simp; omega) _ rfl ?_); intro g cp w6 hr6 hg6 hat6 hlt6; have k1 : w6.cell? ⟨bl, 0, none⟩ = some (.slice va acc.length vc) := (hg6.cell_far ⟨bl, 0, none⟩ (by simp; omega) OF.out).trans ((World.cell?_alloc_past _ _ _ m3).trans b3); have k2 : w6.frozen? ⟨bl, 0, none⟩ = false := (hg6.frozen_far ⟨bl, 0, none⟩ (by simp; omega) OF.out).trans ((World.frozen?_alloc_past _ _ _ m3).trans bz); have k6 : bl < w6.heap.size := (by have := hg6.size; simp at this; omega)))
  go_ret
  refine ⟨z, rfl, ?_⟩
  exact clN_fin (fun x l e => name_less _ _ _ e) hbl ⟨h1.2.2.1, h1.2.2.2.1, h1.2.2.2.2⟩ hmb hrb HJ.out HR.out HF2.out HRES.out hg6 hr6 hat6 (by simp) hown2 k1 k2
end Go.Proofs.YtbplfhjpajkcoabDoor
