/- A statement: what it needs. -/
import Derived.Test.YtbplfhjpajkcoabDoorRest
namespace Go.Proofs.YtbplfhjpajkcoabDoor
open Go.RowKit

structure JT (T : ByteArray) (mb rb : Nat) (wL : World) (bst : Nat) (s : Int) (tt : Bs) (acc : List Ex) (p : Nat) (w : World) : Prop where
  ry : Ry T mb rb p w
  fr : Fr (fun k => k = rb ∨ k = bst) wL w
  k : w.cell? ⟨bst, 0, none⟩ = some (.int .i64 s)
  t : w.cell? ⟨bst, 1, none⟩ = some (.string (bs tt))
  x : w.cell? ⟨bst, 3, none⟩ = some (.slice none 0 0)
  y : w.cell? ⟨bst, 4, none⟩ = some (.slice none 0 0)
  fa : w.frozen? ⟨bst, 2, none⟩ = false
  fx : w.frozen? ⟨bst, 3, none⟩ = false
  fy : w.frozen? ⟨bst, 4, none⟩ = false
  le : acc.length ≤ p
  row : ∃ v, w.cell? ⟨bst, 2, none⟩ = some v ∧ Row 90 4 encE ExOk wL.heap.size v acc w
/-- The block of the answer. -/
structure B5 (B : Nat) (w : World) : Prop where
  c : ∀ j, w.cell? ⟨B, j, none⟩ = z43[j]?
  f : ∀ j, w.frozen? ⟨B, j, none⟩ = false
  lt : B < w.heap.size
theorem B5.fr {B : Nat} {w w1 : World} {S : Nat → Prop} (h : B5 B w) (hf : Fr S w w1) (hs : ¬ S B) : B5 B w1 :=
  ⟨fun j => (hf.cell (p := ⟨B, j, none⟩) h.lt hs).trans (h.c j), fun j => (hf.frozen (p := ⟨B, j, none⟩) h.lt hs).trans (h.f j), Nat.lt_of_lt_of_le h.lt hf.size⟩
theorem B5.made (w : World) : B5 w.heap.size (w.alloc (.cells z43 43)) := ⟨fun j => World.cell?_alloc_new _ _ _ _, fun j => World.frozen?_alloc_new _ _ _ _, by simp⟩
theorem B5.cells {B : Nat} {w : World} (h : B5 B w) : w.cell? ⟨B, 0, none⟩ = some (.int .i64 0) ∧ w.cell? ⟨B, 1, none⟩ = some (.string ⟨#[]⟩) ∧ w.cell? ⟨B, 2, none⟩ = some (.slice none 0 0) ∧ w.cell? ⟨B, 3, none⟩ = some (.slice none 0 0) ∧ w.cell? ⟨B, 4, none⟩ = some (.slice none 0 0) ∧
    w.frozen? ⟨B, 0, none⟩ = false ∧ w.frozen? ⟨B, 1, none⟩ = false ∧ w.frozen? ⟨B, 2, none⟩ = false ∧ w.frozen? ⟨B, 3, none⟩ = false ∧ w.frozen? ⟨B, 4, none⟩ = false ∧ B < w.heap.size :=
  ⟨h.c 0, h.c 1, h.c 2, h.c 3, h.c 4, h.f 0, h.f 1, h.f 2, h.f 3, h.f 4, h.lt⟩
abbrev put5 (w : World) (b : Nat) (u0 u1 u2 u3 u4 : Value) : World := ((((w.setCell ⟨b, 0, none⟩ u0).setCell ⟨b, 1, none⟩ u1).setCell ⟨b, 2, none⟩ u2).setCell ⟨b, 3, none⟩ u3).setCell ⟨b, 4, none⟩ u4
theorem put5_fr (w : World) (b : Nat) (u0 u1 u2 u3 u4 : Value) : Fr (fun k => k = b) w (put5 w b u0 u1 u2 u3 u4) :=
  (((((Fr.refl (fun k => k = b) w).setCell (p := ⟨b, 0, none⟩) (.inl rfl) _).setCell (p := ⟨b, 1, none⟩) (.inl rfl) _).setCell (p := ⟨b, 2, none⟩) (.inl rfl) _).setCell (p := ⟨b, 3, none⟩) (.inl rfl) _).setCell (p := ⟨b, 4, none⟩) (.inl rfl) _
theorem st_bad {T : ByteArray} {mb rb : Nat} {w w3 : World} {res : R St} (r : RawS) {z : Int} (hres : res = .bad z) (hz : z ≠ 0) (hF : Fr (fun k => k = rb) w w3) (u0 u1 u2 u3 u4 : Value) :
    SPost T mb rb w res (.returned (.tuple #[sv r, .int .i64 z])) (put5 w3 w.heap.size u0 u1 u2 u3 u4) :=
  ⟨r, z, rfl, hF.then (put5_fr ..) (fun j hj e => by omega), .inr ⟨hres, hz⟩⟩
theorem st_ok {T : ByteArray} {mb rb : Nat} {w wL wr w4 : World} {bst : Nat} {s : Int} {tt : Bs} {acc : List Ex} {p p' : Nat} {va : Option Addr} {vc : Nat} {x y : Slc} {xy : List St × List St} {l : Bs} {res : R St} (hres : res = .ok (.mk s tt acc xy.1 xy.2) l)
    (hF : Fr (fun k => k = rb) w wL) (hbs : w.heap.size < bst) (hbL : bst < wL.heap.size) (hrb : rb < w.heap.size) (hmb : mb < w.heap.size) (hJ : JT T mb rb wL bst s tt acc p wr) (hrow : Row 90 4 encE ExOk wL.heap.size (.slice va acc.length vc) acc wr)
    (hF4 : Fr (fun k => k = rb ∨ k = bst) wr w4) (hat : At T p' l) (hY : Ry T mb rb p' w4) (hx : LsOk wr w4 x xy.1) (hy : LsOk wr w4 y xy.2) (u0 u1 u2 u3 u4 : Value) :
    SPost T mb rb w res (.returned (.tuple #[sv ⟨s, tt, ⟨va, acc.length, vc⟩, x, y⟩, .int .i64 0])) (put5 w4 w.heap.size u0 u1 u2 u3 u4) := by
  have h2 := hY.two
  have hszL := hJ.fr.size
  have hf9 := put5_fr w4 w.heap.size u0 u1 u2 u3 u4
  obtain ⟨rs, k1, k2, k3, k4⟩ := hrow.done ex_stays encE_len (B := wL.heap.size) (Nat.le_refl _)
  have s4 := hF4.size
  have s9 := hf9.size
  refine ⟨_, 0, rfl, ((hF.then hJ.fr (fun j hj e => ?_)).then hF4 (fun j hj e => ?_)).then hf9 (fun j hj e => by omega), .inl ⟨_, l, p', hres, rfl, hat, hY.frS hf9 (by omega) (by omega) (by omega) (by omega), ?_⟩⟩
  · rcases e with e | e
    · exact e
    · omega
  · rcases e with e | e
    · exact e
    · omega
  · obtain ⟨rx, x1, x2, x3, x4⟩ := (hx.move hf9 (fun k e => by omega)).since (w0 := w) (by omega)
    obtain ⟨ry, y1, y2, y3, y4⟩ := (hy.move hf9 (fun k e => by omega)).since (w0 := w) (by omega)
    refine .mk s tt _ x y rs rx ry acc xy.1 xy.2 ?_ (fun b hb => ?_) ⟨k3, fun i r z h1 h2 => ?_⟩ x1 x2 x3 x4 y1 y2 y3 y4
    · exact (k1.keep hF4 (P := fun k => wL.heap.size ≤ k ∧ k < wr.heap.size) k2 (fun k hk e => by rcases e with e | e <;> omega)).keep hf9 (P := fun k => wL.heap.size ≤ k ∧ k < wr.heap.size) k2 (fun k hk e => by omega)
    · have := k2 b hb
      exact ⟨by omega, by omega⟩
    · exact ex_stays _ _ _ _ _ r z (ex_stays _ _ _ _ (fun k => wL.heap.size ≤ k ∧ k < wr.heap.size) r z (k4 i r z h1 h2) hF4 (fun k hk e => by rcases e with e | e <;> omega) (fun k hk => hk)) hf9 (fun k hk e => by omega) (fun k hk => ⟨by omega, by omega⟩)
theorem stA_fin {T : ByteArray} {mb rb : Nat} {wL : World} {bst : Nat} {s : Int} {tt : Bs} {acc : List Ex} {p p1 : Nat} {x : Ex} {w w2 w6 w9 : World} {r : RawE} {va : Option Addr} {vc g cp H : Nat} {A Z : Obj}
    (hp : p < p1) (hbx : bst < wL.heap.size) (h1 : bst ≠ rb ∧ bst ≠ mb ∧ 2 ≤ bst) (hmb : mb < wL.heap.size) (hrb : rb < wL.heap.size) (hJ : JT T mb rb wL bst s tt acc p w)
    (hrow : Row 90 4 encE ExOk wL.heap.size (.slice va acc.length vc) acc w) (hF2 : Fr (fun k => k = rb) w w2) (e4 : Ry T mb rb p1 w2) (e5 : ExOk w2 (fun k => w.heap.size ≤ k ∧ k < w2.heap.size) r x)
    (hg6 : ((w2.alloc A).alloc Z).drew.grownBy w6 (Value.slice va acc.length vc).ownBlock) {xs : List Value} (hr6 : w6.ownsRow wL.heap.size 90 4 (.slice (some ⟨g, 0, none⟩) (acc.length + 1) cp) (acc.length + 1) (xs ++ [.int .i64 0, .int .i64 0, .string ⟨#[]⟩, .slice none 0 0]))
    (hat : (Value.slice va acc.length vc).ownBlock = some g ∨ g = H) (hH : H = w2.heap.size + 2) (hxs : w2.ownsRow wL.heap.size 90 4 (.slice va acc.length vc) acc.length xs) (hne : ¬ g = bst) (hk6 : w6.cell? ⟨bst, 2, none⟩ = some (.slice va acc.length vc))
    (h9 : w9 = ((((w6.setCell ⟨g, acc.length * 4, none⟩ (.int .i64 r.k)).setCell ⟨g, acc.length * 4 + 1, none⟩ (.int .i64 r.n)).setCell ⟨g, acc.length * 4 + 2, none⟩ (.string (bs r.t))).setCell ⟨g, acc.length * 4 + 3, none⟩ (.slice r.s.a r.s.n r.s.c)).setCell ⟨bst, 2, none⟩ (.slice (some ⟨g, 0, none⟩) (acc.length + 1) cp) ∨
      w9 = ((((w6.setCell ⟨bst, 2, none⟩ (.slice (some ⟨g, 0, none⟩) (acc.length + 1) cp)).setCell ⟨g, acc.length * 4, none⟩ (.int .i64 r.k)).setCell ⟨g, acc.length * 4 + 1, none⟩ (.int .i64 r.n)).setCell ⟨g, acc.length * 4 + 2, none⟩ (.string (bs r.t))).setCell ⟨g, acc.length * 4 + 3, none⟩ (.slice r.s.a r.s.n r.s.c)) :
    JT T mb rb wL bst s tt (acc ++ [x]) p1 w9 := by
  have hA := after4 hg6 hr6 hat hH hxs.1 hne h9
  obtain ⟨c3, co, cf⟩ := kept4 hne hk6 h9
  have hsz := hJ.fr.size
  have hsz2 := hF2.size
  have hownlt : ∀ k, (Value.slice va acc.length vc).ownBlock = some k → wL.heap.size ≤ k ∧ k < w2.heap.size := hxs.lt
  have hfr9 : Fr (fun k => k = rb ∨ k = bst) wL w9 := (hJ.fr.trans (hF2.mono (fun k _ e => .inl e))).then hA.fr (fun j hj e => by
    rcases e with e | e
    · exact .inr e
    · have := (hownlt j e).1; omega)
  have hb : bst < w2.heap.size := by omega
  have hfar : some bst ≠ (Value.slice va acc.length vc).ownBlock := owns_far hxs hbx
  have old : ∀ j, j ≠ 2 → w9.cell? ⟨bst, j, none⟩ = w.cell? ⟨bst, j, none⟩ := fun j hj => (co j hj).trans ((hg6.cell_far ⟨bst, j, none⟩ (by show bst < ((w2.alloc A).alloc Z).heap.size; simp; omega) hfar).trans ((al2_old hb).trans (hF2.cell (p := ⟨bst, j, none⟩) (by show bst < _; omega) h1.1)))
  have oldf : ∀ j, w9.frozen? ⟨bst, j, none⟩ = w.frozen? ⟨bst, j, none⟩ := fun j => (cf j).trans ((hg6.frozen_far ⟨bst, j, none⟩ (by show bst < ((w2.alloc A).alloc Z).heap.size; simp; omega) hfar).trans ((al2_oldf hb).trans (hF2.frozen (p := ⟨bst, j, none⟩) (by show bst < _; omega) h1.1)))
  refine ⟨e4.frS hA.fr ?_ ?_ ?_ ?_, hfr9, (old 0 (by decide)).trans hJ.k, (old 1 (by decide)).trans hJ.t, (old 3 (by decide)).trans hJ.x, (old 4 (by decide)).trans hJ.y, (oldf 2).trans hJ.fa, (oldf 3).trans hJ.fx, (oldf 4).trans hJ.fy, ?_, _, c3, ?_⟩
  · rintro (e | e)
    · omega
    · have := (hownlt _ e).1; omega
  · rintro (e | e)
    · omega
    · have := (hownlt _ e).1; omega
  · rintro (e | e)
    · omega
    · have := (hownlt _ e).1; omega
  · rintro (e | e)
    · omega
    · have := (hownlt _ e).1; omega
  · have := hJ.le
    simp
    omega
  · refine hrow.push ex_stays hF2 (fun k e => by omega) (Nat.le_refl _) e5 hA.fr (fun k e => ?_) (fun rs hrs => ?_) ?_
    · rcases e with e | e
      · exact .inl (by omega)
      · exact .inr e
    · have h2 : w2.ownsRow wL.heap.size 90 4 (.slice va acc.length vc) acc.length (rs.flatMap encE) := owns_fr hrs hF2 (fun k hk e => by have := (hrs.lt k hk).1; omega)
      have : rs.flatMap encE = xs := owns_same h2 hxs
      rw [this]
      exact hA.row
    · rcases hA.at_ with e | e
      · exact .inl e.symm
      · exact .inr ⟨g, rfl, e⟩
theorem form_s (v : Bs) (h : (formOf v).s ≠ 0) : 1 ≤ (formOf v).n ∧ (formOf v).n ≤ 2 := by
  unfold formOf at *
  cases hf : formsL.find? (fun p => p.1 == v) with
  | none => rw [hf] at h; exact absurd rfl h
  | some p =>
    rw [hf] at h
    have hm := List.mem_of_find?_eq_some hf
    have : ∀ p ∈ formsL, p.2.s ≠ 0 → 1 ≤ p.2.n ∧ p.2.n ≤ 2 := by decide
    exact this p hm h
end Go.Proofs.YtbplfhjpajkcoabDoor
