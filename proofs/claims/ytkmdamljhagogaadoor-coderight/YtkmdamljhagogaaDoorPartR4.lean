/- Rep; Orders; Push. -/
import Derived.Lib.AppendIntMem
import Derived.Shelf.Strconv.Itoa3
import Derived.OrdersHeld
import Derived.RegionTactic
import Derived.WalkKit
import Derived.Test.YtkmdamljhagogaaDoorPartR2
import Derived.Test.YtkmdamljhagogaaDoorPartR3
section
/- Expressions, statements and functions as the machine holds them. -/
namespace Go.Proofs.YtkmdamljhagogaaDoor
open Go.RowKit

structure Slc where
  a : Option Addr
  n : Nat
  c : Nat
abbrev Slc.v (s : Slc) : Value := .slice s.a s.n s.c
abbrev nilS : Slc := ⟨none, 0, 0⟩
structure RawE where
  k : Int
  n : Int
  t : Bs
  s : Slc
structure RawS where
  k : Int
  t : Bs
  a : Slc
  x : Slc
  y : Slc
structure RawF where
  t : Bs
  p : Slc
  b : Slc
abbrev ev (r : RawE) : Value := .agg #[.int .i64 r.k, .int .i64 r.n, .string (bs r.t), .slice r.s.a r.s.n r.s.c]
abbrev sv (r : RawS) : Value := .agg #[.int .i64 r.k, .string (bs r.t), .slice r.a.a r.a.n r.a.c, .slice r.x.a r.x.n r.x.c, .slice r.y.a r.y.n r.y.c]
abbrev gv (r : RawF) : Value := .agg #[.string (bs r.t), .slice r.p.a r.p.n r.p.c, .slice r.b.a r.b.n r.b.c]
def encE (r : RawE) : List Value := [.int .i64 r.k, .int .i64 r.n, .string (bs r.t), .slice r.s.a r.s.n r.s.c]
def encS (r : RawS) : List Value := [.int .i64 r.k, .string (bs r.t), .slice r.a.a r.a.n r.a.c, .slice r.x.a r.x.n r.x.c, .slice r.y.a r.y.n r.y.c]
def encG (r : RawF) : List Value := [.string (bs r.t), .slice r.p.a r.p.n r.p.c, .slice r.b.a r.b.n r.b.c]
def encN (r : Bs) : List Value := [.string (bs r)]

/-- Lists of things that are so, each by each. -/
def Each {ρ α : Type} (ok : ρ → α → Prop) (rs : List ρ) (l : List α) : Prop := rs.length = l.length ∧ ∀ (i : Nat) (r : ρ) (x : α), rs[i]? = some r → l[i]? = some x → ok r x
inductive ExOk (w : World) (P : Nat → Prop) : RawE → Ex → Prop
  | mk (k n : Int) (t : Bs) (s : Slc) (rs : List RawE) (l : List Ex) (hs : Sl encE 4 w s.v rs) (hP : ∀ b, s.v.ownBlock = some b → P b) (hl : rs.length = l.length)
      (h : ∀ (i : Nat) (r : RawE) (x : Ex), rs[i]? = some r → l[i]? = some x → ExOk w P r x) : ExOk w P ⟨k, n, t, s⟩ (.mk k n t l)
inductive StOk (w : World) (P : Nat → Prop) : RawS → St → Prop
  | mk (k : Int) (t : Bs) (a x y : Slc) (ra : List RawE) (rx ry : List RawS) (la : List Ex) (lx ly : List St)
      (ha : Sl encE 4 w a.v ra) (hPa : ∀ b, a.v.ownBlock = some b → P b) (ha2 : Each (ExOk w P) ra la)
      (hx : Sl encS 5 w x.v rx) (hPx : ∀ b, x.v.ownBlock = some b → P b) (hx1 : rx.length = lx.length) (hx2 : ∀ (i : Nat) (r : RawS) (z : St), rx[i]? = some r → lx[i]? = some z → StOk w P r z)
      (hy : Sl encS 5 w y.v ry) (hPy : ∀ b, y.v.ownBlock = some b → P b) (hy1 : ry.length = ly.length) (hy2 : ∀ (i : Nat) (r : RawS) (z : St), ry[i]? = some r → ly[i]? = some z → StOk w P r z) :
      StOk w P ⟨k, t, a, x, y⟩ (.mk k t la lx ly)
structure FnOk (w : World) (P : Nat → Prop) (r : RawF) (f : Fn) : Prop where
  t : r.t = f.t
  p : Sl encN 1 w r.p.v f.p
  pP : ∀ b, r.p.v.ownBlock = some b → P b
  b : ∃ rs, Sl encS 5 w r.b.v rs ∧ Each (StOk w P) rs f.b
  bP : ∀ b, r.b.v.ownBlock = some b → P b
def NmOk (_ : World) (_ : Nat → Prop) (r : Bs) (x : Bs) : Prop := r = x

theorem Sl.keep {α : Type} {enc : α → List Value} {sz : Nat} {w w' : World} {v : Value} {l : List α} {S P : Nat → Prop} (h : Sl enc sz w v l) (hf : Fr S w w') (hP : ∀ b, v.ownBlock = some b → P b) (hs : ∀ k, P k → ¬ S k) : Sl enc sz w' v l :=
  h.fr hf fun k hk => by
    obtain ⟨ao, n, c, rfl, rfl⟩ := hk
    exact hs _ (hP _ rfl)
/-- What is so stays so where its blocks do; and of more blocks. -/
def Stays {ρ α : Type} (ok : World → (Nat → Prop) → ρ → α → Prop) : Prop := ∀ (w w' : World) (S P P' : Nat → Prop) (r : ρ) (x : α), ok w P r x → Fr S w w' → (∀ k, P k → ¬ S k) → (∀ k, P k → P' k) → ok w' P' r x
theorem ex_stays : Stays ExOk := by
  intro w w' S P P' r x h hf hs hm
  induction h with
  | mk k n t s rs l hsl hP hl _ ih => exact .mk k n t s rs l (hsl.keep hf hP hs) (fun b hb => hm _ (hP b hb)) hl ih
theorem st_stays : Stays StOk := by
  intro w w' S P P' r x h hf hs hm
  induction h with
  | mk k t a x y ra rx ry la lx ly ha hPa ha2 hx hPx hx1 _ hy hPy hy1 _ ihx ihy =>
    exact .mk k t a x y ra rx ry la lx ly (ha.keep hf hPa hs) (fun b hb => hm _ (hPa b hb)) ⟨ha2.1, fun i r z h1 h2 => ex_stays w w' S P P' r z (ha2.2 i r z h1 h2) hf hs hm⟩ (hx.keep hf hPx hs) (fun b hb => hm _ (hPx b hb)) hx1 ihx
      (hy.keep hf hPy hs) (fun b hb => hm _ (hPy b hb)) hy1 ihy
theorem fn_stays : Stays FnOk := by
  intro w w' S P P' r x h hf hs hm
  obtain ⟨rs, h1, h2⟩ := h.b
  exact ⟨h.t, h.p.keep hf h.pP hs, fun b hb => hm _ (h.pP b hb), ⟨rs, h1.keep hf h.bP hs, h2.1, fun i r z k1 k2 => st_stays w w' S P P' r z (h2.2 i r z k1 k2) hf hs hm⟩, fun b hb => hm _ (h.bP b hb)⟩
theorem nm_stays : Stays NmOk := fun _ _ _ _ _ _ _ h _ _ _ => h

theorem heap_new (w : World) (O : Obj) : (w.alloc O).heap[w.heap.size]? = some O := by unfold World.alloc; simp
theorem owns_fr {w w' : World} {base e sz : Nat} {v : Value} {n : Nat} {xs : List Value} {S : Nat → Prop} (h : w.ownsRow base e sz v n xs) (hf : Fr S w w') (hs : ∀ k, v.ownBlock = some k → ¬ S k) : w'.ownsRow base e sz v n xs := by
  refine ⟨h.1, ?_⟩
  rcases h.2 with h0 | ⟨g, cap, cur, rfl, hb, hg, hr⟩
  · exact .inl h0
  · refine .inr ⟨g, cap, cur, rfl, hb, ?_, hr⟩
    rw [hf.block g ((h.lt g rfl).2) (hs g rfl)]
    exact hg
theorem owns_far {w : World} {base e sz : Nat} {v : Value} {n : Nat} {xs : List Value} (h : w.ownsRow base e sz v n xs) {b : Nat} (hb : b < base) : some b ≠ v.ownBlock := by
  intro e
  have := (h.lt b e.symm).1
  omega

/-- The slice v, whose row is the call's own, holds things that are so; none of theirs lies in v's own block. -/
def Row {ρ α : Type} (E sz : Nat) (enc : ρ → List Value) (ok : World → (Nat → Prop) → ρ → α → Prop) (base : Nat) (v : Value) (l : List α) (w : World) : Prop :=
  ∃ rs : List ρ, w.ownsRow base E sz v l.length (rs.flatMap enc) ∧ base ≤ w.heap.size ∧ Each (ok w (fun k => base ≤ k ∧ k < w.heap.size ∧ v.ownBlock ≠ some k)) rs l
section
variable {ρ α : Type} {E sz : Nat} {enc : ρ → List Value} {ok : World → (Nat → Prop) → ρ → α → Prop} {base : Nat}
theorem Row.nil (w : World) (hb : base ≤ w.heap.size) : Row E sz enc ok base (.slice none 0 0) [] w :=
  ⟨[], World.ownsRow_nil _ _ _ _, hb, rfl, fun i r x h => by simp at h⟩
theorem Row.fr (hst : Stays ok) {v : Value} {l : List α} {w w' : World} {S : Nat → Prop} (h : Row E sz enc ok base v l w) (hf : Fr S w w') (hs : ∀ k, S k → k < base) : Row E sz enc ok base v l w' := by
  obtain ⟨rs, h1, h2, h3, h4⟩ := h
  refine ⟨rs, owns_fr h1 hf (fun k hk e => by have := (h1.lt k hk).1; have := hs k e; omega), Nat.le_trans h2 hf.size, h3, fun i r x k1 k2 => hst w w' S _ _ r x (h4 i r x k1 k2) hf (fun k hk e => ?_) (fun k hk => ⟨hk.1, Nat.lt_of_lt_of_le hk.2.1 hf.size, hk.2.2⟩)⟩
  have := hs k e
  have := hk.1
  omega
theorem Row.shape {v : Value} {l : List α} {w : World} (h : Row E sz enc ok base v l w) : ∃ a c, v = .slice a l.length c := by
  obtain ⟨rs, h1, _⟩ := h
  rcases h1.2 with ⟨h2, h3⟩ | ⟨g, cap, cur, h2, _⟩
  · exact ⟨none, 0, by rw [h2, h3]⟩
  · exact ⟨_, cap, h2⟩
/-- One more. -/
theorem Row.push (hst : Stays ok) {v v' : Value} {l : List α} {w w1 w9 : World} {r : ρ} {x : α} {B : Nat} (h : Row E sz enc ok base v l w) {S S9 : Nat → Prop} (hf : Fr S w w1) (hs : ∀ k, S k → k < base) (hB : w.heap.size ≤ B)
    (hr : ok w1 (fun k => B ≤ k ∧ k < w1.heap.size) r x) (hf9 : Fr S9 w1 w9) (hs9 : ∀ k, S9 k → k < base ∨ v.ownBlock = some k)
    (h9 : ∀ rs : List ρ, w.ownsRow base E sz v l.length (rs.flatMap enc) → w9.ownsRow base E sz v' (l.length + 1) (rs.flatMap enc ++ enc r)) (hb9 : v'.ownBlock = v.ownBlock ∨ ∃ g, v'.ownBlock = some g ∧ w1.heap.size ≤ g) :
    Row E sz enc ok base v' (l ++ [x]) w9 := by
  obtain ⟨rs, h1, h2, h3, h4⟩ := h
  have hsz := Nat.le_trans hf.size hf9.size
  have key : ∀ k, base ≤ k → k < w1.heap.size → v.ownBlock ≠ some k → v'.ownBlock ≠ some k := by
    intro k _ k2 k3 e
    rcases hb9 with hb9 | ⟨g, hb9, hg⟩
    · exact k3 (hb9 ▸ e)
    · rw [hb9] at e
      cases e
      omega
  refine ⟨rs ++ [r], ?_, Nat.le_trans h2 hsz, by simp [h3], fun i r' x' k1 k2 => ?_⟩
  · have := h9 rs h1
    simpa using this
  · rcases Nat.lt_or_ge i l.length with hi | hi
    · rw [List.getElem?_append_left (by omega)] at k1
      rw [List.getElem?_append_left hi] at k2
      have a1 := hst w w1 S _ (fun k => base ≤ k ∧ k < w1.heap.size ∧ v.ownBlock ≠ some k) r' x' (h4 i r' x' k1 k2) hf (fun k hk e => by have := hs k e; have := hk.1; omega) (fun k hk => ⟨hk.1, Nat.lt_of_lt_of_le hk.2.1 hf.size, hk.2.2⟩)
      refine hst w1 w9 S9 _ _ r' x' a1 hf9 (fun k hk e => ?_) (fun k hk => ⟨hk.1, Nat.lt_of_lt_of_le hk.2.1 hf9.size, key k hk.1 hk.2.1 hk.2.2⟩)
      rcases hs9 k e with h | h
      · have := hk.1; omega
      · exact hk.2.2 h
    · have e1 : i = l.length := by
        have := (List.getElem?_eq_some_iff.1 k2).1
        simp at this
        omega
      subst e1
      rw [← h3, List.getElem?_append_right (Nat.le_refl _)] at k1
      rw [List.getElem?_append_right (Nat.le_refl _)] at k2
      simp at k1 k2
      subst k1 k2
      have hlt : ∀ k, v.ownBlock = some k → k < w.heap.size := fun k hk => (h1.lt k hk).2
      refine hst w1 w9 S9 _ _ r x hr hf9 (fun k hk e => ?_) (fun k hk => ⟨by omega, Nat.lt_of_lt_of_le hk.2 hf9.size, key k (by omega) hk.2 (fun e => by have := hlt k e; omega)⟩)
      rcases hs9 k e with h | h
      · omega
      · have := hlt k h
        omega
/-- What has been gathered. -/
theorem Row.done (hst : Stays ok) (hen : ∀ x, (enc x).length = sz) {v : Value} {l : List α} {w : World} {B : Nat} (h : Row E sz enc ok base v l w) (hB : B ≤ base) :
    ∃ rs : List ρ, Sl enc sz w v rs ∧ (∀ b, v.ownBlock = some b → B ≤ b ∧ b < w.heap.size) ∧ Each (ok w (fun k => B ≤ k ∧ k < w.heap.size)) rs l := by
  obtain ⟨rs, h1, h2, h3, h4⟩ := h
  refine ⟨rs, sl_of_owns hen (h3 ▸ h1), fun b hb => ?_, h3, fun i r x k1 k2 => hst w w nothing _ _ r x (h4 i r x k1 k2) (Fr.refl _ _) (fun _ _ => id) (fun k hk => ⟨by omega, hk.2.1⟩)⟩
  have := h1.lt b hb
  omega
end
theorem set_behind (xs ys : List Value) (m j : Nat) (u : Value) (hm : xs.length = m) : (xs ++ ys).set (m + j) u = xs ++ ys.set j u := by
  subst hm
  rw [List.set_append_right _ _ (by omega)]
  congr 2
  omega
/-- The new row's cells stored. -/
theorem owns_store4 {w : World} {base E n cap g : Nat} {xs : List Value} {a b c d u0 u1 u2 u3 : Value} (h : w.ownsRow base E 4 (.slice (some ⟨g, 0, none⟩) (n + 1) cap) (n + 1) (xs ++ [a, b, c, d])) (hx : xs.length = n * 4) :
    ((((w.setCell ⟨g, n * 4, none⟩ u0).setCell ⟨g, n * 4 + 1, none⟩ u1).setCell ⟨g, n * 4 + 2, none⟩ u2).setCell ⟨g, n * 4 + 3, none⟩ u3).ownsRow base E 4 (.slice (some ⟨g, 0, none⟩) (n + 1) cap) (n + 1) (xs ++ [u0, u1, u2, u3]) := by
  have h0 := (h.stored (n * 4) u0).1
  have h1 := (h0.stored (n * 4 + 1) u1).1
  have h2 := (h1.stored (n * 4 + 2) u2).1
  have h3 := (h2.stored (n * 4 + 3) u3).1
  have e : (((((xs ++ [a, b, c, d]).set (n * 4) u0).set (n * 4 + 1) u1).set (n * 4 + 2) u2).set (n * 4 + 3) u3) = xs ++ [u0, u1, u2, u3] := by
    have := set_behind xs [a, b, c, d] (n * 4) 0 u0 hx
    rw [Nat.add_zero] at this
    rw [this, set_behind xs _ _ 1 u1 hx, set_behind xs _ _ 2 u2 hx, set_behind xs _ _ 3 u3 hx]
    rfl
  rw [e] at h3
  exact h3
theorem owns_store5 {w : World} {base E n cap g : Nat} {xs : List Value} {a b c d f u0 u1 u2 u3 u4 : Value} (h : w.ownsRow base E 5 (.slice (some ⟨g, 0, none⟩) (n + 1) cap) (n + 1) (xs ++ [a, b, c, d, f])) (hx : xs.length = n * 5) :
    (((((w.setCell ⟨g, n * 5, none⟩ u0).setCell ⟨g, n * 5 + 1, none⟩ u1).setCell ⟨g, n * 5 + 2, none⟩ u2).setCell ⟨g, n * 5 + 3, none⟩ u3).setCell ⟨g, n * 5 + 4, none⟩ u4).ownsRow base E 5 (.slice (some ⟨g, 0, none⟩) (n + 1) cap) (n + 1) (xs ++ [u0, u1, u2, u3, u4]) := by
  have h0 := (h.stored (n * 5) u0).1
  have h1 := (h0.stored (n * 5 + 1) u1).1
  have h2 := (h1.stored (n * 5 + 2) u2).1
  have h3 := (h2.stored (n * 5 + 3) u3).1
  have h4 := (h3.stored (n * 5 + 4) u4).1
  have e : ((((((xs ++ [a, b, c, d, f]).set (n * 5) u0).set (n * 5 + 1) u1).set (n * 5 + 2) u2).set (n * 5 + 3) u3).set (n * 5 + 4) u4) = xs ++ [u0, u1, u2, u3, u4] := by
    have := set_behind xs [a, b, c, d, f] (n * 5) 0 u0 hx
    rw [Nat.add_zero] at this
    rw [this, set_behind xs _ _ 1 u1 hx, set_behind xs _ _ 2 u2 hx, set_behind xs _ _ 3 u3 hx, set_behind xs _ _ 4 u4 hx]
    rfl
  rw [e] at h4
  exact h4
theorem encE_len (r : RawE) : (encE r).length = 4 := rfl
theorem encS_len (r : RawS) : (encS r).length = 5 := rfl
theorem encG_len (r : RawF) : (encG r).length = 3 := rfl
theorem encN_len (r : Bs) : (encN r).length = 1 := rfl

abbrev Tab (w : World) : Prop := Lib.TabIs Tryd.prog w "internal/strconv.uint64pow10" .u64 Lib.pow10Tab
theorem grow_fr (w : World) (n : Nat) (os : Array Obj) : Fr nothing w (Sort.grow (w.drewN n) os) :=
  ⟨rfl, rfl, rfl, by simp [Sort.grow], fun k hk _ => by simp [Sort.grow, Array.getElem?_append_left hk]⟩
/-- What strconv's errors are, at their places. -/
structure Er (w : World) : Prop where
  s : ∃ ev, w.cell? ⟨0, 0, none⟩ = some ev ∧ (ev = .nilIface ∨ ∃ te pe, ev = .iface te pe)
  r : ∃ ev, w.cell? ⟨1, 0, none⟩ = some ev ∧ (ev = .nilIface ∨ ∃ te pe, ev = .iface te pe)
theorem Er.fr {S : Nat → Prop} {w w' : World} (h : Er w) (hf : Fr S w w') (h0 : ¬ S 0) (h1 : ¬ S 1) : Er w' := by
  obtain ⟨⟨a, ha, ha'⟩, ⟨b, hb, hb'⟩⟩ := h
  exact ⟨⟨a, (hf.cell (p := ⟨0, 0, none⟩) (lt_of_cell ha) h0).trans ha, ha'⟩, ⟨b, (hf.cell (p := ⟨1, 0, none⟩) (lt_of_cell hb) h1).trans hb, hb'⟩⟩

/-- The reader, and what lay there ahead of all. -/
structure Pw (w0 : World) (rb : Nat) (l : Bs) (z : Int) (w : World) : Prop where
  pr : Pr rb l z w
  len : l.length ≤ 1500
  bel : Below w0.heap.size w0 w
  ge : w0.heap.size ≤ rb
  tab : Tab w0
  er : Er w0
theorem Pw.of {w0 : World} {rb : Nat} {l l' : Bs} {z z' : Int} {w w' : World} (h : Pw w0 rb l z w) (hp : Pr rb l' z' w') (hl : l'.length ≤ l.length) (hf : Fr (at_ rb) w w') : Pw w0 rb l' z' w' :=
  ⟨hp, Nat.le_trans hl h.len, h.bel.trans (hf.below h.bel.size (fun k hk e => by have := h.ge; omega)), h.ge, h.tab, h.er⟩
/-- New blocks, and such as came since, may turn. -/
theorem Pw.fr {w0 : World} {rb : Nat} {l : Bs} {z : Int} {w w' : World} {S : Nat → Prop} (h : Pw w0 rb l z w) (hf : Fr S w w') (hs : ¬ S rb) (hS : ∀ k, S k → w0.heap.size ≤ k) : Pw w0 rb l z w' :=
  ⟨h.pr.fr hf hs, h.len, h.bel.trans (hf.below h.bel.size (fun k hk e => by have := hS k e; omega)), h.ge, h.tab, h.er⟩
theorem Pw.erw {w0 : World} {rb : Nat} {l : Bs} {z : Int} {w : World} (h : Pw w0 rb l z w) : Er w := by
  have hf : Fr nothing w0 w := Fr.of_below h.bel (Nat.le_refl _) nothing
  exact h.er.fr hf id id
theorem Pw.tabw {w0 : World} {rb : Nat} {l : Bs} {z : Int} {w : World} (h : Pw w0 rb l z w) : Tab w := Lib.tabBelow_of_tabIs h.tab w h.bel
theorem ex_leaf (w : World) (P : Nat → Prop) (k n : Int) (t : Bs) : ExOk w P ⟨k, n, t, nilS⟩ (.mk k n t []) :=
  .mk k n t nilS [] [] ⟨none, 0, rfl, by unfold maxLen; simp, fun i x h => by simp at h⟩ (fun b h => by cases h) rfl (fun i r x h => by simp at h)
/-- A block made ahead stays. -/
theorem made_cells {w w1 : World} {cs : Array Value} {t : TypeId} {S : Nat → Prop} (hf : Fr S (w.alloc (.cells cs t)) w1) (hs : ¬ S w.heap.size) :
    (∀ j, w1.cell? ⟨w.heap.size, j, none⟩ = cs[j]?) ∧ (∀ j, w1.frozen? ⟨w.heap.size, j, none⟩ = false) ∧ w.heap.size < w1.heap.size := by
  have hz := hf.size
  simp at hz
  refine ⟨fun j => ?_, fun j => ?_, by omega⟩
  · rw [hf.cell (p := ⟨w.heap.size, j, none⟩) (by simp) hs, World.cell?_alloc_new]
  · rw [hf.frozen (p := ⟨w.heap.size, j, none⟩) (by simp) hs, World.frozen?_alloc_new]
theorem made4 {w w1 : World} {a b c d : Value} {t : TypeId} {S : Nat → Prop} (hf : Fr S (w.alloc (.cells #[a, b, c, d] t)) w1) (hs : ¬ S w.heap.size) :
    w1.cell? ⟨w.heap.size, 0, none⟩ = some a ∧ w1.cell? ⟨w.heap.size, 1, none⟩ = some b ∧ w1.cell? ⟨w.heap.size, 2, none⟩ = some c ∧ w1.cell? ⟨w.heap.size, 3, none⟩ = some d ∧ w1.frozen? ⟨w.heap.size, 0, none⟩ = false ∧ w1.frozen? ⟨w.heap.size, 1, none⟩ = false ∧ w1.frozen? ⟨w.heap.size, 2, none⟩ = false ∧ w1.frozen? ⟨w.heap.size, 3, none⟩ = false ∧ w.heap.size < w1.heap.size := by
  obtain ⟨h1, h2, h3⟩ := made_cells hf hs
  exact ⟨h1 0, h1 1, h1 2, h1 3, h2 0, h2 1, h2 2, h2 3, h3⟩
/-- What is stored in the block. -/
theorem Fr.then {S S' : Nat → Prop} {a b c : World} (h : Fr S a b) (k : Fr S' b c) (hs : ∀ j, j < a.heap.size → S' j → S j) : Fr S a c :=
  ⟨k.os.trans h.os, k.tape.trans h.tape, k.output.trans h.output, Nat.le_trans h.size k.size, fun j hj hn => (k.block j (Nat.lt_of_lt_of_le hj h.size) (fun e => hn (hs j hj e))).trans (h.block j hj hn)⟩
theorem new4 (w : World) (a b c d : Value) (t : TypeId) {g : Nat} (hg : g = w.heap.size) : ∀ j u, ([a, b, c, d] : List Value)[j]? = some u → (w.alloc (.cells #[a, b, c, d] t)).cell? ((⟨g, 0, none⟩ : Addr).add j) = some u := by
  subst hg
  exact World.news_of_block (cs := #[a, b, c, d]) (t := t) (fr := (0, 0)) (heap_new _ _)
theorem behind {xs ys : List Value} {m j : Nat} {u : Value} (hm : xs.length = m) (h : ys[j]? = some u) : (xs ++ ys)[m + j]? = some u := by
  subst hm
  rw [List.getElem?_append_right (by omega)]
  rw [show xs.length + j - xs.length = j by omega]
  exact h
theorem new_cells4 {w : World} {base E n cap g : Nat} {xs : List Value} {a b c d : Value} (h : w.ownsRow base E 4 (.slice (some ⟨g, 0, none⟩) (n + 1) cap) (n + 1) (xs ++ [a, b, c, d])) (hx : xs.length = n * 4) :
    (w.cell? ⟨g, n * 4, none⟩ = some a ∧ w.cell? ⟨g, n * 4 + 1, none⟩ = some b ∧ w.cell? ⟨g, n * 4 + 2, none⟩ = some c ∧ w.cell? ⟨g, n * 4 + 3, none⟩ = some d) ∧ w.frozen? ⟨g, n * 4, none⟩ = false ∧ w.frozen? ⟨g, n * 4 + 1, none⟩ = false ∧ w.frozen? ⟨g, n * 4 + 2, none⟩ = false ∧ w.frozen? ⟨g, n * 4 + 3, none⟩ = false := by
  refine ⟨⟨?_, ?_, ?_, ?_⟩, h.frozenAt _, h.frozenAt _, h.frozenAt _, h.frozenAt _⟩
  · rw [h.cellAt _ (by omega)]; exact behind (j := 0) hx rfl
  · rw [h.cellAt _ (by omega)]; exact behind (j := 1) hx rfl
  · rw [h.cellAt _ (by omega)]; exact behind (j := 2) hx rfl
  · rw [h.cellAt _ (by omega)]; exact behind (j := 3) hx rfl
theorem owns_same {w : World} {base e sz : Nat} {v : Value} {n : Nat} {xs ys : List Value} (h : w.ownsRow base e sz v n xs) (k : w.ownsRow base e sz v n ys) : xs = ys := by
  rcases h.2 with ⟨h1, h2⟩ | ⟨g, cap, cur, rfl, hb, hg, hr1, hr2, hr3, hr4⟩
  · subst h2
    have e1 := h.1
    have e2 := k.1
    simp at e1 e2
    rw [e1, e2]
  · rcases k.2 with ⟨h1, _⟩ | ⟨g', cap', cur', h1, hb', hg', hs1, hs2, hs3, hs4⟩
    · cases h1
    · cases h1
      rw [hg] at hg'
      cases hg'
      rw [← hr4, hs4]
end Go.Proofs.YtkmdamljhagogaaDoor
end
section
/- A region that draws its order, and in which a last part (T) comes behind all that is read: what is read may be taken first where it stays till then. (No program.) -/
namespace Go.Proofs.YtkmdamljhagogaaDoor
open Go Go.RowKit

section
variable {P : Program} {ops : Array Oper} {Q : Exit → Act → World → Prop} {md : Region.Mode} {S : World → Prop} {T : List Nat}

/-- None of T has come up yet. -/
def Before (T : List Nat) (listed : Array Bool) : Prop := ∀ k ∈ T, listed.getD k true = false
/-- Whatever comes up: S holds as long as none of T has. -/
def wpAnyT (P : Program) (md : Region.Mode) (ops : Array Oper) (Q : Exit → Act → World → Prop) (S : World → Prop) (T : List Nat) : Nat → Array Bool → Act → World → Prop
  | 0, listed, a, w => Region.ready md ops listed = [] ∧ Q .normal a w
  | n + 1, listed, a, w => (Region.ready md ops listed = [] → Q .normal a w) ∧
    ∀ i ∈ Region.ready md ops listed, wpOp P ops Q i (fun a' w' => (Before T (listed.setIfInBounds i true) → S w') ∧ wpAnyT P md ops Q S T n (listed.setIfInBounds i true) a' w') a w
theorem wpAny_of_T : ∀ (n : Nat) (listed : Array Bool) (a : Act) (w : World), wpAnyT P md ops Q S T n listed a w → wpAny P md ops Q n listed a w
  | 0, _, _, _, h => h
  | n + 1, _, _, _, h => ⟨h.1, fun i hi => wpOp_mono (fun a' w' h' => wpAny_of_T n _ a' w' h'.2) (h.2 i hi)⟩
/-- Once one of T has come up nothing is asked of S any more. -/
theorem wpAnyT_of_any : ∀ (n : Nat) (listed : Array Bool) (a : Act) (w : World), ¬ Before T listed → wpAny P md ops Q n listed a w → wpAnyT P md ops Q S T n listed a w
  | 0, _, _, _, _, h => h
  | n + 1, listed, _, _, hb, h => by
    have hb' : ∀ i, ¬ Before T (listed.setIfInBounds i true) := fun i hB => hb fun k hk => by
      have := hB k hk
      by_cases hik : i = k
      · subst hik
        rcases Nat.lt_or_ge i listed.size with h' | h'
        · simp [Array.getD_eq_getD_getElem?, h'] at this
        · simp [Array.getD_eq_getD_getElem?, h'] at this
      · rw [getD_set_ne true hik] at this
        exact this
    exact ⟨h.1, fun i hi => wpOp_mono (fun a' w' h' => ⟨fun hB => absurd hB (hb' i), wpAnyT_of_any n _ a' w' (hb' i) h'⟩) (h.2 i hi)⟩
/-- What yields in every world that meets S, and for which all of T wait, may be taken first. -/
theorem wpAnyT_first {i : Nat} {oi : Oper} {v : Value} (hi : ops[i]? = some oi) (hsel : ∀ (j : Nat) (o : Oper) cs b, ops[j]? = some o → o.op ≠ .select cs b)
    (hQ : ∀ c a w, Q (.panic c) (a.put oi.dst v) w → Q (.panic c) a w) (hT : ∀ k ∈ T, ∃ ok, ops[k]? = some ok ∧ ∃ e ∈ ok.after, Region.binds md e = true ∧ e.on = i) :
    ∀ (n : Nat) (listed : Array Bool) (a : Act) (w : World),
      (∀ j oj, ops[j]? = some oj → j ≠ i → listed.getD j true = false → (∀ e ∈ oj.after, Region.binds md e = true → e.on ≠ i) → oi.apart ops oj = true) →
      i ∈ Region.ready md ops listed → YieldsIf P ops S oi v a → S w → Before T listed →
      wpAnyT P md ops Q S T n (listed.setIfInBounds i true) (a.put oi.dst v) w → wpAnyT P md ops Q S T (n + 1) listed a w := by
  intro n
  have waits : ∀ (listed : Array Bool) (j : Nat) (oj : Oper), i ∈ Region.ready md ops listed → ops[j]? = some oj → j ∈ Region.ready md ops listed → ∀ e ∈ oj.after, Region.binds md e = true → e.on ≠ i := by
    intro listed j oj hr hoj hj e he hb heq
    obtain ⟨_, oj', hoj', hall⟩ := mem_ready.1 hj
    rw [hoj] at hoj'
    cases hoj'
    have h1 := hall e he hb
    have h0 := (mem_ready.1 hr).1
    rw [heq] at h1
    rcases Nat.lt_or_ge i listed.size with h' | h'
    · simp [h'] at h0 h1; rw [h0] at h1; cases h1
    · simp [Array.getElem?_eq_none h'] at h1
  induction n with
  | zero =>
    intro listed a w _ hr hy hS _ H
    refine ⟨fun h => (by rw [h] at hr; cases hr), fun j hj => ?_⟩
    by_cases hji : j = i
    · subst hji; exact hy.wpOp hi hS ⟨fun _ => hS, H⟩
    · have := ready_mono hj hji
      rw [H.1] at this
      cases this
  | succ n ih =>
    intro listed a w hfree hr hy hS hB H
    refine ⟨fun h => (by rw [h] at hr; cases hr), fun j hj => ?_⟩
    by_cases hji : j = i
    · subst hji; exact hy.wpOp hi hS ⟨fun _ => hS, H⟩
    · have h1 := H.2 j (ready_mono hj hji)
      obtain ⟨hjun, oj, hoj, _⟩ := mem_ready.1 hj
      have hnot := waits listed j oj hr hoj hj
      have h2 := wpOp_putIf hoj (hfree j oj hoj hji hjun hnot) (fun cs b => hsel i oi cs b hi) (fun cs b => hsel j oj cs b hoj) hQ hy h1
      have hjT : ∀ k ∈ T, j ≠ k := fun k hk e => by
        subst e
        obtain ⟨ok, hok, e, he, hb, hon⟩ := hT j hk
        rw [hoj] at hok
        cases hok
        exact hnot e he hb hon
      have hiT : ∀ k ∈ T, i ≠ k := fun k hk e => by
        subst e
        obtain ⟨ok, hok, e, he, hb, hon⟩ := hT i hk
        exact waits listed i ok hr hok hr e he hb hon
      have hBj : Before T (listed.setIfInBounds j true) := fun k hk => by rw [getD_set_ne true (hjT k hk)]; exact hB k hk
      have hBij : Before T ((listed.setIfInBounds i true).setIfInBounds j true) := fun k hk => by
        rw [getD_set_ne true (hjT k hk), getD_set_ne true (hiT k hk)]; exact hB k hk
      refine wpOp_mono (fun a' w' h3 => ⟨fun _ => h3.2.1 hBij, ih (listed.setIfInBounds j true) a' w' ?_ (ready_mono hr (Ne.symm hji)) h3.1 (h3.2.1 hBij) hBj ?_⟩) h2
      · intro k ok hk hki hun hno
        refine hfree k ok hk hki ?_ hno
        by_cases hjk : j = k
        · subst hjk; exact hjun
        · rw [getD_set_ne true hjk] at hun; exact hun
      · rw [Array.setIfInBounds_comm _ _ hji]
        exact h3.2.2
def waitsB (md : Region.Mode) (ops : Array Oper) (T : List Nat) (i : Nat) : Bool :=
  T.all fun k => match ops[k]? with
    | some ok => ok.after.any fun e => Region.binds md e && e.on == i
    | none => false
def beforeB (T : List Nat) (listed : Array Bool) : Bool := T.all fun k => !(listed.getD k true)
theorem before_of {listed : Array Bool} (h : beforeB T listed = true) : Before T listed := fun k hk => by
  have := List.all_eq_true.1 h k hk
  simpa using this
theorem not_before {listed : Array Bool} (h : beforeB T listed = false) : ¬ Before T listed := fun hB => by
  have : beforeB T listed = true := List.all_eq_true.2 fun k hk => by simp [hB k hk]
  rw [this] at h; cases h
theorem wpAnyT_take {i : Nat} {oi : Oper} {v : Value} {n : Nat} {listed : Array Bool} {a : Act} {w : World} (hi : ops[i]? = some oi)
    (hs : Region.noSelect ops = true) (hf : Region.free md ops listed i = true) (hr : (Region.ready md ops listed).contains i = true) (hw : waitsB md ops T i = true) (hb : beforeB T listed = true)
    (hQ : ∀ c a w, Q (.panic c) (a.put oi.dst v) w → Q (.panic c) a w) (hy : YieldsIf P ops S oi v a) (hS : S w)
    (h : wpAnyT P md ops Q S T n (listed.setIfInBounds i true) (a.put oi.dst v) w) : wpAnyT P md ops Q S T (n + 1) listed a w := by
  refine wpAnyT_first hi (Region.noSelect_spec hs) hQ (fun k hk => ?_) n listed a w (Region.free_spec hi hf) (by simpa using hr) hy hS (before_of hb) h
  have h1 := List.all_eq_true.1 hw k hk
  cases hk2 : ops[k]? with
  | none => rw [hk2] at h1; cases h1
  | some ok =>
    rw [hk2] at h1
    simp only [Array.any_eq_true, Bool.and_eq_true, beq_iff_eq] at h1
    obtain ⟨q, hq, h2, h3⟩ := h1
    exact ⟨ok, rfl, _, Array.getElem_mem hq, h2, h3⟩
def AllReadyT (P : Program) (md : Region.Mode) (ops : Array Oper) (Q : Exit → Act → World → Prop) (S : World → Prop) (T : List Nat) (n : Nat) (listed : Array Bool) (a : Act) (w : World) (rs : List Nat) : Prop :=
  ∀ i ∈ rs, wpOp P ops Q i (fun a' w' => (Before T (listed.setIfInBounds i true) → S w') ∧ wpAnyT P md ops Q S T n (listed.setIfInBounds i true) a' w') a w
theorem AllReadyT.nil {n : Nat} {listed : Array Bool} {a : Act} {w : World} : AllReadyT P md ops Q S T n listed a w [] := fun _ h => by cases h
/-- One that comes up while none of T has. -/
theorem AllReadyT.cons {n : Nat} {listed : Array Bool} {a : Act} {w : World} {i : Nat} {o : Oper} {rs : List Nat} (ho : ops[i]? = some o)
    (h : ∀ K' : Act → World → Prop, Hid (∀ a w, S w → wpAnyT P md ops Q S T n (listed.setIfInBounds i true) a w → K' a w) → if Region.wanted o (yielded ops a.tmps) = true then Oper.wp P o a w K' Q else K' (a.put o.dst undef) w)
    (hs : AllReadyT P md ops Q S T n listed a w rs) : AllReadyT P md ops Q S T n listed a w (i :: rs) := fun j hj => by
  rcases List.mem_cons.1 hj with rfl | hj
  · exact wpOp_step ho (fun K' hK => h K' (fun a w hS hW => hK a w ⟨fun _ => hS, hW⟩))
  · exact hs j hj
/-- The first one of T. -/
theorem AllReadyT.last {n : Nat} {listed : Array Bool} {a : Act} {w : World} {i : Nat} {o : Oper} {rs : List Nat} (ho : ops[i]? = some o) (hb : beforeB T (listed.setIfInBounds i true) = false)
    (h : ∀ K' : Act → World → Prop, Hid (∀ a w, wpAny P md ops Q n (listed.setIfInBounds i true) a w → K' a w) → if Region.wanted o (yielded ops a.tmps) = true then Oper.wp P o a w K' Q else K' (a.put o.dst undef) w)
    (hs : AllReadyT P md ops Q S T n listed a w rs) : AllReadyT P md ops Q S T n listed a w (i :: rs) := fun j hj => by
  rcases List.mem_cons.1 hj with rfl | hj
  · exact wpOp_step ho (fun K' hK => h K' (fun a w hW => hK a w ⟨fun hB => absurd hB (not_before hb), wpAnyT_of_any _ _ _ _ (not_before hb) hW⟩))
  · exact hs j hj
theorem wpAnyT_ready {rs : List Nat} {n : Nat} {listed : Array Bool} {a : Act} {w : World} (hr : Region.ready md ops listed = rs) (hne : rs ≠ [])
    (h : AllReadyT P md ops Q S T n listed a w rs) : wpAnyT P md ops Q S T (n + 1) listed a w :=
  ⟨fun h0 => absurd (hr ▸ h0) hne, hr ▸ h⟩
theorem wp_region_T {id : Nat} {a : Act} {w : World} (hm : P.follows .mixedOrders = true) (T : List Nat) (hS : S w.drew)
    (h : S w.drew → wpAnyT P .any ops Q S T ops.size (Array.replicate ops.size false) a w.drew) : (Code.region id ops true).wp P Q a w :=
  wp_region_any hm (wpAny_of_T _ _ _ _ (h hS))
end
theorem execOp_fn {o : Oper} {a : Act} {f : FuncId} {xs : Array Operand} {ats : Array TypeId} (ho : o.op = .call { callee := .value (.func f), args := xs, argTypes := ats }) : execOp a.eval o = callFunc f (#[] ++ xs.map a.eval ++ #[]) := by
  obtain ⟨dst, op, ty, pos, after, guard⟩ := o
  simp only at ho
  subst ho
  rfl
/-- A call of a named function, as a step of a region that draws its order. -/
theorem step_call {P : Program} {w : World} {ops : Array Oper} {o : Oper} {a : Act} {K : Act → World → Prop} {Q : Exit → Act → World → Prop} {E : Prop} (hgd : Region.wanted o (yielded ops a.tmps) = true) (f : FuncId) (fn : Func) (xs : Array Operand) (ats : Array TypeId)
    (ho : o.op = .call { callee := .value (.func f), args := xs, argTypes := ats }) (hf : P.funcs[f]? = some fn) (hname : (fn.name == "runtime.NumGoroutine") = false) (hbody : fn.body.isNone = false) (args : Array Value) (hx : xs.map a.eval = args)
    (R : Ending → World → Prop) (hc : Calls P f args w R) (h : ∀ e w', R e w' → ∃ v, e = .returned v ∧ K (a.put o.dst v) w') :
    if Region.wanted o (yielded ops a.tmps) = true then Oper.wp P o a w K Q else E := by
  rw [if_pos hgd]
  unfold Oper.wp
  rw [execOp_fn ho]
  have hr : (callFunc f (#[] ++ xs.map a.eval ++ #[])).run P w = .ok (.enter f args) w := by
    have h1 : fn.name ≠ "runtime.NumGoroutine" := by simpa using hname
    have h2 : fn.body ≠ none := by intro e; rw [e] at hbody; cases hbody
    simp [callFunc, hf, h1, h2, hx, run_program]
  rw [hr, Oper.upon_enter]
  refine hc.mono fun e w' hR => ?_
  obtain ⟨v, rfl, hk⟩ := h e w' hR
  exact hk

end Go.Proofs.YtkmdamljhagogaaDoor
end
section
/- A list that a variable holds, gathered one by one. -/
namespace Go.Proofs.YtkmdamljhagogaaDoor
open Go.RowKit

theorem add_eq (b o j : Nat) : (⟨b, o, none⟩ : Addr).add j = ⟨b, o + j, none⟩ := by
  by_cases h0 : j = 0 <;> simp [Addr.add, h0]
theorem wrap_in (n : Int) (h0 : -9223372036854775808 ≤ n) (h1 : n ≤ 9223372036854775807) : IntKind.i64.wrap n = n := by
  rw [IntKind.wrap_i64]; omega
/-- These cells, stored one behind the other. -/
def putAll (w : World) (g : Nat) : Nat → List Value → World
  | _, [] => w
  | o, u :: us => putAll (w.setCell ⟨g, o, none⟩ u) g (o + 1) us
def setAll (cs : List Value) : Nat → List Value → List Value
  | _, [] => cs
  | o, u :: us => setAll (cs.set o u) (o + 1) us
theorem Fr.putAll {S : Nat → Prop} {g : Nat} {us : List Value} {a b : World} {o : Nat} (h : Fr S a b) (hp : S g ∨ a.heap.size ≤ g) : Fr S a (putAll b g o us) := by
  induction us generalizing b o with
  | nil => exact h
  | cons u us ih => exact ih (b := b.setCell ⟨g, o, none⟩ u) (o := o + 1) (h.setCell (p := ⟨g, o, none⟩) hp u)
theorem putAll_far {g : Nat} {p : Addr} (h : g ≠ p.block) {us : List Value} {w : World} {o : Nat} : (putAll w g o us).cell? p = w.cell? p := by
  induction us generalizing w o with
  | nil => rfl
  | cons u us ih => exact (ih (w := w.setCell ⟨g, o, none⟩ u) (o := o + 1)).trans (World.cell?_setCell_far w ⟨g, o, none⟩ _ _ h)
theorem putAll_frozen {g : Nat} {p : Addr} {us : List Value} {w : World} {o : Nat} : (putAll w g o us).frozen? p = w.frozen? p := by
  induction us generalizing w o with
  | nil => rfl
  | cons u us ih => exact (ih (w := w.setCell ⟨g, o, none⟩ u) (o := o + 1)).trans (World.frozen?_setCell ..)
theorem owns_putAll {base E sz n cap g : Nat} {us cs : List Value} {w : World} {o : Nat} (h : w.ownsRow base E sz (.slice (some ⟨g, 0, none⟩) n cap) n cs) : (putAll w g o us).ownsRow base E sz (.slice (some ⟨g, 0, none⟩) n cap) n (setAll cs o us) := by
  induction us generalizing w o cs with
  | nil => exact h
  | cons u us ih => exact ih (w := w.setCell ⟨g, o, none⟩ u) (o := o + 1) (cs := cs.set o u) (h.stored o u).1
theorem setAll_end : ∀ (us : List Value) (xs zs : List Value), zs.length = us.length → setAll (xs ++ zs) xs.length us = xs ++ us
  | [], xs, zs, h => by
    have : zs = [] := List.length_eq_zero_iff.1 h
    subst this
    rfl
  | u :: us, xs, [], h => by simp at h
  | u :: us, xs, y :: zs, h => by
    have e : (xs ++ y :: zs).set xs.length u = (xs ++ [u]) ++ zs := by
      rw [List.set_append_right _ _ (Nat.le_refl _)]
      simp
    show setAll ((xs ++ y :: zs).set xs.length u) (xs.length + 1) us = _
    rw [e]
    have h2 := setAll_end us (xs ++ [u]) zs (by simpa using h)
    rw [List.length_append] at h2
    simp only [List.length_cons, List.length_nil] at h2
    rw [h2]
    simp
/-- The variable at bx, off, holds what was gathered. -/
structure JL {ρ α : Type} (w0 : World) (rb E sz : Nat) (enc : ρ → List Value) (ok : World → (Nat → Prop) → ρ → α → Prop) (w1 : World) (bx off : Nat) (acc : List α) (l : Bs) (z : Int) (w : World) : Prop where
  pw : Pw w0 rb l z w
  fr : Fr (fun k => k = rb ∨ k = bx) w1 w
  fz : ∀ j, w.frozen? ⟨bx, j, none⟩ = w1.frozen? ⟨bx, j, none⟩
  old : ∀ j, j ≠ off → w.cell? ⟨bx, j, none⟩ = w1.cell? ⟨bx, j, none⟩
  le : z = 0 → acc.length + l.length ≤ 1500
  row : ∃ s : Slc, w.cell? ⟨bx, off, none⟩ = some s.v ∧ Row E sz enc ok w1.heap.size s.v acc w
section
variable {ρ α : Type} {w0 : World} {rb E sz : Nat} {enc : ρ → List Value} {ok : World → (Nat → Prop) → ρ → α → Prop} {w1 : World} {bx off : Nat}
theorem JL.move (hst : Stays ok) (hbx : bx < w1.heap.size) (hrb : rb < w1.heap.size) (hne : bx ≠ rb) {acc : List α} {l l' : Bs} {z z' : Int} {w w' : World} (h : JL w0 rb E sz enc ok w1 bx off acc l z w)
    (hp : Pr rb l' z' w') (hl : l'.length ≤ l.length) (hz : z' = 0 → z = 0) (hf : Fr (at_ rb) w w') : JL w0 rb E sz enc ok w1 bx off acc l' z' w' := by
  have hsz := h.fr.size
  obtain ⟨s, h1, h2⟩ := h.row
  exact { pw := h.pw.of hp hl hf
          fr := h.fr.trans (hf.mono (fun k _ e => .inl e))
          fz := fun j => (hf.frozen (p := ⟨bx, j, none⟩) (by show bx < _; omega) hne).trans (h.fz j)
          old := fun j hj => (hf.cell (p := ⟨bx, j, none⟩) (by show bx < _; omega) hne).trans (h.old j hj)
          le := fun h0 => by have := h.le (hz h0); omega
          row := ⟨s, (hf.cell (p := ⟨bx, off, none⟩) (by show bx < _; omega) hne).trans h1, h2.fr hst hf (fun k e => by show k < _; have : k = rb := e; omega)⟩ }
/-- One more. -/
theorem JL.push (hst : Stays ok) (hlen : ∀ r, (enc r).length = sz) (hbx : bx < w1.heap.size) (hrb : rb < w1.heap.size) (hne : bx ≠ rb) (hw0 : w0.heap.size ≤ bx ∧ w0.heap.size ≤ w1.heap.size) {acc : List α} {l l' : Bs} {z' : Int} {w wA w6 w9 : World} {s : Slc} {g cp H : Nat} {r : ρ} {x : α} {xs zs us : List Value} (h : JL w0 rb E sz enc ok w1 bx off acc l 0 w)
    (hrow : Row E sz enc ok w1.heap.size s.v acc w) (hF : Fr (at_ rb) w wA) (hpA : Pw w0 rb l' z' wA) (hx : ok wA (fun k => w.heap.size ≤ k ∧ k < wA.heap.size) r x) (hless : z' = 0 → l'.length < l.length)
    (hxs : wA.ownsRow w1.heap.size E sz s.v acc.length xs) (hr6 : w6.ownsRow w1.heap.size E sz (.slice (some ⟨g, 0, none⟩) (acc.length + 1) cp) (acc.length + 1) (xs ++ zs)) (hg6 : wA.grownBy w6 s.v.ownBlock) (hat : s.v.ownBlock = some g ∨ g = H) (hH : wA.heap.size ≤ H)
    (hzs : zs.length = sz) (hus : us = enc r) (hk6 : w6.cell? ⟨bx, off, none⟩ = some s.v)
    (h9 : w9 = (putAll w6 g (acc.length * sz) us).setCell ⟨bx, off, none⟩ (.slice (some ⟨g, 0, none⟩) (acc.length + 1) cp) ∨ w9 = putAll (w6.setCell ⟨bx, off, none⟩ (.slice (some ⟨g, 0, none⟩) (acc.length + 1) cp)) g (acc.length * sz) us ∨ (zs = us ∧ w9 = w6.setCell ⟨bx, off, none⟩ (.slice (some ⟨g, 0, none⟩) (acc.length + 1) cp))) :
    JL w0 rb E sz enc ok w1 bx off (acc ++ [x]) l' z' w9 := by
  subst hus
  have hsz := h.fr.size
  have hszA := hF.size
  have hownlt : ∀ k, s.v.ownBlock = some k → w1.heap.size ≤ k ∧ k < wA.heap.size := hxs.lt
  have hgb : g ≠ bx := by
    rcases hat with e | e
    · have := (hownlt g e).1; omega
    · omega
  have hgr : g ≠ rb := by
    rcases hat with e | e
    · have := (hownlt g e).1; omega
    · omega
  have hat' : s.v.ownBlock = some g ∨ wA.heap.size ≤ g := by
    rcases hat with e | e
    · exact .inl e
    · exact .inr (by omega)
  have F6 : Fr (fun k => k = bx ∨ s.v.ownBlock = some k) wA w6 := (Fr.refl _ wA).grown hg6 (fun k hk => .inl (.inr hk))
  have hgS : (g = bx ∨ s.v.ownBlock = some g) ∨ wA.heap.size ≤ g := hat'.imp .inr id
  have hA9 : Fr (fun k => k = bx ∨ s.v.ownBlock = some k) wA w9 := by
    rcases h9 with rfl | rfl | ⟨hzu, rfl⟩
    · exact (F6.putAll hgS).setCell (p := ⟨bx, off, none⟩) (.inl (.inl rfl)) _
    · exact Fr.putAll (F6.setCell (p := ⟨bx, off, none⟩) (.inl (.inl rfl)) _) hgS
    · exact F6.setCell (p := ⟨bx, off, none⟩) (.inl (.inl rfl)) _
  have hbS : ∀ (wa : World) (cs : List Value), wa.ownsRow w1.heap.size E sz (.slice (some ⟨g, 0, none⟩) (acc.length + 1) cp) (acc.length + 1) cs → (wa.setCell ⟨bx, off, none⟩ (.slice (some ⟨g, 0, none⟩) (acc.length + 1) cp)).ownsRow w1.heap.size E sz (.slice (some ⟨g, 0, none⟩) (acc.length + 1) cp) (acc.length + 1) cs := fun wa cs hh =>
    owns_fr hh (Fr.setCell (Fr.refl (fun k => k = bx) wa) (p := ⟨bx, off, none⟩) (.inl rfl) _) (fun k hk e => by
      have : g = k := by simpa [Value.ownBlock] using hk
      omega)
  have hend : setAll (xs ++ zs) (acc.length * sz) (enc r) = xs ++ enc r := by
    have := setAll_end (enc r) xs zs (by rw [hzs, hlen])
    rwa [hxs.1] at this
  have row9 : w9.ownsRow w1.heap.size E sz (.slice (some ⟨g, 0, none⟩) (acc.length + 1) cp) (acc.length + 1) (xs ++ enc r) := by
    rcases h9 with rfl | rfl | ⟨hzu, rfl⟩
    · have := owns_putAll (us := enc r) (o := acc.length * sz) hr6
      rw [hend] at this
      exact hbS _ _ this
    · have := owns_putAll (us := enc r) (o := acc.length * sz) (hbS _ _ hr6)
      rw [hend] at this
      exact this
    · rw [hzu] at hr6
      exact hbS _ _ hr6
  have hcell : w9.cell? ⟨bx, off, none⟩ = some (.slice (some ⟨g, 0, none⟩) (acc.length + 1) cp) := by
    rcases h9 with rfl | rfl | ⟨hzu, rfl⟩
    · exact World.cell?_setCell_same _ _ _ (by rw [putAll_far hgb]; exact hk6)
    · rw [putAll_far hgb]; exact World.cell?_setCell_same _ _ _ hk6
    · exact World.cell?_setCell_same _ _ _ hk6
  have hfar : some bx ≠ s.v.ownBlock := fun e => by have := (hownlt bx e.symm).1; omega
  have hcell6 : ∀ j, j ≠ off → w9.cell? ⟨bx, j, none⟩ = w6.cell? ⟨bx, j, none⟩ := fun j hj => by
    rcases h9 with rfl | rfl | ⟨hzu, rfl⟩
    · rw [World.cell?_setCell_other _ ⟨bx, off, none⟩ ⟨bx, j, none⟩ _ (fun e => hj (by cases e; rfl)), putAll_far hgb]
    · rw [putAll_far hgb, World.cell?_setCell_other _ ⟨bx, off, none⟩ ⟨bx, j, none⟩ _ (fun e => hj (by cases e; rfl))]
    · rw [World.cell?_setCell_other _ ⟨bx, off, none⟩ ⟨bx, j, none⟩ _ (fun e => hj (by cases e; rfl))]
  have hfz6 : ∀ j, w9.frozen? ⟨bx, j, none⟩ = w6.frozen? ⟨bx, j, none⟩ := fun j => by
    rcases h9 with rfl | rfl | ⟨hzu, rfl⟩
    · rw [World.frozen?_setCell, putAll_frozen]
    · rw [putAll_frozen, World.frozen?_setCell]
    · rw [World.frozen?_setCell]
  have hbA : bx < wA.heap.size := by omega
  exact { pw := hpA.fr hA9 (fun e => by
            rcases e with e | e
            · exact hne e.symm
            · have := (hownlt rb e).1; omega) (fun k e => by
            rcases e with e | e
            · omega
            · have := (hownlt k e).1; omega)
          fr := (h.fr.trans (hF.mono (fun k _ e => .inl e))).then hA9 (fun j hj e => by
            rcases e with e | e
            · exact .inr e
            · have := (hownlt j e).1; omega)
          fz := fun j => (hfz6 j).trans ((hg6.frozen_far ⟨bx, j, none⟩ hbA hfar).trans ((hF.frozen (p := ⟨bx, j, none⟩) (by show bx < _; omega) hne).trans (h.fz j)))
          old := fun j hj => (hcell6 j hj).trans ((hg6.cell_far ⟨bx, j, none⟩ hbA hfar).trans ((hF.cell (p := ⟨bx, j, none⟩) (by show bx < _; omega) hne).trans (h.old j hj)))
          le := fun h0 => by have := h.le rfl; have := hless h0; simp; omega
          row := ⟨⟨some ⟨g, 0, none⟩, acc.length + 1, cp⟩, hcell, hrow.push hst hF (fun k e => by show k < _; have : k = rb := e; omega) (Nat.le_refl _) hx hA9 (fun k e => by
              rcases e with e | e
              · exact .inl (by omega)
              · exact .inr e) (fun rs hrs => by
              have h2 : wA.ownsRow w1.heap.size E sz s.v acc.length (rs.flatMap enc) := owns_fr hrs hF (fun k hk e => by have := (hrs.lt k hk).1; have : k = rb := e; omega)
              have : rs.flatMap enc = xs := owns_same h2 hxs
              rw [this]
              exact row9) (by
              rcases hat' with e | e
              · exact .inl e.symm
              · exact .inr ⟨g, rfl, e⟩)⟩ }
end
end Go.Proofs.YtkmdamljhagogaaDoor
end
