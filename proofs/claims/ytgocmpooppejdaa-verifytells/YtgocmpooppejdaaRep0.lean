/- Lists and trees as the machine holds them. -/
import Derived.Test.YtgocmpooppejdaaBase
namespace Go.Proofs.Ytgocmpooppejdaa
open Go.RowKit

structure Slc where
  a : Option Addr
  n : Nat
  c : Nat
abbrev Slc.v (s : Slc) : Value := .slice s.a s.n s.c
abbrev nilS : Slc := ⟨none, 0, 0⟩
structure RawE where
  k : Int
  n : Int
  t : Bs
  s : Slc
structure RawS where
  k : Int
  t : Bs
  a : Slc
  x : Slc
  y : Slc
structure RawF where
  t : Bs
  p : Slc
  b : Slc
abbrev ev (r : RawE) : Value := .agg #[.int .i64 r.k, .int .i64 r.n, .string (bs r.t), .slice r.s.a r.s.n r.s.c]
abbrev sv (r : RawS) : Value := .agg #[.int .i64 r.k, .string (bs r.t), .slice r.a.a r.a.n r.a.c, .slice r.x.a r.x.n r.x.c, .slice r.y.a r.y.n r.y.c]
abbrev gv (r : RawF) : Value := .agg #[.string (bs r.t), .slice r.p.a r.p.n r.p.c, .slice r.b.a r.b.n r.b.c]
def encE (r : RawE) : List Value := [.int .i64 r.k, .int .i64 r.n, .string (bs r.t), .slice r.s.a r.s.n r.s.c]
def encS (r : RawS) : List Value := [.int .i64 r.k, .string (bs r.t), .slice r.a.a r.a.n r.a.c, .slice r.x.a r.x.n r.x.c, .slice r.y.a r.y.n r.y.c]
def encG (r : RawF) : List Value := [.string (bs r.t), .slice r.p.a r.p.n r.p.c, .slice r.b.a r.b.n r.b.c]
def encN (r : Bs) : List Value := [.string (bs r)]

/-- Lists of things that are so, each by each. -/
def Each {ρ α : Type} (ok : ρ → α → Prop) (rs : List ρ) (l : List α) : Prop := rs.length = l.length ∧ ∀ (i : Nat) (r : ρ) (x : α), rs[i]? = some r → l[i]? = some x → ok r x
inductive ExOk (w : World) (P : Nat → Prop) : RawE → Ex → Prop
  | mk (k n : Int) (t : Bs) (s : Slc) (rs : List RawE) (l : List Ex) (hs : Sl encE 4 w s.v rs) (hP : ∀ b, s.v.ownBlock = some b → P b) (hl : rs.length = l.length)
      (h : ∀ (i : Nat) (r : RawE) (x : Ex), rs[i]? = some r → l[i]? = some x → ExOk w P r x) : ExOk w P ⟨k, n, t, s⟩ (.mk k n t l)
inductive StOk (w : World) (P : Nat → Prop) : RawS → St → Prop
  | mk (k : Int) (t : Bs) (a x y : Slc) (ra : List RawE) (rx ry : List RawS) (la : List Ex) (lx ly : List St)
      (ha : Sl encE 4 w a.v ra) (hPa : ∀ b, a.v.ownBlock = some b → P b) (ha2 : Each (ExOk w P) ra la)
      (hx : Sl encS 5 w x.v rx) (hPx : ∀ b, x.v.ownBlock = some b → P b) (hx1 : rx.length = lx.length) (hx2 : ∀ (i : Nat) (r : RawS) (z : St), rx[i]? = some r → lx[i]? = some z → StOk w P r z)
      (hy : Sl encS 5 w y.v ry) (hPy : ∀ b, y.v.ownBlock = some b → P b) (hy1 : ry.length = ly.length) (hy2 : ∀ (i : Nat) (r : RawS) (z : St), ry[i]? = some r → ly[i]? = some z → StOk w P r z) :
      StOk w P ⟨k, t, a, x, y⟩ (.mk k t la lx ly)
structure FnOk (w : World) (P : Nat → Prop) (r : RawF) (f : Fn) : Prop where
  t : r.t = f.t
  p : Sl encN 1 w r.p.v f.p
  pP : ∀ b, r.p.v.ownBlock = some b → P b
  b : ∃ rs, Sl encS 5 w r.b.v rs ∧ Each (StOk w P) rs f.b
  bP : ∀ b, r.b.v.ownBlock = some b → P b
def NmOk (_ : World) (_ : Nat → Prop) (r : Bs) (x : Bs) : Prop := r = x

theorem Sl.keep {α : Type} {enc : α → List Value} {sz : Nat} {w w' : World} {v : Value} {l : List α} {S P : Nat → Prop} (h : Sl enc sz w v l) (hf : Fr S w w') (hP : ∀ b, v.ownBlock = some b → P b) (hs : ∀ k, P k → ¬ S k) : Sl enc sz w' v l :=
  h.fr hf fun k hk => by
    obtain ⟨ao, n, c, rfl, rfl⟩ := hk
    exact hs _ (hP _ rfl)
/-- What is so stays so where its blocks do; and of more blocks. -/
def Stays {ρ α : Type} (ok : World → (Nat → Prop) → ρ → α → Prop) : Prop := ∀ (w w' : World) (S P P' : Nat → Prop) (r : ρ) (x : α), ok w P r x → Fr S w w' → (∀ k, P k → ¬ S k) → (∀ k, P k → P' k) → ok w' P' r x
theorem ex_stays : Stays ExOk := by
  intro w w' S P P' r x h hf hs hm
  induction h with
  | mk k n t s rs l hsl hP hl _ ih => exact .mk k n t s rs l (hsl.keep hf hP hs) (fun b hb => hm _ (hP b hb)) hl ih
theorem st_stays : Stays StOk := by
  intro w w' S P P' r x h hf hs hm
  induction h with
  | mk k t a x y ra rx ry la lx ly ha hPa ha2 hx hPx hx1 _ hy hPy hy1 _ ihx ihy =>
    exact .mk k t a x y ra rx ry la lx ly (ha.keep hf hPa hs) (fun b hb => hm _ (hPa b hb)) ⟨ha2.1, fun i r z h1 h2 => ex_stays w w' S P P' r z (ha2.2 i r z h1 h2) hf hs hm⟩ (hx.keep hf hPx hs) (fun b hb => hm _ (hPx b hb)) hx1 ihx
      (hy.keep hf hPy hs) (fun b hb => hm _ (hPy b hb)) hy1 ihy
theorem fn_stays : Stays FnOk := by
  intro w w' S P P' r x h hf hs hm
  obtain ⟨rs, h1, h2⟩ := h.b
  exact ⟨h.t, h.p.keep hf h.pP hs, fun b hb => hm _ (h.pP b hb), ⟨rs, h1.keep hf h.bP hs, h2.1, fun i r z k1 k2 => st_stays w w' S P P' r z (h2.2 i r z k1 k2) hf hs hm⟩, fun b hb => hm _ (h.bP b hb)⟩
theorem nm_stays : Stays NmOk := fun _ _ _ _ _ _ _ h _ _ _ => h

theorem heap_new (w : World) (O : Obj) : (w.alloc O).heap[w.heap.size]? = some O := by unfold World.alloc; simp
theorem owns_fr {w w' : World} {base e sz : Nat} {v : Value} {n : Nat} {xs : List Value} {S : Nat → Prop} (h : w.ownsRow base e sz v n xs) (hf : Fr S w w') (hs : ∀ k, v.ownBlock = some k → ¬ S k) : w'.ownsRow base e sz v n xs := by
  refine ⟨h.1, ?_⟩
  rcases h.2 with h0 | ⟨g, cap, cur, rfl, hb, hg, hr⟩
  · exact .inl h0
  · refine .inr ⟨g, cap, cur, rfl, hb, ?_, hr⟩
    rw [hf.block g ((h.lt g rfl).2) (hs g rfl)]
    exact hg
theorem owns_far {w : World} {base e sz : Nat} {v : Value} {n : Nat} {xs : List Value} (h : w.ownsRow base e sz v n xs) {b : Nat} (hb : b < base) : some b ≠ v.ownBlock := by
  intro e
  have := (h.lt b e.symm).1
  omega

/-- The slice v, whose row is the call's own, holds things that are so; none of theirs lies in v's own block. -/
def Row {ρ α : Type} (E sz : Nat) (enc : ρ → List Value) (ok : World → (Nat → Prop) → ρ → α → Prop) (base : Nat) (v : Value) (l : List α) (w : World) : Prop :=
  ∃ rs : List ρ, w.ownsRow base E sz v l.length (rs.flatMap enc) ∧ base ≤ w.heap.size ∧ Each (ok w (fun k => base ≤ k ∧ k < w.heap.size ∧ v.ownBlock ≠ some k)) rs l
section
variable {ρ α : Type} {E sz : Nat} {enc : ρ → List Value} {ok : World → (Nat → Prop) → ρ → α → Prop} {base : Nat}
theorem Row.nil (w : World) (hb : base ≤ w.heap.size) : Row E sz enc ok base (.slice none 0 0) [] w :=
  ⟨[], World.ownsRow_nil _ _ _ _, hb, rfl, fun i r x h => by simp at h⟩
theorem Row.fr (hst : Stays ok) {v : Value} {l : List α} {w w' : World} {S : Nat → Prop} (h : Row E sz enc ok base v l w) (hf : Fr S w w') (hs : ∀ k, S k → k < base) : Row E sz enc ok base v l w' := by
  obtain ⟨rs, h1, h2, h3, h4⟩ := h
  refine ⟨rs, owns_fr h1 hf (fun k hk e => by have := (h1.lt k hk).1; have := hs k e; omega), Nat.le_trans h2 hf.size, h3, fun i r x k1 k2 => hst w w' S _ _ r x (h4 i r x k1 k2) hf (fun k hk e => ?_) (fun k hk => ⟨hk.1, Nat.lt_of_lt_of_le hk.2.1 hf.size, hk.2.2⟩)⟩
  have := hs k e
  have := hk.1
  omega
theorem Row.shape {v : Value} {l : List α} {w : World} (h : Row E sz enc ok base v l w) : ∃ a c, v = .slice a l.length c := by
  obtain ⟨rs, h1, _⟩ := h
  rcases h1.2 with ⟨h2, h3⟩ | ⟨g, cap, cur, h2, _⟩
  · exact ⟨none, 0, by rw [h2, h3]⟩
  · exact ⟨_, cap, h2⟩
/-- One more. -/
theorem Row.push (hst : Stays ok) {v v' : Value} {l : List α} {w w1 w9 : World} {r : ρ} {x : α} {B : Nat} (h : Row E sz enc ok base v l w) {S S9 : Nat → Prop} (hf : Fr S w w1) (hs : ∀ k, S k → k < base) (hB : w.heap.size ≤ B)
    (hr : ok w1 (fun k => B ≤ k ∧ k < w1.heap.size) r x) (hf9 : Fr S9 w1 w9) (hs9 : ∀ k, S9 k → k < base ∨ v.ownBlock = some k)
    (h9 : ∀ rs : List ρ, w.ownsRow base E sz v l.length (rs.flatMap enc) → w9.ownsRow base E sz v' (l.length + 1) (rs.flatMap enc ++ enc r)) (hb9 : v'.ownBlock = v.ownBlock ∨ ∃ g, v'.ownBlock = some g ∧ w1.heap.size ≤ g) :
    Row E sz enc ok base v' (l ++ [x]) w9 := by
  obtain ⟨rs, h1, h2, h3, h4⟩ := h
  have hsz := Nat.le_trans hf.size hf9.size
  have key : ∀ k, base ≤ k → k < w1.heap.size → v.ownBlock ≠ some k → v'.ownBlock ≠ some k := by
    intro k _ k2 k3 e
    rcases hb9 with hb9 | ⟨g, hb9, hg⟩
    · exact k3 (hb9 ▸ e)
    · rw [hb9] at e
      cases e
      omega
  refine ⟨rs ++ [r], ?_, Nat.le_trans h2 hsz, by simp [h3], fun i r' x' k1 k2 => ?_⟩
  · have := h9 rs h1
    simpa using this
  · rcases Nat.lt_or_ge i l.length with hi | hi
    · rw [List.getElem?_append_left (by omega)] at k1
      rw [List.getElem?_append_left hi] at k2
      have a1 := hst w w1 S _ (fun k => base ≤ k ∧ k < w1.heap.size ∧ v.ownBlock ≠ some k) r' x' (h4 i r' x' k1 k2) hf (fun k hk e => by have := hs k e; have := hk.1; omega) (fun k hk => ⟨hk.1, Nat.lt_of_lt_of_le hk.2.1 hf.size, hk.2.2⟩)
      refine hst w1 w9 S9 _ _ r' x' a1 hf9 (fun k hk e => ?_) (fun k hk => ⟨hk.1, Nat.lt_of_lt_of_le hk.2.1 hf9.size, key k hk.1 hk.2.1 hk.2.2⟩)
      rcases hs9 k e with h | h
      · have := hk.1; omega
      · exact hk.2.2 h
    · have e1 : i = l.length := by
        have := (List.getElem?_eq_some_iff.1 k2).1
        simp at this
        omega
      subst e1
      rw [← h3, List.getElem?_append_right (Nat.le_refl _)] at k1
      rw [List.getElem?_append_right (Nat.le_refl _)] at k2
      simp at k1 k2
      subst k1 k2
      have hlt : ∀ k, v.ownBlock = some k → k < w.heap.size := fun k hk => (h1.lt k hk).2
      refine hst w1 w9 S9 _ _ r x hr hf9 (fun k hk e => ?_) (fun k hk => ⟨by omega, Nat.lt_of_lt_of_le hk.2 hf9.size, key k (by omega) hk.2 (fun e => by have := hlt k e; omega)⟩)
      rcases hs9 k e with h | h
      · omega
      · have := hlt k h
        omega
/-- What has been gathered. -/
theorem Row.done (hst : Stays ok) (hen : ∀ x, (enc x).length = sz) {v : Value} {l : List α} {w : World} {B : Nat} (h : Row E sz enc ok base v l w) (hB : B ≤ base) :
    ∃ rs : List ρ, Sl enc sz w v rs ∧ (∀ b, v.ownBlock = some b → B ≤ b ∧ b < w.heap.size) ∧ Each (ok w (fun k => B ≤ k ∧ k < w.heap.size)) rs l := by
  obtain ⟨rs, h1, h2, h3, h4⟩ := h
  refine ⟨rs, sl_of_owns hen (h3 ▸ h1), fun b hb => ?_, h3, fun i r x k1 k2 => hst w w nothing _ _ r x (h4 i r x k1 k2) (Fr.refl _ _) (fun _ _ => id) (fun k hk => ⟨by omega, hk.2.1⟩)⟩
  have := h1.lt b hb
  omega
end
theorem set_behind (xs ys : List Value) (m j : Nat) (u : Value) (hm : xs.length = m) : (xs ++ ys).set (m + j) u = xs ++ ys.set j u := by
  subst hm
  rw [List.set_append_right _ _ (by omega)]
  congr 2
  omega
/-- The new row's cells stored. -/
theorem owns_store4 {w : World} {base E n cap g : Nat} {xs : List Value} {a b c d u0 u1 u2 u3 : Value} (h : w.ownsRow base E 4 (.slice (some ⟨g, 0, none⟩) (n + 1) cap) (n + 1) (xs ++ [a, b, c, d])) (hx : xs.length = n * 4) :
    ((((w.setCell ⟨g, n * 4, none⟩ u0).setCell ⟨g, n * 4 + 1, none⟩ u1).setCell ⟨g, n * 4 + 2, none⟩ u2).setCell ⟨g, n * 4 + 3, none⟩ u3).ownsRow base E 4 (.slice (some ⟨g, 0, none⟩) (n + 1) cap) (n + 1) (xs ++ [u0, u1, u2, u3]) := by
  have h0 := (h.stored (n * 4) u0).1
  have h1 := (h0.stored (n * 4 + 1) u1).1
  have h2 := (h1.stored (n * 4 + 2) u2).1
  have h3 := (h2.stored (n * 4 + 3) u3).1
  have e : (((((xs ++ [a, b, c, d]).set (n * 4) u0).set (n * 4 + 1) u1).set (n * 4 + 2) u2).set (n * 4 + 3) u3) = xs ++ [u0, u1, u2, u3] := by
    have := set_behind xs [a, b, c, d] (n * 4) 0 u0 hx
    rw [Nat.add_zero] at this
    rw [this, set_behind xs _ _ 1 u1 hx, set_behind xs _ _ 2 u2 hx, set_behind xs _ _ 3 u3 hx]
    rfl
  rw [e] at h3
  exact h3
theorem owns_store5 {w : World} {base E n cap g : Nat} {xs : List Value} {a b c d f u0 u1 u2 u3 u4 : Value} (h : w.ownsRow base E 5 (.slice (some ⟨g, 0, none⟩) (n + 1) cap) (n + 1) (xs ++ [a, b, c, d, f])) (hx : xs.length = n * 5) :
    (((((w.setCell ⟨g, n * 5, none⟩ u0).setCell ⟨g, n * 5 + 1, none⟩ u1).setCell ⟨g, n * 5 + 2, none⟩ u2).setCell ⟨g, n * 5 + 3, none⟩ u3).setCell ⟨g, n * 5 + 4, none⟩ u4).ownsRow base E 5 (.slice (some ⟨g, 0, none⟩) (n + 1) cap) (n + 1) (xs ++ [u0, u1, u2, u3, u4]) := by
  have h0 := (h.stored (n * 5) u0).1
  have h1 := (h0.stored (n * 5 + 1) u1).1
  have h2 := (h1.stored (n * 5 + 2) u2).1
  have h3 := (h2.stored (n * 5 + 3) u3).1
  have h4 := (h3.stored (n * 5 + 4) u4).1
  have e : ((((((xs ++ [a, b, c, d, f]).set (n * 5) u0).set (n * 5 + 1) u1).set (n * 5 + 2) u2).set (n * 5 + 3) u3).set (n * 5 + 4) u4) = xs ++ [u0, u1, u2, u3, u4] := by
    have := set_behind xs [a, b, c, d, f] (n * 5) 0 u0 hx
    rw [Nat.add_zero] at this
    rw [this, set_behind xs _ _ 1 u1 hx, set_behind xs _ _ 2 u2 hx, set_behind xs _ _ 3 u3 hx, set_behind xs _ _ 4 u4 hx]
    rfl
  rw [e] at h4
  exact h4
theorem encE_len (r : RawE) : (encE r).length = 4 := rfl
theorem encS_len (r : RawS) : (encS r).length = 5 := rfl
theorem encG_len (r : RawF) : (encG r).length = 3 := rfl
theorem encN_len (r : Bs) : (encN r).length = 1 := rfl

theorem ex_leaf (w : World) (P : Nat → Prop) (k n : Int) (t : Bs) : ExOk w P ⟨k, n, t, nilS⟩ (.mk k n t []) :=
  .mk k n t nilS [] [] ⟨none, 0, rfl, by unfold maxLen; simp, fun i x h => by simp at h⟩ (fun b h => by cases h) rfl (fun i r x h => by simp at h)
/-- A block made ahead stays. -/
theorem made_cells {w w1 : World} {cs : Array Value} {t : TypeId} {S : Nat → Prop} (hf : Fr S (w.alloc (.cells cs t)) w1) (hs : ¬ S w.heap.size) :
    (∀ j, w1.cell? ⟨w.heap.size, j, none⟩ = cs[j]?) ∧ (∀ j, w1.frozen? ⟨w.heap.size, j, none⟩ = false) ∧ w.heap.size < w1.heap.size := by
  have hz := hf.size
  simp at hz
  refine ⟨fun j => ?_, fun j => ?_, by omega⟩
  · rw [hf.cell (p := ⟨w.heap.size, j, none⟩) (by simp) hs, World.cell?_alloc_new]
  · rw [hf.frozen (p := ⟨w.heap.size, j, none⟩) (by simp) hs, World.frozen?_alloc_new]
theorem made4 {w w1 : World} {a b c d : Value} {t : TypeId} {S : Nat → Prop} (hf : Fr S (w.alloc (.cells #[a, b, c, d] t)) w1) (hs : ¬ S w.heap.size) :
    w1.cell? ⟨w.heap.size, 0, none⟩ = some a ∧ w1.cell? ⟨w.heap.size, 1, none⟩ = some b ∧ w1.cell? ⟨w.heap.size, 2, none⟩ = some c ∧ w1.cell? ⟨w.heap.size, 3, none⟩ = some d ∧ w1.frozen? ⟨w.heap.size, 0, none⟩ = false ∧ w1.frozen? ⟨w.heap.size, 1, none⟩ = false ∧ w1.frozen? ⟨w.heap.size, 2, none⟩ = false ∧ w1.frozen? ⟨w.heap.size, 3, none⟩ = false ∧ w.heap.size < w1.heap.size := by
  obtain ⟨h1, h2, h3⟩ := made_cells hf hs
  exact ⟨h1 0, h1 1, h1 2, h1 3, h2 0, h2 1, h2 2, h2 3, h3⟩
/-- What is stored in the block. -/
theorem Fr.then {S S' : Nat → Prop} {a b c : World} (h : Fr S a b) (k : Fr S' b c) (hs : ∀ j, j < a.heap.size → S' j → S j) : Fr S a c :=
  ⟨k.os.trans h.os, k.tape.trans h.tape, k.output.trans h.output, Nat.le_trans h.size k.size, fun j hj hn => (k.block j (Nat.lt_of_lt_of_le hj h.size) (fun e => hn (hs j hj e))).trans (h.block j hj hn)⟩
theorem new4 (w : World) (a b c d : Value) (t : TypeId) {g : Nat} (hg : g = w.heap.size) : ∀ j u, ([a, b, c, d] : List Value)[j]? = some u → (w.alloc (.cells #[a, b, c, d] t)).cell? ((⟨g, 0, none⟩ : Addr).add j) = some u := by
  subst hg
  exact World.news_of_block (cs := #[a, b, c, d]) (t := t) (fr := (0, 0)) (heap_new _ _)
theorem behind {xs ys : List Value} {m j : Nat} {u : Value} (hm : xs.length = m) (h : ys[j]? = some u) : (xs ++ ys)[m + j]? = some u := by
  subst hm
  rw [List.getElem?_append_right (by omega)]
  rw [show xs.length + j - xs.length = j by omega]
  exact h
theorem new_cells4 {w : World} {base E n cap g : Nat} {xs : List Value} {a b c d : Value} (h : w.ownsRow base E 4 (.slice (some ⟨g, 0, none⟩) (n + 1) cap) (n + 1) (xs ++ [a, b, c, d])) (hx : xs.length = n * 4) :
    (w.cell? ⟨g, n * 4, none⟩ = some a ∧ w.cell? ⟨g, n * 4 + 1, none⟩ = some b ∧ w.cell? ⟨g, n * 4 + 2, none⟩ = some c ∧ w.cell? ⟨g, n * 4 + 3, none⟩ = some d) ∧ w.frozen? ⟨g, n * 4, none⟩ = false ∧ w.frozen? ⟨g, n * 4 + 1, none⟩ = false ∧ w.frozen? ⟨g, n * 4 + 2, none⟩ = false ∧ w.frozen? ⟨g, n * 4 + 3, none⟩ = false := by
  refine ⟨⟨?_, ?_, ?_, ?_⟩, h.frozenAt _, h.frozenAt _, h.frozenAt _, h.frozenAt _⟩
  · rw [h.cellAt _ (by omega)]; exact behind (j := 0) hx rfl
  · rw [h.cellAt _ (by omega)]; exact behind (j := 1) hx rfl
  · rw [h.cellAt _ (by omega)]; exact behind (j := 2) hx rfl
  · rw [h.cellAt _ (by omega)]; exact behind (j := 3) hx rfl
theorem owns_same {w : World} {base e sz : Nat} {v : Value} {n : Nat} {xs ys : List Value} (h : w.ownsRow base e sz v n xs) (k : w.ownsRow base e sz v n ys) : xs = ys := by
  rcases h.2 with ⟨h1, h2⟩ | ⟨g, cap, cur, rfl, hb, hg, hr1, hr2, hr3, hr4⟩
  · subst h2
    have e1 := h.1
    have e2 := k.1
    simp at e1 e2
    rw [e1, e2]
  · rcases k.2 with ⟨h1, _⟩ | ⟨g', cap', cur', h1, hb', hg', hs1, hs2, hs3, hs4⟩
    · cases h1
    · cases h1
      rw [hg] at hg'
      cases hg'
      rw [← hr4, hs4]
theorem add_eq (b o j : Nat) : (⟨b, o, none⟩ : Addr).add j = ⟨b, o + j, none⟩ := by
  by_cases h0 : j = 0 <;> simp [Addr.add, h0]
theorem wrap_in (n : Int) (h0 : -9223372036854775808 ≤ n) (h1 : n ≤ 9223372036854775807) : IntKind.i64.wrap n = n := by
  rw [IntKind.wrap_i64]; omega
theorem sl_len {α : Type} {enc : α → List Value} {sz : Nat} {w : World} {s : Slc} {rs : List α} (h : Sl enc sz w s.v rs) : s.n = rs.length ∧ rs.length ≤ 9223372036854775807 := by
  obtain ⟨ao, cap, he, hm, _⟩ := h
  simp only [Value.slice.injEq] at he
  exact ⟨he.2.1, by unfold maxLen at hm; omega⟩
theorem sl_elem1 {w : World} {s : Slc} {rs : List Bs} (h : Sl encN 1 w s.v rs) {i : Nat} {r : Bs} (hi : rs[i]? = some r) : ∃ b off, s.a = some ⟨b, off, none⟩ ∧ b < w.heap.size ∧ w.cell? ⟨b, off + i, none⟩ = some (.string (bs r)) := by
  obtain ⟨ao, cap, he, _, hc⟩ := h
  obtain ⟨b, off, rfl, hb, hcell⟩ := hc i r hi
  simp only [Value.slice.injEq] at he
  have := hcell 0 _ rfl
  rw [Nat.mul_one, Nat.add_zero] at this
  exact ⟨b, off, he.1, hb, this⟩
end Go.Proofs.Ytgocmpooppejdaa
