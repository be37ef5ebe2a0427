/- What a statement's walk leans on. -/
import Derived.Test.YtkmdamljhagogaaDoorStmts
import Derived.Test.YtkmdamljhagogaaDoorPush2
import Derived.Test.YtkmdamljhagogaaDoorKinds
import Derived.Test.YtkmdamljhagogaaDoorExprW
namespace Go.Proofs.YtkmdamljhagogaaDoor
open Go.RowKit

/-- A block of five cells. -/
structure B5 (b : Nat) (v0 v1 v2 v3 v4 : Value) (w : World) : Prop where
  c0 : w.cell? ⟨b, 0, none⟩ = some v0
  c1 : w.cell? ⟨b, 1, none⟩ = some v1
  c2 : w.cell? ⟨b, 2, none⟩ = some v2
  c3 : w.cell? ⟨b, 3, none⟩ = some v3
  c4 : w.cell? ⟨b, 4, none⟩ = some v4
  f : ∀ j, w.frozen? ⟨b, j, none⟩ = false
  lt : b < w.heap.size
theorem B5.fr {b : Nat} {v0 v1 v2 v3 v4 : Value} {w w' : World} {S : Nat → Prop} (h : B5 b v0 v1 v2 v3 v4 w) (hf : Fr S w w') (hs : ¬ S b) : B5 b v0 v1 v2 v3 v4 w' :=
  ⟨(hf.cell (p := ⟨b, 0, none⟩) h.lt hs).trans h.c0, (hf.cell (p := ⟨b, 1, none⟩) h.lt hs).trans h.c1, (hf.cell (p := ⟨b, 2, none⟩) h.lt hs).trans h.c2, (hf.cell (p := ⟨b, 3, none⟩) h.lt hs).trans h.c3, (hf.cell (p := ⟨b, 4, none⟩) h.lt hs).trans h.c4, fun j => (hf.frozen (p := ⟨b, j, none⟩) h.lt hs).trans (h.f j), Nat.lt_of_lt_of_le h.lt hf.size⟩
theorem B5.made (w : World) (v0 v1 v2 v3 v4 : Value) (t : TypeId) : B5 w.heap.size v0 v1 v2 v3 v4 (w.alloc (.cells #[v0, v1, v2, v3, v4] t)) := by
  have hn := made_cells (Fr.refl nothing (w.alloc (.cells #[v0, v1, v2, v3, v4] t))) id
  exact ⟨hn.1 0, hn.1 1, hn.1 2, hn.1 3, hn.1 4, hn.2.1, hn.2.2⟩
theorem B5.set1 {b : Nat} {v0 v1 v2 v3 v4 : Value} {w : World} (h : B5 b v0 v1 v2 v3 v4 w) (u : Value) : B5 b v0 u v2 v3 v4 (w.setCell ⟨b, 1, none⟩ u) :=
  ⟨(World.cell?_setCell_other w ⟨b, 1, none⟩ ⟨b, 0, none⟩ _ (by simp)).trans h.c0, World.cell?_setCell_same _ _ _ h.c1, (World.cell?_setCell_other w ⟨b, 1, none⟩ ⟨b, 2, none⟩ _ (by simp)).trans h.c2, (World.cell?_setCell_other w ⟨b, 1, none⟩ ⟨b, 3, none⟩ _ (by simp)).trans h.c3, (World.cell?_setCell_other w ⟨b, 1, none⟩ ⟨b, 4, none⟩ _ (by simp)).trans h.c4, fun j => by rw [World.frozen?_setCell]; exact h.f j, by have := h.lt; simpa [World.setCell] using this⟩
theorem B5.set3 {b : Nat} {v0 v1 v2 v3 v4 : Value} {w : World} (h : B5 b v0 v1 v2 v3 v4 w) (u : Value) : B5 b v0 v1 v2 u v4 (w.setCell ⟨b, 3, none⟩ u) :=
  ⟨(World.cell?_setCell_other w ⟨b, 3, none⟩ ⟨b, 0, none⟩ _ (by simp)).trans h.c0, (World.cell?_setCell_other w ⟨b, 3, none⟩ ⟨b, 1, none⟩ _ (by simp)).trans h.c1, (World.cell?_setCell_other w ⟨b, 3, none⟩ ⟨b, 2, none⟩ _ (by simp)).trans h.c2, World.cell?_setCell_same _ _ _ h.c3, (World.cell?_setCell_other w ⟨b, 3, none⟩ ⟨b, 4, none⟩ _ (by simp)).trans h.c4, fun j => by rw [World.frozen?_setCell]; exact h.f j, by have := h.lt; simpa [World.setCell] using this⟩
theorem B5.set4 {b : Nat} {v0 v1 v2 v3 v4 : Value} {w : World} (h : B5 b v0 v1 v2 v3 v4 w) (u : Value) : B5 b v0 v1 v2 v3 u (w.setCell ⟨b, 4, none⟩ u) :=
  ⟨(World.cell?_setCell_other w ⟨b, 4, none⟩ ⟨b, 0, none⟩ _ (by simp)).trans h.c0, (World.cell?_setCell_other w ⟨b, 4, none⟩ ⟨b, 1, none⟩ _ (by simp)).trans h.c1, (World.cell?_setCell_other w ⟨b, 4, none⟩ ⟨b, 2, none⟩ _ (by simp)).trans h.c2, (World.cell?_setCell_other w ⟨b, 4, none⟩ ⟨b, 3, none⟩ _ (by simp)).trans h.c3, World.cell?_setCell_same _ _ _ h.c4, fun j => by rw [World.frozen?_setCell]; exact h.f j, by have := h.lt; simpa [World.setCell] using this⟩
/-- A list whose blocks lie from B on. -/
def GOk {ρ α : Type} (enc : ρ → List Value) (sz : Nat) (ok : World → (Nat → Prop) → ρ → α → Prop) (B : Nat) (w : World) (s : Slc) (xs : List α) : Prop :=
  ∃ rs : List ρ, Sl enc sz w s.v rs ∧ (∀ b, s.v.ownBlock = some b → B ≤ b ∧ b < w.heap.size) ∧ Each (ok w (fun k => B ≤ k ∧ k < w.heap.size)) rs xs
theorem GOk.nil {ρ α : Type} {enc : ρ → List Value} {sz : Nat} {ok : World → (Nat → Prop) → ρ → α → Prop} {B : Nat} {w : World} : GOk enc sz ok B w nilS ([] : List α) :=
  ⟨[], ⟨none, 0, rfl, by unfold maxLen; simp, fun i x h => by simp at h⟩, fun b h => (by cases h), rfl, fun i r x h => (by simp at h)⟩
theorem GOk.fr {ρ α : Type} {enc : ρ → List Value} {sz : Nat} {ok : World → (Nat → Prop) → ρ → α → Prop} (hst : Stays ok) {B : Nat} {w w' : World} {s : Slc} {xs : List α} {S : Nat → Prop} (h : GOk enc sz ok B w s xs) (hf : Fr S w w') (hs : ∀ k, S k → k < B) : GOk enc sz ok B w' s xs := by
  obtain ⟨rs, h1, h2, h3⟩ := h
  refine ⟨rs, h1.keep hf h2 (fun k hk e => by have := hs k e; omega), fun b hb => ?_, h3.1, fun i r x a b => hst w w' S _ _ r x (h3.2 i r x a b) hf (fun k hk e => by have := hs k e; omega) (fun k hk => ⟨hk.1, Nat.lt_of_lt_of_le hk.2 hf.size⟩)⟩
  have := h2 b hb
  have := hf.size
  omega
theorem GOk.since {ρ α : Type} {enc : ρ → List Value} {sz : Nat} {ok : World → (Nat → Prop) → ρ → α → Prop} (hst : Stays ok) {B B' : Nat} {w : World} {s : Slc} {xs : List α} (h : GOk enc sz ok B w s xs) (hB : B' ≤ B) : GOk enc sz ok B' w s xs := by
  obtain ⟨rs, h1, h2, h3⟩ := h
  exact ⟨rs, h1, fun b hb => by have := h2 b hb; omega, h3.1, fun i r x a b => hst w w nothing _ _ r x (h3.2 i r x a b) (Fr.refl _ _) (fun _ _ => id) (fun k hk => ⟨by omega, hk.2⟩)⟩
/-- The answer is laid in its own block. -/
theorem st_fin {rb B : Nat} {w w' : World} {res : Rd St} {c : Int} {nm : Bs} {sa sx sy : Slc} {la : List Ex} {lx ly : List St} (hrb : rb < w.heap.size) (hf : Fr (at_ rb) w w') (hp : Pr rb res.l res.z w') (hv : res.v = .mk c nm la lx ly) (hB : w.heap.size < B)
    (ha : GOk encE 4 ExOk B w' sa la) (hx : GOk encS 5 StOk B w' sx lx) (hy : GOk encS 5 StOk B w' sy ly) (u0 u1 u2 u3 u4 : Value) :
    XPost sv StOk rb w res (.returned (sv ⟨c, nm, sa, sx, sy⟩)) (((((w'.setCell ⟨w.heap.size, 0, none⟩ u0).setCell ⟨w.heap.size, 1, none⟩ u1).setCell ⟨w.heap.size, 2, none⟩ u2).setCell ⟨w.heap.size, 3, none⟩ u3).setCell ⟨w.heap.size, 4, none⟩ u4) := by
  have hf9 : Fr (fun k => k = w.heap.size) w' (((((w'.setCell ⟨w.heap.size, 0, none⟩ u0).setCell ⟨w.heap.size, 1, none⟩ u1).setCell ⟨w.heap.size, 2, none⟩ u2).setCell ⟨w.heap.size, 3, none⟩ u3).setCell ⟨w.heap.size, 4, none⟩ u4) := Fr.putAll (us := [u0, u1, u2, u3, u4]) (o := 0) (g := w.heap.size) (Fr.refl _ w') (.inl rfl)
  have ha9 := ha.fr ex_stays hf9 (fun k e => by omega)
  have hx9 := hx.fr st_stays hf9 (fun k e => by omega)
  have hy9 := hy.fr st_stays hf9 (fun k e => by omega)
  obtain ⟨ra, a1, a2, a3⟩ := ha9.since ex_stays (Nat.le_of_lt hB)
  obtain ⟨rx, x1, x2, x3⟩ := hx9.since st_stays (Nat.le_of_lt hB)
  obtain ⟨ry, y1, y2, y3⟩ := hy9.since st_stays (Nat.le_of_lt hB)
  refine ⟨⟨c, nm, sa, sx, sy⟩, rfl, hf.then hf9 (fun j hj e => by omega), hp.fr hf9 (by omega), ?_⟩
  rw [hv]
  exact .mk _ _ _ _ _ ra rx ry la lx ly a1 a2 a3 x1 x2 x3.1 x3.2 y1 y2 y3.1 y3.2
theorem times_step {α : Type} (one : Reader α) {n j : Nat} (h : j < n) (l : Bs) (z : Int) : times one (n - j) l z = (times one (n - (j + 1)) (one l z).l (one l z).z).after [(one l z).v] := by
  obtain ⟨m, hm⟩ : ∃ m, n - j = m + 1 := ⟨n - j - 1, by omega⟩
  rw [hm, show n - (j + 1) = m by omega]
  rfl
theorem argsV_get : ∀ c, c < 10 → (#[Value.int .i64 0, .int .i64 1, .int .i64 1, .int .i64 1, .int .i64 1, .int .i64 1, .int .i64 1, .int .i64 2, .int .i64 2, .int .i64 1] : Array Value)[c]? = some (.int .i64 (argsOf c))
  | 0, _ => rfl
  | 1, _ => rfl
  | 2, _ => rfl
  | 3, _ => rfl
  | 4, _ => rfl
  | 5, _ => rfl
  | 6, _ => rfl
  | 7, _ => rfl
  | 8, _ => rfl
  | 9, _ => rfl
  | n + 10, h => by omega
theorem argsOf_le (c : Nat) : argsOf c ≤ 2 := by unfold argsOf; split; omega; split <;> omega
end Go.Proofs.YtkmdamljhagogaaDoor
