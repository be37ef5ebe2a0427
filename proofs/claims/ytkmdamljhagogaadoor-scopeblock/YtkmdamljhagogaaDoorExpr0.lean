/- How deep; an expression that isn't read, and one in quotes. -/
import Derived.Test.YtkmdamljhagogaaDoorClosE
namespace Go.Proofs.YtkmdamljhagogaaDoor
open Go.RowKit

def deepZ (n z : Int) : Int := if 10 < n then bad z 9 else z
set_option maxHeartbeats 400000 in
theorem deep_any (rb : Nat) (l : Bs) (z n : Int) (w : World) (h : Pr rb l z w) :
    Calls Tryd.prog 50 #[.pointer (some ⟨rb, 0, none⟩), .int .i64 n] w fun r w' => r = .returned (.bool (deepZ n z == 0)) ∧ Pr rb l (deepZ n z) w' ∧ Fr (at_ rb) w w' := by
  by_cases hn : 10 < n
  · have e : deepZ n z = bad z 9 := by simp [deepZ, hn]
    rw [e]
    have HB := hide (bad_any rb l z 9 w h)
    clear h e
    go_enter Tryd.func50, Tryd.ntmps50
    go_wp2_with (go_at_call 35; refine HB.out.mono ?_; rintro e w2 ⟨rfl, hp, hf⟩; have c1 := hp.e; have hlt := hp.lt; have HP := hide hp; have HF := hide hf; clear hp hf)
    go_ret
    exact ⟨rfl, HP.out, HF.out⟩
  · have e : deepZ n z = z := by simp [deepZ, hn]
    rw [e]
    have c1 := h.e
    have hlt := h.lt
    have HP := hide h
    clear h e
    go_enter Tryd.func50, Tryd.ntmps50
    go_wp2
    go_ret
    exact ⟨rfl, HP.out, Fr.refl _ _⟩
/-- Three blocks made ahead stay. -/
theorem made3 {w w' : World} {A B C : Array Value} {ta tb tc : TypeId} {S : Nat → Prop} (hf : Fr S (((w.alloc (.cells A ta)).alloc (.cells B tb)).alloc (.cells C tc)) w') (h0 : ¬ S w.heap.size) (h1 : ¬ S (w.heap.size + 1)) (h2 : ¬ S (w.heap.size + 1 + 1)) :
    (∀ j, w'.cell? ⟨w.heap.size, j, none⟩ = A[j]?) ∧ (∀ j, w'.cell? ⟨w.heap.size + 1, j, none⟩ = B[j]?) ∧ (∀ j, w'.cell? ⟨w.heap.size + 1 + 1, j, none⟩ = C[j]?) ∧ (∀ j, w'.frozen? ⟨w.heap.size + 1 + 1, j, none⟩ = false) ∧ w.heap.size + 1 + 1 < w'.heap.size := by
  have hz := hf.size
  simp at hz
  have e1 : (w.alloc (.cells A ta)).heap.size = w.heap.size + 1 := by simp
  have e2 : ((w.alloc (.cells A ta)).alloc (.cells B tb)).heap.size = w.heap.size + 1 + 1 := by simp
  refine ⟨fun j => ?_, fun j => ?_, fun j => ?_, fun j => ?_, by omega⟩
  · rw [hf.cell (p := ⟨w.heap.size, j, none⟩) (by simp; omega) h0, World.cell?_alloc_past _ _ _ (by simp; omega), World.cell?_alloc_past _ _ _ (by simp), World.cell?_alloc_new]
  · rw [hf.cell (p := ⟨w.heap.size + 1, j, none⟩) (by simp) h1, World.cell?_alloc_past _ _ _ (by simp), ← e1, World.cell?_alloc_new]
  · rw [hf.cell (p := ⟨w.heap.size + 1 + 1, j, none⟩) (by simp) h2, ← e2, World.cell?_alloc_new]
  · rw [hf.frozen (p := ⟨w.heap.size + 1 + 1, j, none⟩) (by simp) h2, ← e2, World.frozen?_alloc_new]
abbrev w3of (w : World) (rb : Nat) (d : Int) : World := ((w.alloc (.cells #[.pointer (some ⟨rb, 0, none⟩)] 47)).alloc (.cells #[.int .i64 d] 3)).alloc (.cells #[.int .i64 0, .int .i64 0, .string ⟨#[]⟩, .slice none 0 0] 93)
theorem fr3 {S : Nat → Prop} (w : World) (rb : Nat) (d : Int) : Fr S w (w3of w rb d) := (((Fr.refl S w).alloc _).alloc _).alloc _
theorem boxes {w w' : World} {rb : Nat} {d : Int} (hrb : rb < w.heap.size) (hf : Fr (at_ rb) (w3of w rb d) w') :
    w'.cell? ⟨w.heap.size, 0, none⟩ = some (.pointer (some ⟨rb, 0, none⟩)) ∧ w'.cell? ⟨w.heap.size + 1, 0, none⟩ = some (.int .i64 d) ∧
    w'.cell? ⟨w.heap.size + 1 + 1, 0, none⟩ = some (.int .i64 0) ∧ w'.cell? ⟨w.heap.size + 1 + 1, 1, none⟩ = some (.int .i64 0) ∧ w'.cell? ⟨w.heap.size + 1 + 1, 2, none⟩ = some (.string ⟨#[]⟩) ∧ w'.cell? ⟨w.heap.size + 1 + 1, 3, none⟩ = some (.slice none 0 0) ∧
    w'.frozen? ⟨w.heap.size + 1 + 1, 0, none⟩ = false ∧ w'.frozen? ⟨w.heap.size + 1 + 1, 1, none⟩ = false ∧ w'.frozen? ⟨w.heap.size + 1 + 1, 2, none⟩ = false ∧ w'.frozen? ⟨w.heap.size + 1 + 1, 3, none⟩ = false ∧ w.heap.size + 1 + 1 < w'.heap.size := by
  obtain ⟨h1, h2, h3, h4, h5⟩ := made3 hf (by show ¬ w.heap.size = rb; omega) (by show ¬ w.heap.size + 1 = rb; omega) (by show ¬ w.heap.size + 1 + 1 = rb; omega)
  exact ⟨h1 0, h2 0, h3 0, h3 1, h3 2, h3 3, h4 0, h4 1, h4 2, h4 3, h5⟩
/-- The answer is laid in its own block. -/
theorem ex_fin {rb : Nat} {w w' : World} {d : Int} {res : Rd Ex} {r : RawE} (hrb : rb < w.heap.size) (hf : Fr (at_ rb) (w3of w rb d) w') (hp : Pr rb res.l res.z w') (hx : ExOk w' (fun k => w.heap.size + 1 + 1 < k ∧ k < w'.heap.size) r res.v) (u0 u1 u2 u3 : Value) :
    XPost ev ExOk rb w res (.returned (ev r)) ((((w'.setCell ⟨w.heap.size + 1 + 1, 0, none⟩ u0).setCell ⟨w.heap.size + 1 + 1, 1, none⟩ u1).setCell ⟨w.heap.size + 1 + 1, 2, none⟩ u2).setCell ⟨w.heap.size + 1 + 1, 3, none⟩ u3) := by
  have hf9 : Fr (fun k => k = w.heap.size + 1 + 1) w' ((((w'.setCell ⟨w.heap.size + 1 + 1, 0, none⟩ u0).setCell ⟨w.heap.size + 1 + 1, 1, none⟩ u1).setCell ⟨w.heap.size + 1 + 1, 2, none⟩ u2).setCell ⟨w.heap.size + 1 + 1, 3, none⟩ u3) := Fr.putAll (us := [u0, u1, u2, u3]) (o := 0) (g := w.heap.size + 1 + 1) (Fr.refl _ w') (.inl rfl)
  refine ⟨r, rfl, ((fr3 w rb d).trans hf).then hf9 (fun j hj e => by omega), hp.fr hf9 (by omega), ex_stays _ _ _ _ _ _ _ hx hf9 (fun k hk e => by omega) (fun k hk => ⟨by omega, Nat.lt_of_lt_of_le hk.2 hf9.size⟩)⟩
set_option maxHeartbeats 400000 in
set_option maxRecDepth 20000 in
/-- Too deep, or wrong already. -/
theorem expr_not (rb : Nat) (l : Bs) (z d : Int) (w : World) (h : Pr rb l z w) (hz : deepZ d z ≠ 0) :
    Calls Tryd.prog 51 #[.pointer (some ⟨rb, 0, none⟩), .int .i64 d] w (XPost ev ExOk rb w ⟨ex0, l, deepZ d z⟩) := by
  have HD := hide (deep_any rb l z d _ (h.fr (fr3 w rb d) (S := nothing) id))
  have hrb := h.lt
  have hz' : (deepZ d z == 0) = false := by simpa using hz
  rw [hz'] at HD
  clear h hz'
  go_enter Tryd.func51, Tryd.ntmps51
  go_wp2_with (go_at_call 50; refine HD.out.mono ?_; rintro e w2 ⟨rfl, hp, hf⟩; obtain ⟨b0, b1, c0, c1, c2, c3, f0, f1, f2, f3, hlt⟩ := boxes hrb hf; have HP := hide hp; have HF := hide hf; clear hp hf)
  refine bodyPost_ret (v := ev ⟨0, 0, [], nilS⟩) (by simp [results, Tryd.results51, go_sem, c0, c1, c2, c3, bs]) rfl ?_
  exact ex_fin (res := ⟨ex0, l, deepZ d z⟩) hrb HF.out HP.out (ex_leaf _ _ _ _ _) _ _ _ _
end Go.Proofs.YtkmdamljhagogaaDoor
