/- Maps of names. -/
import Derived.Test.YtkmdamljhagogaaDoorBase
namespace Go.Proofs.YtkmdamljhagogaaDoor
open Go.RowKit

/-- What a map holds, and how much. -/
structure AMap where
  f : Bs → Option Int
  n : Nat
def AMap.empty : AMap := ⟨fun _ => none, 0⟩
def AMap.put (A : AMap) (k : Bs) (v : Int) : AMap := ⟨fun x => if x = k then some v else A.f x, if (A.f k).isSome then A.n else A.n + 1⟩
def AMap.del (A : AMap) (k : Bs) : AMap := ⟨fun x => if x = k then none else A.f x, if (A.f k).isSome then A.n - 1 else A.n⟩
theorem law9 : Maps.Keyed Tryd.prog 9 := Maps.string_keyed Tryd.underlying9
theorem zero3 (w : World) : (zeroValue 3).run Tryd.prog w = .ok (.int .i64 0) w := by kernel_rfl
theorem key9 (k : Bs) (hk : k.length ≤ 100000) : keyOf Tryd.prog 9 (.string (bs k)) = some (.string k) := WideMaps.keyOf_string_mk Tryd.underlying9 (s := bs k) (by rw [bs_size]; unfold maxLen; omega)
/-- The block b is a map of names to numbers. -/
def SI (b : Nat) (A : AMap) (w : World) : Prop :=
  ∃ D : DataW Unit, w.ownsMap Tryd.prog 9 (plainElem Tryd.prog 3) b A.n D ∧ (∀ k, D.atKey (.string k) (.lit (.int .i64 0)) = .lit (.int .i64 ((A.f k).getD 0))) ∧ (∀ k, Maps.has D (.string k) = (A.f k).isSome) ∧ Maps.size D = A.n
theorem SI.lt {b : Nat} {A : AMap} {w : World} (h : SI b A w) : b < w.heap.size := by
  obtain ⟨D, h1, _⟩ := h
  exact World.ownsMap.lt h1
theorem owns_map_fr {P : Program} {k : TypeId} {R : Value → Option (DataW Unit × List MemPlace)} {b n : Nat} {D : DataW Unit} {w w' : World} {S : Nat → Prop} (h : w.ownsMap P k R b n D) (hf : Fr S w w') (hs : ¬ S b) : w'.ownsMap P k R b n D := by
  have hlt := World.ownsMap.lt h
  obtain ⟨es, clock, hb, F, hz, hD⟩ := h
  exact ⟨es, clock, (hf.block b hlt hs).trans hb, F, hz, hD⟩
theorem owns_map_tight {P : Program} {k : TypeId} {R : Value → Option (DataW Unit × List MemPlace)} {b n : Nat} {D : DataW Unit} {w : World} (h : w.ownsMap P k R b n D) : w.ownsMap P k R b (Maps.size D) D := by
  obtain ⟨es, clock, hb, F, hz, rfl⟩ := h
  exact ⟨es, clock, hb, F, by simp [Maps.size, length_sorted], rfl⟩
theorem SI.fr {b : Nat} {A : AMap} {w w' : World} {S : Nat → Prop} (h : SI b A w) (hf : Fr S w w') (hs : ¬ S b) : SI b A w' := by
  obtain ⟨D, h1, h2⟩ := h
  exact ⟨D, owns_map_fr h1 hf hs, h2⟩
theorem SI.made (w : World) : SI w.heap.size AMap.empty (w.alloc (.map #[] 0)) :=
  ⟨.map [], World.ownsMap_made w Tryd.prog 9 _, fun _ => rfl, fun _ => rfl, rfl⟩
theorem SI.look {b : Nat} {A : AMap} {w : World} (h : SI b A w) (k : Bs) (hk : k.length ≤ 100000) : (Instr.lookup 55 (.map (some b)) (.string (bs k)) false).run Tryd.prog w = .ok (.int .i64 ((A.f k).getD 0)) w := by
  obtain ⟨D, h1, h2, _⟩ := h
  obtain ⟨c, hrun, hat, _⟩ := h1.lookup_int law9 Tryd.underlying55 Tryd.underlying3 (zero3 w) (key9 k hk)
  rw [h2] at hat
  simp only [DataW.lit.injEq, Lit.int.injEq, true_and] at hat
  rw [hrun, hat]
theorem SI.look2 {b : Nat} {A : AMap} {w : World} (h : SI b A w) (k : Bs) (hk : k.length ≤ 100000) : (Instr.lookup 55 (.map (some b)) (.string (bs k)) true).run Tryd.prog w = .ok (.tuple #[.int .i64 ((A.f k).getD 0), .bool (A.f k).isSome]) w := by
  obtain ⟨D, h1, h2, h3, _⟩ := h
  obtain ⟨v, ps, hrun, hv⟩ := h1.look_ok law9 Tryd.underlying55 (zero3 w) (plainElem_int Tryd.underlying3 (by decide)) (key9 k hk)
  obtain ⟨c, rfl, hc, _⟩ := plainElem_int_inv Tryd.underlying3 hv
  have hat := congrArg Prod.fst hc
  simp only at hat
  rw [h2] at hat
  simp only [DataW.lit.injEq, Lit.int.injEq, true_and] at hat
  rw [hrun, h3, hat]
theorem isMap_of {P : Program} {k : TypeId} {R : Value → Option (DataW Unit × List MemPlace)} {b n : Nat} {D : DataW Unit} {w : World} (h : w.ownsMap P k R b n D) : Maps.IsMap D := World.ownsMap.isMap h
theorem SI.store {b : Nat} {A : AMap} {w : World} (h : SI b A w) (k : Bs) (hk : k.length ≤ 100000) (v : Int) (hn : A.n ≤ 100000) (h0 : -9223372036854775808 ≤ v) (h1 : v ≤ 9223372036854775807) :
    ∃ w', (Instr.mapUpdate 55 (.map (some b)) (.string (bs k)) (.int .i64 v)).run Tryd.prog w = .ok () w' ∧ SI b (A.put k v) w' ∧ Fr (fun j => j = b) w w' := by
  obtain ⟨D, g1, g2, g3, g4⟩ := h
  have hw : (Lit.int .i64 v).wf = true := by simp [Lit.wf, IntKind.min, IntKind.max, IntKind.signed, IntKind.bits]; omega
  obtain ⟨w', hrun, ho, hg⟩ := g1.update law9 Tryd.underlying55 (by unfold maxLen; omega) (key9 k hk) (plainElem_int Tryd.underlying3 hw)
  have hmap := isMap_of g1
  have hkey : WideAt.IsKeyLit (.string k) := by trivial
  have htd := World.ownsMap.tidy g1 law9
  have hsz : Maps.size (D.put (.string k) (.lit (.int .i64 v))) = (A.put k v).n := by
    rw [Maps.size_put htd, g3, g4]
    rfl
  refine ⟨w', hrun, ⟨D.put (.string k) (.lit (.int .i64 v)), ?_, fun x => ?_, fun x => ?_, hsz⟩, (Fr.refl _ w).grown hg (fun j hj => .inl (by simpa using hj.symm))⟩
  · rw [← hsz]; exact owns_map_tight ho
  · by_cases hx : x = k
    · subst hx
      rw [Maps.atKey_put_same hmap hkey]
      simp [AMap.put]
    · rw [Maps.atKey_put_other (by intro e; exact hx (by cases e; rfl)), g2]
      simp [AMap.put, hx]
  · by_cases hx : x = k
    · subst hx
      rw [Maps.has_put_same hmap hkey]
      simp [AMap.put]
    · rw [Maps.has_put_other (by intro e; exact hx (by cases e; rfl)), g3]
      simp [AMap.put, hx]
theorem SI.drop {b : Nat} {A : AMap} {w : World} (h : SI b A w) (k : Bs) (hk : k.length ≤ 100000) (ty : TypeId) :
    ∃ w', (Builtin.delete_ #[55, 9] ty #[.map (some b), .string (bs k)]).run Tryd.prog w = .ok (.tuple #[]) w' ∧ SI b (A.del k) w' ∧ Fr (fun j => j = b) w w' := by
  obtain ⟨D, g1, g2, g3, g4⟩ := h
  obtain ⟨w', hrun, ho, ht⟩ := g1.drop law9 Tryd.underlying55 (key9 k hk) ty
  have htd := World.ownsMap.tidy g1 law9
  have hsz : Maps.size (D.del (.string k)) = (A.del k).n := by
    have := Maps.size_del (k := .string k) htd
    rw [g3, g4] at this
    unfold AMap.del
    by_cases hs : (A.f k).isSome
    · simp only [hs, if_true] at this ⊢; omega
    · have hs' : (A.f k).isSome = false := by simpa using hs
      simp only [hs', Bool.false_eq_true, if_false] at this ⊢; omega
  refine ⟨w', hrun, ⟨D.del (.string k), ?_, fun x => ?_, fun x => ?_, hsz⟩, (Fr.refl _ w).grown ht.grown (fun j hj => .inl (by simpa using hj.symm))⟩
  · rw [← hsz]; exact owns_map_tight ho
  · by_cases hx : x = k
    · subst hx
      rw [Maps.atKey_del_same]
      simp [AMap.del]
    · rw [Maps.atKey_del_other (by intro e; exact hx (by cases e; rfl)), g2]
      simp [AMap.del, hx]
  · by_cases hx : x = k
    · subst hx
      rw [Maps.has_del_same]
      simp [AMap.del]
    · rw [Maps.has_del_other (by intro e; exact hx (by cases e; rfl)), g3]
      simp [AMap.del, hx]
theorem SI.len {b : Nat} {A : AMap} {w : World} (h : SI b A w) (ty : TypeId) : (Builtin.len_ #[55] ty #[.map (some b)]).run Tryd.prog w = .ok (.int .i64 A.n) w := by
  obtain ⟨D, g1, _, _, g4⟩ := h
  rw [g1.len Tryd.underlying55 ty, g4]
/-- The block b is a map of names to truth. -/
def SB (b : Nat) (A : AMap) (w : World) : Prop :=
  ∃ D : DataW Unit, w.ownsMap Tryd.prog 9 (plainElem Tryd.prog 4) b A.n D ∧ (∀ k, Maps.has D (.string k) = (A.f k).isSome) ∧ Maps.size D = A.n
theorem SB.lt {b : Nat} {A : AMap} {w : World} (h : SB b A w) : b < w.heap.size := by
  obtain ⟨D, h1, _⟩ := h
  exact World.ownsMap.lt h1
theorem SB.fr {b : Nat} {A : AMap} {w w' : World} {S : Nat → Prop} (h : SB b A w) (hf : Fr S w w') (hs : ¬ S b) : SB b A w' := by
  obtain ⟨D, h1, h2⟩ := h
  exact ⟨D, owns_map_fr h1 hf hs, h2⟩
theorem SB.made (w : World) : SB w.heap.size AMap.empty (w.alloc (.map #[] 0)) :=
  ⟨.map [], World.ownsMap_made w Tryd.prog 9 _, fun _ => rfl, rfl⟩
theorem SB.store {b : Nat} {A : AMap} {w : World} (h : SB b A w) (k : Bs) (hk : k.length ≤ 100000) (v : Int) (hn : A.n ≤ 100000) :
    ∃ w', (Instr.mapUpdate 63 (.map (some b)) (.string (bs k)) (.bool true)).run Tryd.prog w = .ok () w' ∧ SB b (A.put k v) w' ∧ Fr (fun j => j = b) w w' := by
  obtain ⟨D, g1, g3, g4⟩ := h
  obtain ⟨w', hrun, ho, hg⟩ := g1.update law9 Tryd.underlying63 (by unfold maxLen; omega) (key9 k hk) (plainElem_bool Tryd.underlying4 true)
  have hmap := isMap_of g1
  have hkey : WideAt.IsKeyLit (.string k) := by trivial
  have htd := World.ownsMap.tidy g1 law9
  have hsz : Maps.size (D.put (.string k) (.lit (.bool true))) = (A.put k v).n := by
    rw [Maps.size_put htd, g3, g4]
    rfl
  refine ⟨w', hrun, ⟨D.put (.string k) (.lit (.bool true)), ?_, fun x => ?_, hsz⟩, (Fr.refl _ w).grown hg (fun j hj => .inl (by simpa using hj.symm))⟩
  · rw [← hsz]; exact owns_map_tight ho
  · by_cases hx : x = k
    · subst hx
      rw [Maps.has_put_same hmap hkey]
      simp [AMap.put]
    · rw [Maps.has_put_other (by intro e; exact hx (by cases e; rfl)), g3]
      simp [AMap.put, hx]
theorem SB.len {b : Nat} {A : AMap} {w : World} (h : SB b A w) (ty : TypeId) : (Builtin.len_ #[63] ty #[.map (some b)]).run Tryd.prog w = .ok (.int .i64 A.n) w := by
  obtain ⟨D, g1, _, g4⟩ := h
  rw [g1.len Tryd.underlying63 ty, g4]
end Go.Proofs.YtkmdamljhagogaaDoor
