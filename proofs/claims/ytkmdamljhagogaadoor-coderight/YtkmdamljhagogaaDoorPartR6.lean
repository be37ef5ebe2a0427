/- Stmts; Push2; Maps; Kinds; ExprW; StmtB. -/
import Derived.Lib.AtoiAllCases
import Derived.Test.YtkmdamljhagogaaDoorPartR5
import Derived.Test.YtkmdamljhagogaaDoorPartR4
import Derived.Test.YtkmdamljhagogaaDoorPartR1
section
/- Statements up to a bracket. -/
namespace Go.Proofs.YtkmdamljhagogaaDoor
open Go.RowKit

/-- A list of statements, as it is answered. -/
def LPost (rb : Nat) (w : World) (res : Rd (List St)) (e : Ending) (w' : World) : Prop :=
  ∃ s : Slc, e = .returned (.slice s.a s.n s.c) ∧ Fr (at_ rb) w w' ∧ Pr rb res.l res.z w' ∧ s.n = res.v.length ∧ ∃ rs, Sl encS 5 w' s.v rs ∧ (∀ b, s.v.ownBlock = some b → w.heap.size ≤ b ∧ b < w'.heap.size) ∧ Each (StOk w' (fun k => w.heap.size ≤ k ∧ k < w'.heap.size)) rs res.v
set_option maxHeartbeats 400000 in
set_option maxRecDepth 20000 in
theorem stmts_any (w0 : World) (rb : Nat) (d : Int) (one : Reader St) (N : Nat) (hN : 1502 ≤ N) (hless : Less one) (hsmall : Small one) (hd0 : 0 ≤ d) (hd : d ≤ 100)
    (hone : ∀ l w, Pw w0 rb l 0 w → Calls Tryd.prog 38 #[.pointer (some ⟨rb, 0, none⟩), .int .i64 d] w (XPost sv StOk rb w (one l 0)))
    (l : Bs) (z : Int) (w : World) (h : Pw w0 rb l z w) :
    Calls Tryd.prog 23 #[.pointer (some ⟨rb, 0, none⟩), .int .i64 d] w (LPost rb w (until_ one N l z)) := by
  have hrb := h.pr.lt
  have hge := h.ge
  have hF3 : Fr nothing w (((w.alloc (.cells #[.pointer (some ⟨rb, 0, none⟩)] 47)).alloc (.cells #[.int .i64 d] 3)).alloc (.cells #[.slice none 0 0] 41)) := (((Fr.refl _ w).alloc _).alloc _).alloc _
  have hm := made3 (Fr.refl nothing (((w.alloc (.cells #[.pointer (some ⟨rb, 0, none⟩)] 47)).alloc (.cells #[.int .i64 d] 3)).alloc (.cells #[.slice none 0 0] 41))) id id id
  have hP3 := h.fr hF3 id (fun k e => e.elim)
  generalize hw1 : (((w.alloc (.cells #[.pointer (some ⟨rb, 0, none⟩)] 47)).alloc (.cells #[.int .i64 d] 3)).alloc (.cells #[.slice none 0 0] 41)) = w1 at hF3 hm hP3
  obtain ⟨m1, m2, m3, m4, m5⟩ := hm
  have hJ0 : JL w0 rb 88 5 encS StOk w1 (w.heap.size + 1 + 1) 0 [] l z w1 :=
    { pw := hP3, fr := Fr.refl _ _, fz := fun _ => rfl, old := fun _ _ => rfl, le := fun _ => by have := hP3.len; simpa using this, row := ⟨nilS, m3 0, Row.nil _ (Nat.le_refl _)⟩ }
  have hw01 := hP3.bel.size
  have hww := h.bel.size
  have hrb1 := hP3.pr.lt
  have hne : w.heap.size ≠ rb ∧ w.heap.size ≠ w.heap.size + 1 + 1 ∧ w.heap.size + 1 ≠ rb ∧ w.heap.size + 1 ≠ w.heap.size + 1 + 1 ∧ w.heap.size + 1 + 1 ≠ rb := ⟨by omega, by omega, by omega, by omega, by omega⟩
  have hU := until_S rb _ _ _ one (JL w0 rb 88 5 encS StOk w1 (w.heap.size + 1 + 1) 0) hless hsmall (fun acc l z w h => ⟨h.pw.pr, h.pw.len⟩)
    (fun acc l l' z z' w' w'' h hp hl hz hf => h.move st_stays m5 hrb1 hne.2.2.2.2 hp hl hz hf)
    (fun acc l w' h => clS w0 rb w1 w.heap.size (w.heap.size + 1) (w.heap.size + 1 + 1) d one acc l w' hone hless hsmall hd0 hd (m1 0) (m2 0) m5 hrb1 hne ⟨by omega, hw01⟩ (m4 0) h)
    N [] l z w1 hJ0 (by omega) (fun _ => by have := hP3.len; omega)
  simp only [List.nil_append] at hU
  subst hw1
  have HU := hide hU
  have HF3 := hide hF3
  generalize until_ one N l z = q at *
  clear hU hJ0 hP3 h hone m1 m2 m3 m4 m5 hF3
  go_enter Tryd.func23, Tryd.ntmps23
  go_wp2_with (go_at_call 21; refine HU.out.mono ?_; rintro e w9 ⟨rfl, hj⟩; obtain ⟨⟨sa, sn, sc⟩, hc3, hrow⟩ := hj.row; obtain rfl : sn = q.v.length := (by obtain ⟨a, c, h⟩ := hrow.shape; cases h; rfl); have hb9 : w.heap.size + 1 + 1 < w9.heap.size := (by have := hj.fr.size; simp at this; omega); have HJ9 := hide hj; have HR := hide hrow; clear hj hrow)
  go_ret
  obtain ⟨rs, k1, k2, k3⟩ := HR.out.done st_stays encS_len (B := w.heap.size) (by simp; omega)
  refine ⟨⟨sa, q.v.length, sc⟩, rfl, HF3.out.mono (fun _ _ e => e.elim) |>.then HJ9.out.fr (fun j hj e => ?_), HJ9.out.pw.pr, rfl, rs, k1, k2, k3⟩
  rcases e with e | e
  · exact e
  · omega
end Go.Proofs.YtkmdamljhagogaaDoor
end
section
/- One more, also where something is wrong. -/
namespace Go.Proofs.YtkmdamljhagogaaDoor
open Go.RowKit
section
variable {ρ α : Type} {w0 : World} {rb E sz : Nat} {enc : ρ → List Value} {ok : World → (Nat → Prop) → ρ → α → Prop} {w1 : World} {bx off : Nat}
theorem JL.pushz (hst : Stays ok) (hlen : ∀ r, (enc r).length = sz) (hbx : bx < w1.heap.size) (hrb : rb < w1.heap.size) (hne : bx ≠ rb) (hw0 : w0.heap.size ≤ bx ∧ w0.heap.size ≤ w1.heap.size) {acc : List α} {l l' : Bs} {z z' : Int} {w wA w6 w9 : World} {s : Slc} {g cp H : Nat} {r : ρ} {x : α} {xs zs us : List Value} (h : JL w0 rb E sz enc ok w1 bx off acc l z w)
    (hrow : Row E sz enc ok w1.heap.size s.v acc w) (hF : Fr (at_ rb) w wA) (hpA : Pw w0 rb l' z' wA) (hx : ok wA (fun k => w.heap.size ≤ k ∧ k < wA.heap.size) r x) (hle : z' = 0 → acc.length + 1 + l'.length ≤ 1500)
    (hxs : wA.ownsRow w1.heap.size E sz s.v acc.length xs) (hr6 : w6.ownsRow w1.heap.size E sz (.slice (some ⟨g, 0, none⟩) (acc.length + 1) cp) (acc.length + 1) (xs ++ zs)) (hg6 : wA.grownBy w6 s.v.ownBlock) (hat : s.v.ownBlock = some g ∨ g = H) (hH : wA.heap.size ≤ H)
    (hzs : zs.length = sz) (hus : us = enc r) (hk6 : w6.cell? ⟨bx, off, none⟩ = some s.v)
    (h9 : w9 = (putAll w6 g (acc.length * sz) us).setCell ⟨bx, off, none⟩ (.slice (some ⟨g, 0, none⟩) (acc.length + 1) cp) ∨ w9 = putAll (w6.setCell ⟨bx, off, none⟩ (.slice (some ⟨g, 0, none⟩) (acc.length + 1) cp)) g (acc.length * sz) us ∨ (zs = us ∧ w9 = w6.setCell ⟨bx, off, none⟩ (.slice (some ⟨g, 0, none⟩) (acc.length + 1) cp))) :
    JL w0 rb E sz enc ok w1 bx off (acc ++ [x]) l' z' w9 := by
  subst hus
  have hsz := h.fr.size
  have hszA := hF.size
  have hownlt : ∀ k, s.v.ownBlock = some k → w1.heap.size ≤ k ∧ k < wA.heap.size := hxs.lt
  have hgb : g ≠ bx := by
    rcases hat with e | e
    · have := (hownlt g e).1; omega
    · omega
  have hgr : g ≠ rb := by
    rcases hat with e | e
    · have := (hownlt g e).1; omega
    · omega
  have hat' : s.v.ownBlock = some g ∨ wA.heap.size ≤ g := by
    rcases hat with e | e
    · exact .inl e
    · exact .inr (by omega)
  have F6 : Fr (fun k => k = bx ∨ s.v.ownBlock = some k) wA w6 := (Fr.refl _ wA).grown hg6 (fun k hk => .inl (.inr hk))
  have hgS : (g = bx ∨ s.v.ownBlock = some g) ∨ wA.heap.size ≤ g := hat'.imp .inr id
  have hA9 : Fr (fun k => k = bx ∨ s.v.ownBlock = some k) wA w9 := by
    rcases h9 with rfl | rfl | ⟨hzu, rfl⟩
    · exact (F6.putAll hgS).setCell (p := ⟨bx, off, none⟩) (.inl (.inl rfl)) _
    · exact Fr.putAll (F6.setCell (p := ⟨bx, off, none⟩) (.inl (.inl rfl)) _) hgS
    · exact F6.setCell (p := ⟨bx, off, none⟩) (.inl (.inl rfl)) _
  have hbS : ∀ (wa : World) (cs : List Value), wa.ownsRow w1.heap.size E sz (.slice (some ⟨g, 0, none⟩) (acc.length + 1) cp) (acc.length + 1) cs → (wa.setCell ⟨bx, off, none⟩ (.slice (some ⟨g, 0, none⟩) (acc.length + 1) cp)).ownsRow w1.heap.size E sz (.slice (some ⟨g, 0, none⟩) (acc.length + 1) cp) (acc.length + 1) cs := fun wa cs hh =>
    owns_fr hh (Fr.setCell (Fr.refl (fun k => k = bx) wa) (p := ⟨bx, off, none⟩) (.inl rfl) _) (fun k hk e => by
      have : g = k := by simpa [Value.ownBlock] using hk
      omega)
  have hend : setAll (xs ++ zs) (acc.length * sz) (enc r) = xs ++ enc r := by
    have := setAll_end (enc r) xs zs (by rw [hzs, hlen])
    rwa [hxs.1] at this
  have row9 : w9.ownsRow w1.heap.size E sz (.slice (some ⟨g, 0, none⟩) (acc.length + 1) cp) (acc.length + 1) (xs ++ enc r) := by
    rcases h9 with rfl | rfl | ⟨hzu, rfl⟩
    · have := owns_putAll (us := enc r) (o := acc.length * sz) hr6
      rw [hend] at this
      exact hbS _ _ this
    · have := owns_putAll (us := enc r) (o := acc.length * sz) (hbS _ _ hr6)
      rw [hend] at this
      exact this
    · rw [hzu] at hr6
      exact hbS _ _ hr6
  have hcell : w9.cell? ⟨bx, off, none⟩ = some (.slice (some ⟨g, 0, none⟩) (acc.length + 1) cp) := by
    rcases h9 with rfl | rfl | ⟨hzu, rfl⟩
    · exact World.cell?_setCell_same _ _ _ (by rw [putAll_far hgb]; exact hk6)
    · rw [putAll_far hgb]; exact World.cell?_setCell_same _ _ _ hk6
    · exact World.cell?_setCell_same _ _ _ hk6
  have hfar : some bx ≠ s.v.ownBlock := fun e => by have := (hownlt bx e.symm).1; omega
  have hcell6 : ∀ j, j ≠ off → w9.cell? ⟨bx, j, none⟩ = w6.cell? ⟨bx, j, none⟩ := fun j hj => by
    rcases h9 with rfl | rfl | ⟨hzu, rfl⟩
    · rw [World.cell?_setCell_other _ ⟨bx, off, none⟩ ⟨bx, j, none⟩ _ (fun e => hj (by cases e; rfl)), putAll_far hgb]
    · rw [putAll_far hgb, World.cell?_setCell_other _ ⟨bx, off, none⟩ ⟨bx, j, none⟩ _ (fun e => hj (by cases e; rfl))]
    · rw [World.cell?_setCell_other _ ⟨bx, off, none⟩ ⟨bx, j, none⟩ _ (fun e => hj (by cases e; rfl))]
  have hfz6 : ∀ j, w9.frozen? ⟨bx, j, none⟩ = w6.frozen? ⟨bx, j, none⟩ := fun j => by
    rcases h9 with rfl | rfl | ⟨hzu, rfl⟩
    · rw [World.frozen?_setCell, putAll_frozen]
    · rw [putAll_frozen, World.frozen?_setCell]
    · rw [World.frozen?_setCell]
  have hbA : bx < wA.heap.size := by omega
  exact { pw := hpA.fr hA9 (fun e => by
            rcases e with e | e
            · exact hne e.symm
            · have := (hownlt rb e).1; omega) (fun k e => by
            rcases e with e | e
            · omega
            · have := (hownlt k e).1; omega)
          fr := (h.fr.trans (hF.mono (fun k _ e => .inl e))).then hA9 (fun j hj e => by
            rcases e with e | e
            · exact .inr e
            · have := (hownlt j e).1; omega)
          fz := fun j => (hfz6 j).trans ((hg6.frozen_far ⟨bx, j, none⟩ hbA hfar).trans ((hF.frozen (p := ⟨bx, j, none⟩) (by show bx < _; omega) hne).trans (h.fz j)))
          old := fun j hj => (hcell6 j hj).trans ((hg6.cell_far ⟨bx, j, none⟩ hbA hfar).trans ((hF.cell (p := ⟨bx, j, none⟩) (by show bx < _; omega) hne).trans (h.old j hj)))
          le := fun h0 => by have := hle h0; simp; omega
          row := ⟨⟨some ⟨g, 0, none⟩, acc.length + 1, cp⟩, hcell, hrow.push hst hF (fun k e => by show k < _; have : k = rb := e; omega) (Nat.le_refl _) hx hA9 (fun k e => by
              rcases e with e | e
              · exact .inl (by omega)
              · exact .inr e) (fun rs hrs => by
              have h2 : wA.ownsRow w1.heap.size E sz s.v acc.length (rs.flatMap enc) := owns_fr hrs hF (fun k hk e => by have := (hrs.lt k hk).1; have : k = rb := e; omega)
              have : rs.flatMap enc = xs := owns_same h2 hxs
              rw [this]
              exact row9) (by
              rcases hat' with e | e
              · exact .inl e.symm
              · exact .inr ⟨g, rfl, e⟩)⟩ }
end
end Go.Proofs.YtkmdamljhagogaaDoor
end
section
/- Maps of names. -/
namespace Go.Proofs.YtkmdamljhagogaaDoor
open Go.RowKit

/-- What a map holds, and how much. -/
structure AMap where
  f : Bs → Option Int
  n : Nat
def AMap.empty : AMap := ⟨fun _ => none, 0⟩
def AMap.put (A : AMap) (k : Bs) (v : Int) : AMap := ⟨fun x => if x = k then some v else A.f x, if (A.f k).isSome then A.n else A.n + 1⟩
def AMap.del (A : AMap) (k : Bs) : AMap := ⟨fun x => if x = k then none else A.f x, if (A.f k).isSome then A.n - 1 else A.n⟩
theorem law9 : Maps.Keyed Tryd.prog 9 := Maps.string_keyed Tryd.underlying9
theorem zero3 (w : World) : (zeroValue 3).run Tryd.prog w = .ok (.int .i64 0) w := by kernel_rfl
theorem key9 (k : Bs) (hk : k.length ≤ 100000) : keyOf Tryd.prog 9 (.string (bs k)) = some (.string k) := WideMaps.keyOf_string_mk Tryd.underlying9 (s := bs k) (by rw [bs_size]; unfold maxLen; omega)
/-- The block b is a map of names to numbers. -/
def SI (b : Nat) (A : AMap) (w : World) : Prop :=
  ∃ D : DataW Unit, w.ownsMap Tryd.prog 9 (plainElem Tryd.prog 3) b A.n D ∧ (∀ k, D.atKey (.string k) (.lit (.int .i64 0)) = .lit (.int .i64 ((A.f k).getD 0))) ∧ (∀ k, Maps.has D (.string k) = (A.f k).isSome) ∧ Maps.size D = A.n
theorem SI.lt {b : Nat} {A : AMap} {w : World} (h : SI b A w) : b < w.heap.size := by
  obtain ⟨D, h1, _⟩ := h
  exact World.ownsMap.lt h1
theorem owns_map_fr {P : Program} {k : TypeId} {R : Value → Option (DataW Unit × List MemPlace)} {b n : Nat} {D : DataW Unit} {w w' : World} {S : Nat → Prop} (h : w.ownsMap P k R b n D) (hf : Fr S w w') (hs : ¬ S b) : w'.ownsMap P k R b n D := by
  have hlt := World.ownsMap.lt h
  obtain ⟨es, clock, hb, F, hz, hD⟩ := h
  exact ⟨es, clock, (hf.block b hlt hs).trans hb, F, hz, hD⟩
theorem owns_map_tight {P : Program} {k : TypeId} {R : Value → Option (DataW Unit × List MemPlace)} {b n : Nat} {D : DataW Unit} {w : World} (h : w.ownsMap P k R b n D) : w.ownsMap P k R b (Maps.size D) D := by
  obtain ⟨es, clock, hb, F, hz, rfl⟩ := h
  exact ⟨es, clock, hb, F, by simp [Maps.size, length_sorted], rfl⟩
theorem SI.fr {b : Nat} {A : AMap} {w w' : World} {S : Nat → Prop} (h : SI b A w) (hf : Fr S w w') (hs : ¬ S b) : SI b A w' := by
  obtain ⟨D, h1, h2⟩ := h
  exact ⟨D, owns_map_fr h1 hf hs, h2⟩
theorem SI.made (w : World) : SI w.heap.size AMap.empty (w.alloc (.map #[] 0)) :=
  ⟨.map [], World.ownsMap_made w Tryd.prog 9 _, fun _ => rfl, fun _ => rfl, rfl⟩
theorem SI.look {b : Nat} {A : AMap} {w : World} (h : SI b A w) (k : Bs) (hk : k.length ≤ 100000) : (Instr.lookup 55 (.map (some b)) (.string (bs k)) false).run Tryd.prog w = .ok (.int .i64 ((A.f k).getD 0)) w := by
  obtain ⟨D, h1, h2, _⟩ := h
  obtain ⟨c, hrun, hat, _⟩ := h1.lookup_int law9 Tryd.underlying55 Tryd.underlying3 (zero3 w) (key9 k hk)
  rw [h2] at hat
  simp only [DataW.lit.injEq, Lit.int.injEq, true_and] at hat
  rw [hrun, hat]
theorem SI.look2 {b : Nat} {A : AMap} {w : World} (h : SI b A w) (k : Bs) (hk : k.length ≤ 100000) : (Instr.lookup 55 (.map (some b)) (.string (bs k)) true).run Tryd.prog w = .ok (.tuple #[.int .i64 ((A.f k).getD 0), .bool (A.f k).isSome]) w := by
  obtain ⟨D, h1, h2, h3, _⟩ := h
  obtain ⟨v, ps, hrun, hv⟩ := h1.look_ok law9 Tryd.underlying55 (zero3 w) (plainElem_int Tryd.underlying3 (by decide)) (key9 k hk)
  obtain ⟨c, rfl, hc, _⟩ := plainElem_int_inv Tryd.underlying3 hv
  have hat := congrArg Prod.fst hc
  simp only at hat
  rw [h2] at hat
  simp only [DataW.lit.injEq, Lit.int.injEq, true_and] at hat
  rw [hrun, h3, hat]
theorem isMap_of {P : Program} {k : TypeId} {R : Value → Option (DataW Unit × List MemPlace)} {b n : Nat} {D : DataW Unit} {w : World} (h : w.ownsMap P k R b n D) : Maps.IsMap D := World.ownsMap.isMap h
theorem SI.store {b : Nat} {A : AMap} {w : World} (h : SI b A w) (k : Bs) (hk : k.length ≤ 100000) (v : Int) (hn : A.n ≤ 100000) (h0 : -9223372036854775808 ≤ v) (h1 : v ≤ 9223372036854775807) :
    ∃ w', (Instr.mapUpdate 55 (.map (some b)) (.string (bs k)) (.int .i64 v)).run Tryd.prog w = .ok () w' ∧ SI b (A.put k v) w' ∧ Fr (fun j => j = b) w w' := by
  obtain ⟨D, g1, g2, g3, g4⟩ := h
  have hw : (Lit.int .i64 v).wf = true := by simp [Lit.wf, IntKind.min, IntKind.max, IntKind.signed, IntKind.bits]; omega
  obtain ⟨w', hrun, ho, hg⟩ := g1.update law9 Tryd.underlying55 (by unfold maxLen; omega) (key9 k hk) (plainElem_int Tryd.underlying3 hw)
  have hmap := isMap_of g1
  have hkey : WideAt.IsKeyLit (.string k) := by trivial
  have htd := World.ownsMap.tidy g1 law9
  have hsz : Maps.size (D.put (.string k) (.lit (.int .i64 v))) = (A.put k v).n := by
    rw [Maps.size_put htd, g3, g4]
    rfl
  refine ⟨w', hrun, ⟨D.put (.string k) (.lit (.int .i64 v)), ?_, fun x => ?_, fun x => ?_, hsz⟩, (Fr.refl _ w).grown hg (fun j hj => .inl (by simpa using hj.symm))⟩
  · rw [← hsz]; exact owns_map_tight ho
  · by_cases hx : x = k
    · subst hx
      rw [Maps.atKey_put_same hmap hkey]
      simp [AMap.put]
    · rw [Maps.atKey_put_other (by intro e; exact hx (by cases e; rfl)), g2]
      simp [AMap.put, hx]
  · by_cases hx : x = k
    · subst hx
      rw [Maps.has_put_same hmap hkey]
      simp [AMap.put]
    · rw [Maps.has_put_other (by intro e; exact hx (by cases e; rfl)), g3]
      simp [AMap.put, hx]
theorem SI.drop {b : Nat} {A : AMap} {w : World} (h : SI b A w) (k : Bs) (hk : k.length ≤ 100000) (ty : TypeId) :
    ∃ w', (Builtin.delete_ #[55, 9] ty #[.map (some b), .string (bs k)]).run Tryd.prog w = .ok (.tuple #[]) w' ∧ SI b (A.del k) w' ∧ Fr (fun j => j = b) w w' := by
  obtain ⟨D, g1, g2, g3, g4⟩ := h
  obtain ⟨w', hrun, ho, ht⟩ := g1.drop law9 Tryd.underlying55 (key9 k hk) ty
  have htd := World.ownsMap.tidy g1 law9
  have hsz : Maps.size (D.del (.string k)) = (A.del k).n := by
    have := Maps.size_del (k := .string k) htd
    rw [g3, g4] at this
    unfold AMap.del
    by_cases hs : (A.f k).isSome
    · simp only [hs, if_true] at this ⊢; omega
    · have hs' : (A.f k).isSome = false := by simpa using hs
      simp only [hs', Bool.false_eq_true, if_false] at this ⊢; omega
  refine ⟨w', hrun, ⟨D.del (.string k), ?_, fun x => ?_, fun x => ?_, hsz⟩, (Fr.refl _ w).grown ht.grown (fun j hj => .inl (by simpa using hj.symm))⟩
  · rw [← hsz]; exact owns_map_tight ho
  · by_cases hx : x = k
    · subst hx
      rw [Maps.atKey_del_same]
      simp [AMap.del]
    · rw [Maps.atKey_del_other (by intro e; exact hx (by cases e; rfl)), g2]
      simp [AMap.del, hx]
  · by_cases hx : x = k
    · subst hx
      rw [Maps.has_del_same]
      simp [AMap.del]
    · rw [Maps.has_del_other (by intro e; exact hx (by cases e; rfl)), g3]
      simp [AMap.del, hx]
theorem SI.len {b : Nat} {A : AMap} {w : World} (h : SI b A w) (ty : TypeId) : (Builtin.len_ #[55] ty #[.map (some b)]).run Tryd.prog w = .ok (.int .i64 A.n) w := by
  obtain ⟨D, g1, _, _, g4⟩ := h
  rw [g1.len Tryd.underlying55 ty, g4]
/-- The block b is a map of names to truth. -/
def SB (b : Nat) (A : AMap) (w : World) : Prop :=
  ∃ D : DataW Unit, w.ownsMap Tryd.prog 9 (plainElem Tryd.prog 4) b A.n D ∧ (∀ k, Maps.has D (.string k) = (A.f k).isSome) ∧ Maps.size D = A.n
theorem SB.lt {b : Nat} {A : AMap} {w : World} (h : SB b A w) : b < w.heap.size := by
  obtain ⟨D, h1, _⟩ := h
  exact World.ownsMap.lt h1
theorem SB.fr {b : Nat} {A : AMap} {w w' : World} {S : Nat → Prop} (h : SB b A w) (hf : Fr S w w') (hs : ¬ S b) : SB b A w' := by
  obtain ⟨D, h1, h2⟩ := h
  exact ⟨D, owns_map_fr h1 hf hs, h2⟩
theorem SB.made (w : World) : SB w.heap.size AMap.empty (w.alloc (.map #[] 0)) :=
  ⟨.map [], World.ownsMap_made w Tryd.prog 9 _, fun _ => rfl, rfl⟩
theorem SB.store {b : Nat} {A : AMap} {w : World} (h : SB b A w) (k : Bs) (hk : k.length ≤ 100000) (v : Int) (hn : A.n ≤ 100000) :
    ∃ w', (Instr.mapUpdate 63 (.map (some b)) (.string (bs k)) (.bool true)).run Tryd.prog w = .ok () w' ∧ SB b (A.put k v) w' ∧ Fr (fun j => j = b) w w' := by
  obtain ⟨D, g1, g3, g4⟩ := h
  obtain ⟨w', hrun, ho, hg⟩ := g1.update law9 Tryd.underlying63 (by unfold maxLen; omega) (key9 k hk) (plainElem_bool Tryd.underlying4 true)
  have hmap := isMap_of g1
  have hkey : WideAt.IsKeyLit (.string k) := by trivial
  have htd := World.ownsMap.tidy g1 law9
  have hsz : Maps.size (D.put (.string k) (.lit (.bool true))) = (A.put k v).n := by
    rw [Maps.size_put htd, g3, g4]
    rfl
  refine ⟨w', hrun, ⟨D.put (.string k) (.lit (.bool true)), ?_, fun x => ?_, hsz⟩, (Fr.refl _ w).grown hg (fun j hj => .inl (by simpa using hj.symm))⟩
  · rw [← hsz]; exact owns_map_tight ho
  · by_cases hx : x = k
    · subst hx
      rw [Maps.has_put_same hmap hkey]
      simp [AMap.put]
    · rw [Maps.has_put_other (by intro e; exact hx (by cases e; rfl)), g3]
      simp [AMap.put, hx]
theorem SB.len {b : Nat} {A : AMap} {w : World} (h : SB b A w) (ty : TypeId) : (Builtin.len_ #[63] ty #[.map (some b)]).run Tryd.prog w = .ok (.int .i64 A.n) w := by
  obtain ⟨D, g1, _, g4⟩ := h
  rw [g1.len Tryd.underlying63 ty, g4]
end Go.Proofs.YtkmdamljhagogaaDoor
end
section
/- The words of statements: the map of kinds. -/
namespace Go.Proofs.YtkmdamljhagogaaDoor
open Go.RowKit

def kindsA : AMap := ((((((((AMap.empty.put [108, 101, 116] 1).put [115, 101, 116] 2).put [105, 102] 3).put [119, 104, 105, 108, 101] 4).put [115, 97, 121] 5).put [114, 101, 116, 117, 114, 110] 6).put [112, 117, 116, 108] 7).put [112, 117, 116, 114] 8).put [100, 111] 9
theorem kindsA_at (v : Bs) : (kindsA.f v).getD 0 = (kindOf v : Int) := by
  by_cases h0 : v = [108, 101, 116]
  · subst h0; rfl
  by_cases h1 : v = [115, 101, 116]
  · subst h1; rfl
  by_cases h2 : v = [105, 102]
  · subst h2; rfl
  by_cases h3 : v = [119, 104, 105, 108, 101]
  · subst h3; rfl
  by_cases h4 : v = [115, 97, 121]
  · subst h4; rfl
  by_cases h5 : v = [114, 101, 116, 117, 114, 110]
  · subst h5; rfl
  by_cases h6 : v = [112, 117, 116, 108]
  · subst h6; rfl
  by_cases h7 : v = [112, 117, 116, 114]
  · subst h7; rfl
  by_cases h8 : v = [100, 111]
  · subst h8; rfl
  have e : kindOf v = 0 := by
    unfold kindOf
    rw [if_neg h0, if_neg h1, if_neg h2, if_neg h3, if_neg h4, if_neg h5, if_neg h6, if_neg h7, if_neg h8]
  rw [e]
  simp [kindsA, AMap.put, AMap.empty, h0, h1, h2, h3, h4, h5, h6, h7, h8]
theorem kinds_run (w : World) (v : Bs) (hv : v.length ≤ 1500) : ∃ m1 m2 m3 m4 m5 m6 m7 m8 m9 : World,
    (Instr.mapUpdate 55 (.map (some w.heap.size)) (.string ⟨#[108, 101, 116]⟩) (.int .i64 1)).run Tryd.prog (w.alloc (.map #[] 0)) = .ok () m1 ∧
    (Instr.mapUpdate 55 (.map (some w.heap.size)) (.string ⟨#[115, 101, 116]⟩) (.int .i64 2)).run Tryd.prog m1 = .ok () m2 ∧
    (Instr.mapUpdate 55 (.map (some w.heap.size)) (.string ⟨#[105, 102]⟩) (.int .i64 3)).run Tryd.prog m2 = .ok () m3 ∧
    (Instr.mapUpdate 55 (.map (some w.heap.size)) (.string ⟨#[119, 104, 105, 108, 101]⟩) (.int .i64 4)).run Tryd.prog m3 = .ok () m4 ∧
    (Instr.mapUpdate 55 (.map (some w.heap.size)) (.string ⟨#[115, 97, 121]⟩) (.int .i64 5)).run Tryd.prog m4 = .ok () m5 ∧
    (Instr.mapUpdate 55 (.map (some w.heap.size)) (.string ⟨#[114, 101, 116, 117, 114, 110]⟩) (.int .i64 6)).run Tryd.prog m5 = .ok () m6 ∧
    (Instr.mapUpdate 55 (.map (some w.heap.size)) (.string ⟨#[112, 117, 116, 108]⟩) (.int .i64 7)).run Tryd.prog m6 = .ok () m7 ∧
    (Instr.mapUpdate 55 (.map (some w.heap.size)) (.string ⟨#[112, 117, 116, 114]⟩) (.int .i64 8)).run Tryd.prog m7 = .ok () m8 ∧
    (Instr.mapUpdate 55 (.map (some w.heap.size)) (.string ⟨#[100, 111]⟩) (.int .i64 9)).run Tryd.prog m8 = .ok () m9 ∧
    (Instr.lookup 55 (.map (some w.heap.size)) (.string (bs v)) false).run Tryd.prog m9 = .ok (.int .i64 (kindOf v)) m9 ∧ Fr nothing w m9 ∧ w.heap.size < m9.heap.size := by
  have h0 := SI.made w
  have F0 : Fr (fun j => j = w.heap.size) (w.alloc (.map #[] 0)) (w.alloc (.map #[] 0)) := Fr.refl _ _
  obtain ⟨m1, r1, h1, g1⟩ := h0.store [108, 101, 116] (by decide) 1 (by decide) (by decide) (by decide)
  have F1 := F0.trans g1
  obtain ⟨m2, r2, h2, g2⟩ := h1.store [115, 101, 116] (by decide) 2 (by decide) (by decide) (by decide)
  have F2 := F1.trans g2
  obtain ⟨m3, r3, h3, g3⟩ := h2.store [105, 102] (by decide) 3 (by decide) (by decide) (by decide)
  have F3 := F2.trans g3
  obtain ⟨m4, r4, h4, g4⟩ := h3.store [119, 104, 105, 108, 101] (by decide) 4 (by decide) (by decide) (by decide)
  have F4 := F3.trans g4
  obtain ⟨m5, r5, h5, g5⟩ := h4.store [115, 97, 121] (by decide) 5 (by decide) (by decide) (by decide)
  have F5 := F4.trans g5
  obtain ⟨m6, r6, h6, g6⟩ := h5.store [114, 101, 116, 117, 114, 110] (by decide) 6 (by decide) (by decide) (by decide)
  have F6 := F5.trans g6
  obtain ⟨m7, r7, h7, g7⟩ := h6.store [112, 117, 116, 108] (by decide) 7 (by decide) (by decide) (by decide)
  have F7 := F6.trans g7
  obtain ⟨m8, r8, h8, g8⟩ := h7.store [112, 117, 116, 114] (by decide) 8 (by decide) (by decide) (by decide)
  have F8 := F7.trans g8
  obtain ⟨m9, r9, h9, g9⟩ := h8.store [100, 111] (by decide) 9 (by decide) (by decide) (by decide)
  have F9 := F8.trans g9
  have hl := h9.look v (by omega)
  rw [show AMap.put _ _ _ = kindsA from rfl, kindsA_at] at hl
  refine ⟨m1, m2, m3, m4, m5, m6, m7, m8, m9, r1, r2, r3, r4, r5, r6, r7, r8, r9, hl, ?_, h9.lt⟩
  exact ((Fr.refl nothing w).alloc _).then F9 (fun j hj e => by omega)
end Go.Proofs.YtkmdamljhagogaaDoor
end
section
/- An expression of one word. -/
namespace Go.Proofs.YtkmdamljhagogaaDoor
open Go.RowKit

theorem atoi_ok (v : Bs) (n : Int) (hA : Lib.atoiAll v = .ok n) (w : World) (hv : v.length ≤ 1500) :
    Calls Tryd.prog 56 #[.string (bs v)] w fun e w' => e = .returned (.tuple #[.int .i64 n, .nilIface]) ∧ Fr nothing w w' :=
  (Tryd.strconv_Atoi_ok (bs v) (by rw [bs_size]; omega) n hA w).mono fun e w' hh => by
    obtain ⟨h1, h2 | ⟨t, h2⟩⟩ := hh
    · subst h2; exact ⟨h1, Fr.refl _ _⟩
    · subst h2; exact ⟨h1, Fr.of_below (Lib.bytesWorld_below _ _ _) (Nat.le_refl _) nothing⟩
theorem atoi_fails (v : Bs) (w : World) (hE : Er w) (hv : v.length ≤ 1500) (h : ∀ n, Lib.atoiAll v ≠ .ok n) :
    Calls Tryd.prog 56 #[.string (bs v)] w fun e w' => ∃ n N, e = .returned (.tuple #[.int .i64 n, .iface 125 (.pointer (some ⟨N, 0, none⟩))]) ∧ Fr nothing w w' := by
  have hs := bs_size v
  cases hA : Lib.atoiAll v with
  | ok n => exact absurd hA (h n)
  | «syntax» =>
    obtain ⟨ev, h1, h2⟩ := hE.s
    exact (Tryd.strconv_Atoi_syntax (bs v) (by omega) hA ev w h1 h2).mono fun e w' ⟨N, k, _, _, b⟩ => ⟨_, N, k, Fr.of_below b (Nat.le_refl _) nothing⟩
  | range =>
    obtain ⟨ev, h1, h2⟩ := hE.r
    exact (Tryd.strconv_Atoi_range (bs v) (by omega) hA ev w h1 h2).mono fun e w' ⟨N, k, _, _, b⟩ => ⟨_, N, k, Fr.of_below b (Nat.le_refl _) nothing⟩
theorem itoa_any (n : Int) (h0 : -9223372036854775808 ≤ n) (h1 : n ≤ 9223372036854775807) (w : World) (ht : Tab w) :
    Calls Tryd.prog 57 #[.int .i64 n] w fun e w' => e = .returned (.string (bs (Lib.itoa n))) ∧ Fr nothing w w' :=
  (Tryd.strconv_Itoa n h0 h1 w ht).mono fun e w' ⟨k1, k, os, h⟩ => by
    subst h
    exact ⟨k1, grow_fr _ _ _⟩
theorem numOf_ok {v : Bs} {n : Int} (hA : Lib.atoiAll v = .ok n) : numOf v = if Lib.itoa n = v then some n else none := by
  unfold numOf; rw [hA]
theorem numOf_no {v : Bs} (hA : ∀ n, Lib.atoiAll v ≠ .ok n) : numOf v = none := by
  unfold numOf
  split
  · rename_i n h; exact absurd h (hA n)
  · rfl
theorem w0_fr {w w' : World} (h : Fr nothing w w') (rb : Nat) : Fr (at_ rb) w w' := h.mono (fun _ _ e => e.elim)
theorem peek_no {l : Bs} {c : UInt8} (hc : c ≠ 0 ∧ c ≠ 1) (h : l.head? ≠ some c) : ¬ ((peekC l).toNat : Int) = (c.toNat : Int) := by
  intro e
  have e2 : peekC l = c := UInt8.toNat_inj.1 (by omega)
  cases l with
  | nil => exact hc.1 (by rw [← e2]; rfl)
  | cons x t =>
    rw [peekC_is hc] at e2
    subst e2
    exact h rfl
set_option maxHeartbeats 1000000 in
set_option maxRecDepth 20000 in
theorem expr_word_int (w0 : World) (rb : Nat) (l : Bs) (d : Int) (w : World) (h : Pw w0 rb l 0 w) (hd : d ≤ 10) (h39 : (skip l).head? ≠ some 39) (h40 : (skip l).head? ≠ some 40) {v l' : Bs} {z : Int} (hw : word (skip l) 0 = ⟨v, l', z⟩) {n : Int} (hA : Lib.atoiAll v = .ok n) (hI : Lib.itoa n = v) (hin : inInt n = true) :
    Calls Tryd.prog 51 #[.pointer (some ⟨rb, 0, none⟩), .int .i64 d] w (XPost ev ExOk rb w ⟨.mk 1 n [] [], l', z⟩) := by
  have HD := hide (deep_any rb l 0 d _ (h.pr.fr (fr3 w rb d) (S := nothing) id))
  have hrb := h.pr.lt
  have e0 : deepZ d 0 = 0 := by simp [deepZ]; omega
  rw [e0] at HD
  have hl := h.len
  have hsl := skip_len l
  have hvl : v.length ≤ 1500 := by
    have : v = (word (skip l) 0).v := by rw [hw]
    rw [this]
    exact Nat.le_trans (List.takeWhile_sublist _).length_le (Nat.le_trans (skip_len _) (by omega))
  have n39 : ¬ ((peekC (skip l)).toNat : Int) = 39 := peek_no (c := 39) (by decide) h39
  have n40 : ¬ ((peekC (skip l)).toNat : Int) = 40 := peek_no (c := 40) (by decide) h40
  have q39 : (((peekC (skip l)).toNat : Int) == 39) = false := by simpa using n39
  have b40 := ne_bne n40
  have HW := hide hw
  have HH := hide h
  have HN := hide (fun w => name_any v w hvl)
  have TAB : Hid (∀ w', Fr (at_ rb) (w3of w rb d) w' → Tab w') := fun w' hf => Lib.tabBelow_of_tabIs HH.out.tab w' (HH.out.bel.trans (((fr3 w rb d).trans hf).below HH.out.bel.size (fun k hk e => by have := HH.out.ge; have : k = rb := e; omega)))
  have hb := Lib.atoiAll_bounds hA
  have hr : -1073741824 ≤ n ∧ n ≤ 1073741824 := by simpa [inInt] using hin
  have r1 : ¬ n < -1073741824 := by omega
  have r2 : ¬ 1073741824 < n := by omega
  have HI := hide hI
  clear hI hin
  clear h e0 hw h39 h40
  go_enter Tryd.func51, Tryd.ntmps51
  go_wp2_with (first
    | (go_at_call 50; refine HD.out.mono ?_; rintro e w2 ⟨rfl, hp, hf⟩; have hpk := peek_any rb l 0 w2 hp hl; have HPK := hide hpk; obtain ⟨b0, b1, -, -, -, -, -, -, -, -, hlt⟩ := boxes hrb hf; have HF := hide hf; clear hp hf hpk)
    | (go_at_call 18; refine HPK.out.mono ?_; rintro e w4 ⟨rfl, hp, hf⟩; have hf4 := HF.out.trans hf; clear b0 b1 hlt; obtain ⟨b0, b1, -, -, -, -, -, -, -, -, hlt⟩ := boxes hrb hf4; have hwd := word_any rb (skip l) 0 w4 hp (by omega); rw [HW.out] at hwd; have HWD := hide hwd; have HF4 := hide hf4; clear hp hf hf4 hwd)
    | (go_at_call 36; refine HWD.out.mono ?_; rintro e w5 ⟨rfl, hp, hf⟩; have hf5 := HF4.out.trans hf; clear b0 b1 hlt; obtain ⟨b0, b1, c0, c1, c2, c3, f0, f1, f2, f3, hlt⟩ := boxes hrb hf5; have HP5 := hide hp; have HF5 := hide hf5; clear hp hf hf5)
    | (go_at_call 56; refine (atoi_ok v n hA _ hvl).mono ?_; rintro e w6 ⟨rfl, hfa⟩; have hf6 := HF5.out.trans (w0_fr hfa rb); clear b0 b1 c0 c1 c2 c3 f0 f1 f2 f3 hlt; obtain ⟨b0, b1, c0, c1, c2, c3, f0, f1, f2, f3, hlt⟩ := boxes hrb hf6; have HP6 := hide (HP5.out.fr hfa id); have HF6 := hide hf6; clear hfa hf6)
    | (go_at_call 57; refine (itoa_any n hb.1 hb.2 _ (TAB.out _ HF6.out)).mono ?_; rintro e w7 ⟨rfl, hfi⟩; rw [HI.out]; have hf7 := HF6.out.trans (w0_fr hfi rb); clear b0 b1 c0 c1 c2 c3 f0 f1 f2 f3 hlt; obtain ⟨b0, b1, c0, c1, c2, c3, f0, f1, f2, f3, hlt⟩ := boxes hrb hf7; have HP7 := hide (HP6.out.fr hfi id); have HF7 := hide hf7; clear hfi hf7)
    )
  refine bodyPost_ret (v := ev ⟨1, n, [], nilS⟩) (by simp [results, Tryd.results51, go_sem, c0, c1, c2, c3, bs]) rfl ?_
  exact ex_fin (res := ⟨.mk 1 n [] [], l', z⟩) hrb HF7.out HP7.out (ex_leaf _ _ _ _ _) _ _ _ _
set_option maxHeartbeats 1000000 in
set_option maxRecDepth 20000 in
theorem expr_word_big (w0 : World) (rb : Nat) (l : Bs) (d : Int) (w : World) (h : Pw w0 rb l 0 w) (hd : d ≤ 10) (h39 : (skip l).head? ≠ some 39) (h40 : (skip l).head? ≠ some 40) {v l' : Bs} {z : Int} (hw : word (skip l) 0 = ⟨v, l', z⟩) {n : Int} (hA : Lib.atoiAll v = .ok n) (hI : Lib.itoa n = v) (hin : inInt n = false) :
    Calls Tryd.prog 51 #[.pointer (some ⟨rb, 0, none⟩), .int .i64 d] w (XPost ev ExOk rb w ⟨.mk 1 n [] [], l', bad z 3⟩) := by
  have HD := hide (deep_any rb l 0 d _ (h.pr.fr (fr3 w rb d) (S := nothing) id))
  have hrb := h.pr.lt
  have e0 : deepZ d 0 = 0 := by simp [deepZ]; omega
  rw [e0] at HD
  have hl := h.len
  have hsl := skip_len l
  have hvl : v.length ≤ 1500 := by
    have : v = (word (skip l) 0).v := by rw [hw]
    rw [this]
    exact Nat.le_trans (List.takeWhile_sublist _).length_le (Nat.le_trans (skip_len _) (by omega))
  have n39 : ¬ ((peekC (skip l)).toNat : Int) = 39 := peek_no (c := 39) (by decide) h39
  have n40 : ¬ ((peekC (skip l)).toNat : Int) = 40 := peek_no (c := 40) (by decide) h40
  have q39 : (((peekC (skip l)).toNat : Int) == 39) = false := by simpa using n39
  have b40 := ne_bne n40
  have HW := hide hw
  have HH := hide h
  have HN := hide (fun w => name_any v w hvl)
  have TAB : Hid (∀ w', Fr (at_ rb) (w3of w rb d) w' → Tab w') := fun w' hf => Lib.tabBelow_of_tabIs HH.out.tab w' (HH.out.bel.trans (((fr3 w rb d).trans hf).below HH.out.bel.size (fun k hk e => by have := HH.out.ge; have : k = rb := e; omega)))
  have hb := Lib.atoiAll_bounds hA
  have hr : 1073741824 < n ∨ (¬ 1073741824 < n ∧ n < -1073741824) := by
    have : ¬ (-1073741824 ≤ n ∧ n ≤ 1073741824) := by intro h; rw [show inInt n = true by simp [inInt, h]] at hin; cases hin
    omega
  have HI := hide hI
  clear hI hin
  rcases hr with hr | hr
  all_goals
  clear h e0 hw h39 h40
  go_enter Tryd.func51, Tryd.ntmps51
  go_wp2_with (first
    | (go_at_call 50; refine HD.out.mono ?_; rintro e w2 ⟨rfl, hp, hf⟩; have hpk := peek_any rb l 0 w2 hp hl; have HPK := hide hpk; obtain ⟨b0, b1, -, -, -, -, -, -, -, -, hlt⟩ := boxes hrb hf; have HF := hide hf; clear hp hf hpk)
    | (go_at_call 18; refine HPK.out.mono ?_; rintro e w4 ⟨rfl, hp, hf⟩; have hf4 := HF.out.trans hf; clear b0 b1 hlt; obtain ⟨b0, b1, -, -, -, -, -, -, -, -, hlt⟩ := boxes hrb hf4; have hwd := word_any rb (skip l) 0 w4 hp (by omega); rw [HW.out] at hwd; have HWD := hide hwd; have HF4 := hide hf4; clear hp hf hf4 hwd)
    | (go_at_call 36; refine HWD.out.mono ?_; rintro e w5 ⟨rfl, hp, hf⟩; have hf5 := HF4.out.trans hf; clear b0 b1 hlt; obtain ⟨b0, b1, c0, c1, c2, c3, f0, f1, f2, f3, hlt⟩ := boxes hrb hf5; have HP5 := hide hp; have HF5 := hide hf5; clear hp hf hf5)
    | (go_at_call 56; refine (atoi_ok v n hA _ hvl).mono ?_; rintro e w6 ⟨rfl, hfa⟩; have hf6 := HF5.out.trans (w0_fr hfa rb); clear b0 b1 c0 c1 c2 c3 f0 f1 f2 f3 hlt; obtain ⟨b0, b1, c0, c1, c2, c3, f0, f1, f2, f3, hlt⟩ := boxes hrb hf6; have HP6 := hide (HP5.out.fr hfa id); have HF6 := hide hf6; clear hfa hf6)
    | (go_at_call 57; refine (itoa_any n hb.1 hb.2 _ (TAB.out _ HF6.out)).mono ?_; rintro e w7 ⟨rfl, hfi⟩; rw [HI.out]; have hf7 := HF6.out.trans (w0_fr hfi rb); clear b0 b1 c0 c1 c2 c3 f0 f1 f2 f3 hlt; obtain ⟨b0, b1, c0, c1, c2, c3, f0, f1, f2, f3, hlt⟩ := boxes hrb hf7; have HP7 := hide (HP6.out.fr hfi id); have HF7 := hide hf7; clear hfi hf7)
    | (go_at_call 35; refine (bad_any rb l' z 3 _ HP7.out).mono ?_; rintro e w9 ⟨rfl, hp, hf⟩; have hf9 := HF7.out.trans hf; clear b0 b1 c0 c1 c2 c3 f0 f1 f2 f3 hlt; obtain ⟨b0, b1, c0, c1, c2, c3, f0, f1, f2, f3, hlt⟩ := boxes hrb hf9; have HP9 := hide hp; have HF9 := hide hf9; clear hp hf hf9)
    )
  refine bodyPost_ret (v := ev ⟨1, n, [], nilS⟩) (by simp [results, Tryd.results51, go_sem, c0, c1, c2, c3, bs]) rfl ?_
  exact ex_fin (res := ⟨.mk 1 n [] [], l', bad z 3⟩) hrb HF9.out HP9.out (ex_leaf _ _ _ _ _) _ _ _ _
set_option maxHeartbeats 1000000 in
set_option maxRecDepth 20000 in
theorem expr_word_odd_yes (w0 : World) (rb : Nat) (l : Bs) (d : Int) (w : World) (h : Pw w0 rb l 0 w) (hd : d ≤ 10) (h39 : (skip l).head? ≠ some 39) (h40 : (skip l).head? ≠ some 40) {v l' : Bs} {z : Int} (hw : word (skip l) 0 = ⟨v, l', z⟩) {n : Int} (hA : Lib.atoiAll v = .ok n) (hI : ¬ Lib.itoa n = v) (hn : isName v = true) :
    Calls Tryd.prog 51 #[.pointer (some ⟨rb, 0, none⟩), .int .i64 d] w (XPost ev ExOk rb w ⟨.mk 3 0 v [], l', z⟩) := by
  have HD := hide (deep_any rb l 0 d _ (h.pr.fr (fr3 w rb d) (S := nothing) id))
  have hrb := h.pr.lt
  have e0 : deepZ d 0 = 0 := by simp [deepZ]; omega
  rw [e0] at HD
  have hl := h.len
  have hsl := skip_len l
  have hvl : v.length ≤ 1500 := by
    have : v = (word (skip l) 0).v := by rw [hw]
    rw [this]
    exact Nat.le_trans (List.takeWhile_sublist _).length_le (Nat.le_trans (skip_len _) (by omega))
  have n39 : ¬ ((peekC (skip l)).toNat : Int) = 39 := peek_no (c := 39) (by decide) h39
  have n40 : ¬ ((peekC (skip l)).toNat : Int) = 40 := peek_no (c := 40) (by decide) h40
  have q39 : (((peekC (skip l)).toNat : Int) == 39) = false := by simpa using n39
  have b40 := ne_bne n40
  have HW := hide hw
  have HH := hide h
  have HN := hide (fun w => name_any v w hvl)
  have TAB : Hid (∀ w', Fr (at_ rb) (w3of w rb d) w' → Tab w') := fun w' hf => Lib.tabBelow_of_tabIs HH.out.tab w' (HH.out.bel.trans (((fr3 w rb d).trans hf).below HH.out.bel.size (fun k hk e => by have := HH.out.ge; have : k = rb := e; omega)))
  have hb := Lib.atoiAll_bounds hA
  have q1 := bs_ne hI
  rw [hn] at HN
  clear hI
  clear h e0 hw h39 h40
  go_enter Tryd.func51, Tryd.ntmps51
  go_wp2_with (first
    | (go_at_call 50; refine HD.out.mono ?_; rintro e w2 ⟨rfl, hp, hf⟩; have hpk := peek_any rb l 0 w2 hp hl; have HPK := hide hpk; obtain ⟨b0, b1, -, -, -, -, -, -, -, -, hlt⟩ := boxes hrb hf; have HF := hide hf; clear hp hf hpk)
    | (go_at_call 18; refine HPK.out.mono ?_; rintro e w4 ⟨rfl, hp, hf⟩; have hf4 := HF.out.trans hf; clear b0 b1 hlt; obtain ⟨b0, b1, -, -, -, -, -, -, -, -, hlt⟩ := boxes hrb hf4; have hwd := word_any rb (skip l) 0 w4 hp (by omega); rw [HW.out] at hwd; have HWD := hide hwd; have HF4 := hide hf4; clear hp hf hf4 hwd)
    | (go_at_call 36; refine HWD.out.mono ?_; rintro e w5 ⟨rfl, hp, hf⟩; have hf5 := HF4.out.trans hf; clear b0 b1 hlt; obtain ⟨b0, b1, c0, c1, c2, c3, f0, f1, f2, f3, hlt⟩ := boxes hrb hf5; have HP5 := hide hp; have HF5 := hide hf5; clear hp hf hf5)
    | (go_at_call 56; refine (atoi_ok v n hA _ hvl).mono ?_; rintro e w6 ⟨rfl, hfa⟩; have hf6 := HF5.out.trans (w0_fr hfa rb); clear b0 b1 c0 c1 c2 c3 f0 f1 f2 f3 hlt; obtain ⟨b0, b1, c0, c1, c2, c3, f0, f1, f2, f3, hlt⟩ := boxes hrb hf6; have HP6 := hide (HP5.out.fr hfa id); have HF6 := hide hf6; clear hfa hf6)
    | (go_at_call 57; refine (itoa_any n hb.1 hb.2 _ (TAB.out _ HF6.out)).mono ?_; rintro e w7 ⟨rfl, hfi⟩; have hf7 := HF6.out.trans (w0_fr hfi rb); clear b0 b1 c0 c1 c2 c3 f0 f1 f2 f3 hlt; obtain ⟨b0, b1, c0, c1, c2, c3, f0, f1, f2, f3, hlt⟩ := boxes hrb hf7; have HP7 := hide (HP6.out.fr hfi id); have HF7 := hide hf7; clear hfi hf7)
    | (go_at_call 11; refine (HN.out _).mono ?_; rintro e w8 ⟨rfl, hfn⟩; have hf8 := HF7.out.trans (w0_fr hfn rb); clear b0 b1 c0 c1 c2 c3 f0 f1 f2 f3 hlt; obtain ⟨b0, b1, c0, c1, c2, c3, f0, f1, f2, f3, hlt⟩ := boxes hrb hf8; have HP8 := hide (HP7.out.fr hfn id); have HF8 := hide hf8; clear hfn hf8)
    )
  refine bodyPost_ret (v := ev ⟨3, 0, v, nilS⟩) (by simp [results, Tryd.results51, go_sem, c0, c1, c2, c3, bs]) rfl ?_
  exact ex_fin (res := ⟨.mk 3 0 v [], l', z⟩) hrb HF8.out HP8.out (ex_leaf _ _ _ _ _) _ _ _ _
set_option maxHeartbeats 1000000 in
set_option maxRecDepth 20000 in
theorem expr_word_name_yes (w0 : World) (rb : Nat) (l : Bs) (d : Int) (w : World) (h : Pw w0 rb l 0 w) (hd : d ≤ 10) (h39 : (skip l).head? ≠ some 39) (h40 : (skip l).head? ≠ some 40) {v l' : Bs} {z : Int} (hw : word (skip l) 0 = ⟨v, l', z⟩) (hA : ∀ n, Lib.atoiAll v ≠ .ok n) (hn : isName v = true) :
    Calls Tryd.prog 51 #[.pointer (some ⟨rb, 0, none⟩), .int .i64 d] w (XPost ev ExOk rb w ⟨.mk 3 0 v [], l', z⟩) := by
  have HD := hide (deep_any rb l 0 d _ (h.pr.fr (fr3 w rb d) (S := nothing) id))
  have hrb := h.pr.lt
  have e0 : deepZ d 0 = 0 := by simp [deepZ]; omega
  rw [e0] at HD
  have hl := h.len
  have hsl := skip_len l
  have hvl : v.length ≤ 1500 := by
    have : v = (word (skip l) 0).v := by rw [hw]
    rw [this]
    exact Nat.le_trans (List.takeWhile_sublist _).length_le (Nat.le_trans (skip_len _) (by omega))
  have n39 : ¬ ((peekC (skip l)).toNat : Int) = 39 := peek_no (c := 39) (by decide) h39
  have n40 : ¬ ((peekC (skip l)).toNat : Int) = 40 := peek_no (c := 40) (by decide) h40
  have q39 : (((peekC (skip l)).toNat : Int) == 39) = false := by simpa using n39
  have b40 := ne_bne n40
  have HW := hide hw
  have HH := hide h
  have HN := hide (fun w => name_any v w hvl)
  have ER : Hid (∀ w', Fr (at_ rb) (w3of w rb d) w' → Er w') := fun w' hf => HH.out.er.fr (Fr.of_below (HH.out.bel.trans (((fr3 w rb d).trans hf).below HH.out.bel.size (fun k hk e => by have := HH.out.ge; have : k = rb := e; omega))) (Nat.le_refl _) nothing) id id
  rw [hn] at HN
  clear h e0 hw h39 h40
  go_enter Tryd.func51, Tryd.ntmps51
  go_wp2_with (first
    | (go_at_call 50; refine HD.out.mono ?_; rintro e w2 ⟨rfl, hp, hf⟩; have hpk := peek_any rb l 0 w2 hp hl; have HPK := hide hpk; obtain ⟨b0, b1, -, -, -, -, -, -, -, -, hlt⟩ := boxes hrb hf; have HF := hide hf; clear hp hf hpk)
    | (go_at_call 18; refine HPK.out.mono ?_; rintro e w4 ⟨rfl, hp, hf⟩; have hf4 := HF.out.trans hf; clear b0 b1 hlt; obtain ⟨b0, b1, -, -, -, -, -, -, -, -, hlt⟩ := boxes hrb hf4; have hwd := word_any rb (skip l) 0 w4 hp (by omega); rw [HW.out] at hwd; have HWD := hide hwd; have HF4 := hide hf4; clear hp hf hf4 hwd)
    | (go_at_call 36; refine HWD.out.mono ?_; rintro e w5 ⟨rfl, hp, hf⟩; have hf5 := HF4.out.trans hf; clear b0 b1 hlt; obtain ⟨b0, b1, c0, c1, c2, c3, f0, f1, f2, f3, hlt⟩ := boxes hrb hf5; have HP5 := hide hp; have HF5 := hide hf5; clear hp hf hf5)
    | (go_at_call 56; refine (atoi_fails v _ (ER.out _ HF5.out) hvl hA).mono ?_; rintro e w6 ⟨n, N, rfl, hfa⟩; have hf6 := HF5.out.trans (w0_fr hfa rb); clear b0 b1 c0 c1 c2 c3 f0 f1 f2 f3 hlt; obtain ⟨b0, b1, c0, c1, c2, c3, f0, f1, f2, f3, hlt⟩ := boxes hrb hf6; have HP6 := hide (HP5.out.fr hfa id); have HF6 := hide hf6; clear hfa hf6)
    | (go_at_call 11; refine (HN.out _).mono ?_; rintro e w8 ⟨rfl, hfn⟩; have hf8 := HF6.out.trans (w0_fr hfn rb); clear b0 b1 c0 c1 c2 c3 f0 f1 f2 f3 hlt; obtain ⟨b0, b1, c0, c1, c2, c3, f0, f1, f2, f3, hlt⟩ := boxes hrb hf8; have HP8 := hide (HP6.out.fr hfn id); have HF8 := hide hf8; clear hfn hf8)
    )
  refine bodyPost_ret (v := ev ⟨3, 0, v, nilS⟩) (by simp [results, Tryd.results51, go_sem, c0, c1, c2, c3, bs]) rfl ?_
  exact ex_fin (res := ⟨.mk 3 0 v [], l', z⟩) hrb HF8.out HP8.out (ex_leaf _ _ _ _ _) _ _ _ _
set_option maxHeartbeats 1000000 in
set_option maxRecDepth 20000 in
theorem expr_word_odd_no (w0 : World) (rb : Nat) (l : Bs) (d : Int) (w : World) (h : Pw w0 rb l 0 w) (hd : d ≤ 10) (h39 : (skip l).head? ≠ some 39) (h40 : (skip l).head? ≠ some 40) {v l' : Bs} {z : Int} (hw : word (skip l) 0 = ⟨v, l', z⟩) {n : Int} (hA : Lib.atoiAll v = .ok n) (hI : ¬ Lib.itoa n = v) (hn : isName v = false) :
    Calls Tryd.prog 51 #[.pointer (some ⟨rb, 0, none⟩), .int .i64 d] w (XPost ev ExOk rb w ⟨.mk 3 0 v [], l', bad z 7⟩) := by
  have HD := hide (deep_any rb l 0 d _ (h.pr.fr (fr3 w rb d) (S := nothing) id))
  have hrb := h.pr.lt
  have e0 : deepZ d 0 = 0 := by simp [deepZ]; omega
  rw [e0] at HD
  have hl := h.len
  have hsl := skip_len l
  have hvl : v.length ≤ 1500 := by
    have : v = (word (skip l) 0).v := by rw [hw]
    rw [this]
    exact Nat.le_trans (List.takeWhile_sublist _).length_le (Nat.le_trans (skip_len _) (by omega))
  have n39 : ¬ ((peekC (skip l)).toNat : Int) = 39 := peek_no (c := 39) (by decide) h39
  have n40 : ¬ ((peekC (skip l)).toNat : Int) = 40 := peek_no (c := 40) (by decide) h40
  have q39 : (((peekC (skip l)).toNat : Int) == 39) = false := by simpa using n39
  have b40 := ne_bne n40
  have HW := hide hw
  have HH := hide h
  have HN := hide (fun w => name_any v w hvl)
  have TAB : Hid (∀ w', Fr (at_ rb) (w3of w rb d) w' → Tab w') := fun w' hf => Lib.tabBelow_of_tabIs HH.out.tab w' (HH.out.bel.trans (((fr3 w rb d).trans hf).below HH.out.bel.size (fun k hk e => by have := HH.out.ge; have : k = rb := e; omega)))
  have hb := Lib.atoiAll_bounds hA
  have q1 := bs_ne hI
  rw [hn] at HN
  clear hI
  clear h e0 hw h39 h40
  go_enter Tryd.func51, Tryd.ntmps51
  go_wp2_with (first
    | (go_at_call 50; refine HD.out.mono ?_; rintro e w2 ⟨rfl, hp, hf⟩; have hpk := peek_any rb l 0 w2 hp hl; have HPK := hide hpk; obtain ⟨b0, b1, -, -, -, -, -, -, -, -, hlt⟩ := boxes hrb hf; have HF := hide hf; clear hp hf hpk)
    | (go_at_call 18; refine HPK.out.mono ?_; rintro e w4 ⟨rfl, hp, hf⟩; have hf4 := HF.out.trans hf; clear b0 b1 hlt; obtain ⟨b0, b1, -, -, -, -, -, -, -, -, hlt⟩ := boxes hrb hf4; have hwd := word_any rb (skip l) 0 w4 hp (by omega); rw [HW.out] at hwd; have HWD := hide hwd; have HF4 := hide hf4; clear hp hf hf4 hwd)
    | (go_at_call 36; refine HWD.out.mono ?_; rintro e w5 ⟨rfl, hp, hf⟩; have hf5 := HF4.out.trans hf; clear b0 b1 hlt; obtain ⟨b0, b1, c0, c1, c2, c3, f0, f1, f2, f3, hlt⟩ := boxes hrb hf5; have HP5 := hide hp; have HF5 := hide hf5; clear hp hf hf5)
    | (go_at_call 56; refine (atoi_ok v n hA _ hvl).mono ?_; rintro e w6 ⟨rfl, hfa⟩; have hf6 := HF5.out.trans (w0_fr hfa rb); clear b0 b1 c0 c1 c2 c3 f0 f1 f2 f3 hlt; obtain ⟨b0, b1, c0, c1, c2, c3, f0, f1, f2, f3, hlt⟩ := boxes hrb hf6; have HP6 := hide (HP5.out.fr hfa id); have HF6 := hide hf6; clear hfa hf6)
    | (go_at_call 57; refine (itoa_any n hb.1 hb.2 _ (TAB.out _ HF6.out)).mono ?_; rintro e w7 ⟨rfl, hfi⟩; have hf7 := HF6.out.trans (w0_fr hfi rb); clear b0 b1 c0 c1 c2 c3 f0 f1 f2 f3 hlt; obtain ⟨b0, b1, c0, c1, c2, c3, f0, f1, f2, f3, hlt⟩ := boxes hrb hf7; have HP7 := hide (HP6.out.fr hfi id); have HF7 := hide hf7; clear hfi hf7)
    | (go_at_call 11; refine (HN.out _).mono ?_; rintro e w8 ⟨rfl, hfn⟩; have hf8 := HF7.out.trans (w0_fr hfn rb); clear b0 b1 c0 c1 c2 c3 f0 f1 f2 f3 hlt; obtain ⟨b0, b1, c0, c1, c2, c3, f0, f1, f2, f3, hlt⟩ := boxes hrb hf8; have HP8 := hide (HP7.out.fr hfn id); have HF8 := hide hf8; clear hfn hf8)
    | (go_at_call 35; refine (bad_any rb l' z 7 _ HP8.out).mono ?_; rintro e w9 ⟨rfl, hp, hf⟩; have hf9 := HF8.out.trans hf; clear b0 b1 c0 c1 c2 c3 f0 f1 f2 f3 hlt; obtain ⟨b0, b1, c0, c1, c2, c3, f0, f1, f2, f3, hlt⟩ := boxes hrb hf9; have HP9 := hide hp; have HF9 := hide hf9; clear hp hf hf9)
    )
  refine bodyPost_ret (v := ev ⟨3, 0, v, nilS⟩) (by simp [results, Tryd.results51, go_sem, c0, c1, c2, c3, bs]) rfl ?_
  exact ex_fin (res := ⟨.mk 3 0 v [], l', bad z 7⟩) hrb HF9.out HP9.out (ex_leaf _ _ _ _ _) _ _ _ _
set_option maxHeartbeats 1000000 in
set_option maxRecDepth 20000 in
theorem expr_word_name_no (w0 : World) (rb : Nat) (l : Bs) (d : Int) (w : World) (h : Pw w0 rb l 0 w) (hd : d ≤ 10) (h39 : (skip l).head? ≠ some 39) (h40 : (skip l).head? ≠ some 40) {v l' : Bs} {z : Int} (hw : word (skip l) 0 = ⟨v, l', z⟩) (hA : ∀ n, Lib.atoiAll v ≠ .ok n) (hn : isName v = false) :
    Calls Tryd.prog 51 #[.pointer (some ⟨rb, 0, none⟩), .int .i64 d] w (XPost ev ExOk rb w ⟨.mk 3 0 v [], l', bad z 7⟩) := by
  have HD := hide (deep_any rb l 0 d _ (h.pr.fr (fr3 w rb d) (S := nothing) id))
  have hrb := h.pr.lt
  have e0 : deepZ d 0 = 0 := by simp [deepZ]; omega
  rw [e0] at HD
  have hl := h.len
  have hsl := skip_len l
  have hvl : v.length ≤ 1500 := by
    have : v = (word (skip l) 0).v := by rw [hw]
    rw [this]
    exact Nat.le_trans (List.takeWhile_sublist _).length_le (Nat.le_trans (skip_len _) (by omega))
  have n39 : ¬ ((peekC (skip l)).toNat : Int) = 39 := peek_no (c := 39) (by decide) h39
  have n40 : ¬ ((peekC (skip l)).toNat : Int) = 40 := peek_no (c := 40) (by decide) h40
  have q39 : (((peekC (skip l)).toNat : Int) == 39) = false := by simpa using n39
  have b40 := ne_bne n40
  have HW := hide hw
  have HH := hide h
  have HN := hide (fun w => name_any v w hvl)
  have ER : Hid (∀ w', Fr (at_ rb) (w3of w rb d) w' → Er w') := fun w' hf => HH.out.er.fr (Fr.of_below (HH.out.bel.trans (((fr3 w rb d).trans hf).below HH.out.bel.size (fun k hk e => by have := HH.out.ge; have : k = rb := e; omega))) (Nat.le_refl _) nothing) id id
  rw [hn] at HN
  clear h e0 hw h39 h40
  go_enter Tryd.func51, Tryd.ntmps51
  go_wp2_with (first
    | (go_at_call 50; refine HD.out.mono ?_; rintro e w2 ⟨rfl, hp, hf⟩; have hpk := peek_any rb l 0 w2 hp hl; have HPK := hide hpk; obtain ⟨b0, b1, -, -, -, -, -, -, -, -, hlt⟩ := boxes hrb hf; have HF := hide hf; clear hp hf hpk)
    | (go_at_call 18; refine HPK.out.mono ?_; rintro e w4 ⟨rfl, hp, hf⟩; have hf4 := HF.out.trans hf; clear b0 b1 hlt; obtain ⟨b0, b1, -, -, -, -, -, -, -, -, hlt⟩ := boxes hrb hf4; have hwd := word_any rb (skip l) 0 w4 hp (by omega); rw [HW.out] at hwd; have HWD := hide hwd; have HF4 := hide hf4; clear hp hf hf4 hwd)
    | (go_at_call 36; refine HWD.out.mono ?_; rintro e w5 ⟨rfl, hp, hf⟩; have hf5 := HF4.out.trans hf; clear b0 b1 hlt; obtain ⟨b0, b1, c0, c1, c2, c3, f0, f1, f2, f3, hlt⟩ := boxes hrb hf5; have HP5 := hide hp; have HF5 := hide hf5; clear hp hf hf5)
    | (go_at_call 56; refine (atoi_fails v _ (ER.out _ HF5.out) hvl hA).mono ?_; rintro e w6 ⟨n, N, rfl, hfa⟩; have hf6 := HF5.out.trans (w0_fr hfa rb); clear b0 b1 c0 c1 c2 c3 f0 f1 f2 f3 hlt; obtain ⟨b0, b1, c0, c1, c2, c3, f0, f1, f2, f3, hlt⟩ := boxes hrb hf6; have HP6 := hide (HP5.out.fr hfa id); have HF6 := hide hf6; clear hfa hf6)
    | (go_at_call 11; refine (HN.out _).mono ?_; rintro e w8 ⟨rfl, hfn⟩; have hf8 := HF6.out.trans (w0_fr hfn rb); clear b0 b1 c0 c1 c2 c3 f0 f1 f2 f3 hlt; obtain ⟨b0, b1, c0, c1, c2, c3, f0, f1, f2, f3, hlt⟩ := boxes hrb hf8; have HP8 := hide (HP6.out.fr hfn id); have HF8 := hide hf8; clear hfn hf8)
    | (go_at_call 35; refine (bad_any rb l' z 7 _ HP8.out).mono ?_; rintro e w9 ⟨rfl, hp, hf⟩; have hf9 := HF8.out.trans hf; clear b0 b1 c0 c1 c2 c3 f0 f1 f2 f3 hlt; obtain ⟨b0, b1, c0, c1, c2, c3, f0, f1, f2, f3, hlt⟩ := boxes hrb hf9; have HP9 := hide hp; have HF9 := hide hf9; clear hp hf hf9)
    )
  refine bodyPost_ret (v := ev ⟨3, 0, v, nilS⟩) (by simp [results, Tryd.results51, go_sem, c0, c1, c2, c3, bs]) rfl ?_
  exact ex_fin (res := ⟨.mk 3 0 v [], l', bad z 7⟩) hrb HF9.out HP9.out (ex_leaf _ _ _ _ _) _ _ _ _
end Go.Proofs.YtkmdamljhagogaaDoor
end
section
/- What a statement's walk leans on. -/
namespace Go.Proofs.YtkmdamljhagogaaDoor
open Go.RowKit

/-- A block of five cells. -/
structure B5 (b : Nat) (v0 v1 v2 v3 v4 : Value) (w : World) : Prop where
  c0 : w.cell? ⟨b, 0, none⟩ = some v0
  c1 : w.cell? ⟨b, 1, none⟩ = some v1
  c2 : w.cell? ⟨b, 2, none⟩ = some v2
  c3 : w.cell? ⟨b, 3, none⟩ = some v3
  c4 : w.cell? ⟨b, 4, none⟩ = some v4
  f : ∀ j, w.frozen? ⟨b, j, none⟩ = false
  lt : b < w.heap.size
theorem B5.fr {b : Nat} {v0 v1 v2 v3 v4 : Value} {w w' : World} {S : Nat → Prop} (h : B5 b v0 v1 v2 v3 v4 w) (hf : Fr S w w') (hs : ¬ S b) : B5 b v0 v1 v2 v3 v4 w' :=
  ⟨(hf.cell (p := ⟨b, 0, none⟩) h.lt hs).trans h.c0, (hf.cell (p := ⟨b, 1, none⟩) h.lt hs).trans h.c1, (hf.cell (p := ⟨b, 2, none⟩) h.lt hs).trans h.c2, (hf.cell (p := ⟨b, 3, none⟩) h.lt hs).trans h.c3, (hf.cell (p := ⟨b, 4, none⟩) h.lt hs).trans h.c4, fun j => (hf.frozen (p := ⟨b, j, none⟩) h.lt hs).trans (h.f j), Nat.lt_of_lt_of_le h.lt hf.size⟩
theorem B5.made (w : World) (v0 v1 v2 v3 v4 : Value) (t : TypeId) : B5 w.heap.size v0 v1 v2 v3 v4 (w.alloc (.cells #[v0, v1, v2, v3, v4] t)) := by
  have hn := made_cells (Fr.refl nothing (w.alloc (.cells #[v0, v1, v2, v3, v4] t))) id
  exact ⟨hn.1 0, hn.1 1, hn.1 2, hn.1 3, hn.1 4, hn.2.1, hn.2.2⟩
theorem B5.set1 {b : Nat} {v0 v1 v2 v3 v4 : Value} {w : World} (h : B5 b v0 v1 v2 v3 v4 w) (u : Value) : B5 b v0 u v2 v3 v4 (w.setCell ⟨b, 1, none⟩ u) :=
  ⟨(World.cell?_setCell_other w ⟨b, 1, none⟩ ⟨b, 0, none⟩ _ (by simp)).trans h.c0, World.cell?_setCell_same _ _ _ h.c1, (World.cell?_setCell_other w ⟨b, 1, none⟩ ⟨b, 2, none⟩ _ (by simp)).trans h.c2, (World.cell?_setCell_other w ⟨b, 1, none⟩ ⟨b, 3, none⟩ _ (by simp)).trans h.c3, (World.cell?_setCell_other w ⟨b, 1, none⟩ ⟨b, 4, none⟩ _ (by simp)).trans h.c4, fun j => by rw [World.frozen?_setCell]; exact h.f j, by have := h.lt; simpa [World.setCell] using this⟩
theorem B5.set3 {b : Nat} {v0 v1 v2 v3 v4 : Value} {w : World} (h : B5 b v0 v1 v2 v3 v4 w) (u : Value) : B5 b v0 v1 v2 u v4 (w.setCell ⟨b, 3, none⟩ u) :=
  ⟨(World.cell?_setCell_other w ⟨b, 3, none⟩ ⟨b, 0, none⟩ _ (by simp)).trans h.c0, (World.cell?_setCell_other w ⟨b, 3, none⟩ ⟨b, 1, none⟩ _ (by simp)).trans h.c1, (World.cell?_setCell_other w ⟨b, 3, none⟩ ⟨b, 2, none⟩ _ (by simp)).trans h.c2, World.cell?_setCell_same _ _ _ h.c3, (World.cell?_setCell_other w ⟨b, 3, none⟩ ⟨b, 4, none⟩ _ (by simp)).trans h.c4, fun j => by rw [World.frozen?_setCell]; exact h.f j, by have := h.lt; simpa [World.setCell] using this⟩
theorem B5.set4 {b : Nat} {v0 v1 v2 v3 v4 : Value} {w : World} (h : B5 b v0 v1 v2 v3 v4 w) (u : Value) : B5 b v0 v1 v2 v3 u (w.setCell ⟨b, 4, none⟩ u) :=
  ⟨(World.cell?_setCell_other w ⟨b, 4, none⟩ ⟨b, 0, none⟩ _ (by simp)).trans h.c0, (World.cell?_setCell_other w ⟨b, 4, none⟩ ⟨b, 1, none⟩ _ (by simp)).trans h.c1, (World.cell?_setCell_other w ⟨b, 4, none⟩ ⟨b, 2, none⟩ _ (by simp)).trans h.c2, (World.cell?_setCell_other w ⟨b, 4, none⟩ ⟨b, 3, none⟩ _ (by simp)).trans h.c3, World.cell?_setCell_same _ _ _ h.c4, fun j => by rw [World.frozen?_setCell]; exact h.f j, by have := h.lt; simpa [World.setCell] using this⟩
/-- A list whose blocks lie from B on. -/
def GOk {ρ α : Type} (enc : ρ → List Value) (sz : Nat) (ok : World → (Nat → Prop) → ρ → α → Prop) (B : Nat) (w : World) (s : Slc) (xs : List α) : Prop :=
  ∃ rs : List ρ, Sl enc sz w s.v rs ∧ (∀ b, s.v.ownBlock = some b → B ≤ b ∧ b < w.heap.size) ∧ Each (ok w (fun k => B ≤ k ∧ k < w.heap.size)) rs xs
theorem GOk.nil {ρ α : Type} {enc : ρ → List Value} {sz : Nat} {ok : World → (Nat → Prop) → ρ → α → Prop} {B : Nat} {w : World} : GOk enc sz ok B w nilS ([] : List α) :=
  ⟨[], ⟨none, 0, rfl, by unfold maxLen; simp, fun i x h => by simp at h⟩, fun b h => (by cases h), rfl, fun i r x h => (by simp at h)⟩
theorem GOk.fr {ρ α : Type} {enc : ρ → List Value} {sz : Nat} {ok : World → (Nat → Prop) → ρ → α → Prop} (hst : Stays ok) {B : Nat} {w w' : World} {s : Slc} {xs : List α} {S : Nat → Prop} (h : GOk enc sz ok B w s xs) (hf : Fr S w w') (hs : ∀ k, S k → k < B) : GOk enc sz ok B w' s xs := by
  obtain ⟨rs, h1, h2, h3⟩ := h
  refine ⟨rs, h1.keep hf h2 (fun k hk e => by have := hs k e; omega), fun b hb => ?_, h3.1, fun i r x a b => hst w w' S _ _ r x (h3.2 i r x a b) hf (fun k hk e => by have := hs k e; omega) (fun k hk => ⟨hk.1, Nat.lt_of_lt_of_le hk.2 hf.size⟩)⟩
  have := h2 b hb
  have := hf.size
  omega
theorem GOk.since {ρ α : Type} {enc : ρ → List Value} {sz : Nat} {ok : World → (Nat → Prop) → ρ → α → Prop} (hst : Stays ok) {B B' : Nat} {w : World} {s : Slc} {xs : List α} (h : GOk enc sz ok B w s xs) (hB : B' ≤ B) : GOk enc sz ok B' w s xs := by
  obtain ⟨rs, h1, h2, h3⟩ := h
  exact ⟨rs, h1, fun b hb => by have := h2 b hb; omega, h3.1, fun i r x a b => hst w w nothing _ _ r x (h3.2 i r x a b) (Fr.refl _ _) (fun _ _ => id) (fun k hk => ⟨by omega, hk.2⟩)⟩
/-- The answer is laid in its own block. -/
theorem st_fin {rb B : Nat} {w w' : World} {res : Rd St} {c : Int} {nm : Bs} {sa sx sy : Slc} {la : List Ex} {lx ly : List St} (hrb : rb < w.heap.size) (hf : Fr (at_ rb) w w') (hp : Pr rb res.l res.z w') (hv : res.v = .mk c nm la lx ly) (hB : w.heap.size < B)
    (ha : GOk encE 4 ExOk B w' sa la) (hx : GOk encS 5 StOk B w' sx lx) (hy : GOk encS 5 StOk B w' sy ly) (u0 u1 u2 u3 u4 : Value) :
    XPost sv StOk rb w res (.returned (sv ⟨c, nm, sa, sx, sy⟩)) (((((w'.setCell ⟨w.heap.size, 0, none⟩ u0).setCell ⟨w.heap.size, 1, none⟩ u1).setCell ⟨w.heap.size, 2, none⟩ u2).setCell ⟨w.heap.size, 3, none⟩ u3).setCell ⟨w.heap.size, 4, none⟩ u4) := by
  have hf9 : Fr (fun k => k = w.heap.size) w' (((((w'.setCell ⟨w.heap.size, 0, none⟩ u0).setCell ⟨w.heap.size, 1, none⟩ u1).setCell ⟨w.heap.size, 2, none⟩ u2).setCell ⟨w.heap.size, 3, none⟩ u3).setCell ⟨w.heap.size, 4, none⟩ u4) := Fr.putAll (us := [u0, u1, u2, u3, u4]) (o := 0) (g := w.heap.size) (Fr.refl _ w') (.inl rfl)
  have ha9 := ha.fr ex_stays hf9 (fun k e => by omega)
  have hx9 := hx.fr st_stays hf9 (fun k e => by omega)
  have hy9 := hy.fr st_stays hf9 (fun k e => by omega)
  obtain ⟨ra, a1, a2, a3⟩ := ha9.since ex_stays (Nat.le_of_lt hB)
  obtain ⟨rx, x1, x2, x3⟩ := hx9.since st_stays (Nat.le_of_lt hB)
  obtain ⟨ry, y1, y2, y3⟩ := hy9.since st_stays (Nat.le_of_lt hB)
  refine ⟨⟨c, nm, sa, sx, sy⟩, rfl, hf.then hf9 (fun j hj e => by omega), hp.fr hf9 (by omega), ?_⟩
  rw [hv]
  exact .mk _ _ _ _ _ ra rx ry la lx ly a1 a2 a3 x1 x2 x3.1 x3.2 y1 y2 y3.1 y3.2
theorem times_step {α : Type} (one : Reader α) {n j : Nat} (h : j < n) (l : Bs) (z : Int) : times one (n - j) l z = (times one (n - (j + 1)) (one l z).l (one l z).z).after [(one l z).v] := by
  obtain ⟨m, hm⟩ : ∃ m, n - j = m + 1 := ⟨n - j - 1, by omega⟩
  rw [hm, show n - (j + 1) = m by omega]
  rfl
theorem argsV_get : ∀ c, c < 10 → (#[Value.int .i64 0, .int .i64 1, .int .i64 1, .int .i64 1, .int .i64 1, .int .i64 1, .int .i64 1, .int .i64 2, .int .i64 2, .int .i64 1] : Array Value)[c]? = some (.int .i64 (argsOf c))
  | 0, _ => rfl
  | 1, _ => rfl
  | 2, _ => rfl
  | 3, _ => rfl
  | 4, _ => rfl
  | 5, _ => rfl
  | 6, _ => rfl
  | 7, _ => rfl
  | 8, _ => rfl
  | 9, _ => rfl
  | n + 10, h => by omega
theorem argsOf_le (c : Nat) : argsOf c ≤ 2 := by unfold argsOf; split; omega; split <;> omega
end Go.Proofs.YtkmdamljhagogaaDoor
end
