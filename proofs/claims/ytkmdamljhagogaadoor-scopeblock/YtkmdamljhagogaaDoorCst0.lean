/- The document's own look at statements. -/
import Derived.Test.YtkmdamljhagogaaDoorCexpr
import Derived.Deep.Upon
namespace Go.Proofs.YtkmdamljhagogaaDoor
open Go.RowKit

/-- append([]T{}, l...) for any l, an empty one too, as a step of a region that draws its order. -/
theorem step_append_more {P : Program} (w : World) {ops : Array Oper} {o : Oper} {a : Act} {K : Act → World → Prop} {Q : Exit → Act → World → Prop} {E : Prop} (hgd : o.guard = none) (s x : Operand) (t : TypeId)
    (ho : o.op = .call { callee := .builtin .append, args := #[s, x], argTypes := #[t, t] })
    (base : Nat) (e : TypeId) (i : TypeInfo) (z : Value) (size bytes : Nat) (ht : P.underlying t = some (.slice e)) (hi : P.info? e = some i) (hz : i.zero = some z)
    (hsize : i.size = size) (hby : i.bytes = bytes) (hzs : z.cells.size = size) (hsz : 0 < size)
    (g0 : Nat) (hs : a.eval s = .slice (some ⟨g0, 0, none⟩) 0 0) (hown : w.ownsRow base e size (.slice (some ⟨g0, 0, none⟩) 0 0) 0 [])
    (la : Option Addr) (m c : Nat) (news : List Value) (hx : a.eval x = .slice la m c) (hl : news.length = m * size) (hnews : ∀ j u, news[j]? = some u → ∃ ad, la = some ad ∧ w.cell? (ad.add j) = some u) (h1 : ∀ u ∈ news, u.oneCell' = true)
    (h63 : 0 + m ≤ maxLen) (hbytes : (0 + m) * bytes ≤ 140737488355328) (hbase : base ≤ w.heap.size)
    (h : ∀ g cap w', w'.ownsRow base e size (.slice (some ⟨g, 0, none⟩) (0 + m) cap) (0 + m) ([] ++ news) → w.grownBy w' (Value.slice (some ⟨g0, 0, none⟩) 0 0).ownBlock → K (a.put o.dst (.slice (some ⟨g, 0, none⟩) (0 + m) cap)) w') :
    if Region.wanted o (yielded ops a.tmps) = true then Oper.wp P o a w K Q else E := by
  rcases Nat.eq_zero_or_pos m with h0 | hm
  · subst h0
    have hn : news = [] := List.length_eq_zero_iff.1 (by simpa using hl)
    subst hn
    have hw : Region.wanted o (yielded ops a.tmps) = true := by simp [Region.wanted, hgd]
    rw [if_pos hw]
    have hsrc : Src P i.size t (.slice la 0 c) 0 [] w := by
      cases la with
      | none => exact Src.ofNil w ht c
      | some ad => exact Src.ofSlice w ht ad 0 c [] (by simp) (by simp) (by simp)
    have hr := run_append_nothing w t t o.type e i ht hi (some ⟨g0, 0, none⟩) 0 0 (Nat.le_refl _) (.slice la 0 c) hsrc
    unfold Oper.wp execOp
    simp only [ho, resolve, invoke, builtin, Sem.run_bind, Sem.run_pure, Result.andThen_ok, List.map_toArray, List.map_cons, List.map_nil, hs, hx, hr]
    exact h g0 0 w hown (World.grownBy.refl _ _)
  · have hlen : 0 < news.length := by rw [hl]; exact Nat.mul_pos hm hsz
    obtain ⟨ad, rfl, _⟩ := hnews 0 _ (List.getElem?_eq_getElem hlen)
    exact step_append_lies w hgd s x t ho base e i z size bytes ht hi hz hsize hby hzs hsz _ 0 [] hs hown ad m c news hx hl (fun j u hj => by
      obtain ⟨ad', he, hc⟩ := hnews j u hj
      obtain rfl : ad = ad' := by simpa using he
      exact hc) h1 hm h63 hbytes hbase _ rfl fun g cap w' h2 h3 _ _ => h g cap w' h2 h3
theorem sl_strs {w : World} {la : Option Addr} {c : Nat} {nm : List Bs} (hs : Sl encN 1 w (.slice la nm.length c) nm) : ∀ j u, (nm.flatMap encN)[j]? = some u → ∃ ad, la = some ad ∧ w.cell? (ad.add j) = some u := by
  intro j u hj
  have hl : j < nm.length := by
    have := (List.getElem?_eq_some_iff.1 hj).1
    rwa [flat_length encN 1 encN_len, Nat.mul_one] at this
  obtain ⟨b, off, he, hb, hc⟩ := sl_elem1 (s := ⟨la, nm.length, c⟩) hs (List.getElem?_eq_getElem hl)
  simp only at he
  refine ⟨_, he, ?_⟩
  rw [add_eq, hc]
  have h2 := flat_get encN 1 encN_len nm j nm[j] 0 (.string (bs nm[j])) (List.getElem?_eq_getElem hl) rfl
  rw [Nat.mul_one, Nat.add_zero, hj] at h2
  exact h2.symm
theorem strs_one (nm : List Bs) : ∀ u ∈ nm.flatMap encN, u.oneCell' = true := by
  intro u hu
  obtain ⟨x, _, hx⟩ := List.mem_flatMap.1 hu
  simp only [encN, List.mem_singleton] at hx
  subst hx
  rfl
abbrev so (a : RawS) : Obj := .cells #[.int .i64 a.k, .string (bs a.t), .slice a.a.a a.a.n a.a.c, .slice a.x.a a.x.n a.x.c, .slice a.y.a a.y.n a.y.c] 88
abbrev cw (cb wb : Nat) : Nat → Prop := fun k => k = cb ∨ k = wb
def CSt (l : List St) : Prop := ∀ (cb fb wb : Nat) (F : AMap) (v : Int) (nm : List Bs) (s : Slc) (W : WS) (sl : Slc) (rs : List RawS) (w : World), CI cb fb wb F v W w → Sl encS 5 w sl.v rs → (∀ b, sl.v.ownBlock = some b → ¬ cw cb wb b) → Each (StOk w (fun k => ¬ cw cb wb k)) rs l →
  Sl encN 1 w s.v nm → (∀ b, s.v.ownBlock = some b → ¬ cw cb wb b) → W.n + stsN l ≤ 100000 → 0 ≤ v → v ≤ 8 → nm.length + stsN l ≤ 100000 →
  Calls Tryd.prog 28 #[.pointer (some ⟨cb, 0, none⟩), .slice sl.a sl.n sl.c, .slice s.a s.n s.c] w fun e w' => e = .returned (.int .i64 (stsC F.f l nm v W).e) ∧ Fr (cw cb wb) w w' ∧ ((stsC F.f l nm v W).e = 0 → CI cb fb wb F (stsC F.f l nm v W).v (stsC F.f l nm v W).W w')
theorem stsC_nil (F : Bs → Option Int) (nm : List Bs) (v : Int) (W : WS) : stsC F [] nm v W = ⟨0, nm, v, W⟩ := by rw [stsC]
theorem stsC_cons (F : Bs → Option Int) (s : St) (l : List St) (nm : List Bs) (v : Int) (W : WS) : stsC F (s :: l) nm v W = (stC F s nm v W).or fun r => stsC F l r.nm r.v r.W := by rw [stsC]
theorem cr_bad {r : CR} {g : CR → CR} (h : r.e ≠ 0) : r.or g = r := by simp [CR.or, h]
theorem cr_ok {r : CR} {g : CR → CR} (h : r.e = 0) : r.or g = g r := by simp [CR.or, h]
theorem stC_mk (F : Bs → Option Int) (k : Int) (t : Bs) (a : List Ex) (x y : List St) (nm : List Bs) (v : Int) (W : WS) : stC F (.mk k t a x y) nm v W =
    CR.or ⟨(exsC F nm a W).e, nm, v, (exsC F nm a W).W⟩ fun r =>
    CR.or ⟨stE nm v k t, stN1 nm k t, stV1 v k, r.W⟩ fun r =>
    CR.or (stsC F x r.nm r.v r.W) fun r2 =>
    CR.or (stsC F y r.nm r2.v r2.W) fun r3 => ⟨0, r.nm, r3.v, r3.W⟩ := by rw [stC]
/-- One statement, by what comes of its parts. -/
theorem stC_ex {F : Bs → Option Int} {k : Int} {t : Bs} {a : List Ex} {x y : List St} {nm : List Bs} {v : Int} {W : WS} (h : (exsC F nm a W).e ≠ 0) : (stC F (.mk k t a x y) nm v W).e = (exsC F nm a W).e := by
  rw [stC_mk, cr_bad (by exact h)]
theorem stC_own {F : Bs → Option Int} {k : Int} {t : Bs} {a : List Ex} {x y : List St} {nm : List Bs} {v : Int} {W : WS} (h : (exsC F nm a W).e = 0) (h2 : stE nm v k t ≠ 0) : (stC F (.mk k t a x y) nm v W).e = stE nm v k t := by
  rw [stC_mk, cr_ok (by exact h), cr_bad (by exact h2)]
theorem stC_then {F : Bs → Option Int} {k : Int} {t : Bs} {a : List Ex} {x y : List St} {nm : List Bs} {v : Int} {W W1 : WS} (h : exsC F nm a W = ⟨0, W1⟩) (h2 : stE nm v k t = 0) (h3 : (stsC F x (stN1 nm k t) (stV1 v k) W1).e ≠ 0) : (stC F (.mk k t a x y) nm v W).e = (stsC F x (stN1 nm k t) (stV1 v k) W1).e := by
  rw [stC_mk, h, cr_ok rfl, cr_ok (by exact h2), cr_bad (by exact h3)]
theorem stC_else {F : Bs → Option Int} {k : Int} {t : Bs} {a : List Ex} {x y : List St} {nm : List Bs} {v : Int} {W W1 : WS} (h : exsC F nm a W = ⟨0, W1⟩) (h2 : stE nm v k t = 0) {r : CR} (h3 : stsC F x (stN1 nm k t) (stV1 v k) W1 = r) (h3' : r.e = 0) {r2 : CR} (h4 : stsC F y (stN1 nm k t) r.v r.W = r2) :
    (r2.e ≠ 0 → (stC F (.mk k t a x y) nm v W).e = r2.e) ∧ (r2.e = 0 → stC F (.mk k t a x y) nm v W = ⟨0, stN1 nm k t, r2.v, r2.W⟩) := by
  subst h3
  subst h4
  constructor
  · intro h5
    rw [stC_mk, h, cr_ok rfl, cr_ok (by exact h2), cr_ok (by exact h3'), cr_bad (by exact h5)]
  · intro h5
    rw [stC_mk, h, cr_ok rfl, cr_ok (by exact h2), cr_ok (by exact h3'), cr_ok (by exact h5)]
theorem CI.vars {cb fb wb : Nat} {F : AMap} {v : Int} {W : WS} {w : World} (h : CI cb fb wb F v W w) (v' : Int) : CI cb fb wb F v' W (w.setCell ⟨cb, 1, none⟩ (.int .i64 v')) := by
  have hf : Fr (fun k => k = cb) w (w.setCell ⟨cb, 1, none⟩ (.int .i64 v')) := (Fr.refl (fun k => k = cb) w).setCell (p := ⟨cb, 1, none⟩) (.inl rfl) _
  obtain ⟨A, a1, a2, a3⟩ := h.wm
  have hne := h.ne
  exact ⟨(World.cell?_setCell_other w ⟨cb, 1, none⟩ ⟨cb, 0, none⟩ _ (by simp)).trans h.c0, World.cell?_setCell_same _ _ _ h.c1, (World.cell?_setCell_other w ⟨cb, 1, none⟩ ⟨cb, 2, none⟩ _ (by simp)).trans h.c2, by rw [World.frozen?_setCell]; exact h.f1, Nat.lt_of_lt_of_le h.lt hf.size, h.fm.fr hf (by omega), ⟨A, a1.fr hf (by omega), a2, a3⟩, hne⟩
/-- The block of a statement, made ahead. -/
theorem so_cells {w w' : World} {r : RawS} {S : Nat → Prop} (hf : Fr S (w.alloc (so r)) w') (hs : ¬ S w.heap.size) : B5 w.heap.size (.int .i64 r.k) (.string (bs r.t)) (.slice r.a.a r.a.n r.a.c) (.slice r.x.a r.x.n r.x.c) (.slice r.y.a r.y.n r.y.c) w' := (B5.made w _ _ _ _ _ 88).fr hf hs
theorem own_eq {g k n c : Nat} (h : (Value.slice (some ⟨g, 0, none⟩) n c).ownBlock = some k) : g = k := by simpa [Value.ownBlock] using h
theorem names_sl {w : World} {base g cp : Nat} {nm : List Bs} {t : Bs} (hr : w.ownsRow base 9 1 (.slice (some ⟨g, 0, none⟩) (0 + nm.length + 1) cp) (0 + nm.length + 1) (([] ++ nm.flatMap encN) ++ [.string (bs t)])) :
    Sl encN 1 w (.slice (some ⟨g, 0, none⟩) (nm ++ [t]).length cp) (nm ++ [t]) ∧ base ≤ g := by
  have e : (nm ++ [t]).flatMap encN = ([] ++ nm.flatMap encN) ++ [.string (bs t)] := by simp [encN]
  have h2 : w.ownsRow base 9 1 (.slice (some ⟨g, 0, none⟩) (nm ++ [t]).length cp) (nm ++ [t]).length ((nm ++ [t]).flatMap encN) := by
    rw [e]
    have : (nm ++ [t]).length = 0 + nm.length + 1 := by simp
    rw [this]
    exact hr
  exact ⟨sl_of_owns encN_len h2, (hr.lt g rfl).1⟩
end Go.Proofs.YtkmdamljhagogaaDoor
