/- Rows that are appended to from what lies in memory: for the walk of CellTells. -/
import Derived.Test.YtcemfgknnpjlhaaDoorBoth
import Derived.Test.YtcemfgknnpjlhaaDoorRefCanon
import Derived.Deep.Upon
namespace Go.Proofs.YtcemfgknnpjlhaaDoor
open Go.RowKit Go.Ws
theorem sl_news {w w' : World} {b off c : Nat} {vl : List Val} (hs : Sl encV 3 w (.slice (some ⟨b, off, none⟩) vl.length c) vl) (hb : Below w.heap.size w w') : ∀ j u, (vl.flatMap encV)[j]? = some u → w'.cell? ((⟨b, off, none⟩ : Addr).add j) = some u := by
  intro j u hj
  have hl : j < vl.length * 3 := by
    have := (List.getElem?_eq_some_iff.1 hj).1
    rwa [flat_length encV 3 encV_length] at this
  have hi : j / 3 < vl.length := by omega
  have hr3 : j % 3 < (encV vl[j / 3]).length := by rw [encV_length]; omega
  obtain ⟨x, hx⟩ : ∃ x, (encV vl[j / 3])[j % 3]? = some x := ⟨_, List.getElem?_eq_getElem hr3⟩
  have h2 := flat_get encV 3 encV_length vl (j / 3) vl[j / 3] (j % 3) x (List.getElem?_eq_getElem hi) hx
  rw [show j / 3 * 3 + j % 3 = j by omega, hj] at h2
  obtain rfl := Option.some.inj h2
  obtain ⟨ao, cap, he, _, hc⟩ := hs
  obtain ⟨b', off', he', hbl, hc'⟩ := hc (j / 3) _ (List.getElem?_eq_getElem hi)
  obtain ⟨rfl, rfl⟩ : b = b' ∧ off = off' := by
    have : (some ⟨b, off, none⟩ : Option Addr) = some ⟨b', off', none⟩ := by rw [← he']; simpa using (Value.slice.inj he).1
    simpa using this
  have h3 := hc' (j % 3) u hx
  rw [← hb.cell (p := ⟨b, _, none⟩) hbl] at h3
  rw [show off + j / 3 * 3 + j % 3 = off + j by omega] at h3
  by_cases h0 : j = 0 <;> simpa [Addr.add, h0] using h3
theorem add_eq (b j : Nat) : (⟨b, 0, none⟩ : Addr).add j = ⟨b, j, none⟩ := by
  by_cases h0 : j = 0 <;> simp [Addr.add, h0]
theorem news_far {w w5 : World} {row : Option Nat} {b : Nat} {l : List Value} (h : ∀ j u, l[j]? = some u → w.cell? ((⟨b, 0, none⟩ : Addr).add j) = some u) (hg : w.drew.grownBy w5 row) (hb : b < w.heap.size) (hne : some b ≠ row) : ∀ j u, l[j]? = some u → w5.cell? ((⟨b, 0, none⟩ : Addr).add j) = some u := by
  intro j u hj
  have h1 := h j u hj
  rw [add_eq] at h1 ⊢
  exact (hg.cell_far ⟨b, j, none⟩ hb hne).trans h1
theorem flat_ones (vl : List Val) : ∀ u ∈ vl.flatMap encV, u.oneCell' = true := by
  intro u hu
  obtain ⟨x, _, hx⟩ := List.mem_flatMap.1 hu
  exact encV_one x u hx
theorem row_empty (w : World) (t : TypeId) {base : Nat} (hb : base ≤ w.heap.size) : (w.alloc (.cells #[] t)).ownsRow base t 3 (.slice (some ⟨w.heap.size, 0, none⟩) 0 0) 0 [] :=
  World.ownsRow_lit (e := t) w #[] 0 (size := 3) hb (by unfold maxLen; omega) rfl

/-- append([]T{}, l...) for any l, an empty one too, as a step of a region that draws its order. -/
theorem step_append_more {P : Program} (w : World) {ops : Array Oper} {o : Oper} {a : Act} {K : Act → World → Prop} {Q : Exit → Act → World → Prop} {E : Prop} (hgd : o.guard = none) (s x : Operand) (t : TypeId)
    (ho : o.op = .call { callee := .builtin .append, args := #[s, x], argTypes := #[t, t] })
    (base : Nat) (e : TypeId) (i : TypeInfo) (z : Value) (size bytes : Nat) (ht : P.underlying t = some (.slice e)) (hi : P.info? e = some i) (hz : i.zero = some z)
    (hsize : i.size = size) (hby : i.bytes = bytes) (hzs : z.cells.size = size) (hsz : 0 < size)
    (g0 : Nat) (hs : a.eval s = .slice (some ⟨g0, 0, none⟩) 0 0) (hown : w.ownsRow base e size (.slice (some ⟨g0, 0, none⟩) 0 0) 0 [])
    (la : Option Addr) (m c : Nat) (news : List Value) (hx : a.eval x = .slice la m c) (hl : news.length = m * size) (hnews : ∀ j u, news[j]? = some u → ∃ ad, la = some ad ∧ w.cell? (ad.add j) = some u) (h1 : ∀ u ∈ news, u.oneCell' = true)
    (h63 : 0 + m ≤ maxLen) (hbytes : (0 + m) * bytes ≤ 140737488355328) (hbase : base ≤ w.heap.size)
    (h : ∀ g cap w', w'.ownsRow base e size (.slice (some ⟨g, 0, none⟩) (0 + m) cap) (0 + m) ([] ++ news) → w.grownBy w' (Value.slice (some ⟨g0, 0, none⟩) 0 0).ownBlock → K (a.put o.dst (.slice (some ⟨g, 0, none⟩) (0 + m) cap)) w') :
    if Region.wanted o (yielded ops a.tmps) = true then Oper.wp P o a w K Q else E := by
  rcases Nat.eq_zero_or_pos m with h0 | hm
  · subst h0
    have hn : news = [] := List.length_eq_zero_iff.1 (by simpa using hl)
    subst hn
    have hw : Region.wanted o (yielded ops a.tmps) = true := by simp [Region.wanted, hgd]
    rw [if_pos hw]
    have hsrc : Src P i.size t (.slice la 0 c) 0 [] w := by
      cases la with
      | none => exact Src.ofNil w ht c
      | some ad => exact Src.ofSlice w ht ad 0 c [] (by simp) (by simp) (by simp)
    have hr := run_append_nothing w t t o.type e i ht hi (some ⟨g0, 0, none⟩) 0 0 (Nat.le_refl _) (.slice la 0 c) hsrc
    unfold Oper.wp execOp
    simp only [ho, resolve, invoke, builtin, Sem.run_bind, Sem.run_pure, Result.andThen_ok, List.map_toArray, List.map_cons, List.map_nil, hs, hx, hr]
    exact h g0 0 w hown (World.grownBy.refl _ _)
  · have hlen : 0 < news.length := by rw [hl]; exact Nat.mul_pos hm hsz
    obtain ⟨ad, rfl, _⟩ := hnews 0 _ (List.getElem?_eq_getElem hlen)
    exact step_append_lies w hgd s x t ho base e i z size bytes ht hi hz hsize hby hzs hsz _ 0 [] hs hown ad m c news hx hl (fun j u hj => by
      obtain ⟨ad', he, hc⟩ := hnews j u hj
      obtain rfl : ad = ad' := by simpa using he
      exact hc) h1 hm h63 hbytes hbase _ rfl fun g cap w' h2 h3 _ _ => h g cap w' h2 h3
theorem sl_more {w w' : World} {la : Option Addr} {c : Nat} {vl : List Val} (hs : Sl encV 3 w (.slice la vl.length c) vl) (hb : Below w.heap.size w w') : ∀ j u, (vl.flatMap encV)[j]? = some u → ∃ ad, la = some ad ∧ w'.cell? (ad.add j) = some u := by
  intro j u hj
  have hl : j < vl.length * 3 := by
    have := (List.getElem?_eq_some_iff.1 hj).1
    rwa [flat_length encV 3 encV_length] at this
  obtain ⟨b, off, cap, he, _⟩ := vals_of_sl hs (show 0 < vl.length by omega)
  obtain ⟨rfl, rfl⟩ : la = some ⟨b, off, none⟩ ∧ c = cap := by simpa using he
  exact ⟨_, rfl, sl_news hs hb j u hj⟩

end Go.Proofs.YtcemfgknnpjlhaaDoor
