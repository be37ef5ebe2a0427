/- Rows that are appended to from what lies in memory: for the walk of CellTells. -/
import Derived.Test.YtcemfgknnpjlhaaDoorBoth
import Derived.Test.YtcemfgknnpjlhaaDoorRefCanon
namespace Go.Proofs.YtcemfgknnpjlhaaDoor
open Go.RowKit Go.Ws
theorem sl_news {w w' : World} {b off c : Nat} {vl : List Val} (hs : Sl encV 3 w (.slice (some ⟨b, off, none⟩) vl.length c) vl) (hb : Below w.heap.size w w') : ∀ j u, (vl.flatMap encV)[j]? = some u → w'.cell? ((⟨b, off, none⟩ : Addr).add j) = some u := by
  intro j u hj
  have hl : j < vl.length * 3 := by
    have := (List.getElem?_eq_some_iff.1 hj).1
    rwa [flat_length encV 3 encV_length] at this
  have hi : j / 3 < vl.length := by omega
  have hr3 : j % 3 < (encV vl[j / 3]).length := by rw [encV_length]; omega
  obtain ⟨x, hx⟩ : ∃ x, (encV vl[j / 3])[j % 3]? = some x := ⟨_, List.getElem?_eq_getElem hr3⟩
  have h2 := flat_get encV 3 encV_length vl (j / 3) vl[j / 3] (j % 3) x (List.getElem?_eq_getElem hi) hx
  rw [show j / 3 * 3 + j % 3 = j by omega, hj] at h2
  obtain rfl := Option.some.inj h2
  obtain ⟨ao, cap, he, _, hc⟩ := hs
  obtain ⟨b', off', he', hbl, hc'⟩ := hc (j / 3) _ (List.getElem?_eq_getElem hi)
  obtain ⟨rfl, rfl⟩ : b = b' ∧ off = off' := by
    have : (some ⟨b, off, none⟩ : Option Addr) = some ⟨b', off', none⟩ := by rw [← he']; simpa using (Value.slice.inj he).1
    simpa using this
  have h3 := hc' (j % 3) u hx
  rw [← hb.cell (p := ⟨b, _, none⟩) hbl] at h3
  rw [show off + j / 3 * 3 + j % 3 = off + j by omega] at h3
  by_cases h0 : j = 0 <;> simpa [Addr.add, h0] using h3
theorem add_eq (b j : Nat) : (⟨b, 0, none⟩ : Addr).add j = ⟨b, j, none⟩ := by
  by_cases h0 : j = 0 <;> simp [Addr.add, h0]
theorem news_far {w w5 : World} {row : Option Nat} {b : Nat} {l : List Value} (h : ∀ j u, l[j]? = some u → w.cell? ((⟨b, 0, none⟩ : Addr).add j) = some u) (hg : w.drew.grownBy w5 row) (hb : b < w.heap.size) (hne : some b ≠ row) : ∀ j u, l[j]? = some u → w5.cell? ((⟨b, 0, none⟩ : Addr).add j) = some u := by
  intro j u hj
  have h1 := h j u hj
  rw [add_eq] at h1 ⊢
  exact (hg.cell_far ⟨b, j, none⟩ hb hne).trans h1
theorem flat_ones (vl : List Val) : ∀ u ∈ vl.flatMap encV, u.oneCell' = true := by
  intro u hu
  obtain ⟨x, _, hx⟩ := List.mem_flatMap.1 hu
  exact encV_one x u hx
theorem row_empty (w : World) (t : TypeId) {base : Nat} (hb : base ≤ w.heap.size) : (w.alloc (.cells #[] t)).ownsRow base t 3 (.slice (some ⟨w.heap.size, 0, none⟩) 0 0) 0 [] :=
  World.ownsRow_lit (e := t) w #[] 0 (size := 3) hb (by unfold maxLen; omega) rfl

end Go.Proofs.YtcemfgknnpjlhaaDoor
