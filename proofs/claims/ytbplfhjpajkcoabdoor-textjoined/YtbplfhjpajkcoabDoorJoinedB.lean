/- One behind the other: the two appends' own runs. -/
import Derived.Test.YtbplfhjpajkcoabDoorJoinedA
import Derived.Deep.Upon
namespace Go.Proofs.YtbplfhjpajkcoabDoor
open Go.RowKit

theorem flatG_one (l : List RawF) : ∀ u ∈ l.flatMap encG, u.oneCell' = true := by
  intro u hu
  obtain ⟨x, _, hx⟩ := List.mem_flatMap.1 hu
  simp only [encG, List.mem_cons, List.not_mem_nil, or_false] at hx
  rcases hx with rfl | rfl | rfl <;> rfl
theorem newsG {w : World} {s : Slc} {rs : List RawF} (h : Sl encG 3 w s.v rs) (hp : 0 < rs.length) : ∃ ad, s.a = some ad ∧ ∀ j u, (rs.flatMap encG)[j]? = some u → w.cell? (ad.add j) = some u := by
  obtain ⟨b0, off0, ha, _⟩ := sl_elem3 h (List.getElem?_eq_getElem hp)
  refine ⟨_, ha, ?_⟩
  intro j u hj
  have hl : j < rs.length * 3 := by
    have := (List.getElem?_eq_some_iff.1 hj).1
    rwa [flat_length encG 3 encG_len] at this
  have hi : j / 3 < rs.length := by omega
  have hr3 : j % 3 < (encG rs[j / 3]).length := by rw [encG_len]; omega
  obtain ⟨x, hx⟩ : ∃ x, (encG rs[j / 3])[j % 3]? = some x := ⟨_, List.getElem?_eq_getElem hr3⟩
  have h2 := flat_get encG 3 encG_len rs (j / 3) rs[j / 3] (j % 3) x (List.getElem?_eq_getElem hi) hx
  rw [show j / 3 * 3 + j % 3 = j by omega, hj] at h2
  obtain rfl := Option.some.inj h2
  obtain ⟨ao, cap, he, _, hc⟩ := h
  obtain ⟨b', off', he', hbl, hc'⟩ := hc (j / 3) _ (List.getElem?_eq_getElem hi)
  have h3 := hc' (j % 3) u hx
  simp only [Value.slice.injEq] at he
  rw [he.1, he'] at ha
  simp at ha
  obtain ⟨rfl, rfl⟩ := ha
  rw [show off' + j / 3 * 3 + j % 3 = off' + j by omega] at h3
  by_cases h0 : j = 0 <;> simpa [Addr.add, h0] using h3
theorem app_run (ty : TypeId) {w : World} {base g n c : Nat} {xs : List Value} (hown : w.ownsRow base 40 3 (.slice (some ⟨g, 0, none⟩) n c) n xs) (hnc : n ≤ c) {s : Slc} {rs : List RawF} (hs : Sl encG 3 w s.v rs) (hn : n + rs.length ≤ 10000) (hbase : base ≤ w.heap.size) :
    ∃ g' c' w', (Builtin.append_ #[23, 23] ty #[.slice (some ⟨g, 0, none⟩) n c, .slice s.a s.n s.c]).run Tryd.prog w = .ok (.slice (some ⟨g', 0, none⟩) (n + rs.length) c') w' ∧
      w'.ownsRow base 40 3 (.slice (some ⟨g', 0, none⟩) (n + rs.length) c') (n + rs.length) (xs ++ rs.flatMap encG) ∧ w.grownBy w' (some g) ∧ n + rs.length ≤ c' := by
  obtain ⟨j0, hj0, hy0, hy1, hy2⟩ := info_parts size40
  have hlen := (sl_len hs).1
  obtain ⟨sa, sn, sc⟩ := s
  simp only at hlen
  subst hlen
  rcases Nat.eq_zero_or_pos rs.length with h0 | hp
  · obtain rfl : rs = [] := List.length_eq_zero_iff.1 h0
    have hsrc : Src Tryd.prog j0.size 23 (.slice sa 0 sc) 0 [] w := by
      cases sa with
      | none => exact Src.ofNil w Tryd.underlying23 sc
      | some ad => exact Src.ofSlice w Tryd.underlying23 ad 0 sc [] (by simp) (by simp) (by simp)
    have hr := run_append_nothing w 23 23 ty 40 j0 Tryd.underlying23 hj0 (some ⟨g, 0, none⟩) n c hnc (.slice sa 0 sc) hsrc
    exact ⟨g, c, w, hr, by simpa using hown, World.grownBy.refl _ _, by simpa using hnc⟩
  · obtain ⟨ad, had, hnews⟩ := newsG hs hp
    simp only at had
    subst had
    obtain ⟨g', c', w', h1, h2, h3, _, h5⟩ := run_append_lies (P := Tryd.prog) (w := w) 23 ty base 40 j0 _ 3 64 Tryd.underlying23 hj0 hy0 hy1 hy2 rfl (by decide) _ n xs hown ad rs.length sc (rs.flatMap encG) (flat_length encG 3 encG_len rs) hnews (flatG_one rs) hp (by unfold maxLen; omega) (by omega) hbase _ rfl
    refine ⟨g', c', w', h1, h2, h3, ?_⟩
    rcases h2.2 with ⟨h, _⟩ | ⟨g2, cap, cur, he, hrest⟩
    · cases h
    · simp only [Value.slice.injEq] at he
      obtain ⟨_, _, rfl⟩ := he
      omega
end Go.Proofs.YtbplfhjpajkcoabDoor
