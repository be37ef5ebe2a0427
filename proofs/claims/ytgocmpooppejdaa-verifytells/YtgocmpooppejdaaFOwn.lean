/- Rows of any kind that a call owns. -/
import Derived.Test.YtgocmpooppejdaaRB
import Derived.Deep.Upon
set_option maxHeartbeats 0
set_option maxRecDepth 100000
namespace Go.Proofs.Ytgocmpooppejdaa
open Go Go.RowKit
section
variable {α : Type} {enc : α → List Value} {T Ts sz bytes base : Nat} {z : Value}
/-- A row that is the call's own. -/
structure Own (enc : α → List Value) (T sz base : Nat) (q : Slc) (l : List α) (w : World) : Prop where
  n : q.n = l.length
  row : w.ownsRow base T sz q.v l.length (l.flatMap enc)
theorem Own.sl (he : ∀ x, (enc x).length = sz) {q : Slc} {l : List α} {w : World} (h : Own enc T sz base q l w) : Sl enc sz w q.v l := sl_of_owns he h.row
theorem Own.fr {q : Slc} {l : List α} {w w' : World} {S : Nat → Prop} (h : Own enc T sz base q l w) (hf : Fr S w w') (hs : ∀ b, q.v.ownBlock = some b → ¬ S b) : Own enc T sz base q l w' := ⟨h.n, owns_fr h.row hf hs⟩
theorem Own.new {q : Slc} {l : List α} {w w' : World} (h : Own enc T sz base q l w) (hf : Fr nothing w w') : Own enc T sz base q l w' := h.fr hf (fun _ _ => id)
theorem Own.lt {q : Slc} {l : List α} {w : World} (h : Own enc T sz base q l w) {b : Nat} (hb : q.v.ownBlock = some b) : base ≤ b ∧ b < w.heap.size := h.row.lt b hb
theorem Own.nil (enc : α → List Value) (T sz base : Nat) (w : World) : Own enc T sz base nilS [] w := ⟨rfl, World.ownsRow_nil _ _ _ _⟩
/-- A literal. -/
theorem Own.lit (w : World) (cs : Array Value) (l : List α) (hc : cs.toList = l.flatMap enc) (he : ∀ x, (enc x).length = sz) (hb : base ≤ w.heap.size) (hl : l.length ≤ maxLen) : Own enc T sz base ⟨some ⟨w.heap.size, 0, none⟩, l.length, l.length⟩ l (w.alloc (.cells cs T)) := by
  refine ⟨rfl, ?_⟩
  have hs : cs.size = l.length * sz := by rw [← Array.length_toList, hc]; exact flat_length enc sz he l
  have := World.ownsRow_lit (e := T) w cs l.length (size := sz) (base := base) hb hl hs
  rw [hc] at this
  exact this
theorem run_cells {w : World} {x : Slc} {ys : List α} (he : ∀ x, (enc x).length = sz) (hsz : 0 < sz) (hs : Sl enc sz w x.v ys) : ∀ j u, (ys.flatMap enc)[j]? = some u → ∃ ad, x.a = some ad ∧ w.cell? (ad.add j) = some u := by
  intro j u hj
  have hfl : (ys.flatMap enc).length = ys.length * sz := flat_length enc sz he ys
  have hjl : j < ys.length * sz := by rw [← hfl]; exact (List.getElem?_eq_some_iff.1 hj).1
  obtain ⟨ao, cap, he', _, hc⟩ := hs
  simp only [Value.slice.injEq] at he'
  obtain ⟨e1, _, _⟩ := he'
  have hi : j / sz < ys.length := (Nat.div_lt_iff_lt_mul hsz).2 hjl
  obtain ⟨b, off, rfl, _, hcell⟩ := hc (j / sz) _ (List.getElem?_eq_getElem hi)
  refine ⟨_, e1, ?_⟩
  have hmod : j % sz < sz := Nat.mod_lt _ hsz
  have hdm : j / sz * sz + j % sz = j := Nat.div_add_mod' j sz
  have h3 : (enc ys[j / sz])[j % sz]? = some u := by
    have hk : ∃ u', (enc ys[j / sz])[j % sz]? = some u' := ⟨_, List.getElem?_eq_getElem (by rw [he]; exact hmod)⟩
    obtain ⟨u', hu'⟩ := hk
    have := flat_get enc sz he ys (j / sz) _ (j % sz) u' (List.getElem?_eq_getElem hi) hu'
    rw [hdm, hj] at this
    rw [hu', this]
  rw [add_eq, ← hcell (j % sz) u h3]
  congr 2
  omega
/-- What lies in a list, behind a row. -/
theorem Own.app (hu : Try.prog.underlying Ts = some (.slice T)) (hinf : (Try.prog.info? T).map (fun i => (i.zero, i.size, i.bytes)) = some (some z, sz, bytes)) (hzs : z.cells.size = sz) (hsz : 0 < sz) (he : ∀ x, (enc x).length = sz) (h1 : ∀ x, ∀ u ∈ enc x, u.oneCell' = true)
    {q x : Slc} {xs ys : List α} {w : World} (h : Own enc T sz base q xs w) (hs : Sl enc sz w x.v ys) (hb : base ≤ w.heap.size) (hl : xs.length + ys.length ≤ maxLen) (hby : (xs.length + ys.length) * bytes ≤ 140737488355328) :
    ∃ (q' : Slc) (w' : World), (Builtin.append_ #[Ts, Ts] Ts #[.slice q.a q.n q.c, .slice x.a x.n x.c]).run Try.prog w = .ok (.slice q'.a q'.n q'.c) w' ∧ Own enc T sz base q' (xs ++ ys) w' ∧ Fr (fun k => q.v.ownBlock = some k) w w' ∧ (∀ b, q'.v.ownBlock = some b → q.v.ownBlock = some b ∨ w.heap.size ≤ b) := by
  obtain ⟨j0, hj0, hy0, hy1, hy2⟩ := info_parts hinf
  obtain ⟨hn, hm⟩ := sl_len hs
  obtain ⟨xa, xn, xc⟩ := x
  simp only at hn
  subst hn
  rcases Nat.eq_zero_or_pos ys.length with h0 | hp
  · have e : ys = [] := List.length_eq_zero_iff.1 h0
    subst e
    have hsrc : Src Try.prog j0.size Ts (.slice xa 0 xc) 0 [] w := by
      cases xa with
      | none => exact Src.ofNil w hu xc
      | some ad => exact Src.ofSlice w hu ad 0 xc [] (by simp) (by simp) (by simp)
    have hle : q.n ≤ q.c := by
      rcases h.row.2 with ⟨e, _⟩ | ⟨g, cap, cur, e, _, _, h2, _⟩
      · simp only [Slc.v, Value.slice.injEq] at e; omega
      · simp only [Slc.v, Value.slice.injEq] at e; have := h.n; omega
    refine ⟨q, w, run_append_nothing w Ts Ts Ts T j0 hu hj0 q.a q.n q.c hle (.slice xa 0 xc) hsrc, by rw [List.append_nil]; exact h, Fr.refl _ _, fun b hb => .inl hb⟩
  · have hfl : (ys.flatMap enc).length = ys.length * sz := flat_length enc sz he ys
    have hget := run_cells he hsz hs
    have hpos : 0 < (ys.flatMap enc).length := by rw [hfl]; exact Nat.mul_pos hp hsz
    obtain ⟨ad, rfl, _⟩ := hget 0 _ (List.getElem?_eq_getElem hpos)
    obtain ⟨g, cap, w', hr, h2, h3, h4, h5⟩ := run_append_lies (P := Try.prog) w Ts Ts base T j0 _ sz bytes hu hj0 hy0 hy1 hy2 hzs hsz q.v xs.length _ h.row ad ys.length xc (ys.flatMap enc) hfl (fun j u hj => by
      obtain ⟨ad', e1, e2⟩ := hget j u hj
      obtain rfl : ad = ad' := by simpa using e1
      exact e2) (fun u hu => by
      obtain ⟨x, _, hx⟩ := List.mem_flatMap.1 hu
      exact h1 x u hx) hp hl hby hb _ rfl
    refine ⟨⟨some ⟨g, 0, none⟩, xs.length + ys.length, cap⟩, w', hr, ⟨by simp, by simpa using h2⟩, (Fr.refl _ w).grown h3 (fun k hk => .inl hk), fun b hb' => ?_⟩
    obtain rfl : g = b := Option.some.inj hb'
    exact h4.imp id (fun e => by omega)
/-- One that stands in a block of its own. -/
theorem sl_one (w : World) (cs : Array Value) (x : α) (hc : cs.toList = enc x) : Sl enc sz (w.alloc (.cells cs T)) (Slc.v ⟨some ⟨w.heap.size, 0, none⟩, 1, 1⟩) [x] := by
  refine ⟨some ⟨w.heap.size, 0, none⟩, 1, rfl, by unfold maxLen; simp, fun i y hi => ⟨w.heap.size, 0, rfl, by simp, fun j u hj => ?_⟩⟩
  have hi0 : i = 0 := by have := (List.getElem?_eq_some_iff.1 hi).1; simp at this; omega
  subst hi0
  obtain rfl : x = y := by simpa using hi
  have hm := (made_cells (Fr.refl nothing (w.alloc (.cells cs T))) id).1 j
  have e1 : (0 : Nat) + 0 * sz + j = j := by omega
  rw [e1, hm, ← hj, ← hc, Array.getElem?_toList]
theorem flat_set (he : ∀ x, (enc x).length = sz) : ∀ (l : List α) (i : Nat) (x : α), i < l.length → (l.set i x).flatMap enc = (l.flatMap enc).take (i * sz) ++ enc x ++ (l.flatMap enc).drop (i * sz + sz)
  | [], i, x, h => by simp at h
  | y :: l, 0, x, h => by
    simp only [List.set_cons_zero, List.flatMap_cons, Nat.zero_mul, List.take_zero, List.nil_append, Nat.zero_add]
    rw [List.drop_append_of_le_length (by rw [he]; exact Nat.le_refl _), List.drop_eq_nil_of_le (by rw [he]; exact Nat.le_refl _), List.nil_append]
  | y :: l, i + 1, x, h => by
    have ih := flat_set he l i x (by simpa using h)
    have e1 : (i + 1) * sz = (enc y).length + i * sz := by rw [he, Nat.succ_mul]; omega
    have e2 : (enc y).length + i * sz + sz = (enc y).length + (i * sz + sz) := by omega
    simp only [List.set_cons_succ, List.flatMap_cons]
    rw [e1, ih, List.take_append, List.take_of_length_le (show (enc y).length ≤ (enc y).length + i * sz by omega), e2, List.drop_append, List.drop_eq_nil_of_le (show (enc y).length ≤ (enc y).length + (i * sz + sz) by omega)]
    simp
end
end Go.Proofs.Ytgocmpooppejdaa
