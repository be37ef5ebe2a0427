/- Arguments opened: values, cells, frames, agents. -/
import Derived.Test.YtgocmpooppejdaaArgs6
import Derived.Test.YtgocmpooppejdaaFAgent
import Derived.Lib.SmallJoins
import Derived.SizedLaws
set_option maxRecDepth 100000
namespace Go.Proofs.Ytgocmpooppejdaa
open Go Go.RowKit
theorem cellsV : Try.prog.cellsOf 51 = 3 := by kernel_rfl
theorem cellsVs : Try.prog.cellsOf 49 = 1 := by kernel_rfl
theorem cellsCl : Try.prog.cellsOf 61 = 6 := by kernel_rfl
theorem cellsCls : Try.prog.cellsOf 27 = 1 := by kernel_rfl
theorem cellsFm : Try.prog.cellsOf 55 = 4 := by kernel_rfl
theorem cellsFms : Try.prog.cellsOf 26 = 1 := by kernel_rfl
theorem cellsAg : Try.prog.cellsOf 31 = 9 := by kernel_rfl
section
variable {H : Type} {enc : TypeId × Value → H} {w : World} {base : Nat} {sp : Nat → Bool} {held : Bool}
theorem open_val {fuel : Nat} {cs : List Value} {x : DataW H × List MemPlace} (h : DataW.trod enc Try.prog w base sp held fuel 51 cs = some x) : ∃ v : Val, cs = encV v ∧ WfV v := by
  obtain ⟨y0, y1, y2, n, _, hl, h0, h1, h2⟩ := Deep.trod_struct3 Try.underlying51 h
  rw [cellsV] at hl
  match cs, hl with
  | [c0, c1, c2], _ =>
    simp only [cells3, cells9, List.drop_zero, List.drop_succ_cons, List.take_succ_cons, List.take_zero] at h0 h1 h2
    obtain ⟨k, e0, _, w0⟩ := DataW.trod_int Try.underlying3 h0
    obtain ⟨m, e1, _, w1⟩ := DataW.trod_int Try.underlying3 h1
    obtain ⟨t, e2, w2⟩ := open_word h2
    simp [encN] at e0 e1 e2
    subst e0 e1 e2
    exact ⟨⟨k, m, t⟩, rfl, i64_of_wf w0, i64_of_wf w1, w2⟩
theorem open_cell {fuel : Nat} {cs : List Value} {x : DataW H × List MemPlace} (h : DataW.trod enc Try.prog w base sp held fuel 61 cs = some x) : ∃ c : Cel, cs = encL c ∧ (WfV c.l ∧ WfV c.r) := by
  obtain ⟨y0, y1, n, _, hl, h0, h1⟩ := ChangeShapes.trod_struct2 Try.underlying61 h
  rw [cellsCl] at hl
  match cs, hl with
  | [c0, c1, c2, c3, c4, c5], _ =>
    simp only [cellsV, List.drop_zero, List.drop_succ_cons, List.take_succ_cons, List.take_zero] at h0 h1
    obtain ⟨a, e0, w0⟩ := open_val h0
    obtain ⟨b, e1, w1⟩ := open_val h1
    refine ⟨⟨a, b⟩, ?_, w0, w1⟩
    unfold encL
    rw [← e0, ← e1]
    rfl
/-- A frame that lies there. -/
def WfRM (w : World) (r : RawM) : Prop := ∃ f : Fm, FmOk w r f ∧ WfM f
theorem slc_of {s : Nat} {v : Value} {α : Type} {encA : α → List Value} {l : List α} (h : Sl encA s w v l) : ∃ q : Slc, v = .slice q.a q.n q.c ∧ Sl encA s w q.v l := by
  obtain ⟨ao, cap, rfl, hm, hc⟩ := id h
  exact ⟨⟨ao, l.length, cap⟩, rfl, h⟩
theorem open_frame {fuel : Nat} {cs : List Value} {x : DataW H × List MemPlace} (h : DataW.trod enc Try.prog w base sp held fuel 55 cs = some x) : ∃ r : RawM, cs = encM r ∧ WfRM w r := by
  obtain ⟨xs, n, _, _, hl, hxs, hf⟩ := DataW.trod_struct Try.underlying55 h
  rw [cellsFm] at hl
  match cs, hl, xs, hxs with
  | [c0, c1, c2, c3], _, [y0, y1, y2, y3], _ =>
    have h0 : DataW.trod enc Try.prog w base sp held n 3 (([c0, c1, c2, c3].drop 0).take (Try.prog.cellsOf 3)) = some y0 := hf 0 _ rfl
    have h1 : DataW.trod enc Try.prog w base sp held n 3 (([c0, c1, c2, c3].drop 1).take (Try.prog.cellsOf 3)) = some y1 := hf 1 _ rfl
    have h2 : DataW.trod enc Try.prog w base sp held n 49 (([c0, c1, c2, c3].drop 2).take (Try.prog.cellsOf 49)) = some y2 := hf 2 _ rfl
    have h3 : DataW.trod enc Try.prog w base sp held n 49 (([c0, c1, c2, c3].drop 3).take (Try.prog.cellsOf 49)) = some y3 := hf 3 _ rfl
    simp only [cells3, cellsVs, List.drop_zero, List.drop_succ_cons, List.take_succ_cons, List.take_zero] at h0 h1 h2 h3
    obtain ⟨k, e0, _, w0⟩ := DataW.trod_int Try.underlying3 h0
    obtain ⟨m, e1, _, w1⟩ := DataW.trod_int Try.underlying3 h1
    obtain ⟨vs, s2, f2, _⟩ := open_list Try.underlying49 cellsV (by decide) (fun h => open_val h) h2
    obtain ⟨ss, s3, f3, _⟩ := open_list Try.underlying49 cellsV (by decide) (fun h => open_val h) h3
    simp at e0 e1
    subst e0 e1
    obtain ⟨q2, rfl, s2⟩ := slc_of s2
    obtain ⟨q3, rfl, s3⟩ := slc_of s3
    exact ⟨⟨k, m, q2, q3⟩, rfl, ⟨k, m, vs, ss⟩, ⟨rfl, rfl, s2, s3⟩, ⟨i64_of_wf w0, i64_of_wf w1, f2, f3⟩⟩
theorem open_permit {fuel : Nat} {cs : List Value} {x : DataW H × List MemPlace} (h : DataW.trod enc Try.prog w base sp held fuel 29 cs = some x) : ∃ a b c : Int, cs = [.int .i64 a, .int .i64 b, .int .i64 c] ∧ i64 a ∧ i64 b ∧ i64 c := by
  obtain ⟨y0, y1, y2, n, _, hl, h0, h1, h2⟩ := Deep.trod_struct3 Try.underlying29 h
  rw [cellsPm] at hl
  match cs, hl with
  | [c0, c1, c2], _ =>
    simp only [cells3, List.drop_zero, List.drop_succ_cons, List.take_succ_cons, List.take_zero] at h0 h1 h2
    obtain ⟨k, e0, _, w0⟩ := DataW.trod_int Try.underlying3 h0
    obtain ⟨m, e1, _, w1⟩ := DataW.trod_int Try.underlying3 h1
    obtain ⟨o, e2, _, w2⟩ := DataW.trod_int Try.underlying3 h2
    simp at e0 e1 e2
    subst e0 e1 e2
    exact ⟨k, m, o, rfl, i64_of_wf w0, i64_of_wf w1, i64_of_wf w2⟩
/-- How long the list is that is read. -/
def Rdd (d : DataW H) (n : Nat) : Prop := (d = .nil ∧ n = 0) ∨ ∃ els spare, d = .slice els spare ∧ els.length = n
theorem open_agent {fuel : Nat} {cs : List Value} {x : DataW H × List MemPlace} (h : DataW.trod enc Try.prog w base sp held fuel 31 cs = some x) : ∃ (a : Ag) (sc sw sf sh : Slc), cs = (agC a sc sw sf sh).toList ∧ AgOk w sc sw sf sh a ∧ (a.hp.length ≤ 140737488355328 ∧ a.fr.length ≤ 140737488355328 → WfA a) ∧ ∃ d0 d1 d2 d3 d4 d5, x.1 = .agg [d0, d1, d2, d3, d4, d5] ∧ Rdd d3 a.fr.length ∧ Rdd d4 a.hp.length := by
  obtain ⟨xs, n, _, rfl, hl, hxs, hf⟩ := DataW.trod_struct Try.underlying31 h
  rw [cellsAg] at hl
  match cs, hl, xs, hxs with
  | [c0, c1, c2, c3, c4, c5, c6, c7, c8], _, [y0, y1, y2, y3, y4, y5], _ =>
    have h0 : DataW.trod enc Try.prog w base sp held n 3 (([c0, c1, c2, c3, c4, c5, c6, c7, c8].drop 0).take (Try.prog.cellsOf 3)) = some y0 := hf 0 _ rfl
    have h1 : DataW.trod enc Try.prog w base sp held n 3 (([c0, c1, c2, c3, c4, c5, c6, c7, c8].drop 1).take (Try.prog.cellsOf 3)) = some y1 := hf 1 _ rfl
    have h2 : DataW.trod enc Try.prog w base sp held n 25 (([c0, c1, c2, c3, c4, c5, c6, c7, c8].drop 2).take (Try.prog.cellsOf 25)) = some y2 := hf 2 _ rfl
    have h3 : DataW.trod enc Try.prog w base sp held n 26 (([c0, c1, c2, c3, c4, c5, c6, c7, c8].drop 4).take (Try.prog.cellsOf 26)) = some y3 := hf 3 _ rfl
    have h4 : DataW.trod enc Try.prog w base sp held n 27 (([c0, c1, c2, c3, c4, c5, c6, c7, c8].drop 5).take (Try.prog.cellsOf 27)) = some y4 := hf 4 _ rfl
    have h5 : DataW.trod enc Try.prog w base sp held n 29 (([c0, c1, c2, c3, c4, c5, c6, c7, c8].drop 6).take (Try.prog.cellsOf 29)) = some y5 := hf 5 _ rfl
    simp only [cells3, cellsPg, cellsFms, cellsCls, cellsPm, List.drop_zero, List.drop_succ_cons, List.take_succ_cons, List.take_zero] at h0 h1 h2 h3 h4 h5
    obtain ⟨k, e0, _, w0⟩ := DataW.trod_int Try.underlying3 h0
    obtain ⟨m, e1, _, w1⟩ := DataW.trod_int Try.underlying3 h1
    obtain ⟨sc, sw, p, e2, p2, z2⟩ := open_prog h2
    obtain ⟨rs, s3, f3, r3⟩ := open_list Try.underlying26 cellsFm (by decide) (fun h => open_frame h) h3
    obtain ⟨hp, s4, f4, r4⟩ := open_list Try.underlying27 cellsCl (by decide) (fun h => open_cell h) h4
    obtain ⟨fu, ce, ho, e5, i0, i1, i2⟩ := open_permit h5
    simp at e0 e1 e2 e5
    obtain ⟨rfl, rfl⟩ := e2
    obtain ⟨rfl, rfl, rfl⟩ := e5
    subst e0 e1
    obtain ⟨fl, hfl, hfp⟩ := list_of (p := fun i (f : Fm) => ∀ r, rs[i]? = some r → FmOk w r f ∧ WfM f) rs.length (fun i hi => by
      obtain ⟨f, hf⟩ := f3 rs[i] (List.getElem_mem hi)
      exact ⟨f, fun r hr => by rw [List.getElem?_eq_getElem hi] at hr; cases hr; exact hf⟩)
    obtain ⟨q3, rfl, s3⟩ := slc_of s3
    obtain ⟨q4, rfl, s4⟩ := slc_of s4
    refine ⟨⟨k, m, p, fl, hp, fu, ce, ho⟩, sc, sw, q3, q4, rfl, ⟨p2, ⟨rs, s3, hfl.symm, fun i r x e1 e2 => (hfp i x e2 r e1).1⟩, s4⟩, fun hlen => ⟨z2, fun f hf => ?_, f4, ⟨i64_of_wf w0, i64_of_wf w1, i0, i1, i2⟩, hlen⟩, y0.1, y1.1, y2.1, y3.1, y4.1, y5.1, rfl, ?_, ?_⟩
    · obtain ⟨i, hi, rfl⟩ := List.getElem_of_mem hf
      exact (hfp i _ (List.getElem?_eq_getElem hi) _ (List.getElem?_eq_getElem (by rw [← hfl]; exact hi))).2
    · rcases r3 with ⟨a, b⟩ | ⟨els, spare, a, b⟩
      · exact .inl ⟨a, by rw [hfl, b]; rfl⟩
      · exact .inr ⟨els, spare, a, by rw [b, hfl]⟩
    · rcases r4 with ⟨a, b⟩ | ⟨els, spare, a, b⟩
      · exact .inl ⟨a, by rw [b]; rfl⟩
      · exact .inr ⟨els, spare, a, b⟩
end
end Go.Proofs.Ytgocmpooppejdaa
