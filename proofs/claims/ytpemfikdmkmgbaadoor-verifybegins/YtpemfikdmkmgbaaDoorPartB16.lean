/- RJoin; RRep; RSts0. -/
import Derived.Maps.RangeWalk
import Derived.Deep.Onto
import Derived.Test.YtpemfikdmkmgbaaDoorPartB15
section
/- The document's own answer: pieces of code, one behind the other. -/
set_option maxHeartbeats 0
set_option maxRecDepth 100000
namespace Go.Proofs.YtpemfikdmkmgbaaDoor
open Go Go.RowKit
/-- A list of instructions that is the call's own. -/
structure OwnI (base : Nat) (q : Slc) (l : List In) (w : World) : Prop where
  n : q.n = l.length
  row : w.ownsRow base 59 3 q.v l.length (l.flatMap encI)
theorem OwnI.sl {base : Nat} {q : Slc} {l : List In} {w : World} (h : OwnI base q l w) : Sl encI 3 w q.v l := sl_of_owns encI_len h.row
theorem OwnI.fr {base : Nat} {q : Slc} {l : List In} {w w' : World} {S : Nat → Prop} (h : OwnI base q l w) (hf : Fr S w w') (hs : ∀ b, q.v.ownBlock = some b → ¬ S b) : OwnI base q l w' := ⟨h.n, owns_fr h.row hf hs⟩
theorem OwnI.lt {base : Nat} {q : Slc} {l : List In} {w : World} (h : OwnI base q l w) {b : Nat} (hb : q.v.ownBlock = some b) : base ≤ b ∧ b < w.heap.size := h.row.lt b hb
theorem OwnI.nil (base : Nat) (w : World) : OwnI base nilS [] w := ⟨rfl, World.ownsRow_nil _ _ _ _⟩
theorem ins_one (l : List In) : ∀ u ∈ l.flatMap encI, u.oneCell' = true := by
  intro u hu
  obtain ⟨x, _, hx⟩ := List.mem_flatMap.1 hu
  simp only [encI, List.mem_cons, List.not_mem_nil, or_false] at hx
  rcases hx with rfl | rfl | rfl <;> rfl
theorem OwnI.app {base : Nat} {q x : Slc} {xs ys : List In} {w : World} (h : OwnI base q xs w) (hs : Sl encI 3 w x.v ys) (hb : base ≤ w.heap.size) (hl : xs.length + ys.length ≤ 1000000) :
    ∃ (q' : Slc) (w' : World), (Builtin.append_ #[52, 52] 52 #[.slice q.a q.n q.c, .slice x.a x.n x.c]).run Tryd.prog w = .ok (.slice q'.a q'.n q'.c) w' ∧ OwnI base q' (xs ++ ys) w' ∧ Fr (fun k => q.v.ownBlock = some k) w w' ∧ (∀ b, q'.v.ownBlock = some b → q.v.ownBlock = some b ∨ w.heap.size ≤ b) := by
  obtain ⟨j0, hj0, hy0, hy1, hy2⟩ := info_parts sizeIn
  obtain ⟨hn, hm⟩ := sl_len hs
  obtain ⟨xa, xn, xc⟩ := x
  simp only at hn
  subst hn
  rcases Nat.eq_zero_or_pos ys.length with h0 | hp
  · have e : ys = [] := List.length_eq_zero_iff.1 h0
    subst e
    have hsrc : Src Tryd.prog j0.size 52 (.slice xa 0 xc) 0 [] w := by
      cases xa with
      | none => exact Src.ofNil w Tryd.underlying52 xc
      | some ad => exact Src.ofSlice w Tryd.underlying52 ad 0 xc [] (by simp) (by simp) (by simp)
    have hle : q.n ≤ q.c := by
      rcases h.row.2 with ⟨e, _⟩ | ⟨g, cap, cur, e, _, _, h2, _⟩
      · simp only [Slc.v, Value.slice.injEq] at e; omega
      · simp only [Slc.v, Value.slice.injEq] at e; have := h.n; omega
    refine ⟨q, w, run_append_nothing w 52 52 52 59 j0 Tryd.underlying52 hj0 q.a q.n q.c hle (.slice xa 0 xc) hsrc, by rw [List.append_nil]; exact h, Fr.refl _ _, fun b hb => .inl hb⟩
  · have hfl : (ys.flatMap encI).length = ys.length * 3 := flat_length encI 3 encI_len ys
    have hget : ∀ j u, (ys.flatMap encI)[j]? = some u → ∃ ad, xa = some ad ∧ w.cell? (ad.add j) = some u := by
      intro j u hj
      have hjl : j < ys.length * 3 := by rw [← hfl]; exact (List.getElem?_eq_some_iff.1 hj).1
      obtain ⟨ao, cap, he, _, hc⟩ := hs
      simp only [Value.slice.injEq] at he
      obtain ⟨rfl, _, _⟩ := he
      have hi : j / 3 < ys.length := by omega
      obtain ⟨b, off, rfl, _, hcell⟩ := hc (j / 3) _ (List.getElem?_eq_getElem hi)
      refine ⟨_, rfl, ?_⟩
      have h3 : (encI ys[j / 3])[j % 3]? = some u := by
        have hk : ∃ u', (encI ys[j / 3])[j % 3]? = some u' := ⟨_, List.getElem?_eq_getElem (by rw [encI_len]; omega)⟩
        obtain ⟨u', hu'⟩ := hk
        have := flat_get encI 3 encI_len ys (j / 3) _ (j % 3) u' (List.getElem?_eq_getElem hi) hu'
        rw [show j / 3 * 3 + j % 3 = j by omega, hj] at this
        rw [hu', this]
      rw [add_eq, ← hcell (j % 3) u h3]
      congr 2
      omega
    obtain ⟨ad, rfl, _⟩ := hget 0 _ (List.getElem?_eq_getElem (by omega))
    obtain ⟨g, cap, w', hr, h2, h3, h4, h5⟩ := run_append_lies (P := Tryd.prog) w 52 52 base 59 j0 _ 3 24 Tryd.underlying52 hj0 hy0 hy1 hy2 rfl (by decide) q.v xs.length _ h.row ad ys.length xc (ys.flatMap encI) hfl (fun j u hj => by
      obtain ⟨ad', e1, e2⟩ := hget j u hj
      obtain rfl : ad = ad' := by simpa using e1
      exact e2) (ins_one ys) hp (by unfold maxLen; omega) (by omega) hb _ rfl
    refine ⟨⟨some ⟨g, 0, none⟩, xs.length + ys.length, cap⟩, w', hr, ⟨by simp, by simpa using h2⟩, (Fr.refl _ w).grown h3 (fun k hk => .inl hk), fun b hb' => ?_⟩
    obtain rfl : g = b := Option.some.inj hb'
    exact h4.imp id (fun e => by omega)
/-- Jumps are as much further. -/
def shI (k : Int) (x : In) : In := if x.op = 15 ∨ x.op = 16 then { x with a := x.a + k } else x
def shiftI (k : Int) (l : List In) : List In := l.map (shI k)
def JOk (x : In) : Prop := (x.op = 15 ∨ x.op = 16) → 0 ≤ x.a ∧ x.a ≤ 1000000
theorem OwnI.lit (w : World) {base : Nat} (hb : base ≤ w.heap.size) : OwnI base ⟨some ⟨w.heap.size, 0, none⟩, 0, 0⟩ [] (w.alloc (.cells #[] 59)) :=
  ⟨rfl, World.ownsRow_lit (e := 59) w #[] 0 (size := 3) (base := base) hb (by unfold maxLen; omega) rfl⟩
theorem sl_litI (w : World) (x : In) : Sl encI 3 (w.alloc (.cells #[.int .i64 x.op, .int .i64 x.a, .int .i64 x.b] 59)) (Slc.v ⟨some ⟨w.heap.size, 0, none⟩, 1, 1⟩) [x] := by
  refine ⟨some ⟨w.heap.size, 0, none⟩, 1, rfl, by unfold maxLen; simp, fun i y hi => ?_⟩
  cases i with
  | zero =>
    simp at hi
    subst hi
    refine ⟨_, _, rfl, by simp, fun j u hu => ?_⟩
    have := World.news_of_block (cs := #[.int .i64 x.op, .int .i64 x.a, .int .i64 x.b]) (t := 59) (fr := (0, 0)) (heap_new w _) j u hu
    rw [add_eq] at this
    simpa using this
  | succ i => simp at hi
theorem shift_snoc (k : Int) (l : List In) (x : In) : shiftI k (l ++ [x]) = shiftI k l ++ [shI k x] := by simp [shiftI]
theorem join_any (qa qb : Slc) (la lb : List In) (w : World) (ha : Sl encI 3 w qa.v la) (hb : Sl encI 3 w qb.v lb) (hl : la.length + lb.length ≤ 1000000) (hJ : ∀ x ∈ lb, JOk x) :
    Calls Tryd.prog 61 #[.slice qa.a qa.n qa.c, .slice qb.a qb.n qb.c] w fun e w' => ∃ q : Slc, e = .returned (.slice q.a q.n q.c) ∧ OwnI w.heap.size q (la ++ shiftI la.length lb) w' ∧ Fr nothing w w' := by
  obtain ⟨hna, hma⟩ := sl_len ha
  obtain ⟨hnb, hmb⟩ := sl_len hb
  obtain ⟨aa, an, ac⟩ := qa
  obtain ⟨ba, bn, bc⟩ := qb
  simp only at hna hnb
  subst hna
  subst hnb
  have hF1 : Fr nothing w (w.alloc (.cells #[] 59)) := (Fr.refl _ _).alloc _
  obtain ⟨q1, w2, hrun, own1, hF2, hat2⟩ := (OwnI.lit w (Nat.le_refl _)).app (x := ⟨aa, la.length, ac⟩) (ha.fr hF1 (fun _ _ => id)) hF1.size (by simp; omega)
  simp only [List.nil_append] at own1
  have hF02 : Fr nothing w w2 := hF1.then hF2 (fun k hk e => by have : w.heap.size = k := Option.some.inj e; omega)
  have HB := hide hb
  have HO := hide own1
  have HF := hide hF02
  have HJ := hide hJ
  have hbl : lb.length ≤ 9223372036854775807 := by omega
  have hal : la.length ≤ 9223372036854775807 := by omega
  clear hF1 own1 hF2 hat2 hF02 ha hb hJ
  go_enter Tryd.func61, Tryd.ntmps61
  go_wp2_with (at_builtin; go_must (refine wpList_run rfl _ _ 52 rfl _ _ rfl rfl hrun ?_))
  clear hrun
  go_loopw [13, 5, 7] (fun i v _ wr => ∃ (j : Nat) (q : Slc), j ≤ lb.length ∧ i = .int .i64 j ∧ v = .slice q.a q.n q.c ∧ Hid (OwnI w.heap.size q (la ++ shiftI la.length (lb.take j)) wr ∧ Fr nothing w wr)) (fun i _ _ _ => lb.length - (intOf i).toNat)
  case atStart => exact ⟨0, q1, Nat.zero_le _, rfl, rfl, by simpa [shiftI] using HO.out, HF.out⟩
  case round =>
    obtain ⟨j, q, hj, rfl, rfl, hR⟩ := hrel
    by_cases hjl : j < lb.length
    · have hx : lb[j]? = some lb[j] := List.getElem?_eq_getElem hjl
      have hxm : lb[j] ∈ lb := List.getElem_mem hjl
      have htk : lb.take (j + 1) = lb.take j ++ [lb[j]] := (List.take_append_getElem hjl).symm
      generalize lb[j] = x at hx hxm htk
      obtain ⟨g, o, hg, dg, p0, p1, p2⟩ := sl_elemI (s := ⟨ba, lb.length, bc⟩) HB.out hx
      simp only at hg
      subst hg
      obtain ⟨hO, hF⟩ := hR.out
      rw [← hF.cell (p := ⟨g, _, none⟩) dg id] at p0 p1 p2
      have eg : g < wr.heap.size := Nat.lt_of_lt_of_le dg hF.size
      -- a copy of it, and a list of it alone
      have hFA : Fr nothing wr (wr.alloc (.cells #[.int .i64 (shI la.length x).op, .int .i64 (shI la.length x).a, .int .i64 (shI la.length x).b] 59)) := (Fr.refl _ _).alloc _
      have sA : (wr.alloc (.cells #[.int .i64 (shI la.length x).op, .int .i64 (shI la.length x).a, .int .i64 (shI la.length x).b] 59)).heap.size = wr.heap.size + 1 := by simp
      have hSL := sl_litI (wr.alloc (.cells #[.int .i64 (shI la.length x).op, .int .i64 (shI la.length x).a, .int .i64 (shI la.length x).b] 59)) (shI la.length x)
      rw [sA] at hSL
      have hFB : Fr nothing wr ((wr.alloc (.cells #[.int .i64 (shI la.length x).op, .int .i64 (shI la.length x).a, .int .i64 (shI la.length x).b] 59)).alloc (.cells #[.int .i64 (shI la.length x).op, .int .i64 (shI la.length x).a, .int .i64 (shI la.length x).b] 59)) := hFA.alloc _
      have hlen : (la ++ shiftI la.length (lb.take j)).length ≤ la.length + j := by simp [shiftI]; omega
      obtain ⟨q2, w5, hrun, own5, hF5, hat5⟩ := (hO.fr hFB (fun _ _ => id)).app (x := ⟨some ⟨wr.heap.size + 1, 0, none⟩, 1, 1⟩) hSL (Nat.le_trans hF.size hFB.size) (by simp only [List.length_singleton]; omega)
      have HN := hide (show OwnI w.heap.size q2 (la ++ shiftI la.length (lb.take (j + 1))) w5 by rw [htk, shift_snoc, ← List.append_assoc]; exact own5)
      have HFN := hide ((hF.trans hFB).then hF5 (fun k hk e => by have := (hO.lt e).1; omega))
      have hjk := HJ.out x hxm
      clear hR hO hF hFA sA hSL hFB own5 hF5 hat5 hx htk
      by_cases hop : x.op = 15 ∨ x.op = 16
      · have es : shI la.length x = ⟨x.op, x.a + la.length, x.b⟩ := by unfold shI; rw [if_pos hop]
        have hb2 := hjk hop
        rw [es] at hrun
        simp only at hrun
        clear es hjk
        have i1 : -9223372036854775808 ≤ x.a + (la.length : Nat) := by omega
        have i2 : x.a + (la.length : Nat) ≤ 9223372036854775807 := by omega
        rcases hop with hop | hop
        · rw [hop] at p0 hrun
          go_wp2_with (at_builtin; go_must (refine wpList_run rfl _ _ 52 rfl _ _ rfl rfl hrun ?_))
          go_roundw
          case rel => exact ⟨j + 1, q2, by omega, by go_num, rfl, HN.out, HFN.out⟩
          case measure => simp [intOf]; omega
        · rw [hop] at p0 hrun
          go_wp2_with (at_builtin; go_must (refine wpList_run rfl _ _ 52 rfl _ _ rfl rfl hrun ?_))
          go_roundw
          case rel => exact ⟨j + 1, q2, by omega, by go_num, rfl, HN.out, HFN.out⟩
          case measure => simp [intOf]; omega
      · have es : shI la.length x = x := by unfold shI; rw [if_neg hop]
        rw [es] at hrun
        clear es hjk
        have n15 : (x.op == 15) = false := by simp; omega
        have n16 : (x.op == 16) = false := by simp; omega
        go_wp2_with (at_builtin; go_must (refine wpList_run rfl _ _ 52 rfl _ _ rfl rfl hrun ?_))
        go_roundw
        case rel => exact ⟨j + 1, q2, by omega, by go_num, rfl, HN.out, HFN.out⟩
        case measure => simp [intOf]; omega
    · have hje : j = lb.length := by omega
      obtain ⟨hO, hF⟩ := hR.out
      rw [hje, List.take_length] at hO
      have HO2 := hide hO
      have HF2 := hide hF
      clear hR hO hF hje
      go_wp2
      go_ret
      exact ⟨q, rfl, HO2.out, HF2.out⟩
end Go.Proofs.YtpemfikdmkmgbaaDoor
end
section
/- The document's own answer: what its maker of code holds; maps of numbers. -/
set_option maxHeartbeats 0
set_option maxRecDepth 100000
namespace Go.Proofs.YtpemfikdmkmgbaaDoor
open Go Go.RowKit
/-- The block b is a map of numbers to numbers. -/
def II (b : Nat) (f : Int → Option Int) (n : Nat) (w : World) : Prop :=
  ∃ D : DataW Unit, w.ownsMap Tryd.prog 3 (plainElem Tryd.prog 3) b n D ∧ (∀ k, D.atKey (.int .i64 k) (.lit (.int .i64 0)) = .lit (.int .i64 ((f k).getD 0)))
theorem II.lt {b n : Nat} {f : Int → Option Int} {w : World} (h : II b f n w) : b < w.heap.size := by
  obtain ⟨D, h1, _⟩ := h
  exact World.ownsMap.lt h1
theorem II.made (w : World) : II w.heap.size (fun _ => none) 0 (w.alloc (.map #[] 0)) := ⟨.map [], World.ownsMap_made w Tryd.prog 3 _, fun _ => rfl⟩
theorem II.look {b n : Nat} {f : Int → Option Int} {w : World} (h : II b f n w) (k : Int) (h0 : -9223372036854775808 ≤ k) (h1 : k ≤ 9223372036854775807) : (Instr.lookup 134 (.map (some b)) (.int .i64 k) false).run Tryd.prog w = .ok (.int .i64 ((f k).getD 0)) w := by
  obtain ⟨D, g1, g2⟩ := h
  obtain ⟨c, hrun, hat, _⟩ := g1.lookup_int law3 Tryd.underlying134 Tryd.underlying3 (zero3 w) (key3 k h0 h1)
  rw [g2] at hat
  simp only [DataW.lit.injEq, Lit.int.injEq, true_and] at hat
  rw [hrun, hat]
theorem II.store {b n : Nat} {f : Int → Option Int} {w : World} (h : II b f n w) (k v : Int) (hn : n ≤ 100000) (h0 : -9223372036854775808 ≤ k) (h1 : k ≤ 9223372036854775807) (h2 : -9223372036854775808 ≤ v) (h3 : v ≤ 9223372036854775807) :
    ∃ w', (Instr.mapUpdate 134 (.map (some b)) (.int .i64 k) (.int .i64 v)).run Tryd.prog w = .ok () w' ∧ II b (fun x => if x = k then some v else f x) (n + 1) w' ∧ Fr (fun j => j = b) w w' := by
  obtain ⟨D, g1, g2⟩ := h
  have hw : (Lit.int .i64 v).wf = true := by simp [Lit.wf, IntKind.min, IntKind.max, IntKind.signed, IntKind.bits]; omega
  obtain ⟨w', hrun, ho, hg⟩ := g1.update law3 Tryd.underlying134 (by unfold maxLen; omega) (key3 k h0 h1) (plainElem_int Tryd.underlying3 hw)
  have hmap := isMap_of g1
  have hkey : WideAt.IsKeyLit (.int .i64 k) := by trivial
  refine ⟨w', hrun, ⟨D.put (.int .i64 k) (.lit (.int .i64 v)), ?_, fun x => ?_⟩, (Fr.refl _ w).grown hg (fun j hj => .inl (by simpa using hj.symm))⟩
  · exact ho
  · by_cases hx : x = k
    · subst hx
      rw [Maps.atKey_put_same hmap hkey]
      simp
    · rw [Maps.atKey_put_other (by intro e; exact hx (by cases e; rfl)), g2]
      simp [hx]
/-- The map of an expression's ops. -/
def opsF : Int → Option Int := fun x => if x = 10 then some 13 else if x = 9 then some 12 else if x = 8 then some 11 else if x = 7 then some 8 else if x = 6 then some 7 else if x = 5 then some 6 else none
theorem ops_run (w : World) : ∃ m1 m2 m3 m4 m5 m6 : World,
    (Instr.mapUpdate 134 (.map (some w.heap.size)) (.int .i64 5) (.int .i64 6)).run Tryd.prog (w.alloc (.map #[] 0)) = .ok () m1 ∧
    (Instr.mapUpdate 134 (.map (some w.heap.size)) (.int .i64 6) (.int .i64 7)).run Tryd.prog m1 = .ok () m2 ∧
    (Instr.mapUpdate 134 (.map (some w.heap.size)) (.int .i64 7) (.int .i64 8)).run Tryd.prog m2 = .ok () m3 ∧
    (Instr.mapUpdate 134 (.map (some w.heap.size)) (.int .i64 8) (.int .i64 11)).run Tryd.prog m3 = .ok () m4 ∧
    (Instr.mapUpdate 134 (.map (some w.heap.size)) (.int .i64 9) (.int .i64 12)).run Tryd.prog m4 = .ok () m5 ∧
    (Instr.mapUpdate 134 (.map (some w.heap.size)) (.int .i64 10) (.int .i64 13)).run Tryd.prog m5 = .ok () m6 ∧
    (∀ k : Int, -9223372036854775808 ≤ k → k ≤ 9223372036854775807 → (Instr.lookup 134 (.map (some w.heap.size)) (.int .i64 k) false).run Tryd.prog m6 = .ok (.int .i64 ((opsF k).getD 0)) m6) ∧ Fr nothing w m6 ∧ w.heap.size < m6.heap.size := by
  have h0 := II.made w
  have F0 : Fr (fun j => j = w.heap.size) (w.alloc (.map #[] 0)) (w.alloc (.map #[] 0)) := Fr.refl _ _
  obtain ⟨m1, r1, h1, g1⟩ := h0.store 5 6 (by decide) (by decide) (by decide) (by decide) (by decide)
  obtain ⟨m2, r2, h2, g2⟩ := h1.store 6 7 (by decide) (by decide) (by decide) (by decide) (by decide)
  obtain ⟨m3, r3, h3, g3⟩ := h2.store 7 8 (by decide) (by decide) (by decide) (by decide) (by decide)
  obtain ⟨m4, r4, h4, g4⟩ := h3.store 8 11 (by decide) (by decide) (by decide) (by decide) (by decide)
  obtain ⟨m5, r5, h5, g5⟩ := h4.store 9 12 (by decide) (by decide) (by decide) (by decide) (by decide)
  obtain ⟨m6, r6, h6, g6⟩ := h5.store 10 13 (by decide) (by decide) (by decide) (by decide) (by decide)
  exact ⟨m1, m2, m3, m4, m5, m6, r1, r2, r3, r4, r5, r6, fun k a b => h6.look k a b, ((Fr.refl nothing w).alloc _).then (((((F0.trans g1).trans g2).trans g3).trans g4).trans g5 |>.trans g6) (fun j hj e => by omega), h6.lt⟩
/-- The map of a statement's ops. -/
def stsF : Int → Option Int := fun x => if x = 9 then some 19 else if x = 8 then some 10 else if x = 7 then some 9 else if x = 6 then some 18 else if x = 5 then some 14 else none
theorem sts_run (w : World) : ∃ m1 m2 m3 m4 m5 : World,
    (Instr.mapUpdate 134 (.map (some w.heap.size)) (.int .i64 5) (.int .i64 14)).run Tryd.prog (w.alloc (.map #[] 0)) = .ok () m1 ∧
    (Instr.mapUpdate 134 (.map (some w.heap.size)) (.int .i64 6) (.int .i64 18)).run Tryd.prog m1 = .ok () m2 ∧
    (Instr.mapUpdate 134 (.map (some w.heap.size)) (.int .i64 7) (.int .i64 9)).run Tryd.prog m2 = .ok () m3 ∧
    (Instr.mapUpdate 134 (.map (some w.heap.size)) (.int .i64 8) (.int .i64 10)).run Tryd.prog m3 = .ok () m4 ∧
    (Instr.mapUpdate 134 (.map (some w.heap.size)) (.int .i64 9) (.int .i64 19)).run Tryd.prog m4 = .ok () m5 ∧
    (∀ k : Int, -9223372036854775808 ≤ k → k ≤ 9223372036854775807 → (Instr.lookup 134 (.map (some w.heap.size)) (.int .i64 k) false).run Tryd.prog m5 = .ok (.int .i64 ((stsF k).getD 0)) m5) ∧ Fr nothing w m5 ∧ w.heap.size < m5.heap.size := by
  have h0 := II.made w
  have F0 : Fr (fun j => j = w.heap.size) (w.alloc (.map #[] 0)) (w.alloc (.map #[] 0)) := Fr.refl _ _
  obtain ⟨m1, r1, h1, g1⟩ := h0.store 5 14 (by decide) (by decide) (by decide) (by decide) (by decide)
  obtain ⟨m2, r2, h2, g2⟩ := h1.store 6 18 (by decide) (by decide) (by decide) (by decide) (by decide)
  obtain ⟨m3, r3, h3, g3⟩ := h2.store 7 9 (by decide) (by decide) (by decide) (by decide) (by decide)
  obtain ⟨m4, r4, h4, g4⟩ := h3.store 8 10 (by decide) (by decide) (by decide) (by decide) (by decide)
  obtain ⟨m5, r5, h5, g5⟩ := h4.store 9 19 (by decide) (by decide) (by decide) (by decide) (by decide)
  exact ⟨m1, m2, m3, m4, m5, r1, r2, r3, r4, r5, fun k a b => h5.look k a b, ((Fr.refl nothing w).alloc _).then ((((F0.trans g1).trans g2).trans g3).trans g4 |>.trans g5) (fun j hj e => by omega), h5.lt⟩
theorem stsF_op (k : Int) (h1 : k ≠ 1) (h2 : k ≠ 2) (h3 : k ≠ 3) (h4 : k ≠ 4) : (stsF k).getD 0 = stOp k := by
  unfold stsF stOp
  by_cases e5 : k = 5
  · subst e5; rfl
  by_cases e6 : k = 6
  · subst e6; rfl
  by_cases e7 : k = 7
  · subst e7; rfl
  by_cases e8 : k = 8
  · subst e8; rfl
  by_cases e9 : k = 9
  · subst e9; rfl
  simp [e5, e6, e7, e8, e9]
theorem opsF_op (G E : Bs → Int) (k n : Int) (t : Bs) (len : Nat) (ws : List Bs) (h1 : k ≠ 1) (h2 : k ≠ 2) (h3 : k ≠ 3) (h4 : k ≠ 4) (h11 : k ≠ 11) : lastI G E k n t len ws = ⟨(opsF k).getD 0, 0, 0⟩ := by
  unfold lastI opsF plainOp
  rw [if_neg h1, if_neg h2, if_neg h3, if_neg h4, if_neg h11]
  by_cases e9 : k = 9
  · subst e9; rfl
  rw [if_neg e9]
  by_cases e5 : k = 5
  · subst e5; rfl
  by_cases e6 : k = 6
  · subst e6; rfl
  by_cases e7 : k = 7
  · subst e7; rfl
  by_cases e8 : k = 8
  · subst e8; rfl
  by_cases e10 : k = 10
  · subst e10; rfl
  simp [e5, e6, e7, e8, e9, e10]
/-- The maker's block, its functions, where the rows begin. -/
structure Rk where
  mb : Nat
  base : Nat
  fs : Slc
  rs : List RawF
structure RI (c : Rk) (T : Nat → Prop) (v : Nat) (ws : List Bs) (w : World) : Prop where
  c0 : w.cell? ⟨c.mb, 0, none⟩ = some c.fs.v
  c2 : w.cell? ⟨c.mb, 2, none⟩ = some (.int .i64 (v : Nat))
  fz : ∀ j, w.frozen? ⟨c.mb, j, none⟩ = false
  ml : c.mb < w.heap.size
  fn : Sl encG 3 w c.fs.v c.rs
  row : ∃ sw : Slc, w.cell? ⟨c.mb, 1, none⟩ = some sw.v ∧ w.ownsRow c.base 9 1 sw.v ws.length (ws.flatMap encN) ∧ (∀ b, sw.v.ownBlock = some b → T b ∧ b ≠ c.mb)
  bl : c.base ≤ w.heap.size
  tm : T c.mb
  tf : ∀ b, c.fs.v.ownBlock = some b → ¬ T b
  fl : ∀ b, c.fs.v.ownBlock = some b → b < w.heap.size
  tl : ∀ k, T k → k < w.heap.size
theorem RI.fr {c : Rk} {T S : Nat → Prop} {v : Nat} {ws : List Bs} {w w' : World} (h : RI c T v ws w) (hf : Fr S w w') (hT : ∀ k, T k → ¬ S k) (hS : ∀ b, c.fs.v.ownBlock = some b → ¬ S b) : RI c T v ws w' := by
  obtain ⟨sw, r1, r2, r3⟩ := h.row
  have cm : ∀ j, w'.cell? ⟨c.mb, j, none⟩ = w.cell? ⟨c.mb, j, none⟩ := fun j => hf.cell (p := ⟨c.mb, j, none⟩) h.ml (hT _ h.tm)
  exact ⟨(cm 0).trans h.c0, (cm 2).trans h.c2, fun j => (hf.frozen (p := ⟨c.mb, j, none⟩) h.ml (hT _ h.tm)).trans (h.fz j), Nat.lt_of_lt_of_le h.ml hf.size, h.fn.keep hf (P := fun k => c.fs.v.ownBlock = some k) (fun _ hb => hb) hS, ⟨sw, (cm 1).trans r1, owns_fr r2 hf (fun k hk => hT k (r3 k hk).1), r3⟩, Nat.le_trans h.bl hf.size, h.tm, h.tf, fun b hb => Nat.lt_of_lt_of_le (h.fl b hb) hf.size, fun k hk => Nat.lt_of_lt_of_le (h.tl k hk) hf.size⟩
theorem RI.new {c : Rk} {T : Nat → Prop} {v : Nat} {ws : List Bs} {w w' : World} (h : RI c T v ws w) (hf : Fr nothing w w') : RI c T v ws w' := h.fr hf (fun _ _ => id) (fun _ _ => id)
/-- What a call leaves. -/
def RP (c : Rk) (T : Nat → Prop) (w : World) (v : Nat) (ws : List Bs) (T' : Nat → Prop) (w' : World) : Prop := RI c T' v ws w' ∧ Fr T w w' ∧ ∀ k, T' k → T k ∨ w.heap.size ≤ k
theorem RP.of_new {c : Rk} {T : Nat → Prop} {v : Nat} {ws : List Bs} {w w' : World} (h : RI c T v ws w) (hf : Fr nothing w w') : RP c T w v ws T w' := ⟨h.new hf, hf.mono (fun _ _ e => e.elim), fun _ hk => .inl hk⟩
theorem RP.after {c : Rk} {T T1 T2 : Nat → Prop} {v : Nat} {ws : List Bs} {w w1 w2 : World} (h : RP c T1 w1 v ws T2 w2) (hf : Fr T w w1) (hT : ∀ k, T1 k → T k ∨ w.heap.size ≤ k) : RP c T w v ws T2 w2 := by
  obtain ⟨k1, k2, k3⟩ := h
  refine ⟨k1, hf.then k2 (fun k hk e => (hT k e).elim id (fun h => by omega)), fun k hk => ?_⟩
  rcases k3 k hk with h | h
  · exact hT k h
  · exact .inr (Nat.le_trans hf.size h)
theorem RI.vars {c : Rk} {T : Nat → Prop} {v : Nat} {ws : List Bs} {w : World} (h : RI c T v ws w) (u : Nat) : RI c T u ws (w.setCell ⟨c.mb, 2, none⟩ (.int .i64 (u : Nat))) ∧ Fr (fun k => k = c.mb) w (w.setCell ⟨c.mb, 2, none⟩ (.int .i64 (u : Nat))) := by
  obtain ⟨e1, e2, hf⟩ := set_one w c.mb 2 (.int .i64 (u : Nat)) h.c2
  obtain ⟨sw, r1, r2, r3⟩ := h.row
  refine ⟨⟨(e2 0 (by decide)).trans h.c0, e1, fun j => by rw [World.frozen?_setCell]; exact h.fz j, Nat.lt_of_lt_of_le h.ml hf.size, h.fn.keep hf (P := fun k => c.fs.v.ownBlock = some k) (fun _ hb => hb) (fun k hk e => h.tf k hk (e ▸ h.tm)), ⟨sw, (e2 1 (by decide)).trans r1, owns_fr r2 hf (fun k hk => (r3 k hk).2), r3⟩, Nat.le_trans h.bl hf.size, h.tm, h.tf, fun b hb => Nat.lt_of_lt_of_le (h.fl b hb) hf.size, fun k hk => Nat.lt_of_lt_of_le (h.tl k hk) hf.size⟩, hf⟩
/-- A text more. -/
theorem RI.word {c : Rk} {T : Nat → Prop} {v : Nat} {ws : List Bs} {w w2 : World} (h : RI c T v ws w) {t : Bs} {sw : Slc} (h1 : w.cell? ⟨c.mb, 1, none⟩ = some sw.v) {g cap : Nat} (hr : w2.ownsRow c.base 9 1 (.slice (some ⟨g, 0, none⟩) (ws.length + 1) cap) (ws.length + 1) (ws.flatMap encN ++ encN t)) (hf : Fr (fun k => sw.v.ownBlock = some k) w w2) (hg : sw.v.ownBlock = some g ∨ w.heap.size ≤ g) :
    RP c T w v (ws ++ [t]) (fun k => T k ∨ k = g) (w2.setCell ⟨c.mb, 1, none⟩ (.slice (some ⟨g, 0, none⟩) (ws.length + 1) cap)) := by
  obtain ⟨sw', r1, r2, r3⟩ := h.row
  have e : sw'.v = sw.v := by rw [r1] at h1; exact Option.some.inj h1
  rw [e] at r2 r3
  have nm : ¬ sw.v.ownBlock = some c.mb := fun e => (r3 _ e).2 rfl
  have hgm : g ≠ c.mb := by
    rcases hg with e | e
    · exact (r3 g e).2
    · have := h.ml; omega
  have cm : ∀ j, w2.cell? ⟨c.mb, j, none⟩ = w.cell? ⟨c.mb, j, none⟩ := fun j => hf.cell (p := ⟨c.mb, j, none⟩) h.ml nm
  obtain ⟨e1, e2, hf2⟩ := set_one w2 c.mb 1 (.slice (some ⟨g, 0, none⟩) (ws.length + 1) cap) ((cm 1).trans h1)
  have hF : Fr (fun k => sw.v.ownBlock = some k ∨ k = c.mb) w (w2.setCell ⟨c.mb, 1, none⟩ (.slice (some ⟨g, 0, none⟩) (ws.length + 1) cap)) := (hf.mono (fun _ _ e => .inl e)).trans (hf2.mono (fun _ _ e => .inr e))
  have hgl : g < w2.heap.size := (hr.lt g rfl).2
  have nf : ∀ b, c.fs.v.ownBlock = some b → ¬ (sw.v.ownBlock = some b ∨ b = c.mb) := by
    rintro b hb (e | e)
    · exact h.tf b hb (r3 b e).1
    · exact h.tf b hb (e ▸ h.tm)
  refine ⟨⟨(e2 0 (by decide)).trans ((cm 0).trans h.c0), (e2 2 (by decide)).trans ((cm 2).trans h.c2), fun j => ?_, Nat.lt_of_lt_of_le h.ml hF.size, h.fn.keep hF (P := fun k => c.fs.v.ownBlock = some k) (fun _ hb => hb) nf, ⟨⟨some ⟨g, 0, none⟩, ws.length + 1, cap⟩, e1, ?_, ?_⟩, Nat.le_trans h.bl hF.size, .inl h.tm, ?_, fun b hb => Nat.lt_of_lt_of_le (h.fl b hb) hF.size, ?_⟩, ?_, ?_⟩
  · rw [World.frozen?_setCell, hf.frozen (p := ⟨c.mb, j, none⟩) h.ml nm]; exact h.fz j
  · have := owns_fr hr hf2 (fun k hk e => by cases hk; exact hgm e)
    simpa using this
  · intro b hb
    obtain rfl : g = b := Option.some.inj hb
    exact ⟨.inr rfl, hgm⟩
  · rintro b hb (e | e)
    · exact h.tf b hb e
    · subst e
      rcases hg with e | e
      · exact h.tf b hb (r3 b e).1
      · have := h.fl b hb
        omega
  · rintro k (e | e)
    · exact Nat.lt_of_lt_of_le (h.tl k e) hF.size
    · subst e; exact Nat.lt_of_lt_of_le hgl hf2.size
  · exact hF.mono (fun k _ e => by rcases e with e | e; exact (r3 k e).1; exact e ▸ h.tm)
  · rintro k (e | e)
    · exact .inl e
    · subst e
      rcases hg with e | e
      · exact .inl (r3 k e).1
      · exact .inr e
end Go.Proofs.YtpemfikdmkmgbaaDoor
end
section
/- The document's own answer: code of statements: what it is, without and with an offset; a map is copied. -/
set_option maxHeartbeats 0
set_option maxRecDepth 100000
namespace Go.Proofs.YtpemfikdmkmgbaaDoor
open Go Go.RowKit
/- No jump in an expression's code. -/
def NoJ (l : List In) : Prop := ∀ x ∈ l, x.op ≠ 15 ∧ x.op ≠ 16
theorem NoJ.app {a b : List In} (ha : NoJ a) (hb : NoJ b) : NoJ (a ++ b) := fun x hx => by
  rcases List.mem_append.1 hx with h | h
  · exact ha x h
  · exact hb x h
theorem plainOp_no (k : Int) : plainOp k ≠ 15 ∧ plainOp k ≠ 16 := by
  unfold plainOp
  repeat' split
  all_goals decide
theorem stOp_no (k : Int) : stOp k ≠ 15 ∧ stOp k ≠ 16 := by
  unfold stOp
  repeat' split
  all_goals decide
theorem lastI_no (G E : Bs → Int) (k n : Int) (t : Bs) (len : Nat) (ws : List Bs) : (lastI G E k n t len ws).op ≠ 15 ∧ (lastI G E k n t len ws).op ≠ 16 := by
  unfold lastI
  repeat' split
  all_goals first | exact plainOp_no k | (constructor <;> simp)
mutual
theorem exK_no (G E : Bs → Int) : ∀ (x : Ex) (ws : List Bs), NoJ (exK G E x ws).ins
  | .mk k n t a, ws => by
    rw [exK_mk]
    refine NoJ.app (exsK_no G E a ws) (fun x hx => ?_)
    rw [List.mem_singleton.1 hx]
    exact lastI_no ..
theorem exsK_no (G E : Bs → Int) : ∀ (l : List Ex) (ws : List Bs), NoJ (exsK G E l ws).ins
  | [], ws => by rw [exsK_nil]; intro x hx; cases hx
  | x :: l, ws => by rw [exsK_cons]; exact NoJ.app (exK_no G E x ws) (exsK_no G E l _)
end
theorem no4 (a b : Int) : (In.mk 4 a b).op ≠ 15 ∧ (In.mk 4 a b).op ≠ 16 := ⟨by simp, by simp⟩
theorem shI_no {k : Int} {x : In} (h : x.op ≠ 15 ∧ x.op ≠ 16) : shI k x = x := by
  unfold shI
  rw [if_neg (by rintro (e | e); exact h.1 e; exact h.2 e)]
theorem shiftI_no {k : Int} : ∀ {l : List In}, NoJ l → shiftI k l = l
  | [], _ => rfl
  | x :: l, h => by
    have := shiftI_no (k := k) (l := l) (fun y hy => h y (List.mem_cons_of_mem _ hy))
    unfold shiftI at this ⊢
    rw [List.map_cons, this, shI_no (h x List.mem_cons_self)]
theorem shiftI_app (k : Int) (a b : List In) : shiftI k (a ++ b) = shiftI k a ++ shiftI k b := by simp [shiftI]
theorem shiftI_cons (k : Int) (x : In) (b : List In) : shiftI k (x :: b) = shI k x :: shiftI k b := rfl
theorem shiftI_nil (k : Int) : shiftI k [] = [] := rfl
theorem shiftI_len (k : Int) (l : List In) : (shiftI k l).length = l.length := by simp [shiftI]
theorem shI_16 (k a b : Int) : shI k ⟨16, a, b⟩ = ⟨16, a + k, b⟩ := by simp [shI]
theorem shI_15 (k a b : Int) : shI k ⟨15, a, b⟩ = ⟨15, a + k, b⟩ := by simp [shI]
/-- The same, further on. -/
structure KSh (r s : KR) (k : Nat) : Prop where
  i : s.ins = shiftI (k : Nat) r.ins
  E : s.E = r.E
  v : s.v = r.v
  w : s.ws = r.ws
mutual
theorem stK_sh (G : Bs → Int) (k : Nat) : ∀ (s : St) (E : Bs → Int) (v : Nat) (ws : List Bs) (o : Nat), KSh (stK G s E v ws o) (stK G s E v ws (o + k)) k
  | .mk d t a x y, E, v, ws, o => by
    have hno := shiftI_no (k := (k : Int)) (exsK_no G E a ws)
    by_cases h1 : d = 1
    · subst h1; rw [stK_let rfl, stK_let rfl]; exact ⟨by rw [shiftI_app, hno, shiftI_cons, shI_no (no4 _ _)]; rfl, rfl, rfl, rfl⟩
    by_cases h2 : d = 2
    · subst h2; rw [stK_set rfl, stK_set rfl]; exact ⟨by rw [shiftI_app, hno, shiftI_cons, shI_no (no4 _ _)]; rfl, rfl, rfl, rfl⟩
    by_cases h3 : d = 3
    · subst h3
      have hx := stsK_sh G k x E v (exsK G E a ws).ws (o + (exsK G E a ws).ins.length + 1)
      have ex1 : o + k + (exsK G E a ws).ins.length + 1 = o + (exsK G E a ws).ins.length + 1 + k := by omega
      rw [stK_if rfl rfl rfl, stK_if (v := v) (o := o + k) rfl rfl rfl, ex1]
      generalize stsK G x E v (exsK G E a ws).ws (o + (exsK G E a ws).ins.length + 1 + k) = X2 at *
      generalize stsK G x E v (exsK G E a ws).ws (o + (exsK G E a ws).ins.length + 1) = X1 at *
      have hlx : X2.ins.length = X1.ins.length := by rw [hx.i, shiftI_len]
      rw [hx.v, hx.w, hlx]
      have hy := stsK_sh G k y E X1.v X1.ws (o + (exsK G E a ws).ins.length + X1.ins.length + 2)
      have ey1 : o + k + (exsK G E a ws).ins.length + X1.ins.length + 2 = o + (exsK G E a ws).ins.length + X1.ins.length + 2 + k := by omega
      rw [ey1]
      generalize stsK G y E X1.v X1.ws (o + (exsK G E a ws).ins.length + X1.ins.length + 2 + k) = Y2 at *
      generalize stsK G y E X1.v X1.ws (o + (exsK G E a ws).ins.length + X1.ins.length + 2) = Y1 at *
      have hly : Y2.ins.length = Y1.ins.length := by rw [hy.i, shiftI_len]
      refine ⟨?_, rfl, hy.v, hy.w⟩
      have e1 : ((o + (exsK G E a ws).ins.length + X1.ins.length + 2 + k : Nat) : Int) = ((o + (exsK G E a ws).ins.length + X1.ins.length + 2 : Nat) : Int) + (k : Nat) := by omega
      have e2 : ((o + (exsK G E a ws).ins.length + X1.ins.length + 2 + k + Y1.ins.length : Nat) : Int) = ((o + (exsK G E a ws).ins.length + X1.ins.length + 2 + Y1.ins.length : Nat) : Int) + (k : Nat) := by omega
      simp only [shiftI_app, shiftI_cons, hno, shI_16, shI_15, hly]
      rw [hx.i, hy.i, e1, e2]
    by_cases h4 : d = 4
    · subst h4
      have hx := stsK_sh G k x E v (exsK G E a ws).ws (o + (exsK G E a ws).ins.length + 1)
      have ex1 : o + k + (exsK G E a ws).ins.length + 1 = o + (exsK G E a ws).ins.length + 1 + k := by omega
      rw [stK_while rfl rfl, stK_while (v := v) (o := o + k) rfl rfl, ex1]
      generalize stsK G x E v (exsK G E a ws).ws (o + (exsK G E a ws).ins.length + 1 + k) = X2 at *
      generalize stsK G x E v (exsK G E a ws).ws (o + (exsK G E a ws).ins.length + 1) = X1 at *
      have hlx : X2.ins.length = X1.ins.length := by rw [hx.i, shiftI_len]
      rw [hlx]
      refine ⟨?_, rfl, hx.v, hx.w⟩
      simp only [shiftI_app, shiftI_cons, shiftI_nil, hno, shI_16, shI_15]
      rw [hx.i]
      congr 2
      congr 1; omega
    · rw [stK_plain rfl h1 h2 h3 h4, stK_plain rfl h1 h2 h3 h4]
      exact ⟨by rw [shiftI_app, hno, shiftI_cons, shI_no (stOp_no d)]; rfl, rfl, rfl, rfl⟩
theorem stsK_sh (G : Bs → Int) (k : Nat) : ∀ (l : List St) (E : Bs → Int) (v : Nat) (ws : List Bs) (o : Nat), KSh (stsK G l E v ws o) (stsK G l E v ws (o + k)) k
  | [], E, v, ws, o => ⟨rfl, rfl, rfl, rfl⟩
  | s :: l, E, v, ws, o => by
    have h1 := stK_sh G k s E v ws o
    have h2 := stsK_sh G k l (stK G s E v ws o).E (stK G s E v ws o).v (stK G s E v ws o).ws (o + (stK G s E v ws o).ins.length)
    have hl : o + k + (stK G s E v ws (o + k)).ins.length = o + (stK G s E v ws o).ins.length + k := by rw [h1.i, shiftI_len]; omega
    rw [stsK_cons rfl rfl, stsK_cons (o := o + k) rfl rfl, hl, h1.E, h1.v, h1.w]
    exact ⟨by rw [shiftI_app, h1.i, h2.i], h2.E, h2.v, h2.w⟩
end
theorem stK_from (G : Bs → Int) (s : St) (E : Bs → Int) (v : Nat) (ws : List Bs) (o : Nat) : KSh (stK G s E v ws 0) (stK G s E v ws o) o := by
  have := stK_sh G o s E v ws 0
  rwa [Nat.zero_add] at this
theorem stsK_from (G : Bs → Int) (l : List St) (E : Bs → Int) (v : Nat) (ws : List Bs) (o : Nat) : KSh (stsK G l E v ws 0) (stsK G l E v ws o) o := by
  have := stsK_sh G o l E v ws 0
  rwa [Nat.zero_add] at this
/-- Jumps stay inside. -/
def JIn (o n : Nat) (l : List In) : Prop := ∀ x ∈ l, (x.op = 15 ∨ x.op = 16) → 0 ≤ x.a ∧ x.a ≤ (o + n : Nat)
theorem JIn.no {o n : Nat} {l : List In} (h : NoJ l) : JIn o n l := fun x hx e => by
  have := h x hx
  omega
theorem JIn.app {o n : Nat} {a b : List In} (ha : JIn o n a) (hb : JIn o n b) : JIn o n (a ++ b) := fun x hx => by
  rcases List.mem_append.1 hx with h | h
  · exact ha x h
  · exact hb x h
theorem JIn.cons {o n : Nat} {x : In} {b : List In} (ha : (x.op = 15 ∨ x.op = 16) → 0 ≤ x.a ∧ x.a ≤ (o + n : Nat)) (hb : JIn o n b) : JIn o n (x :: b) := fun y hy => by
  rcases List.mem_cons.1 hy with h | h
  · rw [h]; exact ha
  · exact hb y h
theorem JIn.nil {o n : Nat} : JIn o n [] := fun x hx => by cases hx
theorem JIn.mono {o n o' n' : Nat} {l : List In} (h : JIn o n l) (hl : o + n ≤ o' + n') : JIn o' n' l := fun x hx e => by
  have := h x hx e
  omega
mutual
theorem stK_j (G : Bs → Int) : ∀ (s : St) (E : Bs → Int) (v : Nat) (ws : List Bs) (o : Nat), JIn o (stK G s E v ws o).ins.length (stK G s E v ws o).ins
  | .mk d t a x y, E, v, ws, o => by
    have hno := exsK_no G E a ws
    by_cases h1 : d = 1
    · subst h1; rw [stK_let rfl]; exact (JIn.no hno).app (JIn.no (fun x hx => by rw [List.mem_singleton.1 hx]; exact no4 _ _))
    by_cases h2 : d = 2
    · subst h2; rw [stK_set rfl]; exact (JIn.no hno).app (JIn.no (fun x hx => by rw [List.mem_singleton.1 hx]; exact no4 _ _))
    by_cases h3 : d = 3
    · subst h3
      rw [stK_if rfl rfl rfl]
      have hx := stsK_j G x E v (exsK G E a ws).ws (o + (exsK G E a ws).ins.length + 1)
      generalize stsK G x E v (exsK G E a ws).ws (o + (exsK G E a ws).ins.length + 1) = X1 at *
      have hy := stsK_j G y E X1.v X1.ws (o + (exsK G E a ws).ins.length + X1.ins.length + 2)
      generalize stsK G y E X1.v X1.ws (o + (exsK G E a ws).ins.length + X1.ins.length + 2) = Y1 at *
      refine (JIn.no hno).app (JIn.cons (fun _ => ?_) ((hx.mono ?_).app (JIn.cons (fun _ => ?_) (hy.mono ?_)))) <;> simp only [List.length_append, List.length_cons] <;> omega
    by_cases h4 : d = 4
    · subst h4
      rw [stK_while rfl rfl]
      have hx := stsK_j G x E v (exsK G E a ws).ws (o + (exsK G E a ws).ins.length + 1)
      generalize stsK G x E v (exsK G E a ws).ws (o + (exsK G E a ws).ins.length + 1) = X1 at *
      refine (JIn.no hno).app (JIn.cons (fun _ => ?_) ((hx.mono ?_).app (JIn.cons (fun _ => ?_) JIn.nil))) <;> simp only [List.length_append, List.length_cons, List.length_nil] <;> omega
    · rw [stK_plain rfl h1 h2 h3 h4]
      exact (JIn.no hno).app (JIn.no (fun x hx => by rw [List.mem_singleton.1 hx]; exact stOp_no d))
theorem stsK_j (G : Bs → Int) : ∀ (l : List St) (E : Bs → Int) (v : Nat) (ws : List Bs) (o : Nat), JIn o (stsK G l E v ws o).ins.length (stsK G l E v ws o).ins
  | [], E, v, ws, o => by rw [stsK_nil]; exact JIn.nil
  | s :: l, E, v, ws, o => by
    have h1 := stK_j G s E v ws o
    have h2 := stsK_j G l (stK G s E v ws o).E (stK G s E v ws o).v (stK G s E v ws o).ws (o + (stK G s E v ws o).ins.length)
    rw [stsK_cons rfl rfl]
    refine (h1.mono ?_).app (h2.mono ?_) <;> simp only [List.length_append] <;> omega
end
theorem JIn.ok {l : List In} {o n : Nat} (h : JIn o n l) (hn : o + n ≤ 1000000) : ∀ x ∈ l, JOk x := fun x hx e => by
  have := h x hx e
  omega
theorem stsK_snoc (G : Bs → Int) (s : St) : ∀ (l : List St) (E : Bs → Int) (v : Nat) (ws : List Bs) (o : Nat) (r q : KR), stsK G l E v ws o = r → stK G s r.E r.v r.ws (o + r.ins.length) = q → stsK G (l ++ [s]) E v ws o = ⟨r.ins ++ q.ins, q.E, q.v, q.ws⟩
  | [], E, v, ws, o, r, q, h, h2 => by
    rw [stsK_nil] at h
    subst h
    simp only [List.length_nil, Nat.add_zero] at h2
    rw [List.nil_append, stsK_cons h2 rfl, stsK_nil]
    simp
  | u :: l, E, v, ws, o, r, q, h, h2 => by
    rw [stsK_cons rfl rfl] at h
    subst h
    have := stsK_snoc G s l (stK G u E v ws o).E (stK G u E v ws o).v (stK G u E v ws o).ws (o + (stK G u E v ws o).ins.length) _ q rfl (by
      rw [← h2]
      congr 1
      simp only [List.length_append]
      omega)
    rw [List.cons_append, stsK_cons rfl this]
    simp
end Go.Proofs.YtpemfikdmkmgbaaDoor
end
