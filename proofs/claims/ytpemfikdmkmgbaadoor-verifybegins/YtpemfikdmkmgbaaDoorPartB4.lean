/- FHeads; FOwn; FHts0; FHeights. -/
import Derived.Deep.Upon
import Derived.Test.YtpemfikdmkmgbaaDoorPartB3
import Derived.Test.YtpemfikdmkmgbaaDoorPartB2
section
/- Package verify: what is wrong with a program but for its instructions. -/
set_option maxHeartbeats 0
set_option maxRecDepth 100000
namespace Go.Proofs.YtpemfikdmkmgbaaDoor
open Go Go.RowKit
theorem headBad_of (c : Cz) : headBad c = !(betw c.np 0 4 && betw c.nv c.np 8 && betw (c.ins.length : Int) 1 200) := by
  unfold headBad betw
  by_cases h1 : 0 ≤ c.np ∧ c.np ≤ 4
  · by_cases h2 : c.np ≤ c.nv ∧ c.nv ≤ 8
    · by_cases h3 : (1 : Int) ≤ (c.ins.length : Int) ∧ (c.ins.length : Int) ≤ 200
      · rw [decide_eq_true h1, decide_eq_true h2, decide_eq_true h3, decide_eq_false (by omega)]; rfl
      · rw [decide_eq_true h1, decide_eq_true h2, decide_eq_false h3, decide_eq_true (by omega)]; rfl
    · rw [decide_eq_true h1, decide_eq_false h2, decide_eq_true (by omega)]; rfl
  · rw [decide_eq_false h1, decide_eq_true (by omega)]; rfl
theorem heads_any (p : Pz) (sc sw : Slc) (w : World) (hP : PzOk w sc sw p) (hW : WfZ p) :
    Calls Tryd.prog 33 #[.agg #[.slice sc.a sc.n sc.c, .slice sw.a sw.n sw.c]] w fun e w' => e = .returned (.int .i64 (hedC p)) ∧ Fr nothing w w' := by
  obtain ⟨⟨rs, hrs, hea⟩, hws⟩ := hP
  obtain ⟨n1, m1⟩ := sl_len hrs
  obtain ⟨n2, m2⟩ := sl_len hws
  rw [hea.1] at n1 m1
  obtain ⟨sca, scn, scc⟩ := sc
  obtain ⟨swa, swn, swc⟩ := sw
  simp only at n1 n2
  subst n1 n2
  have hF1 : Fr nothing w (w.alloc (.cells #[.slice sca p.cs.length scc, .slice swa p.ws.length swc] 25)) := (Fr.refl _ _).alloc _
  have ca := made_cells (Fr.refl nothing (w.alloc (.cells #[.slice sca p.cs.length scc, .slice swa p.ws.length swc] 25))) id
  obtain ⟨w1, hw1⟩ : ∃ w1, w1 = w.alloc (.cells #[.slice sca p.cs.length scc, .slice swa p.ws.length swc] 25) := ⟨_, rfl⟩
  rw [← hw1] at hF1 ca
  have c0 := ca.1 0
  have c1 := ca.1 1
  have cl := ca.2.2
  have HA := hide (And.intro hrs (And.intro hea hws))
  have HF1 := hide hF1
  obtain ⟨A1, hA1⟩ : ∃ x, x = w.heap.size := ⟨_, rfl⟩
  have HCC : Hid (∀ w', Fr nothing w1 w' → w'.cell? ⟨A1, 0, none⟩ = some (.slice sca p.cs.length scc) ∧ w'.cell? ⟨A1, 1, none⟩ = some (.slice swa p.ws.length swc) ∧ A1 < w'.heap.size) := by
    rw [hA1]
    exact fun w' hf => ⟨(hf.cell (p := ⟨w.heap.size, 0, none⟩) cl id).trans c0, (hf.cell (p := ⟨w.heap.size, 1, none⟩) cl id).trans c1, Nat.lt_of_lt_of_le cl hf.size⟩
  have hw1' : w.alloc (.cells #[.slice sca p.cs.length scc, .slice swa p.ws.length swc] 25) = w1 := hw1.symm
  have HW := hide hW
  have HD : Hid (hedC p = if p.cs.length = 0 ∨ 5 < p.cs.length then 5 else if 16 < p.ws.length then 4 else if firstE wdE p.ws ≠ 0 then firstE wdE p.ws else if npZ p 0 ≠ 0 then 10 else firstE hdE p.cs) := rfl
  generalize hedC p = R at *
  have hd := HD.out
  clear ca hrs hea hws hF1 hw1 hW HD
  by_cases h0 : p.cs.length = 0
  · rw [if_pos (.inl h0)] at hd
    subst hd
    rw [h0] at c0 hw1' ⊢
    go_enter Tryd.func33, Tryd.ntmps33
    go_wp2
    go_ret
    exact ⟨rfl, HF1.out⟩
  by_cases h5 : 5 < p.cs.length
  · rw [if_pos (.inr h5)] at hd
    subst hd
    go_enter Tryd.func33, Tryd.ntmps33
    go_wp2
    go_ret
    exact ⟨rfl, HF1.out⟩
  rw [if_neg (by omega)] at hd
  by_cases h16 : 16 < p.ws.length
  · rw [if_pos h16] at hd
    subst hd
    go_enter Tryd.func33, Tryd.ntmps33
    go_wp2
    go_ret
    exact ⟨rfl, HF1.out⟩
  rw [if_neg h16] at hd
  have HDD := hide hd
  clear hd
  go_enter Tryd.func33, Tryd.ntmps33
  go_wp2
  rw [← hA1]
  clear c0 c1 cl hw1' hA1
  go_loopw [24, 4] (fun i _ wv => ∃ (j : Nat), j ≤ p.ws.length ∧ i = .int .i64 j ∧ Hid (Fr nothing w1 wv ∧ firstE wdE (p.ws.drop j) = firstE wdE p.ws)) (fun i _ _ => p.ws.length - (intOf i).toNat)
  case atStart => exact ⟨0, Nat.zero_le _, rfl, Fr.refl _ _, rfl⟩
  case round =>
    obtain ⟨j, hj, rfl, hR⟩ := hrel
    by_cases hjl : j < p.ws.length
    · have hx : p.ws[j]? = some p.ws[j] := List.getElem?_eq_getElem hjl
      have hxm : p.ws[j] ∈ p.ws := List.getElem_mem hjl
      have hst := firstE_drop wdE p.ws hx
      generalize p.ws[j] = x at hx hxm hst
      have hxl := HW.out.w x hxm
      obtain ⟨ga, oa, e1, dga, ua⟩ := sl_elem1 (s := ⟨swa, p.ws.length, swc⟩) HA.out.2.2 hx
      simp only at e1
      subst e1
      have hF := HF1.out.trans hR.out.1
      have eg1 := Nat.lt_of_lt_of_le dga hF.size
      rw [← hF.cell (p := ⟨ga, _, none⟩) dga id] at ua
      rw [hR.out.2] at hst
      cases hxw : isWord x with
      | false =>
        have hwe : wdE x = 7 := by unfold wdE; rw [hxw]; rfl
        have HFF := hide hF
        have hRr : R = 7 := by
          have := HDD.out
          rw [hwe] at hst
          rw [if_pos (by decide)] at hst
          rw [hst, if_pos (by decide)] at this
          exact this
        subst hRr
        clear hF hx hR hst
        go_wp2_with (go_at_call 50; refine (tword_any x wr hxl).mono ?_; rintro e w2 ⟨rfl, hw2⟩; rw [hw2, hxw]; clear hw2)
        go_ret
        exact ⟨rfl, HFF.out⟩
      | true =>
        have hwe : wdE x = 0 := by unfold wdE; rw [hxw]; rfl
        rw [hwe, if_neg (by simp)] at hst
        have HN : Hid (Fr nothing w1 wr ∧ firstE wdE (p.ws.drop (j + 1)) = firstE wdE p.ws) := ⟨hR.out.1, hst.symm⟩
        clear hF hx hR hst
        go_wp2_with (go_at_call 50; refine (tword_any x wr hxl).mono ?_; rintro e w2 ⟨rfl, hw2⟩; rw [hw2, hxw]; clear hw2)
        go_roundw
        case rel => exact ⟨j + 1, by omega, by go_num, HN.out⟩
        case measure => simp [intOf]; omega
    · have hw0 : firstE wdE p.ws = 0 := by rw [← hR.out.2]; exact firstE_end _ _ (by omega)
      have hd := HDD.out
      rw [hw0, if_neg (by simp)] at hd
      have hx0 : p.cs[0]? = some (p.cs[0]'(by omega)) := List.getElem?_eq_getElem _
      have hr0 : rs[0]? = some (rs[0]'(by rw [HA.out.2.1.1]; omega)) := List.getElem?_eq_getElem _
      generalize p.cs[0]'(by omega) = x at hx0
      generalize rs[0]'(by rw [HA.out.2.1.1]; omega) = xa at hr0
      have hnp : npZ p 0 = x.np := by simp [npZ, hx0]
      rw [hnp] at hd
      have hxo := HA.out.2.1.2 0 xa x hr0 hx0
      obtain ⟨ga, oa, e1, dga, ua, ua1, ua2⟩ := sl_elemC (s := ⟨sca, p.cs.length, scc⟩) HA.out.1 hr0
      simp only at e1
      subst e1
      have hF := HF1.out.trans hR.out.1
      have eg1 := Nat.lt_of_lt_of_le dga hF.size
      rw [← hF.cell (p := ⟨ga, _, none⟩) dga id] at ua
      rw [hxo.np] at ua
      obtain ⟨c0, c1, cl⟩ := HCC.out _ hR.out.1
      obtain ⟨w3, hw3⟩ : ∃ x, x = wr := ⟨_, rfl⟩
      subst hw3
      simp only [Nat.zero_mul, Nat.add_zero] at ua
      have HFF := hide hF
      have HRF := hide hR.out.1
      clear hxo hx0 hr0 ua1 ua2 hF hnp hw0 hR
      by_cases hz : x.np = 0
      · rw [if_neg (by simpa using hz)] at hd
        have HDE := hide hd
        rw [hz] at ua
        clear hd hz
        go_wp2_with fail
        clear c0 c1 cl ua eg1 dga
        go_loopw [41, 6] (fun i _ wv => ∃ (k : Nat), k ≤ p.cs.length ∧ i = .int .i64 k ∧ Hid (Fr nothing w1 wv ∧ firstE hdE (p.cs.drop k) = firstE hdE p.cs)) (fun i _ _ => p.cs.length - (intOf i).toNat)
        case atStart => exact ⟨0, Nat.zero_le _, rfl, HRF.out, rfl⟩
        case round =>
          obtain ⟨k, hk, rfl, hRk⟩ := hrel
          by_cases hkl : k < p.cs.length
          · have hx : p.cs[k]? = some p.cs[k] := List.getElem?_eq_getElem hkl
            have hst := firstE_drop hdE p.cs hx
            have hra : rs[k]? = some (rs[k]'(by rw [HA.out.2.1.1]; omega)) := List.getElem?_eq_getElem _
            generalize p.cs[k] = y at hx hst
            generalize rs[k]'(by rw [HA.out.2.1.1]; omega) = xa at hra
            obtain ⟨p1, p2, p3⟩ := HA.out.2.1.2 k xa y hra hx
            obtain ⟨gb, ob, e1, dgb, ub, ub1, ub2⟩ := sl_elemC (s := ⟨some ⟨ga, oa, none⟩, p.cs.length, scc⟩) HA.out.1 hra
            simp only [Option.some.injEq, Addr.mk.injEq, and_true] at e1
            obtain ⟨rfl, rfl⟩ := e1
            obtain ⟨q1, q2⟩ := sl_len p3
            obtain ⟨xa1, xa2, ⟨xaa, xan, xac⟩⟩ := xa
            simp only at p1 p2 q1 ub ub1 ub2
            subst p1 p2 q1
            have hF := HF1.out.trans hRk.out.1
            have eg1 := Nat.lt_of_lt_of_le dgb hF.size
            rw [← hF.cell (p := ⟨ga, _, none⟩) dgb id] at ub ub1 ub2
            have hRn : Fr nothing w1 (wr.alloc (.cells #[.int .i64 y.np, .int .i64 y.nv, .slice xaa y.ins.length xac] 54)) := hRk.out.1.alloc _
            have HFN := hide (HF1.out.trans hRn)
            rw [hRk.out.2] at hst
            have hbd := headBad_of y
            by_cases b1 : betw y.np 0 4 = true
            · by_cases b2 : betw y.nv y.np 8 = true
              · by_cases b3 : betw (y.ins.length : Int) 1 200 = true
                · have hde : hdE y = 0 := by unfold hdE; rw [hbd, b1, b2, b3]; rfl
                  rw [hde, if_neg (by simp)] at hst
                  have HN : Hid (Fr nothing w1 (wr.alloc (.cells #[.int .i64 y.np, .int .i64 y.nv, .slice xaa y.ins.length xac] 54)) ∧ firstE hdE (p.cs.drop (k + 1)) = firstE hdE p.cs) := ⟨hRn, hst.symm⟩
                  clear hx hra p3 hF hst hbd hRn hRk
                  go_wp2_with (go_at_call 35; refine (between_any _ _ _ _).mono ?_; rintro e w4 ⟨rfl, hw4⟩; (first | rw [hw4, b1] | rw [hw4, b2] | rw [hw4, b3]); clear hw4)
                  go_roundw
                  case rel => exact ⟨k + 1, by omega, by go_num, HN.out⟩
                  case measure => simp [intOf]; omega
                · have b3' : betw (y.ins.length : Int) 1 200 = false := by simpa using b3
                  have hde : hdE y = 3 := by unfold hdE; rw [hbd, b1, b2, b3']; rfl
                  have hRr : R = 3 := by rw [HDE.out, hst, hde]; rfl
                  subst hRr
                  clear hx hra p3 hF hst hbd hRn hRk b3
                  go_wp2_with (go_at_call 35; refine (between_any _ _ _ _).mono ?_; rintro e w4 ⟨rfl, hw4⟩; (first | rw [hw4, b1] | rw [hw4, b2] | rw [hw4, b3']); clear hw4)
                  go_ret
                  exact ⟨rfl, HFN.out⟩
              · have b2' : betw y.nv y.np 8 = false := by simpa using b2
                have hde : hdE y = 3 := by unfold hdE; rw [hbd, b1, b2']; rfl
                have hRr : R = 3 := by rw [HDE.out, hst, hde]; rfl
                subst hRr
                clear hx hra p3 hF hst hbd hRn hRk b2
                go_wp2_with (go_at_call 35; refine (between_any _ _ _ _).mono ?_; rintro e w4 ⟨rfl, hw4⟩; (first | rw [hw4, b1] | rw [hw4, b2']); clear hw4)
                go_ret
                exact ⟨rfl, HFN.out⟩
            · have b1' : betw y.np 0 4 = false := by simpa using b1
              have hde : hdE y = 3 := by unfold hdE; rw [hbd, b1']; rfl
              have hRr : R = 3 := by rw [HDE.out, hst, hde]; rfl
              subst hRr
              clear hx hra p3 hF hst hbd hRn hRk b1
              go_wp2_with (go_at_call 35; refine (between_any _ _ _ _).mono ?_; rintro e w4 ⟨rfl, hw4⟩; rw [hw4, b1']; clear hw4)
              go_ret
              exact ⟨rfl, HFN.out⟩
          · have hRr : R = 0 := by rw [HDE.out, ← hRk.out.2]; exact firstE_end _ _ (by omega)
            subst hRr
            have HFN := hide (HF1.out.trans hRk.out.1)
            clear hRk
            go_wp2_with fail
            go_ret
            exact ⟨rfl, HFN.out⟩
      · rw [if_pos hz] at hd
        have hzb : (x.np != 0) = true := by simpa using hz
        subst hd
        go_wp2_with fail
        go_ret
        exact ⟨rfl, HFF.out⟩
end Go.Proofs.YtpemfikdmkmgbaaDoor
end
section
/- Rows of any kind that a call owns. -/
set_option maxHeartbeats 0
set_option maxRecDepth 100000
namespace Go.Proofs.YtpemfikdmkmgbaaDoor
open Go Go.RowKit
section
variable {α : Type} {enc : α → List Value} {T Ts sz bytes base : Nat} {z : Value}
/-- A row that is the call's own. -/
structure Own (enc : α → List Value) (T sz base : Nat) (q : Slc) (l : List α) (w : World) : Prop where
  n : q.n = l.length
  row : w.ownsRow base T sz q.v l.length (l.flatMap enc)
theorem Own.sl (he : ∀ x, (enc x).length = sz) {q : Slc} {l : List α} {w : World} (h : Own enc T sz base q l w) : Sl enc sz w q.v l := sl_of_owns he h.row
theorem Own.fr {q : Slc} {l : List α} {w w' : World} {S : Nat → Prop} (h : Own enc T sz base q l w) (hf : Fr S w w') (hs : ∀ b, q.v.ownBlock = some b → ¬ S b) : Own enc T sz base q l w' := ⟨h.n, owns_fr h.row hf hs⟩
theorem Own.new {q : Slc} {l : List α} {w w' : World} (h : Own enc T sz base q l w) (hf : Fr nothing w w') : Own enc T sz base q l w' := h.fr hf (fun _ _ => id)
theorem Own.lt {q : Slc} {l : List α} {w : World} (h : Own enc T sz base q l w) {b : Nat} (hb : q.v.ownBlock = some b) : base ≤ b ∧ b < w.heap.size := h.row.lt b hb
theorem Own.nil (enc : α → List Value) (T sz base : Nat) (w : World) : Own enc T sz base nilS [] w := ⟨rfl, World.ownsRow_nil _ _ _ _⟩
/-- A literal. -/
theorem Own.lit (w : World) (cs : Array Value) (l : List α) (hc : cs.toList = l.flatMap enc) (he : ∀ x, (enc x).length = sz) (hb : base ≤ w.heap.size) (hl : l.length ≤ maxLen) : Own enc T sz base ⟨some ⟨w.heap.size, 0, none⟩, l.length, l.length⟩ l (w.alloc (.cells cs T)) := by
  refine ⟨rfl, ?_⟩
  have hs : cs.size = l.length * sz := by rw [← Array.length_toList, hc]; exact flat_length enc sz he l
  have := World.ownsRow_lit (e := T) w cs l.length (size := sz) (base := base) hb hl hs
  rw [hc] at this
  exact this
theorem run_cells {w : World} {x : Slc} {ys : List α} (he : ∀ x, (enc x).length = sz) (hsz : 0 < sz) (hs : Sl enc sz w x.v ys) : ∀ j u, (ys.flatMap enc)[j]? = some u → ∃ ad, x.a = some ad ∧ w.cell? (ad.add j) = some u := by
  intro j u hj
  have hfl : (ys.flatMap enc).length = ys.length * sz := flat_length enc sz he ys
  have hjl : j < ys.length * sz := by rw [← hfl]; exact (List.getElem?_eq_some_iff.1 hj).1
  obtain ⟨ao, cap, he', _, hc⟩ := hs
  simp only [Value.slice.injEq] at he'
  obtain ⟨e1, _, _⟩ := he'
  have hi : j / sz < ys.length := (Nat.div_lt_iff_lt_mul hsz).2 hjl
  obtain ⟨b, off, rfl, _, hcell⟩ := hc (j / sz) _ (List.getElem?_eq_getElem hi)
  refine ⟨_, e1, ?_⟩
  have hmod : j % sz < sz := Nat.mod_lt _ hsz
  have hdm : j / sz * sz + j % sz = j := Nat.div_add_mod' j sz
  have h3 : (enc ys[j / sz])[j % sz]? = some u := by
    have hk : ∃ u', (enc ys[j / sz])[j % sz]? = some u' := ⟨_, List.getElem?_eq_getElem (by rw [he]; exact hmod)⟩
    obtain ⟨u', hu'⟩ := hk
    have := flat_get enc sz he ys (j / sz) _ (j % sz) u' (List.getElem?_eq_getElem hi) hu'
    rw [hdm, hj] at this
    rw [hu', this]
  rw [add_eq, ← hcell (j % sz) u h3]
  congr 2
  omega
/-- What lies in a list, behind a row. -/
theorem Own.app (hu : Tryd.prog.underlying Ts = some (.slice T)) (hinf : (Tryd.prog.info? T).map (fun i => (i.zero, i.size, i.bytes)) = some (some z, sz, bytes)) (hzs : z.cells.size = sz) (hsz : 0 < sz) (he : ∀ x, (enc x).length = sz) (h1 : ∀ x, ∀ u ∈ enc x, u.oneCell' = true)
    {q x : Slc} {xs ys : List α} {w : World} (h : Own enc T sz base q xs w) (hs : Sl enc sz w x.v ys) (hb : base ≤ w.heap.size) (hl : xs.length + ys.length ≤ maxLen) (hby : (xs.length + ys.length) * bytes ≤ 140737488355328) :
    ∃ (q' : Slc) (w' : World), (Builtin.append_ #[Ts, Ts] Ts #[.slice q.a q.n q.c, .slice x.a x.n x.c]).run Tryd.prog w = .ok (.slice q'.a q'.n q'.c) w' ∧ Own enc T sz base q' (xs ++ ys) w' ∧ Fr (fun k => q.v.ownBlock = some k) w w' ∧ (∀ b, q'.v.ownBlock = some b → q.v.ownBlock = some b ∨ w.heap.size ≤ b) := by
  obtain ⟨j0, hj0, hy0, hy1, hy2⟩ := info_parts hinf
  obtain ⟨hn, hm⟩ := sl_len hs
  obtain ⟨xa, xn, xc⟩ := x
  simp only at hn
  subst hn
  rcases Nat.eq_zero_or_pos ys.length with h0 | hp
  · have e : ys = [] := List.length_eq_zero_iff.1 h0
    subst e
    have hsrc : Src Tryd.prog j0.size Ts (.slice xa 0 xc) 0 [] w := by
      cases xa with
      | none => exact Src.ofNil w hu xc
      | some ad => exact Src.ofSlice w hu ad 0 xc [] (by simp) (by simp) (by simp)
    have hle : q.n ≤ q.c := by
      rcases h.row.2 with ⟨e, _⟩ | ⟨g, cap, cur, e, _, _, h2, _⟩
      · simp only [Slc.v, Value.slice.injEq] at e; omega
      · simp only [Slc.v, Value.slice.injEq] at e; have := h.n; omega
    refine ⟨q, w, run_append_nothing w Ts Ts Ts T j0 hu hj0 q.a q.n q.c hle (.slice xa 0 xc) hsrc, by rw [List.append_nil]; exact h, Fr.refl _ _, fun b hb => .inl hb⟩
  · have hfl : (ys.flatMap enc).length = ys.length * sz := flat_length enc sz he ys
    have hget := run_cells he hsz hs
    have hpos : 0 < (ys.flatMap enc).length := by rw [hfl]; exact Nat.mul_pos hp hsz
    obtain ⟨ad, rfl, _⟩ := hget 0 _ (List.getElem?_eq_getElem hpos)
    obtain ⟨g, cap, w', hr, h2, h3, h4, h5⟩ := run_append_lies (P := Tryd.prog) w Ts Ts base T j0 _ sz bytes hu hj0 hy0 hy1 hy2 hzs hsz q.v xs.length _ h.row ad ys.length xc (ys.flatMap enc) hfl (fun j u hj => by
      obtain ⟨ad', e1, e2⟩ := hget j u hj
      obtain rfl : ad = ad' := by simpa using e1
      exact e2) (fun u hu => by
      obtain ⟨x, _, hx⟩ := List.mem_flatMap.1 hu
      exact h1 x u hx) hp hl hby hb _ rfl
    refine ⟨⟨some ⟨g, 0, none⟩, xs.length + ys.length, cap⟩, w', hr, ⟨by simp, by simpa using h2⟩, (Fr.refl _ w).grown h3 (fun k hk => .inl hk), fun b hb' => ?_⟩
    obtain rfl : g = b := Option.some.inj hb'
    exact h4.imp id (fun e => by omega)
/-- One that stands in a block of its own. -/
theorem sl_one (w : World) (cs : Array Value) (x : α) (hc : cs.toList = enc x) : Sl enc sz (w.alloc (.cells cs T)) (Slc.v ⟨some ⟨w.heap.size, 0, none⟩, 1, 1⟩) [x] := by
  refine ⟨some ⟨w.heap.size, 0, none⟩, 1, rfl, by unfold maxLen; simp, fun i y hi => ⟨w.heap.size, 0, rfl, by simp, fun j u hj => ?_⟩⟩
  have hi0 : i = 0 := by have := (List.getElem?_eq_some_iff.1 hi).1; simp at this; omega
  subst hi0
  obtain rfl : x = y := by simpa using hi
  have hm := (made_cells (Fr.refl nothing (w.alloc (.cells cs T))) id).1 j
  have e1 : (0 : Nat) + 0 * sz + j = j := by omega
  rw [e1, hm, ← hj, ← hc, Array.getElem?_toList]
theorem flat_set (he : ∀ x, (enc x).length = sz) : ∀ (l : List α) (i : Nat) (x : α), i < l.length → (l.set i x).flatMap enc = (l.flatMap enc).take (i * sz) ++ enc x ++ (l.flatMap enc).drop (i * sz + sz)
  | [], i, x, h => by simp at h
  | y :: l, 0, x, h => by
    simp only [List.set_cons_zero, List.flatMap_cons, Nat.zero_mul, List.take_zero, List.nil_append, Nat.zero_add]
    rw [List.drop_append_of_le_length (by rw [he]; exact Nat.le_refl _), List.drop_eq_nil_of_le (by rw [he]; exact Nat.le_refl _), List.nil_append]
  | y :: l, i + 1, x, h => by
    have ih := flat_set he l i x (by simpa using h)
    have e1 : (i + 1) * sz = (enc y).length + i * sz := by rw [he, Nat.succ_mul]; omega
    have e2 : (enc y).length + i * sz + sz = (enc y).length + (i * sz + sz) := by omega
    simp only [List.set_cons_succ, List.flatMap_cons]
    rw [e1, ih, List.take_append, List.take_of_length_le (show (enc y).length ≤ (enc y).length + i * sz by omega), e2, List.drop_append, List.drop_eq_nil_of_le (show (enc y).length ≤ (enc y).length + (i * sz + sz) by omega)]
    simp
end
end Go.Proofs.YtpemfikdmkmgbaaDoor
end
section
/- Package verify: the ways that are looked at: come, follow. -/
set_option maxHeartbeats 0
set_option maxRecDepth 100000
namespace Go.Proofs.YtpemfikdmkmgbaaDoor
open Go Go.RowKit
def encP (p : Int × Int) : List Value := [.int .i64 p.1, .int .i64 p.2]
theorem encP_len (p : Int × Int) : (encP p).length = 2 := rfl
theorem encP_one (p : Int × Int) : ∀ u ∈ encP p, u.oneCell' = true := by
  intro u hu
  simp only [encP, List.mem_cons, List.not_mem_nil, or_false] at hu
  rcases hu with rfl | rfl <;> rfl
theorem sizeWay : (Tryd.prog.info? 92).map (fun i => (i.zero, i.size, i.bytes)) = some (some (.agg #[.int .i64 0, .int .i64 0]), 2, 16) := by kernel_rfl
/-- The variable of ways, and what it holds. -/
structure Wy (base vb : Nat) (q : Slc) (Q : List (Int × Int)) (w : World) : Prop where
  c : w.cell? ⟨vb, 0, none⟩ = some (.slice q.a q.n q.c)
  z : w.frozen? ⟨vb, 0, none⟩ = false
  o : Own encP 92 2 base q Q w
  d : ∀ b, q.v.ownBlock = some b → b ≠ vb
  b : base ≤ w.heap.size
theorem Wy.lt {base vb : Nat} {q : Slc} {Q : List (Int × Int)} {w : World} (h : Wy base vb q Q w) : vb < w.heap.size := lt_of_cell h.c
theorem Wy.fr {base vb : Nat} {q : Slc} {Q : List (Int × Int)} {w w' : World} {S : Nat → Prop} (h : Wy base vb q Q w) (hf : Fr S w w') (h1 : ¬ S vb) (h2 : ∀ b, q.v.ownBlock = some b → ¬ S b) : Wy base vb q Q w' :=
  ⟨(hf.cell (p := ⟨vb, 0, none⟩) h.lt h1).trans h.c, (hf.frozen (p := ⟨vb, 0, none⟩) h.lt h1).trans h.z, h.o.fr hf h2, h.d, Nat.le_trans h.b hf.size⟩
def WyP (base vb : Nat) (q : Slc) (Q : List (Int × Int)) (w w' : World) : Prop :=
  ∃ q' : Slc, Wy base vb q' Q w' ∧ Fr (fun k => k = vb ∨ q.v.ownBlock = some k) w w' ∧ (∀ b, q'.v.ownBlock = some b → q.v.ownBlock = some b ∨ w.heap.size ≤ b)
theorem WyP.of {base vb : Nat} {q : Slc} {Q : List (Int × Int)} {w w' : World} (h : Wy base vb q Q w) (hf : Fr nothing w w') : WyP base vb q Q w w' :=
  ⟨q, h.fr hf id (fun _ _ => id), hf.mono (fun _ _ e => e.elim), fun _ hb => .inl hb⟩
theorem WyP.then {base vb : Nat} {q q1 : Slc} {Q : List (Int × Int)} {w w1 w2 : World} (h2 : WyP base vb q1 Q w1 w2) (hf : Fr (fun k => k = vb ∨ q.v.ownBlock = some k) w w1) (hq : ∀ b, q1.v.ownBlock = some b → q.v.ownBlock = some b ∨ w.heap.size ≤ b) : WyP base vb q Q w w2 := by
  obtain ⟨q2, a1, a2, a3⟩ := h2
  refine ⟨q2, a1, hf.then a2 (fun j hj e => ?_), fun b hb => ?_⟩
  · rcases e with e | e
    · exact .inl e
    · rcases hq j e with h | h
      · exact .inr h
      · omega
  · rcases a3 b hb with h | h
    · exact hq b h
    · exact .inr (Nat.le_trans hf.size h)
theorem come_any (base vb : Nat) (q : Slc) (Q : List (Int × Int)) (x y : Int) (w : World) (h : Wy base vb q Q w) (hl : Q.length ≤ 1000000) :
    Calls Tryd.prog 30 #[.int .i64 x, .int .i64 y, .pointer (some ⟨vb, 0, none⟩)] w fun e w' => e = .returned (.tuple #[]) ∧ WyP base vb q (Q ++ [(x, y)]) w w' := by
  have FL : Fr nothing w (w.alloc (.cells #[.int .i64 x, .int .i64 y] 92)) := (Fr.refl _ _).alloc _
  obtain ⟨q', w', hr, ho, hf, ht⟩ := Own.app (x := ⟨some ⟨w.heap.size, 0, none⟩, 1, 1⟩) Tryd.underlying90 sizeWay rfl (by decide) encP_len encP_one (h.o.new FL) (sl_one (T := 92) w #[.int .i64 x, .int .i64 y] (x, y) rfl) (Nat.le_trans h.b FL.size) (by simp only [List.length_singleton]; unfold maxLen; omega) (by simp only [List.length_singleton]; omega)
  have hvl := h.lt
  have hF : Fr (fun k => q.v.ownBlock = some k) w w' := (FL.mono (fun _ _ e => e.elim)).trans hf
  have c0 := h.c
  have z0 := h.z
  have c1 := (hF.cell (p := ⟨vb, 0, none⟩) hvl (fun e => h.d vb e rfl)).trans c0
  have z1 := (hF.frozen (p := ⟨vb, 0, none⟩) hvl (fun e => h.d vb e rfl)).trans z0
  have vl1 := Nat.lt_of_lt_of_le hvl hF.size
  have hq : ∀ b, q'.v.ownBlock = some b → q.v.ownBlock = some b ∨ w.heap.size ≤ b := fun b hb => (ht b hb).imp id (fun e => Nat.le_trans FL.size e)
  have hnv : ∀ b, q'.v.ownBlock = some b → b ≠ vb := fun b hb => by
    rcases hq b hb with e | e
    · exact h.d b e
    · omega
  obtain ⟨e1, e2, e3⟩ := (⟨World.cell?_setCell_same _ _ _ c1, fun i hi => World.cell?_setCell_other w' ⟨vb, 0, none⟩ ⟨vb, i, none⟩ _ (by first | (simp; done) | (simp; omega)), (Fr.refl (fun k => k = vb) w').setCell (p := ⟨vb, 0, none⟩) (.inl rfl) q'.v⟩ : (w'.setCell ⟨vb, 0, none⟩ q'.v).cell? ⟨vb, 0, none⟩ = some q'.v ∧ (∀ i, i ≠ 0 → (w'.setCell ⟨vb, 0, none⟩ q'.v).cell? ⟨vb, i, none⟩ = w'.cell? ⟨vb, i, none⟩) ∧ Fr (fun k => k = vb) w' (w'.setCell ⟨vb, 0, none⟩ q'.v))
  have HR : Hid (WyP base vb q (Q ++ [(x, y)]) w (w'.setCell ⟨vb, 0, none⟩ q'.v)) := by
    refine ⟨q', ⟨e1, by rw [World.frozen?_setCell]; exact z1, ho.fr e3 (fun b hb e => hnv b hb e), hnv, ?_⟩, ?_, hq⟩
    · exact Nat.le_trans h.b (Nat.le_trans hF.size e3.size)
    · exact (hF.mono (fun _ _ e => .inr e)).trans (e3.mono (fun _ _ e => .inl e))
  clear ho hf ht hq hnv e1 e2 e3 hF FL h
  go_enter Tryd.func30, Tryd.ntmps30
  go_wp2_with (at_builtin; go_must (refine wpList_run rfl _ _ 90 rfl _ _ rfl rfl hr ?_; clear hr))
  exact bodyPost_end (v := .tuple #[]) (by simp [results, go_sem, Tryd.f30]) rfl ⟨rfl, HR.out⟩
/-- What comes of following an instruction. -/
def followC (i : In) (p n : Int) : Int × List (Int × Int) :=
  if n < (shapeC i).1 ∨ (i.op = 18 ∧ 1 < n) then (10, []) else if 16 < n - (shapeC i).1 + (shapeC i).2 then (4, [])
  else (0, nextC i p (n - (shapeC i).1 + (shapeC i).2))
theorem follow_any (i : In) (p : Nat) (n : Int) (base vb : Nat) (q : Slc) (Q : List (Int × Int)) (w : World) (h : Wy base vb q Q w) (hl : Q.length ≤ 900000) (hb : i.op = 17 → 0 ≤ i.b) (hp : p ≤ 1000000000) (hn : 0 ≤ n ∧ n ≤ 16) :
    Calls Tryd.prog 32 #[.agg #[.int .i64 i.op, .int .i64 i.a, .int .i64 i.b], .int .i64 (p : Nat), .int .i64 n, .func (.func 30) #[] #[.pointer (some ⟨vb, 0, none⟩)]] w fun e w' => e = .returned (.int .i64 (followC i p n).1) ∧ WyP base vb q (Q ++ (followC i p n).2) w w' := by
  have hpos := shape_pos i hb
  have HEF := hide (fun w1 => effect_any i w1 hb)
  obtain ⟨sp, hsp⟩ : ∃ sp, shapeC i = sp := ⟨_, rfl⟩
  have HD : Hid (followC i p n = if n < sp.1 ∨ (i.op = 18 ∧ 1 < n) then (10, []) else if 16 < n - sp.1 + sp.2 then (4, []) else (0, nextC i p (n - sp.1 + sp.2))) := by
    unfold Hid followC; rw [hsp]
  have h18 : i.op = 18 → sp.1 = 1 := fun e => by
    rw [← hsp]
    unfold shapeC
    rw [if_neg (by omega), e]
    rfl
  rw [hsp] at hpos
  generalize followC i p n = R at *
  obtain ⟨op, ia, ib⟩ := i
  obtain ⟨pp, pu⟩ := sp
  simp only at hpos h18 HD HEF
  have hd := HD.out
  have HY := hide h
  have hF1 : Fr nothing w (w.alloc (.cells #[.int .i64 op, .int .i64 ia, .int .i64 ib] 59)) := (Fr.refl _ _).alloc _
  have ca := made_cells (Fr.refl nothing (w.alloc (.cells #[.int .i64 op, .int .i64 ia, .int .i64 ib] 59))) id
  obtain ⟨w1, hw1⟩ : ∃ w1, w1 = w.alloc (.cells #[.int .i64 op, .int .i64 ia, .int .i64 ib] 59) := ⟨_, rfl⟩
  rw [← hw1] at hF1 ca
  have c0 := ca.1 0
  have c1 := ca.1 1
  have c2 := ca.1 2
  have cl := ca.2.2
  have HF1 := hide hF1
  have hw1' : w.alloc (.cells #[.int .i64 op, .int .i64 ia, .int .i64 ib] 59) = w1 := hw1.symm
  have HNB : Hid (¬ (w.heap.size = vb ∨ q.v.ownBlock = some w.heap.size)) := by
    rintro (e | e)
    · have := h.lt; omega
    · have := (h.o.lt e).2; omega
  clear ca hF1 hw1 h HD
  by_cases hlow : n < pp
  · rw [if_pos (.inl hlow)] at hd
    subst hd
    go_enter Tryd.func32, Tryd.ntmps32
    go_wp2_with (go_at_call 49; refine (HEF.out w1).mono ?_; rintro e w2 ⟨rfl, hf2⟩; rw [hsp]; have i0 := (hf2.cell (p := ⟨w.heap.size, 0, none⟩) cl id).trans c0; have i1 := (hf2.cell (p := ⟨w.heap.size, 1, none⟩) cl id).trans c1; have il := Nat.lt_of_lt_of_le cl hf2.size; have hf02 := HF1.out.trans hf2; have HY2 := hide (HY.out.fr hf02 id (fun _ _ => id)); have HF2 := hide hf02; clear hf2 hf02)
    go_ret
    exact ⟨rfl, by rw [List.append_nil]; exact WyP.of HY.out HF2.out⟩
  by_cases hret : op = 18 ∧ 1 < n
  · rw [if_pos (.inr hret)] at hd
    subst hd
    obtain ⟨rfl, hn1⟩ := hret
    have hn1b : (n != 1) = true := by simp; omega
    go_enter Tryd.func32, Tryd.ntmps32
    go_wp2_with (go_at_call 49; refine (HEF.out w1).mono ?_; rintro e w2 ⟨rfl, hf2⟩; rw [hsp]; have i0 := (hf2.cell (p := ⟨w.heap.size, 0, none⟩) cl id).trans c0; have i1 := (hf2.cell (p := ⟨w.heap.size, 1, none⟩) cl id).trans c1; have il := Nat.lt_of_lt_of_le cl hf2.size; have hf02 := HF1.out.trans hf2; have HY2 := hide (HY.out.fr hf02 id (fun _ _ => id)); have HF2 := hide hf02; clear hf2 hf02)
    go_ret
    exact ⟨rfl, by rw [List.append_nil]; exact WyP.of HY.out HF2.out⟩
  rw [if_neg (by omega)] at hd
  have hN1 : IntKind.i64.wrap (pu - pp) = pu - pp := wrap_in _ (by omega) (by omega)
  have hN2 : IntKind.i64.wrap (n + (pu - pp)) = n - pp + pu := by rw [wrap_in _ (by omega) (by omega)]; omega
  have hN0 : IntKind.i64.wrap ((p : Int) + 1) = (p : Int) + 1 := wrap_in _ (by omega) (by omega)
  by_cases h16 : 16 < n - pp + pu
  · rw [if_pos h16] at hd
    subst hd
    have o18 : ¬ op = 18 := fun e => by have := h18 e; omega
    have o18b : (op == 18) = false := by simpa using o18
    clear h18 hret
    go_enter Tryd.func32, Tryd.ntmps32
    go_wp2_with (go_at_call 49; refine (HEF.out w1).mono ?_; rintro e w2 ⟨rfl, hf2⟩; rw [hsp]; have i0 := (hf2.cell (p := ⟨w.heap.size, 0, none⟩) cl id).trans c0; have i1 := (hf2.cell (p := ⟨w.heap.size, 1, none⟩) cl id).trans c1; have il := Nat.lt_of_lt_of_le cl hf2.size; have hf02 := HF1.out.trans hf2; have HY2 := hide (HY.out.fr hf02 id (fun _ _ => id)); have HF2 := hide hf02; clear hf2 hf02)
    go_ret
    exact ⟨rfl, by rw [List.append_nil]; exact WyP.of HY.out HF2.out⟩
  rw [if_neg h16] at hd
  by_cases o15 : op = 15
  · subst o15
    have hnx : nextC ⟨15, ia, ib⟩ (p : Int) (n - pp + pu) = [(ia, n - pp + pu)] := by simp [nextC]
    rw [hnx] at hd
    subst hd
    clear hnx hret h18
    go_enter Tryd.func32, Tryd.ntmps32
    go_wp2_with (first
      | (go_at_call 49; refine (HEF.out w1).mono ?_; rintro e w2 ⟨rfl, hf2⟩; rw [hsp]; have i0 := (hf2.cell (p := ⟨w.heap.size, 0, none⟩) cl id).trans c0; have i1 := (hf2.cell (p := ⟨w.heap.size, 1, none⟩) cl id).trans c1; have il := Nat.lt_of_lt_of_le cl hf2.size; have hf02 := HF1.out.trans hf2; have HY2 := hide (HY.out.fr hf02 id (fun _ _ => id)); have HF2 := hide hf02; clear hf2 hf02)
      | (go_at_call 30; refine (come_any base vb q Q ia (n - pp + pu) w2 HY2.out (by omega)).mono ?_; rintro e w3 ⟨rfl, hy3⟩; have HY3 := hide hy3; clear hy3))
    go_ret
    exact ⟨rfl, HY3.out.then (HF2.out.mono (fun _ _ e => e.elim)) (fun b hb => .inl hb)⟩
  by_cases o18 : op = 18
  · subst o18
    have hn1 : n = 1 := by have := h18 rfl; omega
    have hn1b : (n != 1) = false := by simpa using hn1
    have hnx : nextC ⟨18, ia, ib⟩ (p : Int) (n - pp + pu) = [] := by simp [nextC]
    rw [hnx] at hd
    subst hd
    clear hnx hret h18 hn1
    go_enter Tryd.func32, Tryd.ntmps32
    go_wp2_with (go_at_call 49; refine (HEF.out w1).mono ?_; rintro e w2 ⟨rfl, hf2⟩; rw [hsp]; have i0 := (hf2.cell (p := ⟨w.heap.size, 0, none⟩) cl id).trans c0; have i1 := (hf2.cell (p := ⟨w.heap.size, 1, none⟩) cl id).trans c1; have il := Nat.lt_of_lt_of_le cl hf2.size; have hf02 := HF1.out.trans hf2; have HY2 := hide (HY.out.fr hf02 id (fun _ _ => id)); have HF2 := hide hf02; clear hf2 hf02)
    go_ret
    exact ⟨rfl, by rw [List.append_nil]; exact WyP.of HY.out HF2.out⟩
  by_cases o16 : op = 16
  · subst o16
    have hnx : nextC ⟨16, ia, ib⟩ (p : Int) (n - pp + pu) = [((p : Int) + 1, n - pp + pu), (ia, n - pp + pu)] := by simp [nextC]
    rw [hnx] at hd
    subst hd
    clear hnx hret h18
    go_enter Tryd.func32, Tryd.ntmps32
    go_wp2_with (first
      | (go_at_call 49; refine (HEF.out w1).mono ?_; rintro e w2 ⟨rfl, hf2⟩; rw [hsp]; have i0 := (hf2.cell (p := ⟨w.heap.size, 0, none⟩) cl id).trans c0; have i1 := (hf2.cell (p := ⟨w.heap.size, 1, none⟩) cl id).trans c1; have il := Nat.lt_of_lt_of_le cl hf2.size; have hf02 := HF1.out.trans hf2; have HY2 := hide (HY.out.fr hf02 id (fun _ _ => id)); have HF2 := hide hf02; clear hf2 hf02)
      | (go_at_call 30; refine (come_any base vb q3 (Q ++ [((p : Int) + 1, n - pp + pu)]) ia (n - pp + pu) w3 HY3.out (by simp only [List.length_append, List.length_singleton]; omega)).mono ?_; rintro e w4 ⟨rfl, hy4⟩; have HY4 := hide hy4; clear hy4)
      | (go_at_call 30; refine (come_any base vb q Q ((p : Int) + 1) (n - pp + pu) w2 HY2.out (by omega)).mono ?_; rintro e w3 ⟨rfl, q3, y3, f3, t3⟩; have j0 := (f3.cell (p := ⟨w.heap.size, 0, none⟩) il HNB.out).trans i0; have j1 := (f3.cell (p := ⟨w.heap.size, 1, none⟩) il HNB.out).trans i1; have jl := Nat.lt_of_lt_of_le il f3.size; have HY3 := hide y3; have HF3 : Hid (Fr (fun k => k = vb ∨ q.v.ownBlock = some k) w w3) := (HF2.out.mono (fun _ _ e => e.elim)).trans f3; have HT3 : Hid (∀ b, q3.v.ownBlock = some b → q.v.ownBlock = some b ∨ w.heap.size ≤ b) := (fun b hb => (t3 b hb).imp id (fun e => Nat.le_trans HF2.out.size e)); clear y3 f3 t3))
    go_ret
    refine ⟨rfl, ?_⟩
    have := HY4.out.then HF3.out HT3.out
    simpa using this
  have o15b : (op == 15) = false := by simpa using o15
  have o16b : (op == 16) = false := by simpa using o16
  have o18b : (op == 18) = false := by simpa using o18
  have o15c : (op != 15) = true := by simpa using o15
  have o18c : (op != 18) = true := by simpa using o18
  have hnx : nextC ⟨op, ia, ib⟩ (p : Int) (n - pp + pu) = [((p : Int) + 1, n - pp + pu)] := by simp [nextC, o15, o16, o18]
  rw [hnx] at hd
  subst hd
  clear hnx hret h18
  go_enter Tryd.func32, Tryd.ntmps32
  go_wp2_with (first
    | (go_at_call 49; refine (HEF.out w1).mono ?_; rintro e w2 ⟨rfl, hf2⟩; rw [hsp]; have i0 := (hf2.cell (p := ⟨w.heap.size, 0, none⟩) cl id).trans c0; have i1 := (hf2.cell (p := ⟨w.heap.size, 1, none⟩) cl id).trans c1; have il := Nat.lt_of_lt_of_le cl hf2.size; have hf02 := HF1.out.trans hf2; have HY2 := hide (HY.out.fr hf02 id (fun _ _ => id)); have HF2 := hide hf02; clear hf2 hf02)
    | (go_at_call 30; refine (come_any base vb q Q ((p : Int) + 1) (n - pp + pu) w2 HY2.out (by omega)).mono ?_; rintro e w3 ⟨rfl, q3, y3, f3, t3⟩; have j0 := (f3.cell (p := ⟨w.heap.size, 0, none⟩) il HNB.out).trans i0; have jl := Nat.lt_of_lt_of_le il f3.size; have HY3 : Hid (WyP base vb q (Q ++ [((p : Int) + 1, n - pp + pu)]) w2 w3) := ⟨q3, y3, f3, t3⟩; clear y3 f3 t3))
  go_ret
  exact ⟨rfl, HY3.out.then (HF2.out.mono (fun _ _ e => e.elim)) (fun b hb => .inl hb)⟩
end Go.Proofs.YtpemfikdmkmgbaaDoor
end
section
/- Package verify: heights: the walk. -/
set_option maxHeartbeats 0
set_option maxRecDepth 100000
namespace Go.Proofs.YtpemfikdmkmgbaaDoor
open Go Go.RowKit
theorem hGo_follow {ins : List In} {f : Nat} {h : List Int} {p : Nat} {n : Int} {q : List (Int × Int)} {it : In} {x : Int} (hp : p < h.length) (hx : h.getD p 0 = x) (hx0 : ¬ 0 ≤ x) (hi : ins.getD p ⟨0, 0, 0⟩ = it) :
    hGo ins (f + 1) h (((p : Int), n) :: q) = if (followC it p n).1 ≠ 0 then ([], (followC it p n).1) else hGo ins f (h.set p n) (q ++ (followC it p n).2) := by
  rw [hGo, if_neg (by omega)]
  simp only [Int.toNat_natCast]
  rw [hx, if_neg (by omega), if_neg hx0, hi]
  unfold followC
  by_cases h1 : n < (shapeC it).1 ∨ it.op = 18 ∧ 1 < n
  · rw [if_pos h1, if_pos h1]; rfl
  · rw [if_neg h1, if_neg h1]
    by_cases h2 : 16 < n - (shapeC it).1 + (shapeC it).2
    · rw [if_pos h2, if_pos h2]; rfl
    · rw [if_neg h2, if_neg h2]; rfl
theorem hGo_len (ins : List In) : ∀ (f : Nat) (h : List Int) (q : List (Int × Int)), (hGo ins f h q).2 = 0 → (hGo ins f h q).1.length = h.length
  | 0, h, q, _ => by rw [hGo]
  | f + 1, h, [], _ => by rw [hGo]
  | f + 1, h, (p, n) :: q, e => by
    rw [hGo] at e ⊢
    split at e
    · cases e
    rename_i h1
    rw [if_neg h1]
    split at e
    · cases e
    rename_i h2
    rw [if_neg h2]
    split at e
    · rename_i h3
      rw [if_pos h3]
      exact hGo_len ins f h q e
    rename_i h3
    rw [if_neg h3]
    split at e
    · cases e
    rename_i h4
    rw [if_neg h4]
    split at e
    · cases e
    rename_i h5
    rw [if_neg h5]
    rw [hGo_len ins f _ _ e, List.length_set]
theorem heights_len {ins : List In} (h : (heightsC ins).2 = 0) : (heightsC ins).1.length = ins.length := by
  unfold heightsC at h ⊢
  rw [hGo_len ins _ _ _ h, List.length_replicate]
theorem follow_ext (it : In) (p n : Int) (hb : it.op = 17 → 0 ≤ it.b) : (followC it p n).2.length ≤ 2 ∧ ((followC it p n).1 = 0 → ∀ z ∈ (followC it p n).2, 0 ≤ z.2 ∧ z.2 ≤ 16) := by
  unfold followC
  have hp := shape_pos it hb
  by_cases h1 : n < (shapeC it).1 ∨ it.op = 18 ∧ 1 < n
  · rw [if_pos h1]; exact ⟨by simp, fun _ z hz => by cases hz⟩
  · rw [if_neg h1]
    by_cases h2 : 16 < n - (shapeC it).1 + (shapeC it).2
    · rw [if_pos h2]; exact ⟨by simp, fun _ z hz => by cases hz⟩
    · rw [if_neg h2]
      refine ⟨?_, fun _ z hz => ?_⟩
      · unfold nextC
        rw [List.length_append]
        have a1 : (if it.op ≠ 15 ∧ it.op ≠ 18 then [(p + 1, n - (shapeC it).1 + (shapeC it).2)] else []).length ≤ 1 := by split <;> simp
        have a2 : (if it.op = 15 ∨ it.op = 16 then [(it.a, n - (shapeC it).1 + (shapeC it).2)] else []).length ≤ 1 := by split <;> simp
        exact Nat.add_le_add a1 a2
      · unfold nextC at hz
        rcases List.mem_append.1 hz with hz | hz
        · split at hz
          · rw [List.mem_singleton.1 hz]; exact ⟨by simp only; omega, by simp only; omega⟩
          · cases hz
        · split at hz
          · rw [List.mem_singleton.1 hz]; exact ⟨by simp only; omega, by simp only; omega⟩
          · cases hz
/-- What lies there while heights are told. -/
structure GSt (w0 : World) (hb cb vb : Nat) (ca : Value) (h : List Int) (Q : List (Int × Int)) (q : Slc) (w : World) : Prop where
  f : Fr nothing w0 w
  y : Wy w0.heap.size vb q Q w
  hr : w.ownsRow w0.heap.size 3 1 (.slice (some ⟨hb, 0, none⟩) h.length h.length) h.length (h.flatMap encZ)
  c : w.cell? ⟨cb, 2, none⟩ = some ca
  n : w0.heap.size ≤ cb ∧ cb ≠ hb ∧ cb ≠ vb ∧ hb ≠ vb ∧ w0.heap.size ≤ vb
  d : ∀ k, q.v.ownBlock = some k → k ≠ hb ∧ k ≠ cb
section
variable {w0 w w2 : World} {hb cb vb : Nat} {ca : Value} {h : List Int} {Q Q' : List (Int × Int)} {q : Slc}
theorem GSt.cl (s : GSt w0 hb cb vb ca h Q q w) : cb < w.heap.size := lt_of_cell s.c
theorem GSt.hl (s : GSt w0 hb cb vb ca h Q q w) : w0.heap.size ≤ hb ∧ hb < w.heap.size := s.hr.lt hb rfl
theorem GSt.new (s : GSt w0 hb cb vb ca h Q q w) (hf : Fr nothing w w2) : GSt w0 hb cb vb ca h Q q w2 :=
  ⟨s.f.trans hf, s.y.fr hf id (fun _ _ => id), owns_fr s.hr hf (fun _ _ => id), (hf.cell (p := ⟨cb, 2, none⟩) s.cl id).trans s.c, s.n, s.d⟩
theorem GSt.put (s : GSt w0 hb cb vb ca h Q q w) (i : Nat) (z : Int) : GSt w0 hb cb vb ca (h.set i z) Q q (w.setCell ⟨hb, i, none⟩ (.int .i64 z)) := by
  have hf : Fr (fun k => k = hb) w (w.setCell ⟨hb, i, none⟩ (.int .i64 z)) := (Fr.refl (fun k => k = hb) w).setCell (p := ⟨hb, i, none⟩) (.inl rfl) _
  refine ⟨s.f.then hf (fun k hk e => by have := s.hl.1; omega), s.y.fr hf (fun e => s.n.2.2.2.1 e.symm) (fun b hb' e => (s.d b hb').1 e), ?_, (hf.cell (p := ⟨cb, 2, none⟩) s.cl (fun e => s.n.2.1 e)).trans s.c, s.n, s.d⟩
  have h1 := (s.hr.stored i (.int .i64 z)).1
  rw [flatZ] at h1 ⊢
  rw [List.length_set, List.map_set]
  exact h1
theorem GSt.more (s : GSt w0 hb cb vb ca h Q q w) (hy : WyP w0.heap.size vb q Q' w w2) : ∃ q', GSt w0 hb cb vb ca h Q' q' w2 := by
  obtain ⟨q', y1, y2, y3⟩ := hy
  have n := s.n
  have hl := s.hl
  have cl := s.cl
  refine ⟨q', s.f.then y2 ?_, y1, owns_fr s.hr y2 ?_, (y2.cell (p := ⟨cb, 2, none⟩) s.cl ?_).trans s.c, s.n, fun k hk => ?_⟩
  · rintro k hk (e | e)
    · omega
    · have := (s.y.o.lt e).1; omega
  · rintro k hk (e | e)
    · obtain rfl : hb = k := Option.some.inj hk
      exact n.2.2.2.1 e
    · obtain rfl : hb = k := Option.some.inj hk
      exact (s.d _ e).1 rfl
  · rintro (e | e)
    · exact n.2.2.1 e
    · exact (s.d _ e).2 rfl
  · rcases y3 k hk with e | e
    · exact s.d k e
    · exact ⟨by omega, by omega⟩
end
/-- While heights are told: m rounds at most are left. -/
def GIv (w0 : World) (hb cb vb : Nat) (ca : Value) (ins : List In) (res : List Int × Int) (m : Nat) (v8 : Value) (w : World) : Prop :=
  ∃ (k : Nat) (q : Slc) (Q : List (Int × Int)) (h : List Int), v8 = .int .i64 k ∧ GSt w0 hb cb vb ca h Q q w ∧ h.length = ins.length ∧ k ≤ Q.length ∧ Q.length + 2 * unset h ≤ 1 + 2 * ins.length ∧ (∀ p ∈ Q, 0 ≤ p.2 ∧ p.2 ≤ 16) ∧ (∀ x ∈ h, -1 ≤ x) ∧ 2 * unset h + (Q.length - k) < m ∧ hGo ins m h (Q.drop k) = res
theorem sl_elemP {w : World} {s : Slc} {l : List (Int × Int)} (h : Sl encP 2 w s.v l) {i : Nat} {z : Int × Int} (hi : l[i]? = some z) : ∃ b off, s.a = some ⟨b, off, none⟩ ∧ b < w.heap.size ∧ w.cell? ⟨b, off + i * 2, none⟩ = some (.int .i64 z.1) ∧ w.cell? ⟨b, off + i * 2 + 1, none⟩ = some (.int .i64 z.2) := by
  obtain ⟨ao, cap, he, _, hc⟩ := h
  obtain ⟨b, off, rfl, hb, hcell⟩ := hc i z hi
  simp only [Value.slice.injEq] at he
  exact ⟨b, off, he.1, hb, hcell 0 _ rfl, hcell 1 _ rfl⟩
/-- What Heights answers. -/
def HtQ (w : World) (res : List Int × Int) (e : Ending) (w' : World) : Prop := ∃ sl : Slc, e = .returned (.tuple #[.slice sl.a sl.n sl.c, .int .i64 res.2]) ∧ Fr nothing w w' ∧ Sl encZ 1 w' sl.v res.1 ∧ ∀ b, sl.v.ownBlock = some b → w.heap.size ≤ b
theorem vheights_any (ins : List In) (np nv : Int) (s : Slc) (w : World) (hS : Sl encI 3 w s.v ins) (hl : ins.length ≤ 100000) (hb17 : ∀ i ∈ ins, i.op = 17 → 0 ≤ i.b) :
    Calls Tryd.prog 13 #[.agg #[.int .i64 np, .int .i64 nv, .slice s.a s.n s.c]] w (HtQ w (heightsC ins)) := by
  obtain ⟨hsn, hsm⟩ := sl_len hS
  obtain ⟨sa, sn, sc⟩ := s
  simp only at hsn
  subst hsn
  obtain ⟨j0, hj0, hy0, hy1, hy2⟩ := info_parts sizeInt
  have hF1 : Fr nothing w (w.alloc (.cells #[.int .i64 np, .int .i64 nv, .slice sa ins.length sc] 54)) := (Fr.refl _ _).alloc _
  have hc := made_cells (Fr.refl nothing (w.alloc (.cells #[.int .i64 np, .int .i64 nv, .slice sa ins.length sc] 54))) id
  have hs1 : (w.alloc (.cells #[.int .i64 np, .int .i64 nv, .slice sa ins.length sc] 54)).heap.size = w.heap.size + 1 := by simp
  obtain ⟨w1, hw1⟩ : ∃ x, x = w.alloc (.cells #[.int .i64 np, .int .i64 nv, .slice sa ins.length sc] 54) := ⟨_, rfl⟩
  rw [← hw1] at hF1 hc hs1
  obtain ⟨w2, hmk, hrow, hgr⟩ := run_makeSlice_full (P := Tryd.prog) w1 w.heap.size 49 3 j0 _ 1 Tryd.underlying49 hj0 hy0 hy1 .i64 .i64 ins.length (by omega) (by rw [hy2]; omega) (by unfold maxLen; omega) hF1.size
  have hF12 : Fr nothing w1 w2 := (Fr.refl nothing w1).grown hgr (fun k hk => by cases hk)
  have hF2 : Fr nothing w w2 := hF1.trans hF12
  rw [hs1] at hmk hrow
  have c2 := hc.1 2
  have cl := hc.2.2
  have hlen : (madeCells (Value.cells (.int .i64 0)) (ins.length * 1)).toList.length = ins.length := by
    rw [Array.length_toList, size_madeCells]; omega
  generalize (madeCells (Value.cells (.int .i64 0)) (ins.length * 1)).toList = vs0 at hrow hlen
  have x2 := (hF12.cell (p := ⟨w.heap.size, 2, none⟩) cl id).trans c2
  have xl := Nat.lt_of_lt_of_le cl hF12.size
  obtain ⟨cb, hcb⟩ : ∃ x, x = w.heap.size := ⟨_, rfl⟩
  obtain ⟨hb, hhb⟩ : ∃ x, x = w.heap.size + 1 := ⟨_, rfl⟩
  rw [← hhb] at hmk hrow
  rw [← hcb] at x2 xl
  have HNUM := hide (And.intro hcb hhb)
  have HROW := hide hrow
  have HF2 := hide hF2
  have HS := hide hS
  have HX2 := hide (And.intro x2 xl)
  have hw1' : w.alloc (.cells #[.int .i64 np, .int .i64 nv, .slice sa ins.length sc] 54) = w1 := hw1.symm
  clear hF1 hF12 hF2 hc hs1 hgr hrow hS hw1 hhb x2 xl hj0 hy0 hy1 hy2 hsm
  go_enter Tryd.func13, Tryd.ntmps13
  go_wp2
  rw [← hcb]
  clear hcb c2 cl hw1' hmk
  go_loopw [18, 5] (fun i _ wv => ∃ (j : Nat), j ≤ ins.length ∧ i = .int .i64 j ∧ Hid (∃ vs : List Value, vs.length = ins.length ∧ (∀ t, t < j → vs[t]? = some (.int .i64 (-1))) ∧ wv.ownsRow w.heap.size 3 1 (.slice (some ⟨hb, 0, none⟩) ins.length ins.length) ins.length vs ∧ Fr (fun k => k = hb) w2 wv)) (fun i _ _ => ins.length - (intOf i).toNat)
  case atStart => exact ⟨0, Nat.zero_le _, rfl, vs0, hlen, fun t ht => by omega, HROW.out, Fr.refl _ _⟩
  case round =>
    obtain ⟨j, hj, rfl, hR⟩ := hrel
    obtain ⟨vs, hv1, hv2, hv3, hv4⟩ := hR.out
    by_cases hjl : j < ins.length
    · have hcell := hv3.cellAt j (by omega)
      rw [List.getElem?_eq_getElem (by omega)] at hcell
      have hfz := hv3.frozenAt j
      have hlt := lt_of_cell hcell
      generalize vs[j]'(by omega) = old at hcell
      have HNX : Hid (∃ vs : List Value, vs.length = ins.length ∧ (∀ t, t < j + 1 → vs[t]? = some (.int .i64 (-1))) ∧ (wr.setCell ⟨hb, j, none⟩ (.int .i64 (-1))).ownsRow w.heap.size 3 1 (.slice (some ⟨hb, 0, none⟩) ins.length ins.length) ins.length vs ∧ Fr (fun k => k = hb) w2 (wr.setCell ⟨hb, j, none⟩ (.int .i64 (-1)))) := by
        refine ⟨vs.set j (.int .i64 (-1)), by rw [List.length_set]; exact hv1, fun t ht => ?_, (hv3.stored j _).1, hv4.setCell (p := ⟨hb, j, none⟩) (.inl rfl) _⟩
        by_cases e : t = j
        · rw [e, List.getElem?_set_self (by omega)]
        · rw [List.getElem?_set_ne (fun h => e h.symm)]; exact hv2 t (by omega)
      clear hR hv1 hv2 hv3 hv4
      go_wp2
      go_roundw
      case rel => exact ⟨j + 1, by omega, by go_num, HNX.out⟩
      case measure => simp [intOf]; omega
    · have hje : j = ins.length := by omega
      have hvs : vs = (List.replicate ins.length (-1 : Int)).flatMap encZ := by
        rw [flatZ, List.map_replicate]
        apply List.ext_getElem?
        intro t
        by_cases ht : t < ins.length
        · rw [hv2 t (by omega), List.getElem?_replicate, if_pos ht]
        · rw [List.getElem?_eq_none (by omega), List.getElem?_eq_none (by simp; omega)]
      rw [hvs] at hv3
      have hFr : Fr nothing w wr := HF2.out.then hv4 (fun k hk e => by have := HNUM.out; omega)
      have hcc := (hv4.cell (p := ⟨cb, 2, none⟩) HX2.out.2 (fun e => by have h1 : cb = hb := e; have := HNUM.out; omega)).trans HX2.out.1
      obtain ⟨ca, hca⟩ : ∃ ca, ca = Value.slice sa ins.length sc := ⟨_, rfl⟩
      have hcc' : wr.cell? ⟨cb, 2, none⟩ = some ca := by rw [hca]; exact hcc
      have hFA : Fr nothing wr (wr.alloc (.cells #[.slice none 0 0] 90)) := (Fr.refl _ _).alloc _
      have hlr : hb < wr.heap.size := (hv3.lt hb rfl).2
      have hcr : cb < wr.heap.size := lt_of_cell hcc'
      have hma := made_cells (Fr.refl nothing (wr.alloc (.cells #[.slice none 0 0] 90))) id
      have hSt0 : GSt w hb cb wr.heap.size ca (List.replicate ins.length (-1)) [] nilS (wr.alloc (.cells #[.slice none 0 0] 90)) := by
        refine ⟨hFr.trans hFA, ⟨hma.1 0, hma.2.1 0, Own.nil _ _ _ _ _, fun b hb' => (by cases hb'), Nat.le_trans hFr.size hFA.size⟩, ?_, (hFA.cell (p := ⟨cb, 2, none⟩) hcr id).trans hcc', by have := HNUM.out; have := hFr.size; omega, fun k hk => by cases hk⟩
        rw [List.length_replicate]; exact owns_fr hv3 hFA (fun _ _ => id)
      have hun : unset (List.replicate ins.length (-1)) ≤ ins.length := by have := unset_le (List.replicate ins.length (-1)); simpa using this
      have HY0 := hide hSt0.y
      have HPOST : Hid (∀ w4, WyP w.heap.size wr.heap.size nilS ([] ++ [((0 : Int), (0 : Int))]) (wr.alloc (.cells #[.slice none 0 0] 90)) w4 → GIv w hb cb wr.heap.size ca ins (heightsC ins) (2 * ins.length + 2) (.int .i64 (0 : Nat)) w4) := by
        intro w4 hy
        obtain ⟨q', hg⟩ := hSt0.more hy
        refine ⟨0, q', [(0, 0)], List.replicate ins.length (-1), rfl, hg, by simp, by simp, by simp only [List.length_singleton]; omega, fun p hp => ?_, fun x hx => ?_, by simp only [List.length_singleton]; omega, rfl⟩
        · rw [List.mem_singleton.1 hp]
          exact ⟨by decide, by decide⟩
        · rw [(List.mem_replicate.1 hx).2]; exact Int.le_refl _
      obtain ⟨vb, hvb⟩ : ∃ x, x = wr.heap.size := ⟨_, rfl⟩
      obtain ⟨w3, hw3⟩ : ∃ x, x = wr.alloc (.cells #[.slice none 0 0] 90) := ⟨_, rfl⟩
      rw [← hvb, ← hw3] at HPOST HY0
      have hw3' := hw3.symm
      clear hR hv1 hv2 hv3 hv4 hvs hje hFr hcc hcc' hFA hSt0 hun hlr hcr hma hw3
      go_wp2_with (go_at_call 30; rw [← hvb]; refine (come_any w.heap.size vb nilS [] 0 0 w3 HY0.out (by decide)).mono ?_; rintro e w4 ⟨rfl, hy4⟩; have HST0 := hide (HPOST.out w4 hy4); clear hy4)
      rw [← hvb]
      clear hvb HPOST HY0 hw3'
      go_loopw [8, 9, 10, 11] (fun v8 _ _ _ wv => ∃ m, GIv w hb cb vb ca ins (heightsC ins) m v8 wv) (fun v8 _ _ _ wv => least (fun m => GIv w hb cb vb ca ins (heightsC ins) m v8 wv))
      case atStart => exact ⟨_, HST0.out⟩
      case round =>
        obtain ⟨hm, -⟩ := least_spec hrel
        generalize hm0 : least _ = m0 at hm
        have HM0 := hide hm0
        clear hm0 hrel
        obtain ⟨k, q, Q, h, rfl, st, hlen, hkQ, hQl, hQ2, hge, hfuel, hgo⟩ := hm
        have hqn := st.y.o.n
        obtain ⟨qaa, qan, qac⟩ := q
        simp only at hqn
        subst hqn
        have c0 := st.y.c
        have vl := st.y.lt
        simp only at c0
        by_cases hkl : k < Q.length
        · have hQk : Q[k]? = some Q[k] := List.getElem?_eq_getElem hkl
          have hdr : Q.drop k = Q[k] :: Q.drop (k + 1) := List.drop_eq_getElem_cons hkl
          have hmem : Q[k] ∈ Q := List.getElem_mem hkl
          generalize Q[k] = pn at hQk hdr hmem
          obtain ⟨a, n⟩ := pn
          have hn2 := hQ2 _ hmem
          simp only at hn2
          rw [hdr] at hgo
          obtain ⟨f, rfl⟩ : ∃ f, m0 = f + 1 := ⟨m0 - 1, by omega⟩
          have stw := st.new (Fr.refl nothing wr).drew
          obtain ⟨ga, oa, e1, dga, ua, uh⟩ := sl_elemP (s := ⟨qaa, Q.length, qac⟩) (stw.y.o.sl encP_len) (i := k) (z := (a, n)) hQk
          simp only at e1
          subst e1
          have c0w := stw.y.c
          have HSTW := hide stw
          have HGO0 := hide hgo
          clear st stw hgo hQk hmem
          go_wp2_with fail
          refine wp_region_held_drew (S := fun w' => w'.cell? ⟨vb, 0, none⟩ = some (.slice (some ⟨ga, oa, none⟩) Q.length qac) ∧ w'.cell? ⟨ga, oa + k * 2, none⟩ = some (.int .i64 a) ∧ w'.cell? ⟨ga, oa + k * 2 + 1, none⟩ = some (.int .i64 n)) (by kernel_rfl) ⟨c0w, ua, uh⟩ (fun hHeld => ?_)
          refine wpAnyH_take (i := 0) (oi := { dst := some 34, op := Op.load 90 (Operand.tmp 6), type := 90, pos := "verify.go:19", after := #[], guard := none }) (v := ?v1) rfl (by kernel_rfl) (by kernel_rfl) (by kernel_rfl) (fun _ _ _ h => h) (Or.inl ⟨by rfl, ?hy1⟩) (by assumption) ?rest1
          case hy1 => (intro w hSw; (try dsimp only at hSw); obtain ⟨hS1, hS2, hS3⟩ := hSw; go_simp; try with_reducible rfl)
          try simp only [Act.put, List.setIfInBounds_toArray, List.set_cons_zero, List.set_cons_succ]
          refine wpAnyH_take (i := 1) (oi := { dst := some 35, op := Op.move (Operand.tmp 8), type := 3, pos := "verify.go:19", after := #[], guard := none }) (v := ?v2) rfl (by kernel_rfl) (by kernel_rfl) (by kernel_rfl) (fun _ _ _ h => h) (Or.inl ⟨by rfl, ?hy2⟩) (by assumption) ?rest2
          case hy2 => (intro w hSw; (try dsimp only at hSw); obtain ⟨hS1, hS2, hS3⟩ := hSw; go_simp; try with_reducible rfl)
          try simp only [Act.put, List.setIfInBounds_toArray, List.set_cons_zero, List.set_cons_succ]
          refine wpAnyH_take (i := 2) (oi := { dst := some 36, op := Op.indexAddr 90 (Operand.tmp 34) (Operand.tmp 35), type := 0, pos := "verify.go:19", after := #[{ on := 0, ground := Ground.data }, { on := 1, ground := Ground.data }], guard := none }) (v := ?v3) rfl (by kernel_rfl) (by kernel_rfl) (by kernel_rfl) (fun _ _ _ h => h) (Or.inl ⟨by rfl, ?hy3⟩) (by assumption) ?rest3
          case hy3 => (intro w hSw; (try dsimp only at hSw); obtain ⟨hS1, hS2, hS3⟩ := hSw; go_simp; try with_reducible rfl)
          try simp only [Act.put, List.setIfInBounds_toArray, List.set_cons_zero, List.set_cons_succ]
          refine wpAnyH_take (i := 3) (oi := { dst := some 37, op := Op.fieldAddr 92 (Operand.tmp 36) 0, type := 0, pos := "verify.go:19", after := #[{ on := 2, ground := Ground.data }], guard := none }) (v := ?v4) rfl (by kernel_rfl) (by kernel_rfl) (by kernel_rfl) (fun _ _ _ h => h) (Or.inl ⟨by rfl, ?hy4⟩) (by assumption) ?rest4
          case hy4 => (intro w hSw; (try dsimp only at hSw); obtain ⟨hS1, hS2, hS3⟩ := hSw; go_simp; try with_reducible rfl)
          try simp only [Act.put, List.setIfInBounds_toArray, List.set_cons_zero, List.set_cons_succ]
          refine wpAnyH_take (i := 4) (oi := { dst := some 38, op := Op.load 3 (Operand.tmp 37), type := 3, pos := "verify.go:19", after := #[{ on := 3, ground := Ground.data }], guard := none }) (v := ?v5) rfl (by kernel_rfl) (by kernel_rfl) (by kernel_rfl) (fun _ _ _ h => h) (Or.inl ⟨by rfl, ?hy5⟩) (by assumption) ?rest5
          case hy5 => (intro w hSw; (try dsimp only at hSw); obtain ⟨hS1, hS2, hS3⟩ := hSw; go_simp; try with_reducible rfl)
          try simp only [Act.put, List.setIfInBounds_toArray, List.set_cons_zero, List.set_cons_succ]
          refine wpAnyH_take (i := 5) (oi := { dst := some 39, op := Op.load 90 (Operand.tmp 6), type := 90, pos := "verify.go:19", after := #[{ on := 10, ground := Ground.gcOnly Departure.lateStores }], guard := none }) (v := ?v6) rfl (by kernel_rfl) (by kernel_rfl) (by kernel_rfl) (fun _ _ _ h => h) (Or.inl ⟨by rfl, ?hy6⟩) (by assumption) ?rest6
          case hy6 => (intro w hSw; (try dsimp only at hSw); obtain ⟨hS1, hS2, hS3⟩ := hSw; go_simp; try with_reducible rfl)
          try simp only [Act.put, List.setIfInBounds_toArray, List.set_cons_zero, List.set_cons_succ]
          refine wpAnyH_take (i := 6) (oi := { dst := some 40, op := Op.move (Operand.tmp 8), type := 3, pos := "verify.go:19", after := #[{ on := 10, ground := Ground.gcOnly Departure.lateStores }], guard := none }) (v := ?v7) rfl (by kernel_rfl) (by kernel_rfl) (by kernel_rfl) (fun _ _ _ h => h) (Or.inl ⟨by rfl, ?hy7⟩) (by assumption) ?rest7
          case hy7 => (intro w hSw; (try dsimp only at hSw); obtain ⟨hS1, hS2, hS3⟩ := hSw; go_simp; try with_reducible rfl)
          try simp only [Act.put, List.setIfInBounds_toArray, List.set_cons_zero, List.set_cons_succ]
          refine wpAnyH_take (i := 7) (oi := { dst := some 41, op := Op.indexAddr 90 (Operand.tmp 39) (Operand.tmp 40), type := 0, pos := "verify.go:19", after := #[{ on := 5, ground := Ground.data }, { on := 6, ground := Ground.data }, { on := 10, ground := Ground.gcOnly Departure.lateStores }], guard := none }) (v := ?v8) rfl (by kernel_rfl) (by kernel_rfl) (by kernel_rfl) (fun _ _ _ h => h) (Or.inl ⟨by rfl, ?hy8⟩) (by assumption) ?rest8
          case hy8 => (intro w hSw; (try dsimp only at hSw); obtain ⟨hS1, hS2, hS3⟩ := hSw; go_simp; try with_reducible rfl)
          try simp only [Act.put, List.setIfInBounds_toArray, List.set_cons_zero, List.set_cons_succ]
          refine wpAnyH_take (i := 8) (oi := { dst := some 42, op := Op.fieldAddr 92 (Operand.tmp 41) 1, type := 0, pos := "verify.go:19", after := #[{ on := 7, ground := Ground.data }, { on := 10, ground := Ground.gcOnly Departure.lateStores }], guard := none }) (v := ?v9) rfl (by kernel_rfl) (by kernel_rfl) (by kernel_rfl) (fun _ _ _ h => h) (Or.inl ⟨by rfl, ?hy9⟩) (by assumption) ?rest9
          case hy9 => (intro w hSw; (try dsimp only at hSw); obtain ⟨hS1, hS2, hS3⟩ := hSw; go_simp; try with_reducible rfl)
          try simp only [Act.put, List.setIfInBounds_toArray, List.set_cons_zero, List.set_cons_succ]
          refine wpAnyH_take (i := 9) (oi := { dst := some 43, op := Op.load 3 (Operand.tmp 42), type := 3, pos := "verify.go:19", after := #[{ on := 8, ground := Ground.data }, { on := 10, ground := Ground.gcOnly Departure.lateStores }], guard := none }) (v := ?v10) rfl (by kernel_rfl) (by kernel_rfl) (by kernel_rfl) (fun _ _ _ h => h) (Or.inl ⟨by rfl, ?hy10⟩) (by assumption) ?rest10
          case hy10 => (intro w hSw; (try dsimp only at hSw); obtain ⟨hS1, hS2, hS3⟩ := hSw; go_simp; try with_reducible rfl)
          try simp only [Act.put, List.setIfInBounds_toArray, List.set_cons_zero, List.set_cons_succ]
          refine wpAnyH_take (i := 10) (oi := { dst := some 9, op := Op.assign (Operand.tmp 38), type := 3, pos := "verify.go:19", after := #[{ on := 4, ground := Ground.data }, { on := 0, ground := Ground.phase }, { on := 1, ground := Ground.phase }, { on := 2, ground := Ground.phase }, { on := 3, ground := Ground.phase }, { on := 4, ground := Ground.phase }, { on := 5, ground := Ground.textOnly Departure.lateStores }, { on := 6, ground := Ground.textOnly Departure.lateStores }, { on := 7, ground := Ground.textOnly Departure.lateStores }, { on := 8, ground := Ground.textOnly Departure.lateStores }, { on := 9, ground := Ground.textOnly Departure.lateStores }], guard := none }) (v := ?v11) rfl (by kernel_rfl) (by kernel_rfl) (by kernel_rfl) (fun _ _ _ h => h) (Or.inl ⟨by rfl, ?hy11⟩) (by assumption) ?rest11
          case hy11 => (intro w hSw; (try dsimp only at hSw); obtain ⟨hS1, hS2, hS3⟩ := hSw; go_simp; try with_reducible rfl)
          try simp only [Act.put, List.setIfInBounds_toArray, List.set_cons_zero, List.set_cons_succ]
          refine wpAnyH_take (i := 11) (oi := { dst := some 10, op := Op.assign (Operand.tmp 43), type := 3, pos := "verify.go:19", after := #[{ on := 9, ground := Ground.data }, { on := 10, ground := Ground.chain }, { on := 0, ground := Ground.phase }, { on := 1, ground := Ground.phase }, { on := 2, ground := Ground.phase }, { on := 3, ground := Ground.phase }, { on := 4, ground := Ground.phase }, { on := 5, ground := Ground.phase }, { on := 6, ground := Ground.phase }, { on := 7, ground := Ground.phase }, { on := 8, ground := Ground.phase }, { on := 9, ground := Ground.phase }, { on := 10, ground := Ground.phase }], guard := none }) (v := ?v12) rfl (by kernel_rfl) (by kernel_rfl) (by kernel_rfl) (fun _ _ _ h => h) (Or.inl ⟨by rfl, ?hy12⟩) (by assumption) ?rest12
          case hy12 => (intro w hSw; (try dsimp only at hSw); obtain ⟨hS1, hS2, hS3⟩ := hSw; go_simp; try with_reducible rfl)
          try simp only [Act.put, List.setIfInBounds_toArray, List.set_cons_zero, List.set_cons_succ]
          refine wpAnyH_done (by kernel_rfl) ?_ _
          clear hHeld ua uh c0w c0 vl dga
          generalize hwd : wr.drew = wd at *
          by_cases hin : 0 ≤ a ∧ a < (ins.length : Int)
          · obtain ⟨p, rfl⟩ : ∃ p : Nat, a = p := ⟨a.toNat, by omega⟩
            have hpl' : p < ins.length := by omega
            have hbw : betw (p : Int) 0 ((ins.length : Int) - 1) = true := decide_eq_true (by omega)
            have hhp : h[p]? = some (h[p]'(by omega)) := List.getElem?_eq_getElem _
            have hgd : h.getD p 0 = h[p]'(by omega) := by simp [List.getD, hhp]
            have hxg : -1 ≤ h[p]'(by omega) := hge _ (List.getElem_mem _)
            generalize h[p]'(by omega) = x at hhp hgd hxg
            have hcell := HSTW.out.hr.cellAt p (by omega)
            rw [flatZ, List.getElem?_map, hhp] at hcell
            simp only [Option.map_some] at hcell
            have hfz := HSTW.out.hr.frozenAt p
            have hbl := HSTW.out.hl.2
            by_cases hxn : x = n
            · have hgo := HGO0.out
              rw [hGo, if_neg (by rw [hlen]; omega)] at hgo
              simp only [Int.toNat_natCast] at hgo
              rw [hgd, if_neg (by omega), if_pos (by omega)] at hgo
              have HNX : Hid (GIv w hb cb vb ca ins (heightsC ins) f (.int .i64 (k + 1 : Nat)) wd) := ⟨k + 1, ⟨some ⟨ga, oa, none⟩, Q.length, qac⟩, Q, h, rfl, HSTW.out, hlen, by omega, hQl, hQ2, hge, by omega, hgo⟩
              subst hxn
              clear HGO0 hgo
              go_wp2_with (go_at_call 31; refine (within_any (p : Int) ins.length wd (by omega)).mono ?_; rintro e w5 ⟨rfl, hw5⟩; rw [hw5, hbw]; clear hw5)
              go_roundw
              case rel => exact ⟨f, HNX.out⟩
              case measure =>
                rw [HM0.out]
                exact least_lt (m := f) HNX.out (by omega)
            have hxb : (x == n) = false := by simpa using hxn
            by_cases hx1 : x = -1
            · subst hx1
              have hii : ins[p]? = some ins[p] := List.getElem?_eq_getElem hpl'
              have hig : ins.getD p ⟨0, 0, 0⟩ = ins[p] := by simp [List.getD, hii]
              have him : ins[p] ∈ ins := List.getElem_mem hpl'
              generalize ins[p] = it at hii hig him
              have hgo := HGO0.out
              rw [hGo_follow (by omega) hgd (by decide) hig] at hgo
              have hex := follow_ext it p n (hb17 it him)
              obtain ⟨gi, oi, e3, dgi, y0, y1, y2⟩ := sl_elemI (s := ⟨sa, ins.length, sc⟩) HS.out hii
              simp only at e3
              subst e3
              have hFd := HSTW.out.f
              rw [← hFd.cell (p := ⟨gi, _, none⟩) dgi id] at y0 y1 y2
              have egi : gi < wd.heap.size := Nat.lt_of_lt_of_le dgi hFd.size
              have nih : ¬ gi = hb := by have := HNUM.out; omega
              have nch : ¬ cb = hb := by have := HNUM.out; omega
              have hcd := HSTW.out.c
              have hcdl := HSTW.out.cl
              have hcd' : wd.cell? ⟨cb, 2, none⟩ = some (.slice (some ⟨gi, oi, none⟩) ins.length sc) := by rw [hcd, hca]
              have hun := unset_set h p (-1) n hhp (by decide) hn2.1
              have hst2 := HSTW.out.put p n
              have HFW := hide (follow_any it p n w.heap.size vb _ Q _ hst2.y (by omega) (hb17 it him) (by omega) hn2)
              have HST := hide hst2
              obtain ⟨fc, hfc⟩ : ∃ fc, followC it p n = fc := ⟨_, rfl⟩
              rw [hfc] at hgo hex HFW
              obtain ⟨er, ext⟩ := fc
              simp only at hgo hex HFW
              have HGG := hide hgo
              have HEX := hide hex
              have HHP := hide hhp
              clear hgo hex hst2 hFd hcd hii hig him hgd hhp hfc HGO0
              by_cases her : er = 0
              · subst her
                have HNX : Hid (∀ w6, WyP w.heap.size vb ⟨some ⟨ga, oa, none⟩, Q.length, qac⟩ (Q ++ ext) (wd.setCell ⟨hb, p, none⟩ (.int .i64 n)) w6 → GIv w hb cb vb ca ins (heightsC ins) f (.int .i64 (k + 1 : Nat)) w6) := by
                  intro w6 hy
                  obtain ⟨q', hg⟩ := HST.out.more hy
                  refine ⟨k + 1, q', Q ++ ext, h.set p n, rfl, hg, by rw [List.length_set]; exact hlen, by simp only [List.length_append]; omega, by have := HEX.out.1; simp only [List.length_append]; omega, fun z hz => (List.mem_append.1 hz).elim (hQ2 z) (fun hz => HEX.out.2 rfl z hz), fun x hx => ?_, by have := HEX.out.1; simp only [List.length_append]; omega, ?_⟩
                  · rcases List.mem_or_eq_of_mem_set hx with h1 | h1
                    · exact hge x h1
                    · rw [h1]; omega
                  · have := HGG.out
                    rw [if_neg (by simp)] at this
                    rw [List.drop_append_of_le_length (by omega)]
                    exact this
                go_wp2_with (first
                  | (go_at_call 31; refine (within_any (p : Int) ins.length wd (by omega)).mono ?_; rintro e w5 ⟨rfl, hw5⟩; rw [hw5, hbw]; clear hw5)
                  | (go_at_call 32; refine HFW.out.mono ?_; rintro e w6 ⟨rfl, hy6⟩; have HN6 := hide (HNX.out w6 hy6); clear hy6))
                go_roundw
                case rel => exact ⟨f, HN6.out⟩
                case measure =>
                  rw [HM0.out]
                  exact least_lt (m := f) HN6.out (by omega)
              · have herb : (er != 0) = true := by simpa using her
                have HR : Hid (heightsC ins = ([], er)) := by
                  have := HGG.out
                  rw [if_pos her] at this
                  exact this.symm
                have HF6 : Hid (∀ w6, WyP w.heap.size vb ⟨some ⟨ga, oa, none⟩, Q.length, qac⟩ (Q ++ ext) (wd.setCell ⟨hb, p, none⟩ (.int .i64 n)) w6 → Fr nothing w w6) := fun w6 hy => by
                  obtain ⟨q', hg⟩ := HST.out.more hy
                  exact hg.f
                go_wp2_with (first
                  | (go_at_call 31; refine (within_any (p : Int) ins.length wd (by omega)).mono ?_; rintro e w5 ⟨rfl, hw5⟩; rw [hw5, hbw]; clear hw5)
                  | (go_at_call 32; refine HFW.out.mono ?_; rintro e w6 ⟨rfl, hy6⟩; have HN6 := hide (HF6.out w6 hy6); clear hy6))
                exact bodyPost_ret (v := .tuple #[.slice none 0 0, .int .i64 er]) (by simp [results, Tryd.results13, go_sem]) rfl ⟨nilS, by rw [HR.out], HN6.out, by rw [HR.out]; exact sl_nil _ _ _, fun b hb' => by cases hb'⟩
            · have hx1b : (x != -1) = true := by simpa using hx1
              have HR : Hid (heightsC ins = ([], 10)) := by
                have hgo := HGO0.out
                rw [hGo, if_neg (by rw [hlen]; omega)] at hgo
                simp only [Int.toNat_natCast] at hgo
                rw [hgd, if_pos ⟨by omega, hxn⟩] at hgo
                exact hgo.symm
              have HF := hide HSTW.out.f
              clear HGO0
              go_wp2_with (go_at_call 31; refine (within_any (p : Int) ins.length wd (by omega)).mono ?_; rintro e w5 ⟨rfl, hw5⟩; rw [hw5, hbw]; clear hw5)
              exact bodyPost_ret (v := .tuple #[.slice none 0 0, .int .i64 10]) (by simp [results, Tryd.results13, go_sem]) rfl ⟨nilS, by rw [HR.out], HF.out, by rw [HR.out]; exact sl_nil _ _ _, fun b hb' => by cases hb'⟩
          · have hbw : betw a 0 ((ins.length : Int) - 1) = false := decide_eq_false (by omega)
            have HR : Hid (heightsC ins = ([], 8)) := by
              have := HGO0.out
              rw [hGo, if_pos (by rw [hlen]; omega)] at this
              exact this.symm
            have HF := hide HSTW.out.f
            clear HGO0
            go_wp2_with (go_at_call 31; refine (within_any a ins.length wd (by omega)).mono ?_; rintro e w5 ⟨rfl, hw5⟩; rw [hw5, hbw]; clear hw5)
            exact bodyPost_ret (v := .tuple #[.slice none 0 0, .int .i64 8]) (by simp [results, Tryd.results13, go_sem]) rfl ⟨nilS, by rw [HR.out], HF.out, by rw [HR.out]; exact sl_nil _ _ _, fun b hb' => by cases hb'⟩
        · have hdr : Q.drop k = [] := List.drop_eq_nil_of_le (by omega)
          rw [hdr] at hgo
          obtain ⟨f, rfl⟩ : ∃ f, m0 = f + 1 := ⟨m0 - 1, by omega⟩
          rw [hGo] at hgo
          have HGO := hide hgo
          have HF := hide st.f
          have HR : Hid (Sl encZ 1 wr (Slc.v ⟨some ⟨hb, 0, none⟩, ins.length, ins.length⟩) h) := by
            have := sl_of_owns encZ_len st.hr
            rw [hlen] at this
            exact this
          clear hgo st
          go_wp2_with fail
          exact bodyPost_ret (v := .tuple #[.slice (some ⟨hb, 0, none⟩) ins.length ins.length, .int .i64 0]) (by simp [results, Tryd.results13, go_sem]) rfl ⟨⟨some ⟨hb, 0, none⟩, ins.length, ins.length⟩, by rw [← HGO.out], HF.out, by rw [← HGO.out]; exact HR.out, fun b hb' => by have h1 : hb = b := Option.some.inj hb'; have := HNUM.out; omega⟩
end Go.Proofs.YtpemfikdmkmgbaaDoor
end
