/- Package verify: heights: the walk. -/
import Derived.Test.YtgocmpooppejdaaFHts0
set_option maxHeartbeats 0
set_option maxRecDepth 100000
namespace Go.Proofs.Ytgocmpooppejdaa
open Go Go.RowKit
theorem hGo_follow {ins : List In} {f : Nat} {h : List Int} {p : Nat} {n : Int} {q : List (Int × Int)} {it : In} {x : Int} (hp : p < h.length) (hx : h.getD p 0 = x) (hx0 : ¬ 0 ≤ x) (hi : ins.getD p ⟨0, 0, 0⟩ = it) :
    hGo ins (f + 1) h (((p : Int), n) :: q) = if (followC it p n).1 ≠ 0 then ([], (followC it p n).1) else hGo ins f (h.set p n) (q ++ (followC it p n).2) := by
  rw [hGo, if_neg (by omega)]
  simp only [Int.toNat_natCast]
  rw [hx, if_neg (by omega), if_neg hx0, hi]
  unfold followC
  by_cases h1 : n < (shapeC it).1 ∨ it.op = 18 ∧ 1 < n
  · rw [if_pos h1, if_pos h1]; rfl
  · rw [if_neg h1, if_neg h1]
    by_cases h2 : 16 < n - (shapeC it).1 + (shapeC it).2
    · rw [if_pos h2, if_pos h2]; rfl
    · rw [if_neg h2, if_neg h2]; rfl
theorem hGo_len (ins : List In) : ∀ (f : Nat) (h : List Int) (q : List (Int × Int)), (hGo ins f h q).2 = 0 → (hGo ins f h q).1.length = h.length
  | 0, h, q, _ => by rw [hGo]
  | f + 1, h, [], _ => by rw [hGo]
  | f + 1, h, (p, n) :: q, e => by
    rw [hGo] at e ⊢
    split at e
    · cases e
    rename_i h1
    rw [if_neg h1]
    split at e
    · cases e
    rename_i h2
    rw [if_neg h2]
    split at e
    · rename_i h3
      rw [if_pos h3]
      exact hGo_len ins f h q e
    rename_i h3
    rw [if_neg h3]
    split at e
    · cases e
    rename_i h4
    rw [if_neg h4]
    split at e
    · cases e
    rename_i h5
    rw [if_neg h5]
    rw [hGo_len ins f _ _ e, List.length_set]
theorem heights_len {ins : List In} (h : (heightsC ins).2 = 0) : (heightsC ins).1.length = ins.length := by
  unfold heightsC at h ⊢
  rw [hGo_len ins _ _ _ h, List.length_replicate]
theorem follow_ext (it : In) (p n : Int) (hb : it.op = 17 → 0 ≤ it.b) : (followC it p n).2.length ≤ 2 ∧ ((followC it p n).1 = 0 → ∀ z ∈ (followC it p n).2, 0 ≤ z.2 ∧ z.2 ≤ 16) := by
  unfold followC
  have hp := shape_pos it hb
  by_cases h1 : n < (shapeC it).1 ∨ it.op = 18 ∧ 1 < n
  · rw [if_pos h1]; exact ⟨by simp, fun _ z hz => by cases hz⟩
  · rw [if_neg h1]
    by_cases h2 : 16 < n - (shapeC it).1 + (shapeC it).2
    · rw [if_pos h2]; exact ⟨by simp, fun _ z hz => by cases hz⟩
    · rw [if_neg h2]
      refine ⟨?_, fun _ z hz => ?_⟩
      · unfold nextC
        rw [List.length_append]
        have a1 : (if it.op ≠ 15 ∧ it.op ≠ 18 then [(p + 1, n - (shapeC it).1 + (shapeC it).2)] else []).length ≤ 1 := by split <;> simp
        have a2 : (if it.op = 15 ∨ it.op = 16 then [(it.a, n - (shapeC it).1 + (shapeC it).2)] else []).length ≤ 1 := by split <;> simp
        exact Nat.add_le_add a1 a2
      · unfold nextC at hz
        rcases List.mem_append.1 hz with hz | hz
        · split at hz
          · rw [List.mem_singleton.1 hz]; exact ⟨by simp only; omega, by simp only; omega⟩
          · cases hz
        · split at hz
          · rw [List.mem_singleton.1 hz]; exact ⟨by simp only; omega, by simp only; omega⟩
          · cases hz
/-- What lies there while heights are told. -/
structure GSt (w0 : World) (hb cb vb : Nat) (ca : Value) (h : List Int) (Q : List (Int × Int)) (q : Slc) (w : World) : Prop where
  f : Fr nothing w0 w
  y : Wy w0.heap.size vb q Q w
  hr : w.ownsRow w0.heap.size 3 1 (.slice (some ⟨hb, 0, none⟩) h.length h.length) h.length (h.flatMap encZ)
  c : w.cell? ⟨cb, 2, none⟩ = some ca
  n : w0.heap.size ≤ cb ∧ cb ≠ hb ∧ cb ≠ vb ∧ hb ≠ vb ∧ w0.heap.size ≤ vb
  d : ∀ k, q.v.ownBlock = some k → k ≠ hb ∧ k ≠ cb
section
variable {w0 w w2 : World} {hb cb vb : Nat} {ca : Value} {h : List Int} {Q Q' : List (Int × Int)} {q : Slc}
theorem GSt.cl (s : GSt w0 hb cb vb ca h Q q w) : cb < w.heap.size := lt_of_cell s.c
theorem GSt.hl (s : GSt w0 hb cb vb ca h Q q w) : w0.heap.size ≤ hb ∧ hb < w.heap.size := s.hr.lt hb rfl
theorem GSt.new (s : GSt w0 hb cb vb ca h Q q w) (hf : Fr nothing w w2) : GSt w0 hb cb vb ca h Q q w2 :=
  ⟨s.f.trans hf, s.y.fr hf id (fun _ _ => id), owns_fr s.hr hf (fun _ _ => id), (hf.cell (p := ⟨cb, 2, none⟩) s.cl id).trans s.c, s.n, s.d⟩
theorem GSt.put (s : GSt w0 hb cb vb ca h Q q w) (i : Nat) (z : Int) : GSt w0 hb cb vb ca (h.set i z) Q q (w.setCell ⟨hb, i, none⟩ (.int .i64 z)) := by
  have hf : Fr (fun k => k = hb) w (w.setCell ⟨hb, i, none⟩ (.int .i64 z)) := (Fr.refl (fun k => k = hb) w).setCell (p := ⟨hb, i, none⟩) (.inl rfl) _
  refine ⟨s.f.then hf (fun k hk e => by have := s.hl.1; omega), s.y.fr hf (fun e => s.n.2.2.2.1 e.symm) (fun b hb' e => (s.d b hb').1 e), ?_, (hf.cell (p := ⟨cb, 2, none⟩) s.cl (fun e => s.n.2.1 e)).trans s.c, s.n, s.d⟩
  have h1 := (s.hr.stored i (.int .i64 z)).1
  rw [flatZ] at h1 ⊢
  rw [List.length_set, List.map_set]
  exact h1
theorem GSt.more (s : GSt w0 hb cb vb ca h Q q w) (hy : WyP w0.heap.size vb q Q' w w2) : ∃ q', GSt w0 hb cb vb ca h Q' q' w2 := by
  obtain ⟨q', y1, y2, y3⟩ := hy
  have n := s.n
  have hl := s.hl
  have cl := s.cl
  refine ⟨q', s.f.then y2 ?_, y1, owns_fr s.hr y2 ?_, (y2.cell (p := ⟨cb, 2, none⟩) s.cl ?_).trans s.c, s.n, fun k hk => ?_⟩
  · rintro k hk (e | e)
    · omega
    · have := (s.y.o.lt e).1; omega
  · rintro k hk (e | e)
    · obtain rfl : hb = k := Option.some.inj hk
      exact n.2.2.2.1 e
    · obtain rfl : hb = k := Option.some.inj hk
      exact (s.d _ e).1 rfl
  · rintro (e | e)
    · exact n.2.2.1 e
    · exact (s.d _ e).2 rfl
  · rcases y3 k hk with e | e
    · exact s.d k e
    · exact ⟨by omega, by omega⟩
end
/-- While heights are told: m rounds at most are left. -/
def GIv (w0 : World) (hb cb vb : Nat) (ca : Value) (ins : List In) (res : List Int × Int) (m : Nat) (v8 : Value) (w : World) : Prop :=
  ∃ (k : Nat) (q : Slc) (Q : List (Int × Int)) (h : List Int), v8 = .int .i64 k ∧ GSt w0 hb cb vb ca h Q q w ∧ h.length = ins.length ∧ k ≤ Q.length ∧ Q.length + 2 * unset h ≤ 1 + 2 * ins.length ∧ (∀ p ∈ Q, 0 ≤ p.2 ∧ p.2 ≤ 16) ∧ (∀ x ∈ h, -1 ≤ x) ∧ 2 * unset h + (Q.length - k) < m ∧ hGo ins m h (Q.drop k) = res
theorem sl_elemP {w : World} {s : Slc} {l : List (Int × Int)} (h : Sl encP 2 w s.v l) {i : Nat} {z : Int × Int} (hi : l[i]? = some z) : ∃ b off, s.a = some ⟨b, off, none⟩ ∧ b < w.heap.size ∧ w.cell? ⟨b, off + i * 2, none⟩ = some (.int .i64 z.1) ∧ w.cell? ⟨b, off + i * 2 + 1, none⟩ = some (.int .i64 z.2) := by
  obtain ⟨ao, cap, he, _, hc⟩ := h
  obtain ⟨b, off, rfl, hb, hcell⟩ := hc i z hi
  simp only [Value.slice.injEq] at he
  exact ⟨b, off, he.1, hb, hcell 0 _ rfl, hcell 1 _ rfl⟩
/-- What Heights answers. -/
def HtQ (w : World) (res : List Int × Int) (e : Ending) (w' : World) : Prop := ∃ sl : Slc, e = .returned (.tuple #[.slice sl.a sl.n sl.c, .int .i64 res.2]) ∧ Fr nothing w w' ∧ Sl encZ 1 w' sl.v res.1 ∧ ∀ b, sl.v.ownBlock = some b → w.heap.size ≤ b
theorem vheights_any (ins : List In) (np nv : Int) (s : Slc) (w : World) (hS : Sl encI 3 w s.v ins) (hl : ins.length ≤ 100000) (hb17 : ∀ i ∈ ins, i.op = 17 → 0 ≤ i.b) :
    Calls Try.prog 8 #[.agg #[.int .i64 np, .int .i64 nv, .slice s.a s.n s.c]] w (HtQ w (heightsC ins)) := by
  obtain ⟨hsn, hsm⟩ := sl_len hS
  obtain ⟨sa, sn, sc⟩ := s
  simp only at hsn
  subst hsn
  obtain ⟨j0, hj0, hy0, hy1, hy2⟩ := info_parts sizeInt
  have hF1 : Fr nothing w (w.alloc (.cells #[.int .i64 np, .int .i64 nv, .slice sa ins.length sc] 37)) := (Fr.refl _ _).alloc _
  have hc := made_cells (Fr.refl nothing (w.alloc (.cells #[.int .i64 np, .int .i64 nv, .slice sa ins.length sc] 37))) id
  have hs1 : (w.alloc (.cells #[.int .i64 np, .int .i64 nv, .slice sa ins.length sc] 37)).heap.size = w.heap.size + 1 := by simp
  obtain ⟨w1, hw1⟩ : ∃ x, x = w.alloc (.cells #[.int .i64 np, .int .i64 nv, .slice sa ins.length sc] 37) := ⟨_, rfl⟩
  rw [← hw1] at hF1 hc hs1
  obtain ⟨w2, hmk, hrow, hgr⟩ := run_makeSlice_full (P := Try.prog) w1 w.heap.size 38 3 j0 _ 1 Try.underlying38 hj0 hy0 hy1 .i64 .i64 ins.length (by omega) (by rw [hy2]; omega) (by unfold maxLen; omega) hF1.size
  have hF12 : Fr nothing w1 w2 := (Fr.refl nothing w1).grown hgr (fun k hk => by cases hk)
  have hF2 : Fr nothing w w2 := hF1.trans hF12
  rw [hs1] at hmk hrow
  have c2 := hc.1 2
  have cl := hc.2.2
  have hlen : (madeCells (Value.cells (.int .i64 0)) (ins.length * 1)).toList.length = ins.length := by
    rw [Array.length_toList, size_madeCells]; omega
  generalize (madeCells (Value.cells (.int .i64 0)) (ins.length * 1)).toList = vs0 at hrow hlen
  have x2 := (hF12.cell (p := ⟨w.heap.size, 2, none⟩) cl id).trans c2
  have xl := Nat.lt_of_lt_of_le cl hF12.size
  obtain ⟨cb, hcb⟩ : ∃ x, x = w.heap.size := ⟨_, rfl⟩
  obtain ⟨hb, hhb⟩ : ∃ x, x = w.heap.size + 1 := ⟨_, rfl⟩
  rw [← hhb] at hmk hrow
  rw [← hcb] at x2 xl
  have HNUM := hide (And.intro hcb hhb)
  have HROW := hide hrow
  have HF2 := hide hF2
  have HS := hide hS
  have HX2 := hide (And.intro x2 xl)
  have hw1' : w.alloc (.cells #[.int .i64 np, .int .i64 nv, .slice sa ins.length sc] 37) = w1 := hw1.symm
  clear hF1 hF12 hF2 hc hs1 hgr hrow hS hw1 hhb x2 xl hj0 hy0 hy1 hy2 hsm
  go_enter Try.func8, Try.ntmps8
  go_wp2
  rw [← hcb]
  clear hcb c2 cl hw1' hmk
  go_loopw [18, 5] (fun i _ wv => ∃ (j : Nat), j ≤ ins.length ∧ i = .int .i64 j ∧ Hid (∃ vs : List Value, vs.length = ins.length ∧ (∀ t, t < j → vs[t]? = some (.int .i64 (-1))) ∧ wv.ownsRow w.heap.size 3 1 (.slice (some ⟨hb, 0, none⟩) ins.length ins.length) ins.length vs ∧ Fr (fun k => k = hb) w2 wv)) (fun i _ _ => ins.length - (intOf i).toNat)
  case atStart => exact ⟨0, Nat.zero_le _, rfl, vs0, hlen, fun t ht => by omega, HROW.out, Fr.refl _ _⟩
  case round =>
    obtain ⟨j, hj, rfl, hR⟩ := hrel
    obtain ⟨vs, hv1, hv2, hv3, hv4⟩ := hR.out
    by_cases hjl : j < ins.length
    · have hcell := hv3.cellAt j (by omega)
      rw [List.getElem?_eq_getElem (by omega)] at hcell
      have hfz := hv3.frozenAt j
      have hlt := lt_of_cell hcell
      generalize vs[j]'(by omega) = old at hcell
      have HNX : Hid (∃ vs : List Value, vs.length = ins.length ∧ (∀ t, t < j + 1 → vs[t]? = some (.int .i64 (-1))) ∧ (wr.setCell ⟨hb, j, none⟩ (.int .i64 (-1))).ownsRow w.heap.size 3 1 (.slice (some ⟨hb, 0, none⟩) ins.length ins.length) ins.length vs ∧ Fr (fun k => k = hb) w2 (wr.setCell ⟨hb, j, none⟩ (.int .i64 (-1)))) := by
        refine ⟨vs.set j (.int .i64 (-1)), by rw [List.length_set]; exact hv1, fun t ht => ?_, (hv3.stored j _).1, hv4.setCell (p := ⟨hb, j, none⟩) (.inl rfl) _⟩
        by_cases e : t = j
        · rw [e, List.getElem?_set_self (by omega)]
        · rw [List.getElem?_set_ne (fun h => e h.symm)]; exact hv2 t (by omega)
      clear hR hv1 hv2 hv3 hv4
      go_wp2
      go_roundw
      case rel => exact ⟨j + 1, by omega, by go_num, HNX.out⟩
      case measure => simp [intOf]; omega
    · have hje : j = ins.length := by omega
      have hvs : vs = (List.replicate ins.length (-1 : Int)).flatMap encZ := by
        rw [flatZ, List.map_replicate]
        apply List.ext_getElem?
        intro t
        by_cases ht : t < ins.length
        · rw [hv2 t (by omega), List.getElem?_replicate, if_pos ht]
        · rw [List.getElem?_eq_none (by omega), List.getElem?_eq_none (by simp; omega)]
      rw [hvs] at hv3
      have hFr : Fr nothing w wr := HF2.out.then hv4 (fun k hk e => by have := HNUM.out; omega)
      have hcc := (hv4.cell (p := ⟨cb, 2, none⟩) HX2.out.2 (fun e => by have h1 : cb = hb := e; have := HNUM.out; omega)).trans HX2.out.1
      obtain ⟨ca, hca⟩ : ∃ ca, ca = Value.slice sa ins.length sc := ⟨_, rfl⟩
      have hcc' : wr.cell? ⟨cb, 2, none⟩ = some ca := by rw [hca]; exact hcc
      have hFA : Fr nothing wr (wr.alloc (.cells #[.slice none 0 0] 64)) := (Fr.refl _ _).alloc _
      have hlr : hb < wr.heap.size := (hv3.lt hb rfl).2
      have hcr : cb < wr.heap.size := lt_of_cell hcc'
      have hma := made_cells (Fr.refl nothing (wr.alloc (.cells #[.slice none 0 0] 64))) id
      have hSt0 : GSt w hb cb wr.heap.size ca (List.replicate ins.length (-1)) [] nilS (wr.alloc (.cells #[.slice none 0 0] 64)) := by
        refine ⟨hFr.trans hFA, ⟨hma.1 0, hma.2.1 0, Own.nil _ _ _ _ _, fun b hb' => (by cases hb'), Nat.le_trans hFr.size hFA.size⟩, ?_, (hFA.cell (p := ⟨cb, 2, none⟩) hcr id).trans hcc', by have := HNUM.out; have := hFr.size; omega, fun k hk => by cases hk⟩
        rw [List.length_replicate]; exact owns_fr hv3 hFA (fun _ _ => id)
      have hun : unset (List.replicate ins.length (-1)) ≤ ins.length := by have := unset_le (List.replicate ins.length (-1)); simpa using this
      have HY0 := hide hSt0.y
      have HPOST : Hid (∀ w4, WyP w.heap.size wr.heap.size nilS ([] ++ [((0 : Int), (0 : Int))]) (wr.alloc (.cells #[.slice none 0 0] 64)) w4 → GIv w hb cb wr.heap.size ca ins (heightsC ins) (2 * ins.length + 2) (.int .i64 (0 : Nat)) w4) := by
        intro w4 hy
        obtain ⟨q', hg⟩ := hSt0.more hy
        refine ⟨0, q', [(0, 0)], List.replicate ins.length (-1), rfl, hg, by simp, by simp, by simp only [List.length_singleton]; omega, fun p hp => ?_, fun x hx => ?_, by simp only [List.length_singleton]; omega, rfl⟩
        · rw [List.mem_singleton.1 hp]
          exact ⟨by decide, by decide⟩
        · rw [(List.mem_replicate.1 hx).2]; exact Int.le_refl _
      obtain ⟨vb, hvb⟩ : ∃ x, x = wr.heap.size := ⟨_, rfl⟩
      obtain ⟨w3, hw3⟩ : ∃ x, x = wr.alloc (.cells #[.slice none 0 0] 64) := ⟨_, rfl⟩
      rw [← hvb, ← hw3] at HPOST HY0
      have hw3' := hw3.symm
      clear hR hv1 hv2 hv3 hv4 hvs hje hFr hcc hcc' hFA hSt0 hun hlr hcr hma hw3
      go_wp2_with (go_at_call 18; rw [← hvb]; refine (come_any w.heap.size vb nilS [] 0 0 w3 HY0.out (by decide)).mono ?_; rintro e w4 ⟨rfl, hy4⟩; have HST0 := hide (HPOST.out w4 hy4); clear hy4)
      rw [← hvb]
      clear hvb HPOST HY0 hw3'
      go_loopw [8, 9, 10, 11] (fun v8 _ _ _ wv => ∃ m, GIv w hb cb vb ca ins (heightsC ins) m v8 wv) (fun v8 _ _ _ wv => least (fun m => GIv w hb cb vb ca ins (heightsC ins) m v8 wv))
      case atStart => exact ⟨_, HST0.out⟩
      case round =>
        obtain ⟨hm, -⟩ := least_spec hrel
        generalize hm0 : least _ = m0 at hm
        have HM0 := hide hm0
        clear hm0 hrel
        obtain ⟨k, q, Q, h, rfl, st, hlen, hkQ, hQl, hQ2, hge, hfuel, hgo⟩ := hm
        have hqn := st.y.o.n
        obtain ⟨qaa, qan, qac⟩ := q
        simp only at hqn
        subst hqn
        have c0 := st.y.c
        have vl := st.y.lt
        simp only at c0
        by_cases hkl : k < Q.length
        · have hQk : Q[k]? = some Q[k] := List.getElem?_eq_getElem hkl
          have hdr : Q.drop k = Q[k] :: Q.drop (k + 1) := List.drop_eq_getElem_cons hkl
          have hmem : Q[k] ∈ Q := List.getElem_mem hkl
          generalize Q[k] = pn at hQk hdr hmem
          obtain ⟨a, n⟩ := pn
          have hn2 := hQ2 _ hmem
          simp only at hn2
          rw [hdr] at hgo
          obtain ⟨f, rfl⟩ : ∃ f, m0 = f + 1 := ⟨m0 - 1, by omega⟩
          have stw := st.new (Fr.refl nothing wr).drew
          obtain ⟨ga, oa, e1, dga, ua, uh⟩ := sl_elemP (s := ⟨qaa, Q.length, qac⟩) (stw.y.o.sl encP_len) (i := k) (z := (a, n)) hQk
          simp only at e1
          subst e1
          have c0w := stw.y.c
          have HSTW := hide stw
          have HGO0 := hide hgo
          clear st stw hgo hQk hmem
          go_wp2_with fail
          refine wp_region_held_drew (S := fun w' => w'.cell? ⟨vb, 0, none⟩ = some (.slice (some ⟨ga, oa, none⟩) Q.length qac) ∧ w'.cell? ⟨ga, oa + k * 2, none⟩ = some (.int .i64 a) ∧ w'.cell? ⟨ga, oa + k * 2 + 1, none⟩ = some (.int .i64 n)) (by kernel_rfl) ⟨c0w, ua, uh⟩ (fun hHeld => ?_)
          refine wpAnyH_take (i := 0) (oi := { dst := some 34, op := Op.load 64 (Operand.tmp 6), type := 64, pos := "verify.go:19", after := #[], guard := none }) (v := ?v1) rfl (by kernel_rfl) (by kernel_rfl) (by kernel_rfl) (fun _ _ _ h => h) (Or.inl ⟨by rfl, ?hy1⟩) (by assumption) ?rest1
          case hy1 => (intro w hSw; (try dsimp only at hSw); obtain ⟨hS1, hS2, hS3⟩ := hSw; go_simp; try with_reducible rfl)
          try simp only [Act.put, List.setIfInBounds_toArray, List.set_cons_zero, List.set_cons_succ]
          refine wpAnyH_take (i := 1) (oi := { dst := some 35, op := Op.move (Operand.tmp 8), type := 3, pos := "verify.go:19", after := #[], guard := none }) (v := ?v2) rfl (by kernel_rfl) (by kernel_rfl) (by kernel_rfl) (fun _ _ _ h => h) (Or.inl ⟨by rfl, ?hy2⟩) (by assumption) ?rest2
          case hy2 => (intro w hSw; (try dsimp only at hSw); obtain ⟨hS1, hS2, hS3⟩ := hSw; go_simp; try with_reducible rfl)
          try simp only [Act.put, List.setIfInBounds_toArray, List.set_cons_zero, List.set_cons_succ]
          refine wpAnyH_take (i := 2) (oi := { dst := some 36, op := Op.indexAddr 64 (Operand.tmp 34) (Operand.tmp 35), type := 0, pos := "verify.go:19", after := #[{ on := 0, ground := Ground.data }, { on := 1, ground := Ground.data }], guard := none }) (v := ?v3) rfl (by kernel_rfl) (by kernel_rfl) (by kernel_rfl) (fun _ _ _ h => h) (Or.inl ⟨by rfl, ?hy3⟩) (by assumption) ?rest3
          case hy3 => (intro w hSw; (try dsimp only at hSw); obtain ⟨hS1, hS2, hS3⟩ := hSw; go_simp; try with_reducible rfl)
          try simp only [Act.put, List.setIfInBounds_toArray, List.set_cons_zero, List.set_cons_succ]
          refine wpAnyH_take (i := 3) (oi := { dst := some 37, op := Op.fieldAddr 66 (Operand.tmp 36) 0, type := 0, pos := "verify.go:19", after := #[{ on := 2, ground := Ground.data }], guard := none }) (v := ?v4) rfl (by kernel_rfl) (by kernel_rfl) (by kernel_rfl) (fun _ _ _ h => h) (Or.inl ⟨by rfl, ?hy4⟩) (by assumption) ?rest4
          case hy4 => (intro w hSw; (try dsimp only at hSw); obtain ⟨hS1, hS2, hS3⟩ := hSw; go_simp; try with_reducible rfl)
          try simp only [Act.put, List.setIfInBounds_toArray, List.set_cons_zero, List.set_cons_succ]
          refine wpAnyH_take (i := 4) (oi := { dst := some 38, op := Op.load 3 (Operand.tmp 37), type := 3, pos := "verify.go:19", after := #[{ on := 3, ground := Ground.data }], guard := none }) (v := ?v5) rfl (by kernel_rfl) (by kernel_rfl) (by kernel_rfl) (fun _ _ _ h => h) (Or.inl ⟨by rfl, ?hy5⟩) (by assumption) ?rest5
          case hy5 => (intro w hSw; (try dsimp only at hSw); obtain ⟨hS1, hS2, hS3⟩ := hSw; go_simp; try with_reducible rfl)
          try simp only [Act.put, List.setIfInBounds_toArray, List.set_cons_zero, List.set_cons_succ]
          refine wpAnyH_take (i := 5) (oi := { dst := some 39, op := Op.load 64 (Operand.tmp 6), type := 64, pos := "verify.go:19", after := #[{ on := 10, ground := Ground.gcOnly Departure.lateStores }], guard := none }) (v := ?v6) rfl (by kernel_rfl) (by kernel_rfl) (by kernel_rfl) (fun _ _ _ h => h) (Or.inl ⟨by rfl, ?hy6⟩) (by assumption) ?rest6
          case hy6 => (intro w hSw; (try dsimp only at hSw); obtain ⟨hS1, hS2, hS3⟩ := hSw; go_simp; try with_reducible rfl)
          try simp only [Act.put, List.setIfInBounds_toArray, List.set_cons_zero, List.set_cons_succ]
          refine wpAnyH_take (i := 6) (oi := { dst := some 40, op := Op.move (Operand.tmp 8), type := 3, pos := "verify.go:19", after := #[{ on := 10, ground := Ground.gcOnly Departure.lateStores }], guard := none }) (v := ?v7) rfl (by kernel_rfl) (by kernel_rfl) (by kernel_rfl) (fun _ _ _ h => h) (Or.inl ⟨by rfl, ?hy7⟩) (by assumption) ?rest7
          case hy7 => (intro w hSw; (try dsimp only at hSw); obtain ⟨hS1, hS2, hS3⟩ := hSw; go_simp; try with_reducible rfl)
          try simp only [Act.put, List.setIfInBounds_toArray, List.set_cons_zero, List.set_cons_succ]
          refine wpAnyH_take (i := 7) (oi := { dst := some 41, op := Op.indexAddr 64 (Operand.tmp 39) (Operand.tmp 40), type := 0, pos := "verify.go:19", after := #[{ on := 5, ground := Ground.data }, { on := 6, ground := Ground.data }, { on := 10, ground := Ground.gcOnly Departure.lateStores }], guard := none }) (v := ?v8) rfl (by kernel_rfl) (by kernel_rfl) (by kernel_rfl) (fun _ _ _ h => h) (Or.inl ⟨by rfl, ?hy8⟩) (by assumption) ?rest8
          case hy8 => (intro w hSw; (try dsimp only at hSw); obtain ⟨hS1, hS2, hS3⟩ := hSw; go_simp; try with_reducible rfl)
          try simp only [Act.put, List.setIfInBounds_toArray, List.set_cons_zero, List.set_cons_succ]
          refine wpAnyH_take (i := 8) (oi := { dst := some 42, op := Op.fieldAddr 66 (Operand.tmp 41) 1, type := 0, pos := "verify.go:19", after := #[{ on := 7, ground := Ground.data }, { on := 10, ground := Ground.gcOnly Departure.lateStores }], guard := none }) (v := ?v9) rfl (by kernel_rfl) (by kernel_rfl) (by kernel_rfl) (fun _ _ _ h => h) (Or.inl ⟨by rfl, ?hy9⟩) (by assumption) ?rest9
          case hy9 => (intro w hSw; (try dsimp only at hSw); obtain ⟨hS1, hS2, hS3⟩ := hSw; go_simp; try with_reducible rfl)
          try simp only [Act.put, List.setIfInBounds_toArray, List.set_cons_zero, List.set_cons_succ]
          refine wpAnyH_take (i := 9) (oi := { dst := some 43, op := Op.load 3 (Operand.tmp 42), type := 3, pos := "verify.go:19", after := #[{ on := 8, ground := Ground.data }, { on := 10, ground := Ground.gcOnly Departure.lateStores }], guard := none }) (v := ?v10) rfl (by kernel_rfl) (by kernel_rfl) (by kernel_rfl) (fun _ _ _ h => h) (Or.inl ⟨by rfl, ?hy10⟩) (by assumption) ?rest10
          case hy10 => (intro w hSw; (try dsimp only at hSw); obtain ⟨hS1, hS2, hS3⟩ := hSw; go_simp; try with_reducible rfl)
          try simp only [Act.put, List.setIfInBounds_toArray, List.set_cons_zero, List.set_cons_succ]
          refine wpAnyH_take (i := 10) (oi := { dst := some 9, op := Op.assign (Operand.tmp 38), type := 3, pos := "verify.go:19", after := #[{ on := 4, ground := Ground.data }, { on := 0, ground := Ground.phase }, { on := 1, ground := Ground.phase }, { on := 2, ground := Ground.phase }, { on := 3, ground := Ground.phase }, { on := 4, ground := Ground.phase }, { on := 5, ground := Ground.textOnly Departure.lateStores }, { on := 6, ground := Ground.textOnly Departure.lateStores }, { on := 7, ground := Ground.textOnly Departure.lateStores }, { on := 8, ground := Ground.textOnly Departure.lateStores }, { on := 9, ground := Ground.textOnly Departure.lateStores }], guard := none }) (v := ?v11) rfl (by kernel_rfl) (by kernel_rfl) (by kernel_rfl) (fun _ _ _ h => h) (Or.inl ⟨by rfl, ?hy11⟩) (by assumption) ?rest11
          case hy11 => (intro w hSw; (try dsimp only at hSw); obtain ⟨hS1, hS2, hS3⟩ := hSw; go_simp; try with_reducible rfl)
          try simp only [Act.put, List.setIfInBounds_toArray, List.set_cons_zero, List.set_cons_succ]
          refine wpAnyH_take (i := 11) (oi := { dst := some 10, op := Op.assign (Operand.tmp 43), type := 3, pos := "verify.go:19", after := #[{ on := 9, ground := Ground.data }, { on := 10, ground := Ground.chain }, { on := 0, ground := Ground.phase }, { on := 1, ground := Ground.phase }, { on := 2, ground := Ground.phase }, { on := 3, ground := Ground.phase }, { on := 4, ground := Ground.phase }, { on := 5, ground := Ground.phase }, { on := 6, ground := Ground.phase }, { on := 7, ground := Ground.phase }, { on := 8, ground := Ground.phase }, { on := 9, ground := Ground.phase }, { on := 10, ground := Ground.phase }], guard := none }) (v := ?v12) rfl (by kernel_rfl) (by kernel_rfl) (by kernel_rfl) (fun _ _ _ h => h) (Or.inl ⟨by rfl, ?hy12⟩) (by assumption) ?rest12
          case hy12 => (intro w hSw; (try dsimp only at hSw); obtain ⟨hS1, hS2, hS3⟩ := hSw; go_simp; try with_reducible rfl)
          try simp only [Act.put, List.setIfInBounds_toArray, List.set_cons_zero, List.set_cons_succ]
          refine wpAnyH_done (by kernel_rfl) ?_ _
          clear hHeld ua uh c0w c0 vl dga
          generalize hwd : wr.drew = wd at *
          by_cases hin : 0 ≤ a ∧ a < (ins.length : Int)
          · obtain ⟨p, rfl⟩ : ∃ p : Nat, a = p := ⟨a.toNat, by omega⟩
            have hpl' : p < ins.length := by omega
            have hbw : betw (p : Int) 0 ((ins.length : Int) - 1) = true := decide_eq_true (by omega)
            have hhp : h[p]? = some (h[p]'(by omega)) := List.getElem?_eq_getElem _
            have hgd : h.getD p 0 = h[p]'(by omega) := by simp [List.getD, hhp]
            have hxg : -1 ≤ h[p]'(by omega) := hge _ (List.getElem_mem _)
            generalize h[p]'(by omega) = x at hhp hgd hxg
            have hcell := HSTW.out.hr.cellAt p (by omega)
            rw [flatZ, List.getElem?_map, hhp] at hcell
            simp only [Option.map_some] at hcell
            have hfz := HSTW.out.hr.frozenAt p
            have hbl := HSTW.out.hl.2
            by_cases hxn : x = n
            · have hgo := HGO0.out
              rw [hGo, if_neg (by rw [hlen]; omega)] at hgo
              simp only [Int.toNat_natCast] at hgo
              rw [hgd, if_neg (by omega), if_pos (by omega)] at hgo
              have HNX : Hid (GIv w hb cb vb ca ins (heightsC ins) f (.int .i64 (k + 1 : Nat)) wd) := ⟨k + 1, ⟨some ⟨ga, oa, none⟩, Q.length, qac⟩, Q, h, rfl, HSTW.out, hlen, by omega, hQl, hQ2, hge, by omega, hgo⟩
              subst hxn
              clear HGO0 hgo
              go_wp2_with (go_at_call 19; refine (within_any (p : Int) ins.length wd (by omega)).mono ?_; rintro e w5 ⟨rfl, hw5⟩; rw [hw5, hbw]; clear hw5)
              go_roundw
              case rel => exact ⟨f, HNX.out⟩
              case measure =>
                rw [HM0.out]
                exact least_lt (m := f) HNX.out (by omega)
            have hxb : (x == n) = false := by simpa using hxn
            by_cases hx1 : x = -1
            · subst hx1
              have hii : ins[p]? = some ins[p] := List.getElem?_eq_getElem hpl'
              have hig : ins.getD p ⟨0, 0, 0⟩ = ins[p] := by simp [List.getD, hii]
              have him : ins[p] ∈ ins := List.getElem_mem hpl'
              generalize ins[p] = it at hii hig him
              have hgo := HGO0.out
              rw [hGo_follow (by omega) hgd (by decide) hig] at hgo
              have hex := follow_ext it p n (hb17 it him)
              obtain ⟨gi, oi, e3, dgi, y0, y1, y2⟩ := sl_elemI (s := ⟨sa, ins.length, sc⟩) HS.out hii
              simp only at e3
              subst e3
              have hFd := HSTW.out.f
              rw [← hFd.cell (p := ⟨gi, _, none⟩) dgi id] at y0 y1 y2
              have egi : gi < wd.heap.size := Nat.lt_of_lt_of_le dgi hFd.size
              have nih : ¬ gi = hb := by have := HNUM.out; omega
              have nch : ¬ cb = hb := by have := HNUM.out; omega
              have hcd := HSTW.out.c
              have hcdl := HSTW.out.cl
              have hcd' : wd.cell? ⟨cb, 2, none⟩ = some (.slice (some ⟨gi, oi, none⟩) ins.length sc) := by rw [hcd, hca]
              have hun := unset_set h p (-1) n hhp (by decide) hn2.1
              have hst2 := HSTW.out.put p n
              have HFW := hide (follow_any it p n w.heap.size vb _ Q _ hst2.y (by omega) (hb17 it him) (by omega) hn2)
              have HST := hide hst2
              obtain ⟨fc, hfc⟩ : ∃ fc, followC it p n = fc := ⟨_, rfl⟩
              rw [hfc] at hgo hex HFW
              obtain ⟨er, ext⟩ := fc
              simp only at hgo hex HFW
              have HGG := hide hgo
              have HEX := hide hex
              have HHP := hide hhp
              clear hgo hex hst2 hFd hcd hii hig him hgd hhp hfc HGO0
              by_cases her : er = 0
              · subst her
                have HNX : Hid (∀ w6, WyP w.heap.size vb ⟨some ⟨ga, oa, none⟩, Q.length, qac⟩ (Q ++ ext) (wd.setCell ⟨hb, p, none⟩ (.int .i64 n)) w6 → GIv w hb cb vb ca ins (heightsC ins) f (.int .i64 (k + 1 : Nat)) w6) := by
                  intro w6 hy
                  obtain ⟨q', hg⟩ := HST.out.more hy
                  refine ⟨k + 1, q', Q ++ ext, h.set p n, rfl, hg, by rw [List.length_set]; exact hlen, by simp only [List.length_append]; omega, by have := HEX.out.1; simp only [List.length_append]; omega, fun z hz => (List.mem_append.1 hz).elim (hQ2 z) (fun hz => HEX.out.2 rfl z hz), fun x hx => ?_, by have := HEX.out.1; simp only [List.length_append]; omega, ?_⟩
                  · rcases List.mem_or_eq_of_mem_set hx with h1 | h1
                    · exact hge x h1
                    · rw [h1]; omega
                  · have := HGG.out
                    rw [if_neg (by simp)] at this
                    rw [List.drop_append_of_le_length (by omega)]
                    exact this
                go_wp2_with (first
                  | (go_at_call 19; refine (within_any (p : Int) ins.length wd (by omega)).mono ?_; rintro e w5 ⟨rfl, hw5⟩; rw [hw5, hbw]; clear hw5)
                  | (go_at_call 20; refine HFW.out.mono ?_; rintro e w6 ⟨rfl, hy6⟩; have HN6 := hide (HNX.out w6 hy6); clear hy6))
                go_roundw
                case rel => exact ⟨f, HN6.out⟩
                case measure =>
                  rw [HM0.out]
                  exact least_lt (m := f) HN6.out (by omega)
              · have herb : (er != 0) = true := by simpa using her
                have HR : Hid (heightsC ins = ([], er)) := by
                  have := HGG.out
                  rw [if_pos her] at this
                  exact this.symm
                have HF6 : Hid (∀ w6, WyP w.heap.size vb ⟨some ⟨ga, oa, none⟩, Q.length, qac⟩ (Q ++ ext) (wd.setCell ⟨hb, p, none⟩ (.int .i64 n)) w6 → Fr nothing w w6) := fun w6 hy => by
                  obtain ⟨q', hg⟩ := HST.out.more hy
                  exact hg.f
                go_wp2_with (first
                  | (go_at_call 19; refine (within_any (p : Int) ins.length wd (by omega)).mono ?_; rintro e w5 ⟨rfl, hw5⟩; rw [hw5, hbw]; clear hw5)
                  | (go_at_call 20; refine HFW.out.mono ?_; rintro e w6 ⟨rfl, hy6⟩; have HN6 := hide (HF6.out w6 hy6); clear hy6))
                exact bodyPost_ret (v := .tuple #[.slice none 0 0, .int .i64 er]) (by simp [results, Try.results8, go_sem]) rfl ⟨nilS, by rw [HR.out], HN6.out, by rw [HR.out]; exact sl_nil _ _ _, fun b hb' => by cases hb'⟩
            · have hx1b : (x != -1) = true := by simpa using hx1
              have HR : Hid (heightsC ins = ([], 10)) := by
                have hgo := HGO0.out
                rw [hGo, if_neg (by rw [hlen]; omega)] at hgo
                simp only [Int.toNat_natCast] at hgo
                rw [hgd, if_pos ⟨by omega, hxn⟩] at hgo
                exact hgo.symm
              have HF := hide HSTW.out.f
              clear HGO0
              go_wp2_with (go_at_call 19; refine (within_any (p : Int) ins.length wd (by omega)).mono ?_; rintro e w5 ⟨rfl, hw5⟩; rw [hw5, hbw]; clear hw5)
              exact bodyPost_ret (v := .tuple #[.slice none 0 0, .int .i64 10]) (by simp [results, Try.results8, go_sem]) rfl ⟨nilS, by rw [HR.out], HF.out, by rw [HR.out]; exact sl_nil _ _ _, fun b hb' => by cases hb'⟩
          · have hbw : betw a 0 ((ins.length : Int) - 1) = false := decide_eq_false (by omega)
            have HR : Hid (heightsC ins = ([], 8)) := by
              have := HGO0.out
              rw [hGo, if_pos (by rw [hlen]; omega)] at this
              exact this.symm
            have HF := hide HSTW.out.f
            clear HGO0
            go_wp2_with (go_at_call 19; refine (within_any a ins.length wd (by omega)).mono ?_; rintro e w5 ⟨rfl, hw5⟩; rw [hw5, hbw]; clear hw5)
            exact bodyPost_ret (v := .tuple #[.slice none 0 0, .int .i64 8]) (by simp [results, Try.results8, go_sem]) rfl ⟨nilS, by rw [HR.out], HF.out, by rw [HR.out]; exact sl_nil _ _ _, fun b hb' => by cases hb'⟩
        · have hdr : Q.drop k = [] := List.drop_eq_nil_of_le (by omega)
          rw [hdr] at hgo
          obtain ⟨f, rfl⟩ : ∃ f, m0 = f + 1 := ⟨m0 - 1, by omega⟩
          rw [hGo] at hgo
          have HGO := hide hgo
          have HF := hide st.f
          have HR : Hid (Sl encZ 1 wr (Slc.v ⟨some ⟨hb, 0, none⟩, ins.length, ins.length⟩) h) := by
            have := sl_of_owns encZ_len st.hr
            rw [hlen] at this
            exact this
          clear hgo st
          go_wp2_with fail
          exact bodyPost_ret (v := .tuple #[.slice (some ⟨hb, 0, none⟩) ins.length ins.length, .int .i64 0]) (by simp [results, Try.results8, go_sem]) rfl ⟨⟨some ⟨hb, 0, none⟩, ins.length, ins.length⟩, by rw [← HGO.out], HF.out, by rw [← HGO.out]; exact HR.out, fun b hb' => by have h1 : hb = b := Option.some.inj hb'; have := HNUM.out; omega⟩
end Go.Proofs.Ytgocmpooppejdaa
