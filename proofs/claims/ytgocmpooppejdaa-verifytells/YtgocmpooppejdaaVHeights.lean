/- The document's own answer: heights: the walk. -/
import Derived.Test.YtgocmpooppejdaaVH0
import Derived.Test.YtgocmpooppejdaaKB
set_option maxHeartbeats 0
set_option maxRecDepth 100000
namespace Go.Proofs.Ytgocmpooppejdaa
open Go Go.RowKit
theorem sl_elemZ {w : World} {s : Slc} {l : List Int} (h : Sl encZ 1 w s.v l) {i : Nat} {z : Int} (hi : l[i]? = some z) : ∃ b off, s.a = some ⟨b, off, none⟩ ∧ b < w.heap.size ∧ w.cell? ⟨b, off + i, none⟩ = some (.int .i64 z) := by
  obtain ⟨ao, cap, he, _, hc⟩ := h
  obtain ⟨b, off, rfl, hb, hcell⟩ := hc i z hi
  simp only [Value.slice.injEq] at he
  have := hcell 0 _ rfl
  exact ⟨b, off, he.1, hb, by simpa using this⟩
/-- What Heights answers. -/
def HtP (w : World) (res : List Int × Int) (e : Ending) (w' : World) : Prop := ∃ sl : Slc, e = .returned (.tuple #[.slice sl.a sl.n sl.c, .int .i64 res.2]) ∧ Fr nothing w w' ∧ Sl encZ 1 w' sl.v res.1
/-- While heights are told: m rounds at most are left. -/
def HIv (w0 : World) (hb cb : Nat) (ca : Value) (ins : List In) (res : List Int × Int) (m : Nat) (v8 v6 v7 : Value) (w : World) : Prop :=
  ∃ (k : Nat) (qa qh : Slc) (Q : List (Int × Int)) (h : List Int), v8 = .int .i64 k ∧ v6 = .slice qa.a qa.n qa.c ∧ v7 = .slice qh.a qh.n qh.c ∧ HSt w0 hb cb ca h (Q.map Prod.fst) (Q.map Prod.snd) qa qh w ∧ h.length = ins.length ∧ k ≤ Q.length ∧ Q.length + 2 * unset h ≤ 1 + 2 * ins.length ∧ (∀ p ∈ Q, 0 ≤ p.2 ∧ p.2 ≤ 16) ∧ 2 * unset h + (Q.length - k) < m ∧ hGo ins m h (Q.drop k) = res
theorem heights_any (ins : List In) (np nv : Int) (s : Slc) (w : World) (hS : Sl encI 3 w s.v ins) (hl : ins.length ≤ 100000) (hb17 : ∀ i ∈ ins, i.op = 17 → 0 ≤ i.b) (hop : ∀ i ∈ ins, -9223372036854775808 ≤ i.op ∧ i.op ≤ 9223372036854775807) :
    Calls Try.prog 9 #[.agg #[.int .i64 np, .int .i64 nv, .slice s.a s.n s.c]] w (HtP w (heightsC ins)) := by
  obtain ⟨hsn, hsm⟩ := sl_len hS
  obtain ⟨sa, sn, sc⟩ := s
  simp only at hsn
  subst hsn
  obtain ⟨j0, hj0, hy0, hy1, hy2⟩ := info_parts sizeInt
  have hF1 : Fr nothing w (w.alloc (.cells #[.int .i64 np, .int .i64 nv, .slice sa ins.length sc] 37)) := (Fr.refl _ _).alloc _
  have hc := made_cells (Fr.refl nothing (w.alloc (.cells #[.int .i64 np, .int .i64 nv, .slice sa ins.length sc] 37))) id
  have hs1 : (w.alloc (.cells #[.int .i64 np, .int .i64 nv, .slice sa ins.length sc] 37)).heap.size = w.heap.size + 1 := by simp
  obtain ⟨w1, hw1⟩ : ∃ x, x = w.alloc (.cells #[.int .i64 np, .int .i64 nv, .slice sa ins.length sc] 37) := ⟨_, rfl⟩
  rw [← hw1] at hF1 hc hs1
  obtain ⟨w2, hmk, hrow, hgr⟩ := run_makeSlice_full (P := Try.prog) w1 w.heap.size 38 3 j0 _ 1 Try.underlying38 hj0 hy0 hy1 .i64 .i64 ins.length (by omega) (by rw [hy2]; omega) (by unfold maxLen; omega) hF1.size
  have hF12 : Fr nothing w1 w2 := (Fr.refl nothing w1).grown hgr (fun k hk => by cases hk)
  have hF2 : Fr nothing w w2 := hF1.trans hF12
  rw [hs1] at hmk hrow
  have c2 := hc.1 2
  have cl := hc.2.2
  have hlen : (madeCells (Value.cells (.int .i64 0)) (ins.length * 1)).toList.length = ins.length := by
    rw [Array.length_toList, size_madeCells]; omega
  generalize (madeCells (Value.cells (.int .i64 0)) (ins.length * 1)).toList = vs0 at hrow hlen
  have x2 := (hF12.cell (p := ⟨w.heap.size, 2, none⟩) cl id).trans c2
  have xl := Nat.lt_of_lt_of_le cl hF12.size
  obtain ⟨cb, hcb⟩ : ∃ x, x = w.heap.size := ⟨_, rfl⟩
  obtain ⟨hb, hhb⟩ : ∃ x, x = w.heap.size + 1 := ⟨_, rfl⟩
  rw [← hhb] at hmk hrow
  rw [← hcb] at x2 xl
  have HNUM := hide (And.intro hcb hhb)
  have HROW := hide hrow
  have HF2 := hide hF2
  have HS := hide hS
  have HX2 := hide (And.intro x2 xl)
  have hw1' : w.alloc (.cells #[.int .i64 np, .int .i64 nv, .slice sa ins.length sc] 37) = w1 := hw1.symm
  clear hF1 hF12 hF2 hc hs1 hgr hrow hS hw1 hhb x2 xl hj0 hy0 hy1 hy2 hsm
  go_enter Try.func9, Try.ntmps9
  go_wp2
  rw [← hcb]
  clear hcb c2 cl hw1' hmk
  go_loopw [20, 5] (fun i _ wv => ∃ (j : Nat), j ≤ ins.length ∧ i = .int .i64 j ∧ Hid (∃ vs : List Value, vs.length = ins.length ∧ (∀ t, t < j → vs[t]? = some (.int .i64 (-1))) ∧ wv.ownsRow w.heap.size 3 1 (.slice (some ⟨hb, 0, none⟩) ins.length ins.length) ins.length vs ∧ Fr (fun k => k = hb) w2 wv)) (fun i _ _ => ins.length - (intOf i).toNat)
  case atStart => exact ⟨0, Nat.zero_le _, rfl, vs0, hlen, fun t ht => by omega, HROW.out, Fr.refl _ _⟩
  case round =>
    obtain ⟨j, hj, rfl, hR⟩ := hrel
    obtain ⟨vs, hv1, hv2, hv3, hv4⟩ := hR.out
    by_cases hjl : j < ins.length
    · have hcell := hv3.cellAt j (by omega)
      rw [List.getElem?_eq_getElem (by omega)] at hcell
      have hfz := hv3.frozenAt j
      have hlt := lt_of_cell hcell
      generalize vs[j]'(by omega) = old at hcell
      have HNX : Hid (∃ vs : List Value, vs.length = ins.length ∧ (∀ t, t < j + 1 → vs[t]? = some (.int .i64 (-1))) ∧ (wr.setCell ⟨hb, j, none⟩ (.int .i64 (-1))).ownsRow w.heap.size 3 1 (.slice (some ⟨hb, 0, none⟩) ins.length ins.length) ins.length vs ∧ Fr (fun k => k = hb) w2 (wr.setCell ⟨hb, j, none⟩ (.int .i64 (-1)))) := by
        refine ⟨vs.set j (.int .i64 (-1)), by rw [List.length_set]; exact hv1, fun t ht => ?_, (hv3.stored j _).1, hv4.setCell (p := ⟨hb, j, none⟩) (.inl rfl) _⟩
        by_cases e : t = j
        · rw [e, List.getElem?_set_self (by omega)]
        · rw [List.getElem?_set_ne (fun h => e h.symm)]; exact hv2 t (by omega)
      clear hR hv1 hv2 hv3 hv4
      go_wp2
      go_roundw
      case rel => exact ⟨j + 1, by omega, by go_num, HNX.out⟩
      case measure => simp [intOf]; omega
    · have hje : j = ins.length := by omega
      have hvs : vs = (List.replicate ins.length (-1 : Int)).flatMap encZ := by
        rw [flatZ, List.map_replicate]
        apply List.ext_getElem?
        intro t
        by_cases ht : t < ins.length
        · rw [hv2 t (by omega), List.getElem?_replicate, if_pos ht]
        · rw [List.getElem?_eq_none (by omega), List.getElem?_eq_none (by simp; omega)]
      rw [hvs] at hv3
      have hFr : Fr nothing w wr := HF2.out.then hv4 (fun k hk e => by have := HNUM.out; omega)
      have hcc := (hv4.cell (p := ⟨cb, 2, none⟩) HX2.out.2 (fun e => by have h1 : cb = hb := e; have := HNUM.out; omega)).trans HX2.out.1
      obtain ⟨ca, hca⟩ : ∃ ca, ca = Value.slice sa ins.length sc := ⟨_, rfl⟩
      have hcc' : wr.cell? ⟨cb, 2, none⟩ = some ca := by rw [hca]; exact hcc
      have t1 : (wr.alloc (litZ 0)).heap.size = wr.heap.size + 1 := by simp
      have hFA : Fr nothing wr (wr.alloc (litZ 0)) := (Fr.refl _ _).alloc _
      have hFB : Fr nothing (wr.alloc (litZ 0)) ((wr.alloc (litZ 0)).alloc (litZ 0)) := (Fr.refl _ _).alloc _
      have hbl := OwnZ.lit (base := w.heap.size) (wr.alloc (litZ 0)) 0 (Nat.le_trans hFr.size hFA.size)
      rw [t1] at hbl
      have hlr : hb < wr.heap.size := (hv3.lt hb rfl).2
      have hcr : cb < wr.heap.size := lt_of_cell hcc'
      have hSt0 : HSt w hb cb ca (List.replicate ins.length (-1)) [0] [0] ⟨some ⟨wr.heap.size, 0, none⟩, 1, 1⟩ ⟨some ⟨wr.heap.size + 1, 0, none⟩, 1, 1⟩ ((wr.alloc (litZ 0)).alloc (litZ 0)) := by
        refine ⟨(hFr.trans hFA).trans hFB, (OwnZ.lit wr 0 hFr.size).fr hFB (fun _ _ => id), hbl, ?_, ((hFA.trans hFB).cell (p := ⟨cb, 2, none⟩) hcr id).trans hcc', by have := HNUM.out; omega, fun k hk => ?_, fun k hk => ?_⟩
        · rw [List.length_replicate]; exact owns_fr hv3 (hFA.trans hFB) (fun _ _ => id)
        · have hk2 : wr.heap.size = k := Option.some.inj hk
          refine ⟨by omega, by omega, fun e => ?_⟩
          have : wr.heap.size + 1 = k := Option.some.inj e
          omega
        · have hk2 : wr.heap.size + 1 = k := Option.some.inj hk
          exact ⟨by omega, by omega⟩
      have hun : unset (List.replicate ins.length (-1)) ≤ ins.length := by have := unset_le (List.replicate ins.length (-1)); simpa using this
      have HST0 : Hid (HIv w hb cb ca ins (heightsC ins) (2 * ins.length + 2) (.int .i64 (0 : Nat)) (.slice (some ⟨wr.heap.size, 0, none⟩) 1 1) (.slice (some ⟨wr.heap.size + 1, 0, none⟩) 1 1) ((wr.alloc (litZ 0)).alloc (litZ 0))) := by
        refine ⟨0, ⟨some ⟨wr.heap.size, 0, none⟩, 1, 1⟩, ⟨some ⟨wr.heap.size + 1, 0, none⟩, 1, 1⟩, [(0, 0)], List.replicate ins.length (-1), rfl, rfl, rfl, hSt0, by simp, by simp, by simp only [List.length_singleton]; omega, fun p hp => ?_, by simp only [List.length_singleton]; omega, rfl⟩
        rw [List.mem_singleton.1 hp]
        exact ⟨by decide, by decide⟩
      clear hR hv1 hv2 hv3 hv4 hvs hje hFr hcc hcc' t1 hFA hFB hbl hSt0 hun hlr hcr
      go_wp2_with fail
      generalize (wr.alloc (litZ 0)).alloc (litZ 0) = w4 at *
      go_loopw [8, 6, 7, 9, 10, 11, 12, 13] (fun v8 v6 v7 _ _ _ _ _ wv => ∃ m, HIv w hb cb ca ins (heightsC ins) m v8 v6 v7 wv) (fun v8 v6 v7 _ _ _ _ _ wv => least (fun m => HIv w hb cb ca ins (heightsC ins) m v8 v6 v7 wv))
      case atStart => exact ⟨_, HST0.out⟩
      case round =>
        obtain ⟨hm, -⟩ := least_spec hrel
        generalize hm0 : least _ = m0 at hm
        have HM0 := hide hm0
        clear hm0 hrel
        obtain ⟨k, qa, qh, Q, h, rfl, rfl, rfl, st, hlen, hkQ, hQl, hQ2, hfuel, hgo⟩ := hm
        have hqn := st.a.n
        have hqm := st.b.n
        rw [List.length_map] at hqn hqm
        obtain ⟨qaa, qan, qac⟩ := qa
        obtain ⟨qha, qhn, qhc⟩ := qh
        simp only at hqn hqm
        subst hqn hqm
        by_cases hkl : k < Q.length
        · have hQk : Q[k]? = some Q[k] := List.getElem?_eq_getElem hkl
          have hdr : Q.drop k = Q[k] :: Q.drop (k + 1) := List.drop_eq_getElem_cons hkl
          have hmem : Q[k] ∈ Q := List.getElem_mem hkl
          generalize Q[k] = pn at hQk hdr hmem
          obtain ⟨a, n⟩ := pn
          have hn2 := hQ2 _ hmem
          simp only at hn2
          rw [hdr] at hgo
          obtain ⟨f, rfl⟩ : ∃ f, m0 = f + 1 := ⟨m0 - 1, by omega⟩
          rw [hGo] at hgo
          have stw := st.new (Fr.refl nothing wr).drew
          obtain ⟨ga, oa, e1, dga, ua⟩ := sl_elemZ (s := ⟨qaa, Q.length, qac⟩) stw.a.sl (i := k) (z := a) (by rw [List.getElem?_map, hQk]; rfl)
          obtain ⟨gh, oh, e2, dgh, uh⟩ := sl_elemZ (s := ⟨qha, Q.length, qhc⟩) stw.b.sl (i := k) (z := n) (by rw [List.getElem?_map, hQk]; rfl)
          simp only at e1 e2
          subst e1 e2
          have HSTW := hide stw
          have HGO0 := hide hgo
          have HST' := hide st
          clear st stw hgo hQk hmem
          go_wp2_with fail
          refine wp_region_held_drew (S := fun w' => w'.cell? ⟨ga, oa + k, none⟩ = some (.int .i64 a) ∧ w'.cell? ⟨gh, oh + k, none⟩ = some (.int .i64 n)) (by kernel_rfl) ⟨ua, uh⟩ (fun hHeld => ?_)
          refine wpAnyH_take (i := 0) (oi := { dst := some 35, op := Op.move (Operand.tmp 6), type := 38, pos := "ref.go:26", after := #[], guard := none }) (v := ?v1) rfl (by kernel_rfl) (by kernel_rfl) (by kernel_rfl) (fun _ _ _ h => h) (Or.inl ⟨by rfl, ?hy1⟩) (by assumption) ?rest1
          case hy1 => (intro w hSw; (try dsimp only at hSw); obtain ⟨hS1, hS2⟩ := hSw; go_simp; try with_reducible rfl)
          try simp only [Act.put, List.setIfInBounds_toArray, List.set_cons_zero, List.set_cons_succ]
          refine wpAnyH_take (i := 1) (oi := { dst := some 36, op := Op.move (Operand.tmp 8), type := 3, pos := "ref.go:26", after := #[], guard := none }) (v := ?v2) rfl (by kernel_rfl) (by kernel_rfl) (by kernel_rfl) (fun _ _ _ h => h) (Or.inl ⟨by rfl, ?hy2⟩) (by assumption) ?rest2
          case hy2 => (intro w hSw; (try dsimp only at hSw); obtain ⟨hS1, hS2⟩ := hSw; go_simp; try with_reducible rfl)
          try simp only [Act.put, List.setIfInBounds_toArray, List.set_cons_zero, List.set_cons_succ]
          refine wpAnyH_take (i := 2) (oi := { dst := some 37, op := Op.indexAddr 38 (Operand.tmp 35) (Operand.tmp 36), type := 0, pos := "ref.go:26", after := #[{ on := 0, ground := Ground.data }, { on := 1, ground := Ground.data }], guard := none }) (v := ?v3) rfl (by kernel_rfl) (by kernel_rfl) (by kernel_rfl) (fun _ _ _ h => h) (Or.inl ⟨by rfl, ?hy3⟩) (by assumption) ?rest3
          case hy3 => (intro w hSw; (try dsimp only at hSw); obtain ⟨hS1, hS2⟩ := hSw; go_simp; try with_reducible rfl)
          try simp only [Act.put, List.setIfInBounds_toArray, List.set_cons_zero, List.set_cons_succ]
          refine wpAnyH_take (i := 3) (oi := { dst := some 38, op := Op.load 3 (Operand.tmp 37), type := 3, pos := "ref.go:26", after := #[{ on := 2, ground := Ground.data }], guard := none }) (v := ?v4) rfl (by kernel_rfl) (by kernel_rfl) (by kernel_rfl) (fun _ _ _ h => h) (Or.inl ⟨by rfl, ?hy4⟩) (by assumption) ?rest4
          case hy4 => (intro w hSw; (try dsimp only at hSw); obtain ⟨hS1, hS2⟩ := hSw; go_simp; try with_reducible rfl)
          try simp only [Act.put, List.setIfInBounds_toArray, List.set_cons_zero, List.set_cons_succ]
          refine wpAnyH_take (i := 4) (oi := { dst := some 39, op := Op.move (Operand.tmp 7), type := 38, pos := "ref.go:26", after := #[{ on := 8, ground := Ground.gcOnly Departure.lateStores }], guard := none }) (v := ?v5) rfl (by kernel_rfl) (by kernel_rfl) (by kernel_rfl) (fun _ _ _ h => h) (Or.inl ⟨by rfl, ?hy5⟩) (by assumption) ?rest5
          case hy5 => (intro w hSw; (try dsimp only at hSw); obtain ⟨hS1, hS2⟩ := hSw; go_simp; try with_reducible rfl)
          try simp only [Act.put, List.setIfInBounds_toArray, List.set_cons_zero, List.set_cons_succ]
          refine wpAnyH_take (i := 5) (oi := { dst := some 40, op := Op.move (Operand.tmp 8), type := 3, pos := "ref.go:26", after := #[{ on := 8, ground := Ground.gcOnly Departure.lateStores }], guard := none }) (v := ?v6) rfl (by kernel_rfl) (by kernel_rfl) (by kernel_rfl) (fun _ _ _ h => h) (Or.inl ⟨by rfl, ?hy6⟩) (by assumption) ?rest6
          case hy6 => (intro w hSw; (try dsimp only at hSw); obtain ⟨hS1, hS2⟩ := hSw; go_simp; try with_reducible rfl)
          try simp only [Act.put, List.setIfInBounds_toArray, List.set_cons_zero, List.set_cons_succ]
          refine wpAnyH_take (i := 6) (oi := { dst := some 41, op := Op.indexAddr 38 (Operand.tmp 39) (Operand.tmp 40), type := 0, pos := "ref.go:26", after := #[{ on := 4, ground := Ground.data }, { on := 5, ground := Ground.data }, { on := 8, ground := Ground.gcOnly Departure.lateStores }], guard := none }) (v := ?v7) rfl (by kernel_rfl) (by kernel_rfl) (by kernel_rfl) (fun _ _ _ h => h) (Or.inl ⟨by rfl, ?hy7⟩) (by assumption) ?rest7
          case hy7 => (intro w hSw; (try dsimp only at hSw); obtain ⟨hS1, hS2⟩ := hSw; go_simp; try with_reducible rfl)
          try simp only [Act.put, List.setIfInBounds_toArray, List.set_cons_zero, List.set_cons_succ]
          refine wpAnyH_take (i := 7) (oi := { dst := some 42, op := Op.load 3 (Operand.tmp 41), type := 3, pos := "ref.go:26", after := #[{ on := 6, ground := Ground.data }, { on := 8, ground := Ground.gcOnly Departure.lateStores }], guard := none }) (v := ?v8) rfl (by kernel_rfl) (by kernel_rfl) (by kernel_rfl) (fun _ _ _ h => h) (Or.inl ⟨by rfl, ?hy8⟩) (by assumption) ?rest8
          case hy8 => (intro w hSw; (try dsimp only at hSw); obtain ⟨hS1, hS2⟩ := hSw; go_simp; try with_reducible rfl)
          try simp only [Act.put, List.setIfInBounds_toArray, List.set_cons_zero, List.set_cons_succ]
          refine wpAnyH_take (i := 8) (oi := { dst := some 9, op := Op.assign (Operand.tmp 38), type := 3, pos := "ref.go:26", after := #[{ on := 3, ground := Ground.data }, { on := 0, ground := Ground.phase }, { on := 1, ground := Ground.phase }, { on := 2, ground := Ground.phase }, { on := 3, ground := Ground.phase }, { on := 4, ground := Ground.textOnly Departure.lateStores }, { on := 5, ground := Ground.textOnly Departure.lateStores }, { on := 6, ground := Ground.textOnly Departure.lateStores }, { on := 7, ground := Ground.textOnly Departure.lateStores }], guard := none }) (v := ?v9) rfl (by kernel_rfl) (by kernel_rfl) (by kernel_rfl) (fun _ _ _ h => h) (Or.inl ⟨by rfl, ?hy9⟩) (by assumption) ?rest9
          case hy9 => (intro w hSw; (try dsimp only at hSw); obtain ⟨hS1, hS2⟩ := hSw; go_simp; try with_reducible rfl)
          try simp only [Act.put, List.setIfInBounds_toArray, List.set_cons_zero, List.set_cons_succ]
          refine wpAnyH_take (i := 9) (oi := { dst := some 10, op := Op.assign (Operand.tmp 42), type := 3, pos := "ref.go:26", after := #[{ on := 7, ground := Ground.data }, { on := 8, ground := Ground.chain }, { on := 0, ground := Ground.phase }, { on := 1, ground := Ground.phase }, { on := 2, ground := Ground.phase }, { on := 3, ground := Ground.phase }, { on := 4, ground := Ground.phase }, { on := 5, ground := Ground.phase }, { on := 6, ground := Ground.phase }, { on := 7, ground := Ground.phase }, { on := 8, ground := Ground.phase }], guard := none }) (v := ?v10) rfl (by kernel_rfl) (by kernel_rfl) (by kernel_rfl) (fun _ _ _ h => h) (Or.inl ⟨by rfl, ?hy10⟩) (by assumption) ?rest10
          case hy10 => (intro w hSw; (try dsimp only at hSw); obtain ⟨hS1, hS2⟩ := hSw; go_simp; try with_reducible rfl)
          try simp only [Act.put, List.setIfInBounds_toArray, List.set_cons_zero, List.set_cons_succ]
          refine wpAnyH_done (by kernel_rfl) ?_ _
          clear hHeld ua uh
          generalize hwd : wr.drew = wd at *
          by_cases ha0 : a < 0
          · have HGO : Hid (heightsC ins = ([], 8)) := by
              have := HGO0.out
              rw [if_pos (.inl ha0)] at this
              exact this.symm
            have HF := hide HSTW.out.f
            clear HGO0
            go_wp2_with fail
            exact bodyPost_ret (v := .tuple #[.slice none 0 0, .int .i64 8]) (by simp [results, Try.results9, go_sem]) rfl ⟨nilS, by rw [HGO.out], HF.out, by rw [HGO.out]; exact sl_nil _ _ _⟩
          obtain ⟨p, rfl⟩ : ∃ p : Nat, a = p := ⟨a.toNat, by omega⟩
          by_cases hpl : ins.length ≤ p
          · have HGO : Hid (heightsC ins = ([], 8)) := by
              have := HGO0.out
              rw [if_pos (.inr (by rw [hlen]; omega))] at this
              exact this.symm
            have HF := hide HSTW.out.f
            clear HGO0
            go_wp2_with fail
            exact bodyPost_ret (v := .tuple #[.slice none 0 0, .int .i64 8]) (by simp [results, Try.results9, go_sem]) rfl ⟨nilS, by rw [HGO.out], HF.out, by rw [HGO.out]; exact sl_nil _ _ _⟩
          have hpl' : p < ins.length := by omega
          have hgo := HGO0.out
          rw [if_neg (by rw [hlen]; omega)] at hgo
          simp only [Int.toNat_natCast] at hgo
          have hhp : h[p]? = some (h[p]'(by omega)) := List.getElem?_eq_getElem _
          have hgd : h.getD p 0 = h[p]'(by omega) := by simp [List.getD, hhp]
          rw [hgd] at hgo
          generalize h[p]'(by omega) = x at hhp hgo hgd
          have hcell := HSTW.out.hr.cellAt p (by omega)
          rw [flatZ, List.getElem?_map, hhp] at hcell
          simp only [Option.map_some] at hcell
          have hfz := HSTW.out.hr.frozenAt p
          have hbl := HSTW.out.hl.2
          by_cases hx0 : 0 ≤ x
          · by_cases hxn : x = n
            · rw [if_neg (by omega), if_pos hx0] at hgo
              have HNX : Hid (HIv w hb cb ca ins (heightsC ins) f (.int .i64 (k + 1 : Nat)) (.slice (some ⟨ga, oa, none⟩) Q.length qac) (.slice (some ⟨gh, oh, none⟩) Q.length qhc) wd) := ⟨k + 1, ⟨some ⟨ga, oa, none⟩, Q.length, qac⟩, ⟨some ⟨gh, oh, none⟩, Q.length, qhc⟩, Q, h, rfl, rfl, rfl, HSTW.out, hlen, by omega, hQl, hQ2, by omega, hgo⟩
              subst hxn
              clear HGO0 hgo
              go_wp2_with fail
              go_roundw
              case rel => exact ⟨f, HNX.out⟩
              case measure =>
                rw [HM0.out]
                exact least_lt (m := f) HNX.out (by omega)
            · have HGO : Hid (heightsC ins = ([], 10)) := by
                rw [if_pos ⟨hx0, hxn⟩] at hgo
                exact hgo.symm
              have hxb : (x != n) = true := by simpa using hxn
              have HF := hide HSTW.out.f
              clear HGO0 hgo
              go_wp2_with fail
              exact bodyPost_ret (v := .tuple #[.slice none 0 0, .int .i64 10]) (by simp [results, Try.results9, go_sem]) rfl ⟨nilS, by rw [HGO.out], HF.out, by rw [HGO.out]; exact sl_nil _ _ _⟩
          rw [if_neg (by omega), if_neg hx0] at hgo
          have hii : ins[p]? = some ins[p] := List.getElem?_eq_getElem hpl'
          have hig : ins.getD p ⟨0, 0, 0⟩ = ins[p] := by simp [List.getD, hii]
          have him : ins[p] ∈ ins := List.getElem_mem hpl'
          rw [hig] at hgo
          generalize ins[p] = it at hii hig him hgo
          have hop1 := hop it him
          have hpos := shape_pos it (hb17 it him)
          obtain ⟨gi, oi, e3, dgi, y0, y1, y2⟩ := sl_elemI (s := ⟨sa, ins.length, sc⟩) HS.out hii
          simp only at e3
          subst e3
          have hFd := HSTW.out.f
          rw [← hFd.cell (p := ⟨gi, _, none⟩) dgi id] at y0 y1 y2
          have egi : gi < wd.heap.size := Nat.lt_of_lt_of_le dgi hFd.size
          have nih : ¬ gi = hb := by have := HNUM.out; omega
          have nch : ¬ cb = hb := by have := HNUM.out; omega
          have hcd := HSTW.out.c
          have hcdl := HSTW.out.cl
          obtain ⟨op, ia, ib⟩ := it
          simp only at hop1 y0 y1 y2 hgo
          obtain ⟨sp, hsp⟩ : ∃ sp, shapeC ⟨op, ia, ib⟩ = sp := ⟨_, rfl⟩
          rw [hsp] at hpos hgo
          obtain ⟨pp, pu⟩ := sp
          simp only at hpos hgo
          obtain ⟨hst2, hfs⟩ := HSTW.out.put p n
          have HST := hide hst2
          have hcd' : wd.cell? ⟨cb, 2, none⟩ = some (.slice (some ⟨gi, oi, none⟩) ins.length sc) := by rw [hcd, hca]
          have hsz5 : (wd.setCell ⟨hb, p, none⟩ (.int .i64 n)).heap.size = wd.heap.size := by simp
          have him0 := made_cells (cs := #[.int .i64 op, .int .i64 ia, .int .i64 ib]) (t := 44) (w := wd.setCell ⟨hb, p, none⟩ (.int .i64 n)) (Fr.refl nothing _) id
          rw [hsz5] at him0
          have im0 := him0.1 0
          have im1 := him0.1 1
          have iml := him0.2.2
          have hfA : Fr nothing (wd.setCell ⟨hb, p, none⟩ (.int .i64 n)) ((wd.setCell ⟨hb, p, none⟩ (.int .i64 n)).alloc (.cells #[.int .i64 op, .int .i64 ia, .int .i64 ib] 44)) := (Fr.refl _ _).alloc _
          have HOW : Hid ((∀ b, (Slc.v ⟨some ⟨ga, oa, none⟩, Q.length, qac⟩).ownBlock = some b → b < wd.heap.size) ∧ ∀ b, (Slc.v ⟨some ⟨gh, oh, none⟩, Q.length, qhc⟩).ownBlock = some b → b < wd.heap.size) := ⟨fun b hb' => (HSTW.out.a.lt hb').2, fun b hb' => (HSTW.out.b.lt hb').2⟩
          have hun := unset_set h p x n hhp (by omega) hn2.1
          have hN0 : IntKind.i64.wrap ((p : Int) + 1) = (p : Int) + 1 := wrap_in _ (by omega) (by omega)
          have hx0b : ¬ (0 : Int) ≤ x := hx0
          clear him0 hcd hst2 hfs hsz5 HGO0 hFd hii hig him hgd hhp
          by_cases hlow : n < pp
          · have HGO : Hid (heightsC ins = ([], 10)) := by
              rw [if_pos (.inl hlow)] at hgo
              exact hgo.symm
            clear hgo
            go_wp2_with (go_at_call 21; refine (shape_any ⟨op, ia, ib⟩ _ hop1.1 hop1.2).mono ?_; rintro e w6 ⟨rfl, hf6⟩; rw [hsp]; have st6 := (HST.out.new hfA).new hf6; have i0 := (hf6.cell (p := ⟨wd.heap.size, 0, none⟩) iml id).trans im0; have i1 := (hf6.cell (p := ⟨wd.heap.size, 1, none⟩) iml id).trans im1; have il := Nat.lt_of_lt_of_le iml hf6.size; have HF6 := hide st6.f; clear st6 hf6)
            exact bodyPost_ret (v := .tuple #[.slice none 0 0, .int .i64 10]) (by simp [results, Try.results9, go_sem]) rfl ⟨nilS, by rw [HGO.out], HF6.out, by rw [HGO.out]; exact sl_nil _ _ _⟩
          by_cases hret : op = 18 ∧ 1 < n
          · have HGO : Hid (heightsC ins = ([], 10)) := by
              rw [if_pos (.inr hret)] at hgo
              exact hgo.symm
            obtain ⟨rfl, hn1⟩ := hret
            clear hgo
            go_wp2_with (go_at_call 21; refine (shape_any ⟨18, ia, ib⟩ _ hop1.1 hop1.2).mono ?_; rintro e w6 ⟨rfl, hf6⟩; rw [hsp]; have st6 := (HST.out.new hfA).new hf6; have i0 := (hf6.cell (p := ⟨wd.heap.size, 0, none⟩) iml id).trans im0; have i1 := (hf6.cell (p := ⟨wd.heap.size, 1, none⟩) iml id).trans im1; have il := Nat.lt_of_lt_of_le iml hf6.size; have HF6 := hide st6.f; clear st6 hf6)
            exact bodyPost_ret (v := .tuple #[.slice none 0 0, .int .i64 10]) (by simp [results, Try.results9, go_sem]) rfl ⟨nilS, by rw [HGO.out], HF6.out, by rw [HGO.out]; exact sl_nil _ _ _⟩
          rw [if_neg (by omega)] at hgo
          have hN1 : IntKind.i64.wrap (n - pp) = n - pp := wrap_in _ (by omega) (by omega)
          have hN2 : IntKind.i64.wrap (n - pp + pu) = n - pp + pu := wrap_in _ (by omega) (by omega)
          by_cases h16 : 16 < n - pp + pu
          · have HGO : Hid (heightsC ins = ([], 4)) := by
              rw [if_pos h16] at hgo
              exact hgo.symm
            clear hgo
            have hretb : ¬ (op = 18 ∧ 1 < n) := hret
            by_cases o18 : op = 18
            · have hn1 : ¬ 1 < n := fun e => hret ⟨o18, e⟩
              omega
            · have o18b : (op == 18) = false := by simpa using o18
              go_wp2_with (go_at_call 21; refine (shape_any ⟨op, ia, ib⟩ _ hop1.1 hop1.2).mono ?_; rintro e w6 ⟨rfl, hf6⟩; rw [hsp]; have st6 := (HST.out.new hfA).new hf6; have i0 := (hf6.cell (p := ⟨wd.heap.size, 0, none⟩) iml id).trans im0; have i1 := (hf6.cell (p := ⟨wd.heap.size, 1, none⟩) iml id).trans im1; have il := Nat.lt_of_lt_of_le iml hf6.size; have HF6 := hide st6.f; clear st6 hf6)
              exact bodyPost_ret (v := .tuple #[.slice none 0 0, .int .i64 4]) (by simp [results, Try.results9, go_sem]) rfl ⟨nilS, by rw [HGO.out], HF6.out, by rw [HGO.out]; exact sl_nil _ _ _⟩
          rw [if_neg h16] at hgo
          by_cases o15 : op = 15
          · subst o15
            have hnx : nextC ⟨15, ia, ib⟩ (p : Int) (n - pp + pu) = [(ia, n - pp + pu)] := by simp [nextC]
            rw [hnx] at hgo
            clear hnx hret
            have HGG := hide hgo
            clear hgo
            go_wp2_with (first
              | (go_at_call 21; refine (shape_any ⟨15, ia, ib⟩ _ hop1.1 hop1.2).mono ?_; rintro e w6 ⟨rfl, hf6⟩; rw [hsp]; have st6 := (HST.out.new hfA).new hf6; have i0 := (hf6.cell (p := ⟨wd.heap.size, 0, none⟩) iml id).trans im0; have i1 := (hf6.cell (p := ⟨wd.heap.size, 1, none⟩) iml id).trans im1; have il := Nat.lt_of_lt_of_le iml hf6.size; obtain ⟨qa1, qh1, u1, v1, ra1, rb1, st7, fp1⟩ := st6.push (ia) (n - pp + pu) (by rw [List.length_map]; omega) (by rw [List.length_map]; omega); have i0b := (fp1.cell (p := ⟨wd.heap.size, 0, none⟩) il ((by rintro (e | e); exact absurd (HOW.out.1 _ e) (Nat.lt_irrefl _); exact absurd (HOW.out.2 _ e) (Nat.lt_irrefl _)))).trans i0; have i1b := (fp1.cell (p := ⟨wd.heap.size, 1, none⟩) il ((by rintro (e | e); exact absurd (HOW.out.1 _ e) (Nat.lt_irrefl _); exact absurd (HOW.out.2 _ e) (Nat.lt_irrefl _)))).trans i1; have ilb := Nat.lt_of_lt_of_le il fp1.size; have HNX : Hid (HIv w hb cb ca ins (heightsC ins) f (.int .i64 (k + 1 : Nat)) (.slice qa1.a qa1.n qa1.c) (.slice qh1.a qh1.n qh1.c) v1) := ⟨k + 1, ⟨qa1.a, qa1.n, qa1.c⟩, ⟨qh1.a, qh1.n, qh1.c⟩, Q ++ [(ia, n - pp + pu)], h.set p n, rfl, rfl, rfl, (by simpa using st7), by rw [List.length_set]; exact hlen, by simp only [List.length_append]; omega, by simp only [List.length_append, List.length_cons, List.length_nil]; omega, fun z hz => (List.mem_append.1 hz).elim (hQ2 z) (fun hz => by simp at hz; subst hz; exact ⟨by omega, by omega⟩), by simp only [List.length_append, List.length_cons, List.length_nil]; omega, by rw [List.drop_append_of_le_length (by omega)]; exact HGG.out⟩; clear st6 hf6)
              | (at_builtin; go_must (first | (refine wpList_run rfl _ _ 38 rfl _ _ rfl rfl ra1 ?_; clear ra1) | (refine wpList_run rfl _ _ 38 rfl _ _ rfl rfl rb1 ?_; clear rb1))))
            go_roundw
            case rel => exact ⟨f, HNX.out⟩
            case measure =>
              rw [HM0.out]
              exact least_lt (m := f) HNX.out (by omega)
          by_cases o18 : op = 18
          · subst o18
            have hn1 : ¬ 1 < n := fun e => hret ⟨rfl, e⟩
            have hnx : nextC ⟨18, ia, ib⟩ (p : Int) (n - pp + pu) = [] := by simp [nextC]
            rw [hnx] at hgo
            clear hnx hret
            have HGG := hide hgo
            clear hgo
            go_wp2_with (go_at_call 21; refine (shape_any ⟨18, ia, ib⟩ _ hop1.1 hop1.2).mono ?_; rintro e w6 ⟨rfl, hf6⟩; rw [hsp]; have st6 := (HST.out.new hfA).new hf6; have i0 := (hf6.cell (p := ⟨wd.heap.size, 0, none⟩) iml id).trans im0; have i1 := (hf6.cell (p := ⟨wd.heap.size, 1, none⟩) iml id).trans im1; have il := Nat.lt_of_lt_of_le iml hf6.size; have HNX : Hid (HIv w hb cb ca ins (heightsC ins) f (.int .i64 (k + 1 : Nat)) (.slice (some ⟨ga, oa, none⟩) Q.length qac) (.slice (some ⟨gh, oh, none⟩) Q.length qhc) w6) := ⟨k + 1, ⟨some ⟨ga, oa, none⟩, Q.length, qac⟩, ⟨some ⟨gh, oh, none⟩, Q.length, qhc⟩, Q ++ [], h.set p n, rfl, rfl, rfl, (by simpa using st6), by rw [List.length_set]; exact hlen, by simp only [List.length_append]; omega, by simp only [List.length_append, List.length_nil]; omega, fun z hz => (List.mem_append.1 hz).elim (hQ2 z) (fun hz => by cases hz), by simp only [List.length_append, List.length_nil]; omega, by rw [List.drop_append_of_le_length (by omega)]; exact HGG.out⟩; clear st6 hf6)
            go_roundw
            case rel => exact ⟨f, HNX.out⟩
            case measure =>
              rw [HM0.out]
              exact least_lt (m := f) HNX.out (by omega)
          by_cases o16 : op = 16
          · subst o16
            have hnx : nextC ⟨16, ia, ib⟩ (p : Int) (n - pp + pu) = [((p : Int) + 1, n - pp + pu), (ia, n - pp + pu)] := by simp [nextC]
            rw [hnx] at hgo
            clear hnx hret
            have HGG := hide hgo
            clear hgo
            go_wp2_with (first
              | (go_at_call 21; refine (shape_any ⟨16, ia, ib⟩ _ hop1.1 hop1.2).mono ?_; rintro e w6 ⟨rfl, hf6⟩; rw [hsp]; have st6 := (HST.out.new hfA).new hf6; have i0 := (hf6.cell (p := ⟨wd.heap.size, 0, none⟩) iml id).trans im0; have i1 := (hf6.cell (p := ⟨wd.heap.size, 1, none⟩) iml id).trans im1; have il := Nat.lt_of_lt_of_le iml hf6.size; obtain ⟨qa1, qh1, u1, v1, ra1, rb1, st7, fp1⟩ := st6.push ((p : Int) + 1) (n - pp + pu) (by rw [List.length_map]; omega) (by rw [List.length_map]; omega); have i0b := (fp1.cell (p := ⟨wd.heap.size, 0, none⟩) il ((by rintro (e | e); exact absurd (HOW.out.1 _ e) (Nat.lt_irrefl _); exact absurd (HOW.out.2 _ e) (Nat.lt_irrefl _)))).trans i0; have i1b := (fp1.cell (p := ⟨wd.heap.size, 1, none⟩) il ((by rintro (e | e); exact absurd (HOW.out.1 _ e) (Nat.lt_irrefl _); exact absurd (HOW.out.2 _ e) (Nat.lt_irrefl _)))).trans i1; have ilb := Nat.lt_of_lt_of_le il fp1.size; obtain ⟨qa2, qh2, u2, v2, ra2, rb2, st8, fp2⟩ := st7.push (ia) (n - pp + pu) (by simp only [List.length_append, List.length_map, List.length_singleton]; omega) (by simp only [List.length_append, List.length_map, List.length_singleton]; omega); have ilc := Nat.lt_of_lt_of_le ilb fp2.size; have HNX : Hid (HIv w hb cb ca ins (heightsC ins) f (.int .i64 (k + 1 : Nat)) (.slice qa2.a qa2.n qa2.c) (.slice qh2.a qh2.n qh2.c) v2) := ⟨k + 1, ⟨qa2.a, qa2.n, qa2.c⟩, ⟨qh2.a, qh2.n, qh2.c⟩, Q ++ [((p : Int) + 1, n - pp + pu), (ia, n - pp + pu)], h.set p n, rfl, rfl, rfl, (by simpa using st8), by rw [List.length_set]; exact hlen, by simp only [List.length_append]; omega, by simp only [List.length_append, List.length_cons, List.length_nil]; omega, fun z hz => (List.mem_append.1 hz).elim (hQ2 z) (fun hz => by simp at hz; rcases hz with rfl | rfl <;> exact ⟨by omega, by omega⟩), by simp only [List.length_append, List.length_cons, List.length_nil]; omega, by rw [List.drop_append_of_le_length (by omega)]; exact HGG.out⟩; clear st6 hf6)
              | (at_builtin; go_must (first | (refine wpList_run rfl _ _ 38 rfl _ _ rfl rfl ra1 ?_; clear ra1) | (refine wpList_run rfl _ _ 38 rfl _ _ rfl rfl rb1 ?_; clear rb1) | (refine wpList_run rfl _ _ 38 rfl _ _ rfl rfl ra2 ?_; clear ra2) | (refine wpList_run rfl _ _ 38 rfl _ _ rfl rfl rb2 ?_; clear rb2))))
            go_roundw
            case rel => exact ⟨f, HNX.out⟩
            case measure =>
              rw [HM0.out]
              exact least_lt (m := f) HNX.out (by omega)
          have o15b : (op == 15) = false := by simpa using o15
          have o16b : (op == 16) = false := by simpa using o16
          have o18b : (op == 18) = false := by simpa using o18
          have o15c : (op != 15) = true := by simpa using o15
          have o18c : (op != 18) = true := by simpa using o18
          have hnx : nextC ⟨op, ia, ib⟩ (p : Int) (n - pp + pu) = [((p : Int) + 1, n - pp + pu)] := by simp [nextC, o15, o16, o18]
          rw [hnx] at hgo
          clear hnx hret
          have HGG := hide hgo
          clear hgo
          go_wp2_with (first
            | (go_at_call 21; refine (shape_any ⟨op, ia, ib⟩ _ hop1.1 hop1.2).mono ?_; rintro e w6 ⟨rfl, hf6⟩; rw [hsp]; have st6 := (HST.out.new hfA).new hf6; have i0 := (hf6.cell (p := ⟨wd.heap.size, 0, none⟩) iml id).trans im0; have i1 := (hf6.cell (p := ⟨wd.heap.size, 1, none⟩) iml id).trans im1; have il := Nat.lt_of_lt_of_le iml hf6.size; obtain ⟨qa1, qh1, u1, v1, ra1, rb1, st7, fp1⟩ := st6.push ((p : Int) + 1) (n - pp + pu) (by rw [List.length_map]; omega) (by rw [List.length_map]; omega); have i0b := (fp1.cell (p := ⟨wd.heap.size, 0, none⟩) il ((by rintro (e | e); exact absurd (HOW.out.1 _ e) (Nat.lt_irrefl _); exact absurd (HOW.out.2 _ e) (Nat.lt_irrefl _)))).trans i0; have i1b := (fp1.cell (p := ⟨wd.heap.size, 1, none⟩) il ((by rintro (e | e); exact absurd (HOW.out.1 _ e) (Nat.lt_irrefl _); exact absurd (HOW.out.2 _ e) (Nat.lt_irrefl _)))).trans i1; have ilb := Nat.lt_of_lt_of_le il fp1.size; have HNX : Hid (HIv w hb cb ca ins (heightsC ins) f (.int .i64 (k + 1 : Nat)) (.slice qa1.a qa1.n qa1.c) (.slice qh1.a qh1.n qh1.c) v1) := ⟨k + 1, ⟨qa1.a, qa1.n, qa1.c⟩, ⟨qh1.a, qh1.n, qh1.c⟩, Q ++ [((p : Int) + 1, n - pp + pu)], h.set p n, rfl, rfl, rfl, (by simpa using st7), by rw [List.length_set]; exact hlen, by simp only [List.length_append]; omega, by simp only [List.length_append, List.length_cons, List.length_nil]; omega, fun z hz => (List.mem_append.1 hz).elim (hQ2 z) (fun hz => by simp at hz; subst hz; exact ⟨by omega, by omega⟩), by simp only [List.length_append, List.length_cons, List.length_nil]; omega, by rw [List.drop_append_of_le_length (by omega)]; exact HGG.out⟩; clear st6 hf6)
            | (at_builtin; go_must (first | (refine wpList_run rfl _ _ 38 rfl _ _ rfl rfl ra1 ?_; clear ra1) | (refine wpList_run rfl _ _ 38 rfl _ _ rfl rfl rb1 ?_; clear rb1))))
          go_roundw
          case rel => exact ⟨f, HNX.out⟩
          case measure =>
            rw [HM0.out]
            exact least_lt (m := f) HNX.out (by omega)
        · have hdr : Q.drop k = [] := List.drop_eq_nil_of_le (by omega)
          rw [hdr] at hgo
          obtain ⟨f, rfl⟩ : ∃ f, m0 = f + 1 := ⟨m0 - 1, by omega⟩
          rw [hGo] at hgo
          have HGO := hide hgo
          have HF := hide st.f
          have HR : Hid (Sl encZ 1 wr (Slc.v ⟨some ⟨hb, 0, none⟩, ins.length, ins.length⟩) h) := by
            have := sl_of_owns encZ_len st.hr
            rw [hlen] at this
            exact this
          clear hgo st
          go_wp2_with fail
          exact bodyPost_ret (v := .tuple #[.slice (some ⟨hb, 0, none⟩) ins.length ins.length, .int .i64 0]) (by simp [results, Try.results9, go_sem]) rfl ⟨⟨some ⟨hb, 0, none⟩, ins.length, ins.length⟩, by rw [← HGO.out], HF.out, by rw [← HGO.out]; exact HR.out⟩
end Go.Proofs.Ytgocmpooppejdaa
