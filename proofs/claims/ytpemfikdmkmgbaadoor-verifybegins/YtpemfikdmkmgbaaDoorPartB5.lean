/- FProgram; FCounts; FWaits; FFlow; FFrame. -/
import Derived.Laws.MakeOwn
import Derived.Test.YtpemfikdmkmgbaaDoorPartB4
import Derived.Test.YtpemfikdmkmgbaaDoorPartB2
section
/- Package verify: what is wrong with a program, and the heights of its codes. -/
set_option maxHeartbeats 0
set_option maxRecDepth 100000
namespace Go.Proofs.YtpemfikdmkmgbaaDoor
open Go Go.RowKit
def encT (s : Slc) : List Value := [.slice s.a s.n s.c]
theorem encT_len (s : Slc) : (encT s).length = 1 := rfl
theorem encT_one (s : Slc) : ∀ u ∈ encT s, u.oneCell' = true := by
  intro u hu
  simp only [encT, List.mem_cons, List.not_mem_nil, or_false] at hu
  rw [hu]; rfl
theorem sizeIs : (Tryd.prog.info? 49).map (fun i => (i.zero, i.size, i.bytes)) = some (some (.slice none 0 0), 1, 24) := by kernel_rfl
/-- Heights of all codes, as the machine holds them. -/
def HsOk (w : World) (q : Slc) (hs : List (List Int)) : Prop := ∃ rs, Sl encT 1 w q.v rs ∧ Each (fun (s : Slc) l => Sl encZ 1 w s.v l) rs hs
theorem HsOk.fr {w w' : World} {q : Slc} {hs : List (List Int)} (h : HsOk w q hs) (hf : Fr nothing w w') : HsOk w' q hs := by
  obtain ⟨rs, h1, h2⟩ := h
  exact ⟨rs, h1.fr hf (fun _ _ => id), h2.1, fun i r x e1 e2 => (h2.2 i r x e1 e2).fr hf (fun _ _ => id)⟩
def hgtZ (c : Cz) : List Int := (heightsC c.ins).1
/-- While they are gathered. -/
structure Gh (base : Nat) (q : Slc) (hs : List (List Int)) (w : World) : Prop where
  o : ∃ rs, Own encT 49 1 base q rs w ∧ Each (fun (s : Slc) l => Sl encZ 1 w s.v l) rs hs ∧ ∀ s ∈ rs, ∀ b, s.v.ownBlock = some b → b < w.heap.size ∧ q.v.ownBlock ≠ some b
theorem Gh.new {base : Nat} {q : Slc} {hs : List (List Int)} {w w' : World} (h : Gh base q hs w) (hf : Fr nothing w w') : Gh base q hs w' := by
  obtain ⟨rs, a, b, c⟩ := h.o
  exact ⟨rs, a.new hf, ⟨b.1, fun i r x e1 e2 => (b.2 i r x e1 e2).fr hf (fun _ _ => id)⟩, fun s hs k hk => ⟨Nat.lt_of_lt_of_le (c s hs k hk).1 hf.size, (c s hs k hk).2⟩⟩
theorem Gh.lt {base : Nat} {q : Slc} {hs : List (List Int)} {w : World} (h : Gh base q hs w) {b : Nat} (hb : q.v.ownBlock = some b) : base ≤ b ∧ b < w.heap.size := by
  obtain ⟨rs, a, _⟩ := h.o
  exact a.lt hb
theorem Gh.n {base : Nat} {q : Slc} {hs : List (List Int)} {w : World} (h : Gh base q hs w) : q.n = hs.length := by
  obtain ⟨rs, a, b, _⟩ := h.o
  rw [a.n, b.1]
theorem own_of_slice {s : Slc} {ao : Addr} {n c : Nat} (h : s.v = .slice (some ao) n c) {k : Nat} (hk : ao.block = k) : s.v.ownBlock = some k := by
  rw [h, ← hk]; rfl
theorem Gh.push {base : Nat} {q s : Slc} {hs : List (List Int)} {l : List Int} {w : World} (h : Gh base q hs w) (hs1 : Sl encZ 1 w s.v l) (hn : ∀ b, s.v.ownBlock = some b → q.v.ownBlock ≠ some b) (hl : ∀ b, s.v.ownBlock = some b → b < w.heap.size) (hb : base ≤ w.heap.size) (h9 : hs.length ≤ 1000) :
    ∃ (q' : Slc) (w' : World), (Builtin.append_ #[60, 60] 60 #[.slice q.a q.n q.c, .slice (some ⟨w.heap.size, 0, none⟩) 1 1]).run Tryd.prog (w.alloc (.cells #[.slice s.a s.n s.c] 49)) = .ok (.slice q'.a q'.n q'.c) w' ∧ Gh base q' (hs ++ [l]) w' ∧ Fr (fun k => q.v.ownBlock = some k) w w' := by
  obtain ⟨rs, a, b, c⟩ := h.o
  have FL : Fr nothing w (w.alloc (.cells #[.slice s.a s.n s.c] 49)) := (Fr.refl _ _).alloc _
  obtain ⟨q', w', hr, ho, hf, ht⟩ := Own.app (x := ⟨some ⟨w.heap.size, 0, none⟩, 1, 1⟩) Tryd.underlying60 sizeIs rfl (by decide) encT_len encT_one (a.new FL) (sl_one (T := 49) w #[.slice s.a s.n s.c] s rfl) (Nat.le_trans hb FL.size) (by rw [b.1]; simp only [List.length_singleton]; unfold maxLen; omega) (by rw [b.1]; simp only [List.length_singleton]; omega)
  have hF : Fr (fun k => q.v.ownBlock = some k) w w' := (FL.mono (fun _ _ e => e.elim)).trans hf
  have hbk : ∀ (t : Slc) (m : List Int), Sl encZ 1 w t.v m → (∀ b, t.v.ownBlock = some b → q.v.ownBlock ≠ some b) → Sl encZ 1 w' t.v m := fun t m h1 h2 =>
    h1.fr hF (fun k hk => by
      obtain ⟨ao, n, c, e1, e2⟩ := hk
      exact h2 k (own_of_slice e1 e2))
  refine ⟨q', w', hr, ⟨rs ++ [s], ho, ⟨by simp [b.1], fun i r x e1 e2 => ?_⟩, fun t ht' k hk => ?_⟩, hF⟩
  · rcases Nat.lt_or_ge i rs.length with hi | hi
    · rw [List.getElem?_append_left hi] at e1
      rw [List.getElem?_append_left (by rw [← b.1]; exact hi)] at e2
      exact hbk r x (b.2 i r x e1 e2) (fun k hk => (c r (List.mem_of_getElem? e1) k hk).2)
    · rw [List.getElem?_append_right hi] at e1
      rw [List.getElem?_append_right (by rw [← b.1]; exact hi), ← b.1] at e2
      have hi0 : i - rs.length = 0 := by have := (List.getElem?_eq_some_iff.1 e1).1; simp at this; omega
      rw [hi0] at e1 e2
      simp at e1 e2
      subst e1 e2
      exact hbk s l hs1 hn
  · rcases List.mem_append.1 ht' with h1 | h1
    · refine ⟨Nat.lt_of_lt_of_le (c t h1 k hk).1 hF.size, fun hq => ?_⟩
      rcases ht k hq with h2 | h2
      · exact (c t h1 k hk).2 h2
      · have := (c t h1 k hk).1
        have := FL.size
        omega
    · rw [List.mem_singleton.1 h1] at hk
      refine ⟨Nat.lt_of_lt_of_le (hl k hk) hF.size, fun hq => ?_⟩
      rcases ht k hq with h2 | h2
      · exact hn k hk h2
      · have := hl k hk; have := FL.size; omega
theorem Gh.done {base : Nat} {q : Slc} {hs : List (List Int)} {w : World} (h : Gh base q hs w) : HsOk w q hs := by
  obtain ⟨rs, a, b, c⟩ := h.o
  exact ⟨rs, a.sl encT_len, b⟩
theorem sl_blk {α : Type} {enc : α → List Value} {sz : Nat} {w : World} {s : Slc} {l : List α} (h : Sl enc sz w s.v l) (hl : l ≠ []) : ∀ b, s.v.ownBlock = some b → b < w.heap.size := by
  intro b hb
  obtain ⟨ao, cap, he, _, hc⟩ := h
  cases l with
  | nil => exact absurd rfl hl
  | cons x l =>
    obtain ⟨b', off, rfl, hlt, _⟩ := hc 0 x rfl
    rw [he] at hb
    obtain rfl : b' = b := Option.some.inj hb
    exact hlt
def PrP (w : World) (p : Pz) (e : Ending) (w' : World) : Prop := ∃ q : Slc, e = .returned (.tuple #[.slice q.a q.n q.c, .int .i64 (programC p)]) ∧ Fr nothing w w' ∧ (programC p = 0 → HsOk w' q (p.cs.map hgtZ))
theorem hed_zero {p : Pz} (h : hedC p = 0) : p.cs.length ≠ 0 ∧ p.cs.length ≤ 5 ∧ p.ws.length ≤ 16 ∧ (∀ t ∈ p.ws, isWord t = true) ∧ npZ p 0 = 0 ∧ ∀ c ∈ p.cs, 0 ≤ c.np ∧ c.np ≤ 4 ∧ c.np ≤ c.nv ∧ c.nv ≤ 8 ∧ c.ins.length ≠ 0 ∧ c.ins.length ≤ 200 := by
  unfold hedC at h
  split at h
  · cases h
  rename_i h1
  split at h
  · cases h
  rename_i h2
  split at h
  · rename_i h3; exact absurd h h3
  rename_i h3
  split at h
  · cases h
  rename_i h4
  refine ⟨by omega, by omega, by omega, fun t ht => ?_, Classical.not_not.1 h4, fun c hc => ?_⟩
  · have := firstE_zero (Classical.not_not.1 h3) t ht
    unfold wdE at this
    split at this
    · assumption
    · cases this
  · have := firstE_zero h c hc
    unfold hdE headBad at this
    split at this
    · cases this
    · rename_i h5
      simp only [decide_eq_true_eq] at h5
      omega
theorem program_any (p : Pz) (sc sw : Slc) (w : World) (hP : PzOk w sc sw p) (hW : WfZ p) :
    Calls Tryd.prog 14 #[.agg #[.slice sc.a sc.n sc.c, .slice sw.a sw.n sw.c]] w (PrP w p) := by
  have HPP := hide hP
  obtain ⟨⟨rs, hrs, hea⟩, hws⟩ := hP
  obtain ⟨n1, m1⟩ := sl_len hrs
  obtain ⟨n2, m2⟩ := sl_len hws
  rw [hea.1] at n1 m1
  obtain ⟨sca, scn, scc⟩ := sc
  obtain ⟨swa, swn, swc⟩ := sw
  simp only at n1 n2
  subst n1 n2
  have hF1 : Fr nothing w (w.alloc (.cells #[.slice sca p.cs.length scc, .slice swa p.ws.length swc] 25)) := (Fr.refl _ _).alloc _
  have ca := made_cells (Fr.refl nothing (w.alloc (.cells #[.slice sca p.cs.length scc, .slice swa p.ws.length swc] 25))) id
  obtain ⟨w1, hw1⟩ : ∃ w1, w1 = w.alloc (.cells #[.slice sca p.cs.length scc, .slice swa p.ws.length swc] 25) := ⟨_, rfl⟩
  rw [← hw1] at hF1 ca
  have c0 := ca.1 0
  have c1 := ca.1 1
  have cl := ca.2.2
  have HHD := hide (heads_any p ⟨sca, p.cs.length, scc⟩ ⟨swa, p.ws.length, swc⟩ w1 (HPP.out.fr hF1) hW)
  have HA := hide (And.intro hrs (And.intro hea hws))
  have HF1 := hide hF1
  obtain ⟨A1, hA1⟩ : ∃ x, x = w.heap.size := ⟨_, rfl⟩
  have HCC : Hid (∀ w', Fr nothing w1 w' → w'.cell? ⟨A1, 0, none⟩ = some (.slice sca p.cs.length scc) ∧ w'.cell? ⟨A1, 1, none⟩ = some (.slice swa p.ws.length swc) ∧ A1 < w'.heap.size) := by
    rw [hA1]
    exact fun w' hf => ⟨(hf.cell (p := ⟨w.heap.size, 0, none⟩) cl id).trans c0, (hf.cell (p := ⟨w.heap.size, 1, none⟩) cl id).trans c1, Nat.lt_of_lt_of_le cl hf.size⟩
  have hw1' : w.alloc (.cells #[.slice sca p.cs.length scc, .slice swa p.ws.length swc] 25) = w1 := hw1.symm
  have HW := hide hW
  have hd : programC p = if hedC p ≠ 0 then hedC p else firstE (codeC p) p.cs := rfl
  have hz := @hed_zero p
  obtain ⟨hh, hhh⟩ : ∃ x, hedC p = x := ⟨_, rfl⟩
  rw [hhh] at HHD hd hz
  obtain ⟨R, hRR⟩ : ∃ x, programC p = x := ⟨_, rfl⟩
  rw [hRR] at hd
  unfold PrP
  rw [hRR]
  clear ca hrs hea hws hF1 hw1 hW hhh hRR
  by_cases h0 : hh = 0
  · subst h0
    obtain ⟨g1, g2, g3, -, -, g4⟩ := hz rfl
    have HG4 := hide g4
    have HDD : Hid (R = firstE (codeC p) p.cs) := hd
    clear hz hd g4
    obtain ⟨j0, hj0, hy0, hy1, hy2⟩ := info_parts sizeIs
    have HMK : Hid (∀ w2 : World, ∃ w3, (Instr.makeSlice 60 (.int .i64 0) (.int .i64 (p.cs.length : Int))).run Tryd.prog w2 = .ok (.slice (some ⟨w2.heap.size, 0, none⟩) 0 p.cs.length) w3 ∧ Gh w2.heap.size ⟨some ⟨w2.heap.size, 0, none⟩, 0, p.cs.length⟩ [] w3 ∧ Fr nothing w2 w3) := by
      intro w2
      obtain ⟨w3, r1, r2, r3⟩ := run_make_own (P := Tryd.prog) w2 w2.heap.size 60 49 j0 _ 1 Tryd.underlying60 hj0 hy0 hy1 .i64 .i64 p.cs.length (by rw [hy2]; omega) (by unfold maxLen; omega) (Nat.le_refl _)
      exact ⟨w3, r1, ⟨⟨[], ⟨rfl, r2⟩, ⟨rfl, fun i r x e => by simp at e⟩, fun s hs => by cases hs⟩⟩, (Fr.refl nothing w2).grown r3 (fun k hk => by cases hk)⟩
    clear hj0 hy0 hy1 hy2
    go_enter Tryd.func14, Tryd.ntmps14
    go_wp2_with (go_at_call 33; refine HHD.out.mono ?_; rintro e w2 ⟨rfl, hf2⟩; have HF2 := hide hf2; obtain ⟨d0, d1, dl⟩ := HCC.out w2 hf2; rw [hA1] at d0 d1 dl; obtain ⟨w3, hmk, hgh, hf3⟩ := HMK.out w2; have HGH := hide hgh; have HF3 := hide hf3; obtain ⟨f0, f1, fl⟩ := HCC.out w3 (hf2.trans hf3); rw [hA1] at f0 f1 fl; clear hf2 hgh hf3)
    rw [← hA1]
    obtain ⟨B, hB⟩ : ∃ x, x = w2.heap.size := ⟨_, rfl⟩
    rw [← hB] at HGH
    rw [← hB]
    have HB := hide hB
    clear c0 c1 cl d0 d1 dl f0 f1 fl hw1' hA1 hmk HHD HMK hB
    go_loopw [25, 5, 7, 9, 10, 11, 12] (fun i v5 _ _ _ _ _ wv => ∃ (k : Nat) (q : Slc), k ≤ p.cs.length ∧ i = .int .i64 k ∧ v5 = .slice q.a q.n q.c ∧ Hid (Fr nothing w2 wv ∧ Gh B q ((p.cs.take k).map hgtZ) wv ∧ firstE (codeC p) (p.cs.drop k) = firstE (codeC p) p.cs)) (fun i _ _ _ _ _ _ _ => p.cs.length - (intOf i).toNat)
    case atStart => exact ⟨0, ⟨some ⟨B, 0, none⟩, 0, p.cs.length⟩, Nat.zero_le _, rfl, rfl, HF3.out, HGH.out, rfl⟩
    case round =>
      obtain ⟨k, q, hk, rfl, rfl, hRk⟩ := hrel
      obtain ⟨hfk, hgk, hek⟩ := hRk.out
      by_cases hkl : k < p.cs.length
      · have hx : p.cs[k]? = some p.cs[k] := List.getElem?_eq_getElem hkl
        have hxm : p.cs[k] ∈ p.cs := List.getElem_mem hkl
        have hst := firstE_drop (codeC p) p.cs hx
        have htk : p.cs.take (k + 1) = p.cs.take k ++ [p.cs[k]] := List.take_succ_eq_append_getElem hkl
        have hra : rs[k]? = some (rs[k]'(by rw [HA.out.2.1.1]; omega)) := List.getElem?_eq_getElem _
        generalize p.cs[k] = x at hx hxm hst htk
        generalize rs[k]'(by rw [HA.out.2.1.1]; omega) = xa at hra
        have hco := HG4.out x hxm
        have hwf := HW.out.c x hxm
        obtain ⟨p1, p2, p3⟩ := HA.out.2.1.2 k xa x hra hx
        obtain ⟨gb, ob, e1, dgb, ub, ub1, ub2⟩ := sl_elemC (s := ⟨sca, p.cs.length, scc⟩) HA.out.1 hra
        simp only at e1
        subst e1
        obtain ⟨q1, q2⟩ := sl_len p3
        obtain ⟨xa1, xa2, ⟨xaa, xan, xac⟩⟩ := xa
        simp only at p1 p2 q1 ub ub1 ub2
        subst p1 p2 q1
        have hF := HF1.out.trans (HF2.out.trans hfk)
        have eg1 := Nat.lt_of_lt_of_le dgb hF.size
        rw [← hF.cell (p := ⟨gb, _, none⟩) dgb id] at ub ub1 ub2
        rw [hek] at hst
        have hFA : Fr nothing wr (wr.alloc (.cells #[.int .i64 x.np, .int .i64 x.nv, .slice xaa x.ins.length xac] 54)) := (Fr.refl _ _).alloc _
        have hm4 := made_cells (Fr.refl nothing (wr.alloc (.cells #[.int .i64 x.np, .int .i64 x.nv, .slice xaa x.ins.length xac] 54))) id
        have HM4 := hide hm4
        have HF4 : Hid (Fr nothing w2 (wr.alloc (.cells #[.int .i64 x.np, .int .i64 x.nv, .slice xaa x.ins.length xac] 54))) := hfk.trans hFA
        have HGK : Hid (Gh B q ((p.cs.take k).map hgtZ) (wr.alloc (.cells #[.int .i64 x.np, .int .i64 x.nv, .slice xaa x.ins.length xac] 54))) := hgk.new hFA
        have HST : Hid (firstE (codeC p) p.cs = if codeC p x ≠ 0 then codeC p x else firstE (codeC p) (p.cs.drop (k + 1))) := hst
        have HTK := hide htk
        have HP3 := hide p3
        have HCO := hide hco
        have HWF := hide hwf
        have hln : x.ins.length ≤ 200 := hco.2.2.2.2.2
        clear hx hxm hra p3 hF hst htk hm4 hFA hRk hfk hgk hek hco hwf
        go_wp2_with fail
        generalize wr.alloc (.cells #[.int .i64 x.np, .int .i64 x.nv, .slice xaa x.ins.length xac] 54) = w4 at *
        obtain ⟨cb, hcb⟩ : ∃ x, x = wr.heap.size := ⟨_, rfl⟩
        rw [← hcb] at HM4
        rw [← hcb]
        clear hcb ub ub1 ub2 eg1
        go_loopw [32, 9, 10] (fun i _ _ wv => ∃ (j : Nat), j ≤ x.ins.length ∧ i = .int .i64 j ∧ Hid (Fr nothing w4 wv ∧ firstE (inC p x) (x.ins.drop j) = firstE (inC p x) x.ins)) (fun i _ _ _ => x.ins.length - (intOf i).toNat)
        case atStart => exact ⟨0, Nat.zero_le _, rfl, Fr.refl _ _, rfl⟩
        case round =>
          obtain ⟨j, hj, rfl, hR2⟩ := hrel
          obtain ⟨hf4, he4⟩ := hR2.out
          have cA := HCC.out _ (HF2.out.trans (HF4.out.trans hf4))
          obtain ⟨cA0, cA1, cAl⟩ := cA
          have cD0 := (hf4.cell (p := ⟨cb, 0, none⟩) HM4.out.2.2 id).trans (HM4.out.1 0)
          have cD1 := (hf4.cell (p := ⟨cb, 1, none⟩) HM4.out.2.2 id).trans (HM4.out.1 1)
          have cD2 := (hf4.cell (p := ⟨cb, 2, none⟩) HM4.out.2.2 id).trans (HM4.out.1 2)
          have cDl := Nat.lt_of_lt_of_le HM4.out.2.2 hf4.size
          have hFw := HF1.out.trans (HF2.out.trans (HF4.out.trans hf4))
          by_cases hjl : j < x.ins.length
          · have hy : x.ins[j]? = some x.ins[j] := List.getElem?_eq_getElem hjl
            have hst2 := firstE_drop (inC p x) x.ins hy
            generalize x.ins[j] = y at hy hst2
            obtain ⟨ia, ja, e1, dia, v0, v1, v2⟩ := sl_elemI (s := ⟨xaa, x.ins.length, xac⟩) HP3.out hy
            simp only at e1
            subst e1
            have egi := Nat.lt_of_lt_of_le dia hFw.size
            rw [← hFw.cell (p := ⟨ia, _, none⟩) dia id] at v0 v1 v2
            rw [he4] at hst2
            obtain ⟨op, a, b⟩ := y
            simp only at v0 v1 v2
            have hFA : Fr nothing wr (wr.alloc (.cells #[.int .i64 op, .int .i64 a, .int .i64 b] 59)) := (Fr.refl _ _).alloc _
            have HI := hide (instr_any p x ⟨op, a, b⟩ ⟨some ⟨gb, ob, none⟩, p.cs.length, scc⟩ ⟨swa, p.ws.length, swc⟩ ⟨some ⟨ia, ja, none⟩, x.ins.length, xac⟩ (wr.alloc (.cells #[.int .i64 op, .int .i64 a, .int .i64 b] 59)) (HPP.out.fr (hFw.trans hFA)) rfl (by have := HCO.out; omega) (by omega))
            have HFW := hide (hFw.trans hFA)
            have HF5 : Hid (Fr nothing w4 (wr.alloc (.cells #[.int .i64 op, .int .i64 a, .int .i64 b] 59))) := hf4.trans hFA
            obtain ⟨er, her⟩ : ∃ er, inC p x ⟨op, a, b⟩ = er := ⟨_, rfl⟩
            rw [her] at hst2 HI
            have HS2 := hide hst2
            clear hy hR2 hf4 he4 hFw hFA her hst2
            by_cases h0 : er = 0
            · subst h0
              have HE : Hid (firstE (inC p x) (x.ins.drop (j + 1)) = firstE (inC p x) x.ins) := by
                have := HS2.out
                rw [if_neg (by simp)] at this
                exact this.symm
              clear HS2
              go_wp2_with (go_at_call 34; refine HI.out.mono ?_; rintro e w6 ⟨rfl, hf6⟩; have HF6 := hide (HF5.out.trans hf6); clear hf6)
              go_roundw
              case rel => exact ⟨j + 1, by omega, by go_num, HF6.out, HE.out⟩
              case measure => simp [intOf]; omega
            · have h0b : (er != 0) = true := by simpa using h0
              have HR : Hid (R = er) := by
                have h1 := HS2.out
                rw [if_pos h0] at h1
                have h2 : codeC p x = er := by unfold codeC; rw [h1, if_pos h0]
                unfold Hid
                rw [HDD.out, HST.out, h2, if_pos h0]
              clear HS2
              go_wp2_with (go_at_call 34; refine HI.out.mono ?_; rintro e w6 ⟨rfl, hf6⟩; have HF6 := hide (HFW.out.trans hf6); clear hf6)
              exact bodyPost_ret (v := .tuple #[.slice none 0 0, .int .i64 er]) (by simp [results, Tryd.results14, go_sem]) rfl ⟨nilS, by rw [HR.out], HF6.out, fun e => absurd (HR.out.symm.trans e) h0⟩
          · have hin : firstE (inC p x) x.ins = 0 := by rw [← he4]; exact firstE_end _ _ (by omega)
            have hh : codeC p x = (heightsC x.ins).2 := by unfold codeC; rw [hin, if_neg (by simp)]
            have hb17 : ∀ i ∈ x.ins, i.op = 17 → 0 ≤ i.b := fun i hi e => by
              have h1 := firstE_zero hin i hi
              unfold inC at h1
              split at h1
              · cases h1
              split at h1
              · cases h1
              split at h1
              · cases h1
              rename_i r1 r2 r3
              have h4 : i.b = bC p i := Classical.not_not.1 r3
              have h5 : 0 ≤ i.a ∧ i.a < p.cs.length := by
                rw [e] at r2
                have e1 : loC 17 = 0 := rfl
                have e2 : hiC p x 17 = (p.cs.length : Int) - 1 := rfl
                rw [e1, e2] at r2
                omega
              have h6 : p.cs[i.a.toNat]? = some (p.cs[i.a.toNat]'(by omega)) := List.getElem?_eq_getElem _
              have h7 := (HG4.out _ (List.getElem_mem (l := p.cs) (n := i.a.toNat) (by omega))).1
              rw [h4]
              unfold bC npZ
              rw [if_pos e, h6]
              exact h7
            have HHT := hide (vheights_any x.ins x.np x.nv ⟨xaa, x.ins.length, xac⟩ wr (HP3.out.fr hFw (fun _ _ => id)) (by omega) hb17)
            have HFW := hide hFw
            have HF5 : Hid (Fr nothing w2 wr) := HF4.out.trans hf4
            have HG5 : Hid (Gh B q ((p.cs.take k).map hgtZ) wr) := HGK.out.new hf4
            have HNE : Hid ((heightsC x.ins).2 = 0 → (heightsC x.ins).1 ≠ []) := fun e h => by
              have h1 := heights_len e
              rw [h] at h1
              have := HCO.out
              simp at h1
              omega
            obtain ⟨er, her⟩ : ∃ er, (heightsC x.ins).2 = er := ⟨_, rfl⟩
            unfold HtQ at HHT
            rw [her] at hh HHT HNE
            have HH := hide hh
            obtain ⟨w5, hw5⟩ : ∃ x, x = wr := ⟨_, rfl⟩
            subst hw5
            clear hR2 hf4 he4 hFw her hin hh hb17
            by_cases h0 : er = 0
            · subst h0
              have HE : Hid (firstE (codeC p) (p.cs.drop (k + 1)) = firstE (codeC p) p.cs) := by
                have := HST.out
                rw [HH.out, if_neg (by simp)] at this
                exact this.symm
              have HNX : Hid (∀ (sl : Slc) (w6 : World), Fr nothing w5 w6 → Sl encZ 1 w6 sl.v (heightsC x.ins).1 → (∀ b, sl.v.ownBlock = some b → w5.heap.size ≤ b) → (∀ b, sl.v.ownBlock = some b → b < w6.heap.size) → ∃ (q' : Slc) (w7 : World), (Builtin.append_ #[60, 60] 60 #[.slice q.a q.n q.c, .slice (some ⟨w6.heap.size, 0, none⟩) 1 1]).run Tryd.prog (w6.alloc (.cells #[.slice sl.a sl.n sl.c] 49)) = .ok (.slice q'.a q'.n q'.c) w7 ∧ Fr nothing w2 w7 ∧ Gh B q' ((p.cs.take (k + 1)).map hgtZ) w7) := by
                intro sl w6 hf hs hb1 hb2
                have hg6 := HG5.out.new hf
                have hB := HB.out
                have hsz := (HF5.out.trans hf).size
                obtain ⟨q', w7, r1, r2, r3⟩ := hg6.push hs (fun b hb e => by have h1 := (HG5.out.lt e).2; have := hb1 b hb; omega) hb2 (by omega) (by rw [List.length_map, List.length_take]; omega)
                refine ⟨q', w7, r1, (HF5.out.trans hf).then r3 (fun j hj e => by have h1 := (HG5.out.lt e).1; omega), ?_⟩
                rw [HTK.out, List.map_append]
                exact r2
              go_wp2_with (first
                | (go_at_call 13; refine HHT.out.mono ?_; rintro e w6 ⟨sl, rfl, hf6, hs6, hb6⟩; obtain ⟨q', w7, hap, hf7, hg7⟩ := HNX.out sl w6 hf6 hs6 hb6 (sl_blk hs6 (HNE.out rfl)); have HF7 := hide hf7; have HG7 := hide hg7; clear hf6 hs6 hb6 hf7 hg7)
                | (at_builtin; go_must (refine wpList_run rfl _ _ 60 rfl _ _ rfl rfl hap ?_; clear hap)))
              go_roundw
              case rel => exact ⟨k + 1, q', by omega, by go_num, rfl, HF7.out, HG7.out, HE.out⟩
              case measure => simp [intOf]; omega
            · have h0b : (er != 0) = true := by simpa using h0
              have HR : Hid (R = er) := by
                unfold Hid
                rw [HDD.out, HST.out, HH.out, if_pos h0]
              go_wp2_with (go_at_call 13; refine HHT.out.mono ?_; rintro e w6 ⟨sl, rfl, hf6, hs6, hb6⟩; have HF6 := hide (HFW.out.trans hf6); clear hf6 hs6 hb6)
              exact bodyPost_ret (v := .tuple #[.slice none 0 0, .int .i64 er]) (by simp [results, Tryd.results14, go_sem]) rfl ⟨nilS, by rw [HR.out], HF6.out, fun e => absurd (HR.out.symm.trans e) h0⟩
      · have hRr : R = 0 := by rw [HDD.out, ← hek]; exact firstE_end _ _ (by omega)
        have hkk : k = p.cs.length := by omega
        have HFN := hide (HF1.out.trans (HF2.out.trans hfk))
        have HGN : Hid (HsOk wr q (p.cs.map hgtZ)) := by
          have := hgk.done
          rw [hkk, List.take_length] at this
          exact this
        subst hRr
        clear hRk hfk hgk hek hkk
        go_wp2_with fail
        exact bodyPost_ret (v := .tuple #[.slice q.a q.n q.c, .int .i64 0]) (by simp [results, Tryd.results14, go_sem]) rfl ⟨q, rfl, HFN.out, by first | exact HGN.out | exact fun _ => HGN.out⟩
  · rw [if_pos h0] at hd
    subst hd
    have h0b : (R != 0) = true := by simpa using h0
    go_enter Tryd.func14, Tryd.ntmps14
    go_wp2_with (go_at_call 33; refine HHD.out.mono ?_; rintro e w2 ⟨rfl, hf2⟩; have HF2 := hide (HF1.out.trans hf2); clear hf2)
    exact bodyPost_ret (v := .tuple #[.slice none 0 0, .int .i64 R]) (by simp [results, Tryd.results14, go_sem]) rfl ⟨nilS, rfl, HF2.out, fun e => absurd e h0⟩
end Go.Proofs.YtpemfikdmkmgbaaDoor
end
section
/- Package verify: the numbers of an agent, what a frame waits for, what is wrong with values. -/
set_option maxHeartbeats 0
set_option maxRecDepth 100000
namespace Go.Proofs.YtpemfikdmkmgbaaDoor
open Go Go.RowKit
abbrev agC (a : Ag) (sc sw sf sh : Slc) : Array Value := #[.int .i64 a.id, .int .i64 a.trip, .slice sc.a sc.n sc.c, .slice sw.a sw.n sw.c, .slice sf.a sf.n sf.c, .slice sh.a sh.n sh.c, .int .i64 a.fuel, .int .i64 a.cells, .int .i64 a.hops]
theorem counts_any (a : Ag) (sc sw sf sh : Slc) (w : World) (h1 : sf.n = a.fr.length) (h2 : sh.n = a.hp.length) (hl : a.fr.length ≤ 140737488355328 ∧ a.hp.length ≤ 140737488355328) :
    Calls Tryd.prog 15 #[.agg (agC a sc sw sf sh)] w fun e w' => e = .returned (.int .i64 (countsC a)) ∧ Fr nothing w w' := by
  obtain ⟨id, trip, pg, fr, hp, fuel, cells, hops⟩ := a
  obtain ⟨sca, scn, scc⟩ := sc
  obtain ⟨swa, swn, swc⟩ := sw
  obtain ⟨sfa, sfn, sfc⟩ := sf
  obtain ⟨sha, shn, shc⟩ := sh
  simp only at h1 h2 hl
  subst h1 h2
  have hd : countsC ⟨id, trip, pg, fr, hp, fuel, cells, hops⟩ = if id < 0 ∨ 1073741824 < id ∨ trip < 0 ∨ 1073741824 < trip then 3 else if fuel < 0 ∨ 2000 < fuel ∨ cells < 0 ∨ 60 < cells ∨ hops < 0 ∨ 12 < hops then 3 else if fr.length = 0 ∨ 12 < fr.length then 5 else if 60 < hp.length + cells then 4 else 0 := rfl
  obtain ⟨R, hR⟩ : ∃ R, countsC ⟨id, trip, pg, fr, hp, fuel, cells, hops⟩ = R := ⟨_, rfl⟩
  rw [hR] at hd ⊢
  have HF : Hid (Fr nothing w ((w.alloc (.cells #[.int .i64 id, .int .i64 trip, .slice sca scn scc, .slice swa swn swc, .slice sfa fr.length sfc, .slice sha hp.length shc, .int .i64 fuel, .int .i64 cells, .int .i64 hops] 31)).alloc (.cells #[.int .i64 fuel, .int .i64 cells, .int .i64 hops] 29))) := ((Fr.refl _ _).alloc _).alloc _
  clear hR
  by_cases b1 : betw id 0 1073741824 = true
  case neg =>
    have b1' : betw id 0 1073741824 = false := by simpa using b1
    rw [if_pos (by simp only [betw, decide_eq_true_eq, decide_eq_false_iff_not] at *; omega)] at hd
    subst hd
    clear b1
    go_enter Tryd.func15, Tryd.ntmps15
    go_wp2_with (go_at_call 35; refine (between_any _ _ _ _).mono ?_; rintro e w4 ⟨rfl, hw4⟩; (first | rw [hw4, b1']); clear hw4)
    go_ret
    exact ⟨rfl, HF.out⟩
  by_cases b2 : betw trip 0 1073741824 = true
  case neg =>
    have b2' : betw trip 0 1073741824 = false := by simpa using b2
    rw [if_pos (by simp only [betw, decide_eq_true_eq, decide_eq_false_iff_not] at *; omega)] at hd
    subst hd
    clear b2
    go_enter Tryd.func15, Tryd.ntmps15
    go_wp2_with (go_at_call 35; refine (between_any _ _ _ _).mono ?_; rintro e w4 ⟨rfl, hw4⟩; (first | rw [hw4, b1] | rw [hw4, b2']); clear hw4)
    go_ret
    exact ⟨rfl, HF.out⟩
  rw [if_neg (by simp only [betw, decide_eq_true_eq] at *; omega)] at hd
  by_cases b3 : betw fuel 0 2000 = true
  case neg =>
    have b3' : betw fuel 0 2000 = false := by simpa using b3
    rw [if_pos (by simp only [betw, decide_eq_true_eq, decide_eq_false_iff_not] at *; omega)] at hd
    subst hd
    clear b3
    go_enter Tryd.func15, Tryd.ntmps15
    go_wp2_with (go_at_call 35; refine (between_any _ _ _ _).mono ?_; rintro e w4 ⟨rfl, hw4⟩; (first | rw [hw4, b1] | rw [hw4, b2] | rw [hw4, b3']); clear hw4)
    go_ret
    exact ⟨rfl, HF.out⟩
  by_cases b4 : betw cells 0 60 = true
  case neg =>
    have b4' : betw cells 0 60 = false := by simpa using b4
    rw [if_pos (by simp only [betw, decide_eq_true_eq, decide_eq_false_iff_not] at *; omega)] at hd
    subst hd
    clear b4
    go_enter Tryd.func15, Tryd.ntmps15
    go_wp2_with (go_at_call 35; refine (between_any _ _ _ _).mono ?_; rintro e w4 ⟨rfl, hw4⟩; (first | rw [hw4, b1] | rw [hw4, b2] | rw [hw4, b3] | rw [hw4, b4']); clear hw4)
    go_ret
    exact ⟨rfl, HF.out⟩
  by_cases b5 : betw hops 0 12 = true
  case neg =>
    have b5' : betw hops 0 12 = false := by simpa using b5
    rw [if_pos (by simp only [betw, decide_eq_true_eq, decide_eq_false_iff_not] at *; omega)] at hd
    subst hd
    clear b5
    go_enter Tryd.func15, Tryd.ntmps15
    go_wp2_with (go_at_call 35; refine (between_any _ _ _ _).mono ?_; rintro e w4 ⟨rfl, hw4⟩; (first | rw [hw4, b1] | rw [hw4, b2] | rw [hw4, b3] | rw [hw4, b4] | rw [hw4, b5']); clear hw4)
    go_ret
    exact ⟨rfl, HF.out⟩
  rw [if_neg (by simp only [betw, decide_eq_true_eq] at *; omega)] at hd
  by_cases b6 : betw (fr.length : Int) 1 12 = true
  case neg =>
    have b6' : betw (fr.length : Int) 1 12 = false := by simpa using b6
    rw [if_pos (by simp only [betw, decide_eq_true_eq, decide_eq_false_iff_not] at *; omega)] at hd
    subst hd
    clear b6
    go_enter Tryd.func15, Tryd.ntmps15
    go_wp2_with (go_at_call 35; refine (between_any _ _ _ _).mono ?_; rintro e w4 ⟨rfl, hw4⟩; (first | rw [hw4, b1] | rw [hw4, b2] | rw [hw4, b3] | rw [hw4, b4] | rw [hw4, b5] | rw [hw4, b6']); clear hw4)
    go_ret
    exact ⟨rfl, HF.out⟩
  rw [if_neg (by simp only [betw, decide_eq_true_eq] at *; omega)] at hd
  have hc : 0 ≤ cells ∧ cells ≤ 60 := by simpa [betw] using b4
  have hN : IntKind.i64.wrap (60 - cells) = 60 - cells := wrap_in _ (by omega) (by omega)
  by_cases b7 : 60 < hp.length + cells
  · rw [if_pos b7] at hd
    subst hd
    have b7' : 60 - cells < (hp.length : Int) := by omega
    go_enter Tryd.func15, Tryd.ntmps15
    go_wp2_with (go_at_call 35; refine (between_any _ _ _ _).mono ?_; rintro e w4 ⟨rfl, hw4⟩; (first | rw [hw4, b1] | rw [hw4, b2] | rw [hw4, b3] | rw [hw4, b4] | rw [hw4, b5] | rw [hw4, b6]); clear hw4)
    go_ret
    exact ⟨rfl, HF.out⟩
  · rw [if_neg b7] at hd
    subst hd
    have b7' : ¬ 60 - cells < (hp.length : Int) := by omega
    go_enter Tryd.func15, Tryd.ntmps15
    go_wp2_with (go_at_call 35; refine (between_any _ _ _ _).mono ?_; rintro e w4 ⟨rfl, hw4⟩; (first | rw [hw4, b1] | rw [hw4, b2] | rw [hw4, b3] | rw [hw4, b4] | rw [hw4, b5] | rw [hw4, b6]); clear hw4)
    go_ret
    exact ⟨rfl, HF.out⟩
end Go.Proofs.YtpemfikdmkmgbaaDoor
end
section
/- Package verify: what a frame waits for; what is wrong with values. -/
set_option maxHeartbeats 0
set_option maxRecDepth 100000
namespace Go.Proofs.YtpemfikdmkmgbaaDoor
open Go Go.RowKit
theorem put2 {w : World} {b : Nat} {u0 u1 : Value} (v0 v1 : Value) (m0 : w.cell? ⟨b, 0, none⟩ = some u0) (m1 : w.cell? ⟨b, 1, none⟩ = some u1) :
    ∃ w5, (w.setCell ⟨b, 0, none⟩ v0).setCell ⟨b, 1, none⟩ v1 = w5 ∧ w5.cell? ⟨b, 0, none⟩ = some v0 ∧ w5.cell? ⟨b, 1, none⟩ = some v1 ∧ Fr (fun k => k = b) w w5 := by
  have h1 := World.cell?_setCell_same w ⟨b, 0, none⟩ v0 m0
  have h2 : (w.setCell ⟨b, 0, none⟩ v0).cell? ⟨b, 1, none⟩ = some u1 := (World.cell?_setCell_other w ⟨b, 0, none⟩ ⟨b, 1, none⟩ _ (by simp)).trans m1
  refine ⟨_, rfl, ?_, World.cell?_setCell_same _ _ _ h2, ((Fr.refl (fun k => k = b) w).setCell (p := ⟨b, 0, none⟩) (.inl rfl) _).setCell (p := ⟨b, 1, none⟩) (.inl rfl) _⟩
  exact (World.cell?_setCell_other _ ⟨b, 1, none⟩ ⟨b, 0, none⟩ _ (by simp)).trans h1
theorem waits_any (a : Ag) (sc sw sf sh : Slc) (k : Nat) (away : Bool) (rs : List RawM) (w : World) (hfr : Sl encM 4 w sf.v rs) (he : Each (FmOk w) rs a.fr) (hk : k ≤ 1000000) :
    Calls Tryd.prog 19 #[.agg (agC a sc sw sf sh), .int .i64 (k : Nat), .bool away] w fun e w' => e = .returned (.agg #[.int .i64 (waitC a k away).1, .int .i64 (waitC a k away).2]) ∧ Fr nothing w w' := by
  obtain ⟨hn, hm⟩ := sl_len hfr
  rw [he.1] at hn hm
  have hd : waitC a k away = if k + 1 < a.fr.length then (17, (a.fr.getD (k + 1) fm0).fn) else if away then (13, 0) else (0, 0) := rfl
  generalize waitC a k away = R at hd ⊢
  obtain ⟨sfa, sfn, sfc⟩ := sf
  simp only at hn
  subst hn
  have hN : IntKind.i64.wrap ((k : Int) + 1) = (k : Int) + 1 := wrap_in _ (by omega) (by omega)
  have hN' : ((k + 1 : Nat) : Int) = (k : Int) + 1 := by omega
  have FA : Fr nothing w (w.alloc (.cells (agC a sc sw ⟨sfa, a.fr.length, sfc⟩ sh) 31)) := (Fr.refl _ _).alloc _
  obtain ⟨w1, hw1⟩ : ∃ x, x = w.alloc (.cells (agC a sc sw ⟨sfa, a.fr.length, sfc⟩ sh) 31) := ⟨_, rfl⟩
  rw [← hw1] at FA
  have FB : Fr nothing w1 (w1.alloc (.cells #[.int .i64 0, .int .i64 0] 70)) := (Fr.refl _ _).alloc _
  have mb := made_cells (Fr.refl nothing (w1.alloc (.cells #[.int .i64 0, .int .i64 0] 70))) id
  obtain ⟨w2, hw2⟩ : ∃ x, x = w1.alloc (.cells #[.int .i64 0, .int .i64 0] 70) := ⟨_, rfl⟩
  rw [← hw2] at FB mb
  have z1 : w1.heap.size = w.heap.size + 1 := by rw [hw1]; simp
  have ma := made_cells (w := w) (cs := agC a sc sw ⟨sfa, a.fr.length, sfc⟩ sh) (t := 31) (w1 := w2) (S := nothing) (by rw [← hw1]; exact FB) id
  have a4 := ma.1 4
  have al := ma.2.2
  rw [z1] at mb
  have b0 := mb.1 0
  have b1 := mb.1 1
  have bz := mb.2.1
  have bl := mb.2.2
  have hF2 := FA.trans FB
  have e1' := hw1.symm
  have e2' := hw2.symm
  have HFR := hide (hfr.fr hF2 (fun _ _ => id))
  have HE := hide he
  have hnb : ¬ w.heap.size = w.heap.size + 1 := by omega
  have HPUT : Hid (∀ v0 v1, ∃ w5, (w2.setCell ⟨w.heap.size + 1, 0, none⟩ v0).setCell ⟨w.heap.size + 1, 1, none⟩ v1 = w5 ∧ w5.cell? ⟨w.heap.size + 1, 0, none⟩ = some v0 ∧ w5.cell? ⟨w.heap.size + 1, 1, none⟩ = some v1 ∧ Fr nothing w w5) := fun v0 v1 => by
    obtain ⟨w5, x1, x2, x3, x4⟩ := put2 v0 v1 b0 b1
    exact ⟨w5, x1, x2, x3, hF2.then x4 (fun j hj e => by omega)⟩
  clear FA FB ma mb hw1 hw2 hfr he hF2 hm
  by_cases hlt : k + 1 < a.fr.length
  · rw [if_pos hlt] at hd
    have hx : a.fr[k + 1]? = some a.fr[k + 1] := List.getElem?_eq_getElem hlt
    have hg : a.fr.getD (k + 1) fm0 = a.fr[k + 1] := by simp [List.getD, hx]
    rw [hg] at hd
    have hr : rs[k + 1]? = some (rs[k + 1]'(by rw [HE.out.1]; exact hlt)) := List.getElem?_eq_getElem _
    generalize a.fr[k + 1] = f at hx hd
    generalize rs[k + 1]'(by rw [HE.out.1]; exact hlt) = r at hr
    have hok := HE.out.2 _ r f hr hx
    obtain ⟨g, o, e1, dg, u0, u1, u2, u3⟩ := sl_elemM (s := ⟨sfa, a.fr.length, sfc⟩) HFR.out hr
    simp only at e1
    subst e1
    rw [hok.fn] at u0
    subst hd
    obtain ⟨w5, x1, x2, x3, x4⟩ := HPUT.out (.int .i64 17) (.int .i64 f.fn)
    have HX := hide (And.intro x2 (And.intro x3 x4))
    have hlt' : (k : Int) + 1 < (a.fr.length : Int) := by omega
    clear x2 x3 x4 u1 u2 u3 hx hr hg hok HPUT
    go_enter Tryd.func19, Tryd.ntmps19
    go_wp2
    obtain ⟨x2, x3, x4⟩ := HX.out
    try rw [x1]
    exact bodyPost_ret (v := .agg #[.int .i64 17, .int .i64 f.fn]) (by simp [results, Tryd.results19, go_sem, x2, x3]) rfl ⟨rfl, x4⟩
  · rw [if_neg hlt] at hd
    have hlt' : ¬ (k : Int) + 1 < (a.fr.length : Int) := by omega
    cases away with
    | true =>
      replace hd : R = (13, 0) := hd
      subst hd
      obtain ⟨w5, x1, x2, x3, x4⟩ := HPUT.out (.int .i64 13) (.int .i64 0)
      have HX := hide (And.intro x2 (And.intro x3 x4))
      clear x2 x3 x4 HPUT
      go_enter Tryd.func19, Tryd.ntmps19
      go_wp2
      obtain ⟨x2, x3, x4⟩ := HX.out
      try rw [x1]
      exact bodyPost_ret (v := .agg #[.int .i64 13, .int .i64 0]) (by simp [results, Tryd.results19, go_sem, x2, x3]) rfl ⟨rfl, x4⟩
    | false =>
      replace hd : R = (0, 0) := hd
      subst hd
      obtain ⟨w5, x1, x2, x3, x4⟩ := HPUT.out (.int .i64 0) (.int .i64 0)
      have HX := hide (And.intro x2 (And.intro x3 x4))
      clear x2 x3 x4 HPUT
      go_enter Tryd.func19, Tryd.ntmps19
      go_wp2
      obtain ⟨x2, x3, x4⟩ := HX.out
      try rw [x1]
      exact bodyPost_ret (v := .agg #[.int .i64 0, .int .i64 0]) (by simp [results, Tryd.results19, go_sem, x2, x3]) rfl ⟨rfl, x4⟩
/-- What is wrong with values. -/
theorem wrongs_any (l : List Val) (s : Slc) (ab n : Nat) (ha : Option Addr) (hc : Nat) (w : World) (hs : Sl encV 3 w s.v l) (hw : ∀ v ∈ l, WfV v) (hb : w.cell? ⟨ab, 5, none⟩ = some (.slice ha n hc)) :
    Calls Tryd.prog 16 #[.slice s.a s.n s.c, .pointer (some ⟨ab, 0, none⟩)] w fun e w' => e = .returned (.int .i64 (firstE (wrongV n) l)) ∧ Fr nothing w w' := by
  obtain ⟨hn, hm⟩ := sl_len hs
  obtain ⟨sa, sn, sc⟩ := s
  simp only at hn
  subst hn
  have HS := hide hs
  have HW := hide hw
  have hal := lt_of_cell hb
  have HB := hide (And.intro hb hal)
  obtain ⟨R, hR⟩ : ∃ R, firstE (wrongV n) l = R := ⟨_, rfl⟩
  rw [hR]
  have HR := hide hR
  clear hs hw hb hal hR
  go_enter Tryd.func16, Tryd.ntmps16
  go_wp2
  go_loopw [9, 5, 6] (fun i _ _ wv => ∃ (j : Nat), j ≤ l.length ∧ i = .int .i64 j ∧ Hid (Fr nothing w wv ∧ firstE (wrongV n) (l.drop j) = firstE (wrongV n) l)) (fun i _ _ _ => l.length - (intOf i).toNat)
  case atStart => exact ⟨0, Nat.zero_le _, rfl, Fr.refl _ _, rfl⟩
  case round =>
    obtain ⟨j, hj, rfl, hRj⟩ := hrel
    obtain ⟨hf, hej⟩ := hRj.out
    by_cases hjl : j < l.length
    · have hx : l[j]? = some l[j] := List.getElem?_eq_getElem hjl
      have hxm : l[j] ∈ l := List.getElem_mem hjl
      have hst := firstE_drop (wrongV n) l hx
      generalize l[j] = v at hx hxm hst
      have hwf := HW.out v hxm
      obtain ⟨g, o, e1, dg, u0, u1, u2⟩ := sl_elemV (s := ⟨sa, l.length, sc⟩) HS.out hx
      simp only at e1
      subst e1
      have dg' := Nat.lt_of_lt_of_le dg hf.size
      rw [← hf.cell (p := ⟨g, _, none⟩) dg id] at u0 u1 u2
      have b5 := (hf.cell (p := ⟨ab, 5, none⟩) HB.out.2 id).trans HB.out.1
      have bl := Nat.lt_of_lt_of_le HB.out.2 hf.size
      rw [hej] at hst
      have hFA : Fr nothing w (wr.alloc (.cells #[.int .i64 v.k, .int .i64 v.n, .string (bs v.t)] 65)) := hf.alloc _
      have HFA := hide hFA
      have HC := hide (fun w3 => cwrong_any v n w3 hwf.t)
      obtain ⟨er, her⟩ : ∃ er, wrongV n v = er := ⟨_, rfl⟩
      rw [her] at hst HC
      have HST := hide hst
      clear hx hxm hst hwf hf hej hRj hFA her
      by_cases h0 : er = 0
      · subst h0
        have HE : Hid (firstE (wrongV n) (l.drop (j + 1)) = firstE (wrongV n) l) := by
          have := HST.out
          rw [if_neg (by simp)] at this
          exact this.symm
        go_wp2_with (go_at_call 17; refine (HC.out _).mono ?_; rintro e w4 ⟨rfl, hf4⟩; have HF4 := hide (HFA.out.trans hf4); clear hf4)
        go_roundw
        case rel => exact ⟨j + 1, by omega, by go_num, HF4.out, HE.out⟩
        case measure => simp [intOf]; omega
      · have h0b : (er != 0) = true := by simpa using h0
        have HRR : Hid (R = er) := by
          have := HST.out
          rw [if_pos h0] at this
          exact HR.out.symm.trans this
        go_wp2_with (go_at_call 17; refine (HC.out _).mono ?_; rintro e w4 ⟨rfl, hf4⟩; have HF4 := hide (HFA.out.trans hf4); clear hf4)
        go_ret
        exact ⟨by rw [HRR.out]; rfl, HF4.out⟩
    · have hR0 : R = 0 := by rw [← HR.out, ← hej]; exact firstE_end _ _ (by omega)
      have HF := hide hf
      subst hR0
      clear hRj hf hej
      go_wp2_with fail
      go_ret
      exact ⟨rfl, HF.out⟩
end Go.Proofs.YtpemfikdmkmgbaaDoor
end
section
/- Heights, as a function: how far they go, and that they flow on (no program). -/
set_option maxHeartbeats 0
set_option maxRecDepth 100000
namespace Go.Proofs.YtpemfikdmkmgbaaDoor
theorem shape_snd (i : In) : 0 ≤ (shapeC i).2 ∧ (shapeC i).2 ≤ 1 := by
  unfold shapeC
  by_cases h : i.op = 17
  · rw [if_pos h]; exact ⟨Int.one_nonneg, Int.le_refl 1⟩
  · rw [if_neg h]
    generalize i.op = k
    unfold shapesL
    simp only [List.find?]
    repeat' split
    all_goals (refine ⟨?_, ?_⟩ <;> decide)
theorem next_snd {i : In} {p m : Int} : ∀ z ∈ nextC i p m, z.2 = m := by
  intro z hz
  unfold nextC at hz
  rcases List.mem_append.1 hz with hz | hz
  · split at hz
    · rw [List.mem_singleton.1 hz]
    · cases hz
  · split at hz
    · rw [List.mem_singleton.1 hz]
    · cases hz
theorem hGo_range (ins : List In) : ∀ (f : Nat) (h : List Int) (q : List (Int × Int)), (∀ x ∈ h, -1 ≤ x ∧ x ≤ 16) → (∀ z ∈ q, 0 ≤ z.2 ∧ z.2 ≤ 16) → ∀ x ∈ (hGo ins f h q).1, -1 ≤ x ∧ x ≤ 16
  | 0, h, q, h1, _ => by rw [hGo]; exact h1
  | f + 1, h, [], h1, _ => by rw [hGo]; exact h1
  | f + 1, h, (p, n) :: q, h1, h2 => by
    rw [hGo]
    split
    · intro x hx; cases hx
    split
    · intro x hx; cases hx
    split
    · exact hGo_range ins f h q h1 (fun z hz => h2 z (by simp [hz]))
    split
    · intro x hx; cases hx
    rename_i h4
    split
    · intro x hx; cases hx
    rename_i h5
    have hn := h2 (p, n) (by simp)
    simp only at hn
    have hs := shape_snd (ins.getD p.toNat ⟨0, 0, 0⟩)
    refine hGo_range ins f _ _ (fun x hx => ?_) (fun z hz => ?_)
    · rcases List.mem_or_eq_of_mem_set hx with hx | hx
      · exact h1 x hx
      · rw [hx]; omega
    · rcases List.mem_append.1 hz with hz | hz
      · exact h2 z (by simp [hz])
      · rw [next_snd z hz]
        omega
theorem heights_range (ins : List In) : ∀ x ∈ (heightsC ins).1, -1 ≤ x ∧ x ≤ 16 := by
  refine hGo_range ins _ _ _ (fun x hx => ?_) (fun z hz => ?_)
  · rw [(List.mem_replicate.1 hx).2]; omega
  · rw [List.mem_singleton.1 hz]; exact ⟨by decide, by decide⟩
end Go.Proofs.YtpemfikdmkmgbaaDoor
end
section
/- Package verify: what is wrong with a frame but for its values. -/
set_option maxHeartbeats 0
set_option maxRecDepth 100000
namespace Go.Proofs.YtpemfikdmkmgbaaDoor
open Go Go.RowKit
theorem put3 {w : World} {b : Nat} {u0 u1 u2 : Value} (v0 v1 v2 : Value) (m0 : w.cell? ⟨b, 0, none⟩ = some u0) (m1 : w.cell? ⟨b, 1, none⟩ = some u1) (m2 : w.cell? ⟨b, 2, none⟩ = some u2) :
    ∃ w5, ((w.setCell ⟨b, 0, none⟩ v0).setCell ⟨b, 1, none⟩ v1).setCell ⟨b, 2, none⟩ v2 = w5 ∧ w5.cell? ⟨b, 0, none⟩ = some v0 ∧ w5.cell? ⟨b, 1, none⟩ = some v1 ∧ w5.cell? ⟨b, 2, none⟩ = some v2 ∧ Fr (fun k => k = b) w w5 := by
  obtain ⟨w4, h1, h2, h3, h4⟩ := put2 v0 v1 m0 m1
  have h5 : w4.cell? ⟨b, 2, none⟩ = some u2 := by
    rw [← h1, World.cell?_setCell_other _ ⟨b, 1, none⟩ ⟨b, 2, none⟩ _ (by simp), World.cell?_setCell_other _ ⟨b, 0, none⟩ ⟨b, 2, none⟩ _ (by simp)]
    exact m2
  refine ⟨_, rfl, ?_, ?_, ?_, ?_⟩
  · rw [h1, World.cell?_setCell_other _ ⟨b, 2, none⟩ ⟨b, 0, none⟩ _ (by simp)]; exact h2
  · rw [h1, World.cell?_setCell_other _ ⟨b, 2, none⟩ ⟨b, 1, none⟩ _ (by simp)]; exact h3
  · rw [h1]; exact World.cell?_setCell_same _ _ _ h5
  · rw [h1]; exact h4.setCell (p := ⟨b, 2, none⟩) (.inl rfl) _
theorem sl_elemT {w : World} {s : Slc} {rs : List Slc} (h : Sl encT 1 w s.v rs) {i : Nat} {r : Slc} (hi : rs[i]? = some r) : ∃ b off, s.a = some ⟨b, off, none⟩ ∧ b < w.heap.size ∧ w.cell? ⟨b, off + i, none⟩ = some (.slice r.a r.n r.c) := by
  obtain ⟨ao, cap, he, _, hc⟩ := h
  obtain ⟨b, off, rfl, hb, hcell⟩ := hc i r hi
  simp only [Value.slice.injEq] at he
  have := hcell 0 _ rfl
  rw [Nat.mul_one, Nat.add_zero] at this
  exact ⟨b, off, he.1, hb, this⟩
theorem sl_elemZ' {w : World} {s : Slc} {l : List Int} (h : Sl encZ 1 w s.v l) {i : Nat} {z : Int} (hi : l[i]? = some z) : ∃ b off, s.a = some ⟨b, off, none⟩ ∧ b < w.heap.size ∧ w.cell? ⟨b, off + i, none⟩ = some (.int .i64 z) := by
  obtain ⟨ao, cap, he, _, hc⟩ := h
  obtain ⟨b, off, rfl, hb, hcell⟩ := hc i z hi
  simp only [Value.slice.injEq] at he
  have := hcell 0 _ rfl
  exact ⟨b, off, he.1, hb, by simpa using this⟩
/-- A program with which nothing is wrong. -/
structure FineZ (p : Pz) : Prop where
  h : ∀ c ∈ p.cs, (heightsC c.ins).2 = 0 ∧ c.ins.length ≤ 200 ∧ 0 ≤ c.nv ∧ c.nv ≤ 8
theorem frame_any (p : Pz) (f : Fm) (r : RawM) (q : Int × Int) (sc sw hq : Slc) (w : World) (hP : PzOk w sc sw p) (hH : HsOk w hq (p.cs.map hgtZ)) (hM : FmOk w r f) (hz : FineZ p) (hfn : i64 f.fn ∧ i64 f.at_) :
    Calls Tryd.prog 18 #[.agg #[.int .i64 r.fn, .int .i64 r.at_, .slice r.v.a r.v.n r.v.c, .slice r.s.a r.s.n r.s.c], .slice sc.a sc.n sc.c, .slice hq.a hq.n hq.c, .agg #[.int .i64 q.1, .int .i64 q.2]] w fun e w' => e = .returned (.int .i64 (frameC p f q)) ∧ Fr nothing w w' := by
  obtain ⟨⟨rs, hrs, hea⟩, -⟩ := hP
  obtain ⟨hs, hhs, heh⟩ := hH
  obtain ⟨n1, m1⟩ := sl_len hrs
  obtain ⟨n2, m2⟩ := sl_len hhs
  rw [hea.1] at n1 m1
  rw [heh.1, List.length_map] at n2 m2
  obtain ⟨sca, scn, scc⟩ := sc
  obtain ⟨hqa, hqn, hqc⟩ := hq
  simp only at n1 n2
  subst n1 n2
  obtain ⟨n3, m3⟩ := sl_len hM.v
  obtain ⟨n4, m4⟩ := sl_len hM.s
  have hfe := hM.fn
  have hate := hM.at_
  obtain ⟨fn, at_, ⟨rva, rvn, rvc⟩, ⟨rsa, rsn, rsc⟩⟩ := r
  obtain ⟨q1, q2⟩ := q
  simp only at n3 n4 hfe hate
  subst n3 n4
  have hd : frameC p f (q1, q2) = if f.fn < 0 ∨ p.cs.length ≤ f.fn then 3
    else if f.at_ < 0 ∨ (p.cs.getD f.fn.toNat cz0).ins.length ≤ f.at_ ∨ (f.vars.length : Int) ≠ (p.cs.getD f.fn.toNat cz0).nv then 3
    else if q1 ≠ 0 ∧ (f.at_ = 0 ∨ heightZ (p.cs.getD f.fn.toNat cz0) (f.at_.toNat - 1) = -1 ∨ ((p.cs.getD f.fn.toNat cz0).ins.getD (f.at_.toNat - 1) in0).op ≠ q1 ∨ ((p.cs.getD f.fn.toNat cz0).ins.getD (f.at_.toNat - 1) in0).a ≠ q2) then 10
    else if (f.stack.length : Int) ≠ heightZ (p.cs.getD f.fn.toNat cz0) f.at_.toNat - (if q1 ≠ 0 then 1 else 0) then 10
    else 0 := rfl
  obtain ⟨R, hR⟩ : ∃ R, frameC p f (q1, q2) = R := ⟨_, rfl⟩
  rw [hR] at hd ⊢
  rw [← hfe, ← hate] at hd
  rw [← hfe, ← hate] at hfn
  clear hR hM hfe hate
  generalize f.vars.length = nvars at *
  generalize f.stack.length = nst at *
  have FA : Fr nothing w (w.alloc (.cells #[.int .i64 fn, .int .i64 at_, .slice rva nvars rvc, .slice rsa nst rsc] 57)) := (Fr.refl _ _).alloc _
  obtain ⟨w1, hw1⟩ : ∃ x, x = w.alloc (.cells #[.int .i64 fn, .int .i64 at_, .slice rva nvars rvc, .slice rsa nst rsc] 57) := ⟨_, rfl⟩
  rw [← hw1] at FA
  have FB : Fr nothing w1 (w1.alloc (.cells #[.int .i64 q1, .int .i64 q2] 70)) := (Fr.refl _ _).alloc _
  have mb := made_cells (Fr.refl nothing (w1.alloc (.cells #[.int .i64 q1, .int .i64 q2] 70))) id
  obtain ⟨w2, hw2⟩ : ∃ x, x = w1.alloc (.cells #[.int .i64 q1, .int .i64 q2] 70) := ⟨_, rfl⟩
  rw [← hw2] at FB mb
  have z1 : w1.heap.size = w.heap.size + 1 := by rw [hw1]; simp
  have z2 : w2.heap.size = w.heap.size + 1 + 1 := by rw [hw2]; simp [z1]
  have ma := made_cells (w := w) (cs := #[.int .i64 fn, .int .i64 at_, .slice rva nvars rvc, .slice rsa nst rsc]) (t := 57) (w1 := w2) (S := nothing) (by rw [← hw1]; exact FB) id
  rw [z1] at mb
  have a0 := ma.1 0
  have a1 := ma.1 1
  have a2 := ma.1 2
  have a3 := ma.1 3
  have al := ma.2.2
  have b0 := mb.1 0
  have b1 := mb.1 1
  have bl := mb.2.2
  have hF2 := FA.trans FB
  have e1' := hw1.symm
  have e2' := hw2.symm
  have HF2 := hide hF2
  have HEA := hide hea
  have HEH := hide heh
  have HRS := hide (hrs.fr hF2 (fun _ _ => id))
  have HHS := hide (hhs.fr hF2 (fun _ _ => id))
  have HZ := hide hz
  have hML : ∀ (c : Cz) (k : Nat), p.cs[k]? = some c → (p.cs.map hgtZ)[k]? = some (heightsC c.ins).1 := fun c k h => by rw [List.getElem?_map, h]; rfl
  have HML := hide hML
  clear FA FB ma mb hw1 hw2 hrs hea hhs heh hz hML
  by_cases hf : fn < 0 ∨ p.cs.length ≤ fn
  · rw [if_pos hf] at hd
    subst hd
    have hbw : betw fn 0 ((p.cs.length : Int) - 1) = false := decide_eq_false (by omega)
    go_enter Tryd.func18, Tryd.ntmps18
    go_wp2_with (go_at_call 31; refine (within_any fn p.cs.length w2 (by omega)).mono ?_; rintro e w5 ⟨rfl, hw5⟩; rw [hw5, hbw]; clear hw5)
    go_ret
    exact ⟨rfl, HF2.out⟩
  rw [if_neg hf] at hd
  have hbw : betw fn 0 ((p.cs.length : Int) - 1) = true := decide_eq_true (by omega)
  obtain ⟨k, rfl⟩ : ∃ k : Nat, fn = k := ⟨fn.toNat, by omega⟩
  have hk : k < p.cs.length := by omega
  have hx : p.cs[k]? = some p.cs[k] := List.getElem?_eq_getElem hk
  have hxm : p.cs[k] ∈ p.cs := List.getElem_mem hk
  have hgd : p.cs.getD k cz0 = p.cs[k] := by simp [List.getD, hx]
  rw [Int.toNat_natCast, hgd] at hd
  have hra : rs[k]? = some (rs[k]'(by rw [HEA.out.1]; exact hk)) := List.getElem?_eq_getElem _
  have hha : hs[k]? = some (hs[k]'(by rw [HEH.out.1, List.length_map]; exact hk)) := List.getElem?_eq_getElem _
  generalize p.cs[k] = x at hx hxm hgd hd
  generalize rs[k]'(by rw [HEA.out.1]; exact hk) = xa at hra
  generalize hs[k]'(by rw [HEH.out.1, List.length_map]; exact hk) = ya at hha
  obtain ⟨hz0, hln, hnv0, hnv8⟩ := HZ.out.h x hxm
  obtain ⟨p1, p2, p3⟩ := HEA.out.2 k xa x hra hx
  have y3 := HEH.out.2 k ya _ hha (HML.out x k hx)
  have hHl := heights_len hz0
  have hHr := heights_range x.ins
  have hHZ : ∀ n, heightZ x n = (heightsC x.ins).1.getD n (-1) := fun _ => rfl
  rw [hHZ, hHZ] at hd
  generalize (heightsC x.ins).1 = H at y3 hHl hHr hd hHZ
  obtain ⟨g, o, e1, dg, u0, u1, u2⟩ := sl_elemC (s := ⟨sca, p.cs.length, scc⟩) HRS.out hra
  obtain ⟨gh, oh, e2, dgh, uh⟩ := sl_elemT (s := ⟨hqa, p.cs.length, hqc⟩) HHS.out hha
  simp only at e1 e2
  subst e1 e2
  obtain ⟨c1, -⟩ := sl_len p3
  obtain ⟨d1, -⟩ := sl_len y3
  obtain ⟨xa1, xa2, ⟨xaa, xan, xac⟩⟩ := xa
  obtain ⟨yaa, yan, yac⟩ := ya
  simp only at p1 p2 c1 d1 u0 u1 u2 uh
  rw [hHl] at d1
  subst p1 p2 c1 d1
  have HP3 := hide (p3.fr hF2 (fun _ _ => id))
  have HY3 := hide (y3.fr hF2 (fun _ _ => id))
  have HHL := hide hHl
  have FC : Fr nothing w2 (w2.drew.alloc (.cells #[.int .i64 0, .int .i64 0, .slice none 0 0] 54)) := (Fr.refl _ _).drew.alloc _
  have FD : Fr nothing w2 (w2.alloc (.cells #[.int .i64 x.np, .int .i64 x.nv, .slice xaa x.ins.length xac] 54)).drew := ((Fr.refl _ _).alloc _).drew
  have mc := made_cells (Fr.refl nothing (w2.alloc (.cells #[.int .i64 x.np, .int .i64 x.nv, .slice xaa x.ins.length xac] 54))).drew id
  rw [z2] at mc
  clear hf hx hxm hgd hra hha p3 y3 hz0 hHZ hHl
  go_enter Tryd.func18, Tryd.ntmps18
  go_wp2_with (go_at_call 31; refine (within_any (k : Int) p.cs.length w2 (by omega)).mono ?_; rintro e w5 ⟨rfl, hw5⟩; rw [hw5, hbw]; clear hw5)
  refine wp_region_held_drew (S := fun w' => w'.cell? ⟨w.heap.size, 0, none⟩ = some (.int .i64 (k : Nat)) ∧ w'.cell? ⟨g, o + k * 3, none⟩ = some (.int .i64 x.np) ∧ w'.cell? ⟨g, o + k * 3 + 1, none⟩ = some (.int .i64 x.nv) ∧ w'.cell? ⟨g, o + k * 3 + 2, none⟩ = some (.slice xaa x.ins.length xac) ∧ w'.cell? ⟨gh, oh + k, none⟩ = some (.slice yaa x.ins.length yac)) (by kernel_rfl) ?_ (fun hHeld => ?_)
  · exact ⟨a0, u0, u1, u2, uh⟩
  refine wpAnyH_take (i := 0) (oi := { dst := some 19, op := Op.move (Operand.tmp 1), type := 22, pos := "agent.go:42", after := #[], guard := none }) (v := ?v1) rfl (by kernel_rfl) (by kernel_rfl) (by kernel_rfl) (fun _ _ _ h => h) (Or.inl ⟨by rfl, ?hy1⟩) (by assumption) ?rest1
  case hy1 => (intro w hSw; (try dsimp only at hSw); obtain ⟨hS1, hS2, hS3, hS4, hS5⟩ := hSw; go_simp; try with_reducible rfl)
  try simp only [Act.put, List.setIfInBounds_toArray, List.set_cons_zero, List.set_cons_succ]
  refine wpAnyH_take (i := 1) (oi := { dst := some 20, op := Op.fieldAddr 57 (Operand.tmp 4) 0, type := 0, pos := "agent.go:42", after := #[], guard := none }) (v := ?v2) rfl (by kernel_rfl) (by kernel_rfl) (by kernel_rfl) (fun _ _ _ h => h) (Or.inl ⟨by rfl, ?hy2⟩) (by assumption) ?rest2
  case hy2 => (intro w hSw; (try dsimp only at hSw); obtain ⟨hS1, hS2, hS3, hS4, hS5⟩ := hSw; go_simp; try with_reducible rfl)
  try simp only [Act.put, List.setIfInBounds_toArray, List.set_cons_zero, List.set_cons_succ]
  refine wpAnyH_take (i := 2) (oi := { dst := some 21, op := Op.load 3 (Operand.tmp 20), type := 3, pos := "agent.go:42", after := #[{ on := 1, ground := Ground.data }], guard := none }) (v := ?v3) rfl (by kernel_rfl) (by kernel_rfl) (by kernel_rfl) (fun _ _ _ h => h) (Or.inl ⟨by rfl, ?hy3⟩) (by assumption) ?rest3
  case hy3 => (intro w hSw; (try dsimp only at hSw); obtain ⟨hS1, hS2, hS3, hS4, hS5⟩ := hSw; go_simp; try with_reducible rfl)
  try simp only [Act.put, List.setIfInBounds_toArray, List.set_cons_zero, List.set_cons_succ]
  refine wpAnyH_take (i := 3) (oi := { dst := some 22, op := Op.indexAddr 22 (Operand.tmp 19) (Operand.tmp 21), type := 0, pos := "agent.go:42", after := #[{ on := 0, ground := Ground.data }, { on := 2, ground := Ground.data }], guard := none }) (v := ?v4) rfl (by kernel_rfl) (by kernel_rfl) (by kernel_rfl) (fun _ _ _ h => h) (Or.inl ⟨by rfl, ?hy4⟩) (by assumption) ?rest4
  case hy4 => (intro w hSw; (try dsimp only at hSw); obtain ⟨hS1, hS2, hS3, hS4, hS5⟩ := hSw; go_simp; try with_reducible rfl)
  try simp only [Act.put, List.setIfInBounds_toArray, List.set_cons_zero, List.set_cons_succ]
  refine wpAnyH_take (i := 4) (oi := { dst := some 23, op := Op.load 54 (Operand.tmp 22), type := 54, pos := "agent.go:42", after := #[{ on := 3, ground := Ground.data }], guard := none }) (v := ?v5) rfl (by kernel_rfl) (by kernel_rfl) (by kernel_rfl) (fun _ _ _ h => h) (Or.inl ⟨by rfl, ?hy5⟩) (by assumption) ?rest5
  case hy5 => (intro w hSw; (try dsimp only at hSw); obtain ⟨hS1, hS2, hS3, hS4, hS5⟩ := hSw; go_simp; try with_reducible rfl)
  try simp only [Act.put, List.setIfInBounds_toArray, List.set_cons_zero, List.set_cons_succ]
  refine wpAnyH_take (i := 5) (oi := { dst := some 24, op := Op.move (Operand.tmp 2), type := 60, pos := "agent.go:42", after := #[{ on := 11, ground := Ground.gcOnly Departure.lateStores }], guard := none }) (v := ?v6) rfl (by kernel_rfl) (by kernel_rfl) (by kernel_rfl) (fun _ _ _ h => h) (Or.inl ⟨by rfl, ?hy6⟩) (by assumption) ?rest6
  case hy6 => (intro w hSw; (try dsimp only at hSw); obtain ⟨hS1, hS2, hS3, hS4, hS5⟩ := hSw; go_simp; try with_reducible rfl)
  try simp only [Act.put, List.setIfInBounds_toArray, List.set_cons_zero, List.set_cons_succ]
  refine wpAnyH_take (i := 6) (oi := { dst := some 25, op := Op.fieldAddr 57 (Operand.tmp 4) 0, type := 0, pos := "agent.go:42", after := #[{ on := 11, ground := Ground.gcOnly Departure.lateStores }], guard := none }) (v := ?v7) rfl (by kernel_rfl) (by kernel_rfl) (by kernel_rfl) (fun _ _ _ h => h) (Or.inl ⟨by rfl, ?hy7⟩) (by assumption) ?rest7
  case hy7 => (intro w hSw; (try dsimp only at hSw); obtain ⟨hS1, hS2, hS3, hS4, hS5⟩ := hSw; go_simp; try with_reducible rfl)
  try simp only [Act.put, List.setIfInBounds_toArray, List.set_cons_zero, List.set_cons_succ]
  refine wpAnyH_take (i := 7) (oi := { dst := some 26, op := Op.load 3 (Operand.tmp 25), type := 3, pos := "agent.go:42", after := #[{ on := 6, ground := Ground.data }, { on := 11, ground := Ground.gcOnly Departure.lateStores }], guard := none }) (v := ?v8) rfl (by kernel_rfl) (by kernel_rfl) (by kernel_rfl) (fun _ _ _ h => h) (Or.inl ⟨by rfl, ?hy8⟩) (by assumption) ?rest8
  case hy8 => (intro w hSw; (try dsimp only at hSw); obtain ⟨hS1, hS2, hS3, hS4, hS5⟩ := hSw; go_simp; try with_reducible rfl)
  try simp only [Act.put, List.setIfInBounds_toArray, List.set_cons_zero, List.set_cons_succ]
  refine wpAnyH_take (i := 8) (oi := { dst := some 27, op := Op.indexAddr 60 (Operand.tmp 24) (Operand.tmp 26), type := 0, pos := "agent.go:42", after := #[{ on := 5, ground := Ground.data }, { on := 7, ground := Ground.data }, { on := 11, ground := Ground.gcOnly Departure.lateStores }], guard := none }) (v := ?v9) rfl (by kernel_rfl) (by kernel_rfl) (by kernel_rfl) (fun _ _ _ h => h) (Or.inl ⟨by rfl, ?hy9⟩) (by assumption) ?rest9
  case hy9 => (intro w hSw; (try dsimp only at hSw); obtain ⟨hS1, hS2, hS3, hS4, hS5⟩ := hSw; go_simp; try with_reducible rfl)
  try simp only [Act.put, List.setIfInBounds_toArray, List.set_cons_zero, List.set_cons_succ]
  refine wpAnyH_take (i := 9) (oi := { dst := some 28, op := Op.load 49 (Operand.tmp 27), type := 49, pos := "agent.go:42", after := #[{ on := 8, ground := Ground.data }, { on := 11, ground := Ground.gcOnly Departure.lateStores }], guard := none }) (v := ?v10) rfl (by kernel_rfl) (by kernel_rfl) (by kernel_rfl) (fun _ _ _ h => h) (Or.inl ⟨by rfl, ?hy10⟩) (by assumption) ?rest10
  case hy10 => (intro w hSw; (try dsimp only at hSw); obtain ⟨hS1, hS2, hS3, hS4, hS5⟩ := hSw; go_simp; try with_reducible rfl)
  try simp only [Act.put, List.setIfInBounds_toArray, List.set_cons_zero, List.set_cons_succ]
  refine wpAnyH_ready (rs := [10]) (by kernel_rfl) (by simp) ?_
  refine AllReadyH.cons (o := { dst := some 9, op := Op.alloc 54, type := 0, pos := "agent.go:42", after := #[], guard := none }) rfl (fun K hK => ?_) AllReadyH.nil
  go_simp
  have hHeld6 : ∀ w6 : World, Fr nothing w2 w6 → w6.cell? ⟨w.heap.size, 0, none⟩ = some (.int .i64 (k : Nat)) ∧ w6.cell? ⟨g, o + k * 3, none⟩ = some (.int .i64 x.np) ∧ w6.cell? ⟨g, o + k * 3 + 1, none⟩ = some (.int .i64 x.nv) ∧ w6.cell? ⟨g, o + k * 3 + 2, none⟩ = some (.slice xaa x.ins.length xac) ∧ w6.cell? ⟨gh, oh + k, none⟩ = some (.slice yaa x.ins.length yac) := fun w6 hf =>
    ⟨(hf.cell (p := ⟨w.heap.size, 0, none⟩) al id).trans a0, (hf.cell (p := ⟨g, o + k * 3, none⟩) dg id).trans u0, (hf.cell (p := ⟨g, o + k * 3 + 1, none⟩) dg id).trans u1, (hf.cell (p := ⟨g, o + k * 3 + 2, none⟩) dg id).trans u2, (hf.cell (p := ⟨gh, oh + k, none⟩) dgh id).trans uh⟩
  refine hK _ _ (hHeld6 _ FC) (fun _ => ?_)
  clear hK K
  try simp only [Act.put, List.setIfInBounds_toArray, List.set_cons_zero, List.set_cons_succ]
  refine wpAnyH_ready (rs := [11]) (by kernel_rfl) (by simp) ?_
  refine AllReadyH.cons (o := { dst := none, op := Op.store 54 (Operand.tmp 9) (Operand.tmp 23), type := 0, pos := "agent.go:42", after := #[{ on := 10, ground := Ground.data }, { on := 4, ground := Ground.data }, { on := 0, ground := Ground.phase }, { on := 1, ground := Ground.phase }, { on := 2, ground := Ground.phase }, { on := 3, ground := Ground.phase }, { on := 4, ground := Ground.phase }, { on := 5, ground := Ground.textOnly Departure.lateStores }, { on := 6, ground := Ground.textOnly Departure.lateStores }, { on := 7, ground := Ground.textOnly Departure.lateStores }, { on := 8, ground := Ground.textOnly Departure.lateStores }, { on := 9, ground := Ground.textOnly Departure.lateStores }, { on := 10, ground := Ground.phase }], guard := none }) rfl (fun K hK => ?_) AllReadyH.nil
  go_simp
  refine hK _ _ (hHeld6 _ FD) (fun _ => ?_)
  clear hK K
  try simp only [Act.put, List.setIfInBounds_toArray, List.set_cons_zero, List.set_cons_succ]
  refine wpAnyH_take (i := 12) (oi := { dst := some 10, op := Op.assign (Operand.tmp 28), type := 49, pos := "agent.go:42", after := #[{ on := 9, ground := Ground.data }, { on := 11, ground := Ground.chain }, { on := 0, ground := Ground.phase }, { on := 1, ground := Ground.phase }, { on := 2, ground := Ground.phase }, { on := 3, ground := Ground.phase }, { on := 4, ground := Ground.phase }, { on := 5, ground := Ground.phase }, { on := 6, ground := Ground.phase }, { on := 7, ground := Ground.phase }, { on := 8, ground := Ground.phase }, { on := 9, ground := Ground.phase }, { on := 10, ground := Ground.phase }, { on := 11, ground := Ground.phase }], guard := none }) (v := ?v11) rfl (by kernel_rfl) (by kernel_rfl) (by kernel_rfl) (fun _ _ _ h => h) (Or.inl ⟨by rfl, ?hy11⟩) (by assumption) ?rest11
  case hy11 => (intro w hSw; (try dsimp only at hSw); obtain ⟨hS1, hS2, hS3, hS4, hS5⟩ := hSw; go_simp; try with_reducible rfl)
  try simp only [Act.put, List.setIfInBounds_toArray, List.set_cons_zero, List.set_cons_succ]
  refine wpAnyH_done (by kernel_rfl) ?_ _
  have v0 := mc.1 0
  have v1 := mc.1 1
  have v2 := mc.1 2
  have vl := mc.2.2
  have t0 := (FD.cell (p := ⟨w.heap.size, 0, none⟩) al id).trans a0
  have t1 := (FD.cell (p := ⟨w.heap.size, 1, none⟩) al id).trans a1
  have t2 := (FD.cell (p := ⟨w.heap.size, 2, none⟩) al id).trans a2
  have t3 := (FD.cell (p := ⟨w.heap.size, 3, none⟩) al id).trans a3
  have tl := Nat.lt_of_lt_of_le al FD.size
  have s0 := (FD.cell (p := ⟨w.heap.size + 1, 0, none⟩) bl id).trans b0
  have s1 := (FD.cell (p := ⟨w.heap.size + 1, 1, none⟩) bl id).trans b1
  have sl := Nat.lt_of_lt_of_le bl FD.size
  have HFD := hide FD
  have HFF := hide (HF2.out.trans FD)
  clear hHeld hHeld6 FC mc FD a0 a1 a2 a3 al b0 b1 bl u0 u1 u2 uh dg dgh e1' e2' hbw
  generalize (w2.alloc (.cells #[.int .i64 x.np, .int .i64 x.nv, .slice xaa x.ins.length xac] 54)).drew = w3 at *
  have HP4 := hide (HP3.out.fr HFD.out (fun _ _ => id))
  have HY4 := hide (HY3.out.fr HFD.out (fun _ _ => id))
  clear HP3 HY3 HFD HRS HHS z1 z2
  by_cases ha : at_ < 0 ∨ x.ins.length ≤ at_
  · rw [if_pos (by omega)] at hd
    subst hd
    have hb2 : betw at_ 0 ((x.ins.length : Int) - 1) = false := decide_eq_false (by omega)
    go_wp2_with (go_at_call 31; refine (within_any at_ x.ins.length w3 (by omega)).mono ?_; rintro e w5 ⟨rfl, hw5⟩; rw [hw5, hb2]; clear hw5)
    go_ret
    exact ⟨rfl, HFF.out⟩
  have hb2 : betw at_ 0 ((x.ins.length : Int) - 1) = true := decide_eq_true (by omega)
  by_cases hv : (nvars : Int) = x.nv
  case neg =>
    rw [if_pos (.inr (.inr hv))] at hd
    have hvb : ((nvars : Int) != x.nv) = true := by simpa using hv
    subst hd
    go_wp2_with (go_at_call 31; refine (within_any at_ x.ins.length w3 (by omega)).mono ?_; rintro e w5 ⟨rfl, hw5⟩; rw [hw5, hb2]; clear hw5)
    go_ret
    exact ⟨rfl, HFF.out⟩
  rw [if_neg (by omega)] at hd
  have hvb : ((nvars : Int) != x.nv) = false := by simpa using hv
  obtain ⟨j, rfl⟩ : ∃ j : Nat, at_ = j := ⟨at_.toNat, by omega⟩
  have hj : j < x.ins.length := by omega
  rw [Int.toNat_natCast] at hd
  have hHj : H[j]? = some (H[j]'(by rw [HHL.out]; exact hj)) := List.getElem?_eq_getElem _
  have hHg : H.getD j (-1) = H[j]'(by rw [HHL.out]; exact hj) := by simp [List.getD, hHj]
  rw [hHg] at hd
  generalize H[j]'(by rw [HHL.out]; exact hj) = n at hHj hHg hd
  obtain ⟨gz, oz, e3, dgz, uz⟩ := sl_elemZ' (s := ⟨yaa, x.ins.length, yac⟩) HY4.out hHj
  simp only at e3
  subst e3
  have hnr := hHr n (List.mem_of_getElem? hHj)
  have HH := hide hHr
  clear hHr
  by_cases hq : q1 = 0
  · subst hq
    have e0 : (if (0 : Int) ≠ 0 then (1 : Int) else 0) = 0 := by simp
    rw [if_neg (fun e => e.1 rfl), e0, Int.sub_zero] at hd
    clear e0
    by_cases hs : (nst : Int) = n
    · rw [if_neg (by simpa using hs)] at hd
      have hsb : ((nst : Int) != n) = false := by simpa using hs
      subst hd
      clear hs
      go_wp2_with (go_at_call 31; refine (within_any (j : Int) x.ins.length w3 (by omega)).mono ?_; rintro e w5 ⟨rfl, hw5⟩; rw [hw5, hb2]; clear hw5)
      go_ret
      exact ⟨rfl, HFF.out⟩
    · rw [if_pos hs] at hd
      have hsb : ((nst : Int) != n) = true := by simpa using hs
      subst hd
      go_wp2_with (go_at_call 31; refine (within_any (j : Int) x.ins.length w3 (by omega)).mono ?_; rintro e w5 ⟨rfl, hw5⟩; rw [hw5, hb2]; clear hw5)
      go_ret
      exact ⟨rfl, HFF.out⟩
  have hqb : (q1 != 0) = true := by simpa using hq
  by_cases hj0 : j = 0
  · rw [if_pos ⟨hq, .inl (by omega)⟩] at hd
    subst hd
    subst hj0
    have t1' : w3.cell? ⟨w.heap.size, 1, none⟩ = some (.int .i64 0) := t1
    have hb2' : betw 0 0 ((x.ins.length : Int) - 1) = true := hb2
    have uz' : w3.cell? ⟨gz, oz, none⟩ = some (.int .i64 n) := uz
    clear t1 hb2 uz
    go_wp2_with (go_at_call 31; refine (within_any 0 x.ins.length w3 (by omega)).mono ?_; rintro e w5 ⟨rfl, hw5⟩; rw [hw5, hb2']; clear hw5)
    go_ret
    exact ⟨rfl, HFF.out⟩
  obtain ⟨m, rfl⟩ : ∃ m, j = m + 1 := ⟨j - 1, by omega⟩
  have hjz : (((m + 1 : Nat) : Int) == 0) = false := beq_eq_false_iff_ne.2 (by omega)
  have hjm : ((m + 1 : Nat) : Int) - 1 = (m : Int) := by omega
  have hN : IntKind.i64.wrap (((m + 1 : Nat) : Int) - 1) = (m : Int) := by rw [wrap_in _ (by omega) (by omega)]; exact hjm
  have hN2 : IntKind.i64.wrap (n - 1) = n - 1 := wrap_in _ (by omega) (by omega)
  have hml : m < x.ins.length := by omega
  rw [show m + 1 - 1 = m by omega] at hd
  have hHm : H[m]? = some (H[m]'(by rw [HHL.out]; exact hml)) := List.getElem?_eq_getElem _
  have hHgm : H.getD m (-1) = H[m]'(by rw [HHL.out]; exact hml) := by simp [List.getD, hHm]
  have him : x.ins[m]? = some x.ins[m] := List.getElem?_eq_getElem hml
  have higm : x.ins.getD m in0 = x.ins[m] := by simp [List.getD, him]
  rw [hHgm, higm] at hd
  generalize H[m]'(by rw [HHL.out]; exact hml) = n' at hHm hHgm hd
  generalize x.ins[m] = y at him higm hd
  obtain ⟨gz', oz', e4, dgz', uz'⟩ := sl_elemZ' (s := ⟨some ⟨gz, oz, none⟩, x.ins.length, yac⟩) HY4.out hHm
  simp only [Option.some.injEq, Addr.mk.injEq, and_true] at e4
  obtain ⟨rfl, rfl⟩ := e4
  obtain ⟨gi, oi, e5, dgi, y0, y1, y2⟩ := sl_elemI (s := ⟨xaa, x.ins.length, xac⟩) HP4.out him
  simp only at e5
  subst e5
  obtain ⟨op, ia, ib⟩ := y
  simp only at y0 y1 y2 hd
  have HFI : Hid (Fr nothing w (w3.alloc (.cells #[.int .i64 op, .int .i64 ia, .int .i64 ib] 59))) := HFF.out.alloc _
  clear hHm hHgm him higm hHj hHg hjm
  by_cases hn' : n' = -1
  · rw [if_pos ⟨hq, .inr (.inl hn')⟩] at hd
    subst hd hn'
    go_wp2_with (go_at_call 31; refine (within_any ((m + 1 : Nat) : Int) x.ins.length w3 (by omega)).mono ?_; rintro e w5 ⟨rfl, hw5⟩; rw [hw5, hb2]; clear hw5)
    go_ret
    exact ⟨rfl, HFF.out⟩
  have hnb' : (n' == -1) = false := by simpa using hn'
  by_cases hop : op = q1
  case neg =>
    rw [if_pos ⟨hq, .inr (.inr (.inl hop))⟩] at hd
    have hopb : (op != q1) = true := by simpa using hop
    subst hd
    go_wp2_with (go_at_call 31; refine (within_any ((m + 1 : Nat) : Int) x.ins.length w3 (by omega)).mono ?_; rintro e w5 ⟨rfl, hw5⟩; rw [hw5, hb2]; clear hw5)
    go_ret
    exact ⟨rfl, HFI.out⟩
  subst hop
  by_cases hia : ia = q2
  case neg =>
    rw [if_pos ⟨hq, .inr (.inr (.inr hia))⟩] at hd
    have hiab : (ia != q2) = true := by simpa using hia
    subst hd
    go_wp2_with (go_at_call 31; refine (within_any ((m + 1 : Nat) : Int) x.ins.length w3 (by omega)).mono ?_; rintro e w5 ⟨rfl, hw5⟩; rw [hw5, hb2]; clear hw5)
    go_ret
    exact ⟨rfl, HFI.out⟩
  subst hia
  rw [if_neg (by
    rintro ⟨-, h1 | h1 | h1 | h1⟩
    · omega
    · exact hn' h1
    · exact h1 rfl
    · exact h1 rfl), if_pos hq] at hd
  by_cases hs : (nst : Int) = n - 1
  · rw [if_neg (by simpa using hs)] at hd
    have hsb : ((nst : Int) != n - 1) = false := by simpa using hs
    subst hd
    clear hs
    go_wp2_with (go_at_call 31; refine (within_any ((m + 1 : Nat) : Int) x.ins.length w3 (by omega)).mono ?_; rintro e w5 ⟨rfl, hw5⟩; rw [hw5, hb2]; clear hw5)
    go_ret
    exact ⟨rfl, HFI.out⟩
  · rw [if_pos hs] at hd
    have hsb : ((nst : Int) != n - 1) = true := by simpa using hs
    subst hd
    go_wp2_with (go_at_call 31; refine (within_any ((m + 1 : Nat) : Int) x.ins.length w3 (by omega)).mono ?_; rintro e w5 ⟨rfl, hw5⟩; rw [hw5, hb2]; clear hw5)
    go_ret
    exact ⟨rfl, HFI.out⟩
end Go.Proofs.YtpemfikdmkmgbaaDoor
end
