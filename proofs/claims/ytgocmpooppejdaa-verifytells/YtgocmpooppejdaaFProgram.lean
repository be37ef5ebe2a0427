/- Package verify: what is wrong with a program, and the heights of its codes. -/
import Derived.Test.YtgocmpooppejdaaFHeads
import Derived.Test.YtgocmpooppejdaaFHeights
import Derived.Laws.MakeOwn
set_option maxHeartbeats 0
set_option maxRecDepth 100000
namespace Go.Proofs.Ytgocmpooppejdaa
open Go Go.RowKit
def encT (s : Slc) : List Value := [.slice s.a s.n s.c]
theorem encT_len (s : Slc) : (encT s).length = 1 := rfl
theorem encT_one (s : Slc) : ∀ u ∈ encT s, u.oneCell' = true := by
  intro u hu
  simp only [encT, List.mem_cons, List.not_mem_nil, or_false] at hu
  rw [hu]; rfl
theorem sizeIs : (Try.prog.info? 38).map (fun i => (i.zero, i.size, i.bytes)) = some (some (.slice none 0 0), 1, 24) := by kernel_rfl
/-- Heights of all codes, as the machine holds them. -/
def HsOk (w : World) (q : Slc) (hs : List (List Int)) : Prop := ∃ rs, Sl encT 1 w q.v rs ∧ Each (fun (s : Slc) l => Sl encZ 1 w s.v l) rs hs
theorem HsOk.fr {w w' : World} {q : Slc} {hs : List (List Int)} (h : HsOk w q hs) (hf : Fr nothing w w') : HsOk w' q hs := by
  obtain ⟨rs, h1, h2⟩ := h
  exact ⟨rs, h1.fr hf (fun _ _ => id), h2.1, fun i r x e1 e2 => (h2.2 i r x e1 e2).fr hf (fun _ _ => id)⟩
def hgtZ (c : Cz) : List Int := (heightsC c.ins).1
/-- While they are gathered. -/
structure Gh (base : Nat) (q : Slc) (hs : List (List Int)) (w : World) : Prop where
  o : ∃ rs, Own encT 38 1 base q rs w ∧ Each (fun (s : Slc) l => Sl encZ 1 w s.v l) rs hs ∧ ∀ s ∈ rs, ∀ b, s.v.ownBlock = some b → b < w.heap.size ∧ q.v.ownBlock ≠ some b
theorem Gh.new {base : Nat} {q : Slc} {hs : List (List Int)} {w w' : World} (h : Gh base q hs w) (hf : Fr nothing w w') : Gh base q hs w' := by
  obtain ⟨rs, a, b, c⟩ := h.o
  exact ⟨rs, a.new hf, ⟨b.1, fun i r x e1 e2 => (b.2 i r x e1 e2).fr hf (fun _ _ => id)⟩, fun s hs k hk => ⟨Nat.lt_of_lt_of_le (c s hs k hk).1 hf.size, (c s hs k hk).2⟩⟩
theorem Gh.lt {base : Nat} {q : Slc} {hs : List (List Int)} {w : World} (h : Gh base q hs w) {b : Nat} (hb : q.v.ownBlock = some b) : base ≤ b ∧ b < w.heap.size := by
  obtain ⟨rs, a, _⟩ := h.o
  exact a.lt hb
theorem Gh.n {base : Nat} {q : Slc} {hs : List (List Int)} {w : World} (h : Gh base q hs w) : q.n = hs.length := by
  obtain ⟨rs, a, b, _⟩ := h.o
  rw [a.n, b.1]
theorem own_of_slice {s : Slc} {ao : Addr} {n c : Nat} (h : s.v = .slice (some ao) n c) {k : Nat} (hk : ao.block = k) : s.v.ownBlock = some k := by
  rw [h, ← hk]; rfl
theorem Gh.push {base : Nat} {q s : Slc} {hs : List (List Int)} {l : List Int} {w : World} (h : Gh base q hs w) (hs1 : Sl encZ 1 w s.v l) (hn : ∀ b, s.v.ownBlock = some b → q.v.ownBlock ≠ some b) (hl : ∀ b, s.v.ownBlock = some b → b < w.heap.size) (hb : base ≤ w.heap.size) (h9 : hs.length ≤ 1000) :
    ∃ (q' : Slc) (w' : World), (Builtin.append_ #[45, 45] 45 #[.slice q.a q.n q.c, .slice (some ⟨w.heap.size, 0, none⟩) 1 1]).run Try.prog (w.alloc (.cells #[.slice s.a s.n s.c] 38)) = .ok (.slice q'.a q'.n q'.c) w' ∧ Gh base q' (hs ++ [l]) w' ∧ Fr (fun k => q.v.ownBlock = some k) w w' := by
  obtain ⟨rs, a, b, c⟩ := h.o
  have FL : Fr nothing w (w.alloc (.cells #[.slice s.a s.n s.c] 38)) := (Fr.refl _ _).alloc _
  obtain ⟨q', w', hr, ho, hf, ht⟩ := Own.app (x := ⟨some ⟨w.heap.size, 0, none⟩, 1, 1⟩) Try.underlying45 sizeIs rfl (by decide) encT_len encT_one (a.new FL) (sl_one (T := 38) w #[.slice s.a s.n s.c] s rfl) (Nat.le_trans hb FL.size) (by rw [b.1]; simp only [List.length_singleton]; unfold maxLen; omega) (by rw [b.1]; simp only [List.length_singleton]; omega)
  have hF : Fr (fun k => q.v.ownBlock = some k) w w' := (FL.mono (fun _ _ e => e.elim)).trans hf
  have hbk : ∀ (t : Slc) (m : List Int), Sl encZ 1 w t.v m → (∀ b, t.v.ownBlock = some b → q.v.ownBlock ≠ some b) → Sl encZ 1 w' t.v m := fun t m h1 h2 =>
    h1.fr hF (fun k hk => by
      obtain ⟨ao, n, c, e1, e2⟩ := hk
      exact h2 k (own_of_slice e1 e2))
  refine ⟨q', w', hr, ⟨rs ++ [s], ho, ⟨by simp [b.1], fun i r x e1 e2 => ?_⟩, fun t ht' k hk => ?_⟩, hF⟩
  · rcases Nat.lt_or_ge i rs.length with hi | hi
    · rw [List.getElem?_append_left hi] at e1
      rw [List.getElem?_append_left (by rw [← b.1]; exact hi)] at e2
      exact hbk r x (b.2 i r x e1 e2) (fun k hk => (c r (List.mem_of_getElem? e1) k hk).2)
    · rw [List.getElem?_append_right hi] at e1
      rw [List.getElem?_append_right (by rw [← b.1]; exact hi), ← b.1] at e2
      have hi0 : i - rs.length = 0 := by have := (List.getElem?_eq_some_iff.1 e1).1; simp at this; omega
      rw [hi0] at e1 e2
      simp at e1 e2
      subst e1 e2
      exact hbk s l hs1 hn
  · rcases List.mem_append.1 ht' with h1 | h1
    · refine ⟨Nat.lt_of_lt_of_le (c t h1 k hk).1 hF.size, fun hq => ?_⟩
      rcases ht k hq with h2 | h2
      · exact (c t h1 k hk).2 h2
      · have := (c t h1 k hk).1
        have := FL.size
        omega
    · rw [List.mem_singleton.1 h1] at hk
      refine ⟨Nat.lt_of_lt_of_le (hl k hk) hF.size, fun hq => ?_⟩
      rcases ht k hq with h2 | h2
      · exact hn k hk h2
      · have := hl k hk; have := FL.size; omega
theorem Gh.done {base : Nat} {q : Slc} {hs : List (List Int)} {w : World} (h : Gh base q hs w) : HsOk w q hs := by
  obtain ⟨rs, a, b, c⟩ := h.o
  exact ⟨rs, a.sl encT_len, b⟩
theorem sl_blk {α : Type} {enc : α → List Value} {sz : Nat} {w : World} {s : Slc} {l : List α} (h : Sl enc sz w s.v l) (hl : l ≠ []) : ∀ b, s.v.ownBlock = some b → b < w.heap.size := by
  intro b hb
  obtain ⟨ao, cap, he, _, hc⟩ := h
  cases l with
  | nil => exact absurd rfl hl
  | cons x l =>
    obtain ⟨b', off, rfl, hlt, _⟩ := hc 0 x rfl
    rw [he] at hb
    obtain rfl : b' = b := Option.some.inj hb
    exact hlt
def PrP (w : World) (p : Pz) (e : Ending) (w' : World) : Prop := ∃ q : Slc, e = .returned (.tuple #[.slice q.a q.n q.c, .int .i64 (programC p)]) ∧ Fr nothing w w' ∧ (programC p = 0 → HsOk w' q (p.cs.map hgtZ))
theorem hed_zero {p : Pz} (h : hedC p = 0) : p.cs.length ≠ 0 ∧ p.cs.length ≤ 5 ∧ p.ws.length ≤ 16 ∧ (∀ t ∈ p.ws, isWord t = true) ∧ npZ p 0 = 0 ∧ ∀ c ∈ p.cs, 0 ≤ c.np ∧ c.np ≤ 4 ∧ c.np ≤ c.nv ∧ c.nv ≤ 8 ∧ c.ins.length ≠ 0 ∧ c.ins.length ≤ 200 := by
  unfold hedC at h
  split at h
  · cases h
  rename_i h1
  split at h
  · cases h
  rename_i h2
  split at h
  · rename_i h3; exact absurd h h3
  rename_i h3
  split at h
  · cases h
  rename_i h4
  refine ⟨by omega, by omega, by omega, fun t ht => ?_, Classical.not_not.1 h4, fun c hc => ?_⟩
  · have := firstE_zero (Classical.not_not.1 h3) t ht
    unfold wdE at this
    split at this
    · assumption
    · cases this
  · have := firstE_zero h c hc
    unfold hdE headBad at this
    split at this
    · cases this
    · rename_i h5
      simp only [decide_eq_true_eq] at h5
      omega
theorem program_any (p : Pz) (sc sw : Slc) (w : World) (hP : PzOk w sc sw p) (hW : WfZ p) :
    Calls Try.prog 11 #[.agg #[.slice sc.a sc.n sc.c, .slice sw.a sw.n sw.c]] w (PrP w p) := by
  have HPP := hide hP
  obtain ⟨⟨rs, hrs, hea⟩, hws⟩ := hP
  obtain ⟨n1, m1⟩ := sl_len hrs
  obtain ⟨n2, m2⟩ := sl_len hws
  rw [hea.1] at n1 m1
  obtain ⟨sca, scn, scc⟩ := sc
  obtain ⟨swa, swn, swc⟩ := sw
  simp only at n1 n2
  subst n1 n2
  have hF1 : Fr nothing w (w.alloc (.cells #[.slice sca p.cs.length scc, .slice swa p.ws.length swc] 25)) := (Fr.refl _ _).alloc _
  have ca := made_cells (Fr.refl nothing (w.alloc (.cells #[.slice sca p.cs.length scc, .slice swa p.ws.length swc] 25))) id
  obtain ⟨w1, hw1⟩ : ∃ w1, w1 = w.alloc (.cells #[.slice sca p.cs.length scc, .slice swa p.ws.length swc] 25) := ⟨_, rfl⟩
  rw [← hw1] at hF1 ca
  have c0 := ca.1 0
  have c1 := ca.1 1
  have cl := ca.2.2
  have HHD := hide (heads_any p ⟨sca, p.cs.length, scc⟩ ⟨swa, p.ws.length, swc⟩ w1 (HPP.out.fr hF1) hW)
  have HA := hide (And.intro hrs (And.intro hea hws))
  have HF1 := hide hF1
  obtain ⟨A1, hA1⟩ : ∃ x, x = w.heap.size := ⟨_, rfl⟩
  have HCC : Hid (∀ w', Fr nothing w1 w' → w'.cell? ⟨A1, 0, none⟩ = some (.slice sca p.cs.length scc) ∧ w'.cell? ⟨A1, 1, none⟩ = some (.slice swa p.ws.length swc) ∧ A1 < w'.heap.size) := by
    rw [hA1]
    exact fun w' hf => ⟨(hf.cell (p := ⟨w.heap.size, 0, none⟩) cl id).trans c0, (hf.cell (p := ⟨w.heap.size, 1, none⟩) cl id).trans c1, Nat.lt_of_lt_of_le cl hf.size⟩
  have hw1' : w.alloc (.cells #[.slice sca p.cs.length scc, .slice swa p.ws.length swc] 25) = w1 := hw1.symm
  have HW := hide hW
  have hd : programC p = if hedC p ≠ 0 then hedC p else firstE (codeC p) p.cs := rfl
  have hz := @hed_zero p
  obtain ⟨hh, hhh⟩ : ∃ x, hedC p = x := ⟨_, rfl⟩
  rw [hhh] at HHD hd hz
  obtain ⟨R, hRR⟩ : ∃ x, programC p = x := ⟨_, rfl⟩
  rw [hRR] at hd
  unfold PrP
  rw [hRR]
  clear ca hrs hea hws hF1 hw1 hW hhh hRR
  by_cases h0 : hh = 0
  · subst h0
    obtain ⟨g1, g2, g3, -, -, g4⟩ := hz rfl
    have HG4 := hide g4
    have HDD : Hid (R = firstE (codeC p) p.cs) := hd
    clear hz hd g4
    obtain ⟨j0, hj0, hy0, hy1, hy2⟩ := info_parts sizeIs
    have HMK : Hid (∀ w2 : World, ∃ w3, (Instr.makeSlice 45 (.int .i64 0) (.int .i64 (p.cs.length : Int))).run Try.prog w2 = .ok (.slice (some ⟨w2.heap.size, 0, none⟩) 0 p.cs.length) w3 ∧ Gh w2.heap.size ⟨some ⟨w2.heap.size, 0, none⟩, 0, p.cs.length⟩ [] w3 ∧ Fr nothing w2 w3) := by
      intro w2
      obtain ⟨w3, r1, r2, r3⟩ := run_make_own (P := Try.prog) w2 w2.heap.size 45 38 j0 _ 1 Try.underlying45 hj0 hy0 hy1 .i64 .i64 p.cs.length (by rw [hy2]; omega) (by unfold maxLen; omega) (Nat.le_refl _)
      exact ⟨w3, r1, ⟨⟨[], ⟨rfl, r2⟩, ⟨rfl, fun i r x e => by simp at e⟩, fun s hs => by cases hs⟩⟩, (Fr.refl nothing w2).grown r3 (fun k hk => by cases hk)⟩
    clear hj0 hy0 hy1 hy2
    go_enter Try.func11, Try.ntmps11
    go_wp2_with (go_at_call 22; refine HHD.out.mono ?_; rintro e w2 ⟨rfl, hf2⟩; have HF2 := hide hf2; obtain ⟨d0, d1, dl⟩ := HCC.out w2 hf2; rw [hA1] at d0 d1 dl; obtain ⟨w3, hmk, hgh, hf3⟩ := HMK.out w2; have HGH := hide hgh; have HF3 := hide hf3; obtain ⟨f0, f1, fl⟩ := HCC.out w3 (hf2.trans hf3); rw [hA1] at f0 f1 fl; clear hf2 hgh hf3)
    rw [← hA1]
    obtain ⟨B, hB⟩ : ∃ x, x = w2.heap.size := ⟨_, rfl⟩
    rw [← hB] at HGH
    rw [← hB]
    have HB := hide hB
    clear c0 c1 cl d0 d1 dl f0 f1 fl hw1' hA1 hmk HHD HMK hB
    go_loopw [25, 5, 7, 9, 10, 11, 12] (fun i v5 _ _ _ _ _ wv => ∃ (k : Nat) (q : Slc), k ≤ p.cs.length ∧ i = .int .i64 k ∧ v5 = .slice q.a q.n q.c ∧ Hid (Fr nothing w2 wv ∧ Gh B q ((p.cs.take k).map hgtZ) wv ∧ firstE (codeC p) (p.cs.drop k) = firstE (codeC p) p.cs)) (fun i _ _ _ _ _ _ _ => p.cs.length - (intOf i).toNat)
    case atStart => exact ⟨0, ⟨some ⟨B, 0, none⟩, 0, p.cs.length⟩, Nat.zero_le _, rfl, rfl, HF3.out, HGH.out, rfl⟩
    case round =>
      obtain ⟨k, q, hk, rfl, rfl, hRk⟩ := hrel
      obtain ⟨hfk, hgk, hek⟩ := hRk.out
      by_cases hkl : k < p.cs.length
      · have hx : p.cs[k]? = some p.cs[k] := List.getElem?_eq_getElem hkl
        have hxm : p.cs[k] ∈ p.cs := List.getElem_mem hkl
        have hst := firstE_drop (codeC p) p.cs hx
        have htk : p.cs.take (k + 1) = p.cs.take k ++ [p.cs[k]] := List.take_succ_eq_append_getElem hkl
        have hra : rs[k]? = some (rs[k]'(by rw [HA.out.2.1.1]; omega)) := List.getElem?_eq_getElem _
        generalize p.cs[k] = x at hx hxm hst htk
        generalize rs[k]'(by rw [HA.out.2.1.1]; omega) = xa at hra
        have hco := HG4.out x hxm
        have hwf := HW.out.c x hxm
        obtain ⟨p1, p2, p3⟩ := HA.out.2.1.2 k xa x hra hx
        obtain ⟨gb, ob, e1, dgb, ub, ub1, ub2⟩ := sl_elemC (s := ⟨sca, p.cs.length, scc⟩) HA.out.1 hra
        simp only at e1
        subst e1
        obtain ⟨q1, q2⟩ := sl_len p3
        obtain ⟨xa1, xa2, ⟨xaa, xan, xac⟩⟩ := xa
        simp only at p1 p2 q1 ub ub1 ub2
        subst p1 p2 q1
        have hF := HF1.out.trans (HF2.out.trans hfk)
        have eg1 := Nat.lt_of_lt_of_le dgb hF.size
        rw [← hF.cell (p := ⟨gb, _, none⟩) dgb id] at ub ub1 ub2
        rw [hek] at hst
        have hFA : Fr nothing wr (wr.alloc (.cells #[.int .i64 x.np, .int .i64 x.nv, .slice xaa x.ins.length xac] 37)) := (Fr.refl _ _).alloc _
        have hm4 := made_cells (Fr.refl nothing (wr.alloc (.cells #[.int .i64 x.np, .int .i64 x.nv, .slice xaa x.ins.length xac] 37))) id
        have HM4 := hide hm4
        have HF4 : Hid (Fr nothing w2 (wr.alloc (.cells #[.int .i64 x.np, .int .i64 x.nv, .slice xaa x.ins.length xac] 37))) := hfk.trans hFA
        have HGK : Hid (Gh B q ((p.cs.take k).map hgtZ) (wr.alloc (.cells #[.int .i64 x.np, .int .i64 x.nv, .slice xaa x.ins.length xac] 37))) := hgk.new hFA
        have HST : Hid (firstE (codeC p) p.cs = if codeC p x ≠ 0 then codeC p x else firstE (codeC p) (p.cs.drop (k + 1))) := hst
        have HTK := hide htk
        have HP3 := hide p3
        have HCO := hide hco
        have HWF := hide hwf
        have hln : x.ins.length ≤ 200 := hco.2.2.2.2.2
        clear hx hxm hra p3 hF hst htk hm4 hFA hRk hfk hgk hek hco hwf
        go_wp2_with fail
        generalize wr.alloc (.cells #[.int .i64 x.np, .int .i64 x.nv, .slice xaa x.ins.length xac] 37) = w4 at *
        obtain ⟨cb, hcb⟩ : ∃ x, x = wr.heap.size := ⟨_, rfl⟩
        rw [← hcb] at HM4
        rw [← hcb]
        clear hcb ub ub1 ub2 eg1
        go_loopw [32, 9, 10] (fun i _ _ wv => ∃ (j : Nat), j ≤ x.ins.length ∧ i = .int .i64 j ∧ Hid (Fr nothing w4 wv ∧ firstE (inC p x) (x.ins.drop j) = firstE (inC p x) x.ins)) (fun i _ _ _ => x.ins.length - (intOf i).toNat)
        case atStart => exact ⟨0, Nat.zero_le _, rfl, Fr.refl _ _, rfl⟩
        case round =>
          obtain ⟨j, hj, rfl, hR2⟩ := hrel
          obtain ⟨hf4, he4⟩ := hR2.out
          have cA := HCC.out _ (HF2.out.trans (HF4.out.trans hf4))
          obtain ⟨cA0, cA1, cAl⟩ := cA
          have cD0 := (hf4.cell (p := ⟨cb, 0, none⟩) HM4.out.2.2 id).trans (HM4.out.1 0)
          have cD1 := (hf4.cell (p := ⟨cb, 1, none⟩) HM4.out.2.2 id).trans (HM4.out.1 1)
          have cD2 := (hf4.cell (p := ⟨cb, 2, none⟩) HM4.out.2.2 id).trans (HM4.out.1 2)
          have cDl := Nat.lt_of_lt_of_le HM4.out.2.2 hf4.size
          have hFw := HF1.out.trans (HF2.out.trans (HF4.out.trans hf4))
          by_cases hjl : j < x.ins.length
          · have hy : x.ins[j]? = some x.ins[j] := List.getElem?_eq_getElem hjl
            have hst2 := firstE_drop (inC p x) x.ins hy
            generalize x.ins[j] = y at hy hst2
            obtain ⟨ia, ja, e1, dia, v0, v1, v2⟩ := sl_elemI (s := ⟨xaa, x.ins.length, xac⟩) HP3.out hy
            simp only at e1
            subst e1
            have egi := Nat.lt_of_lt_of_le dia hFw.size
            rw [← hFw.cell (p := ⟨ia, _, none⟩) dia id] at v0 v1 v2
            rw [he4] at hst2
            obtain ⟨op, a, b⟩ := y
            simp only at v0 v1 v2
            have hFA : Fr nothing wr (wr.alloc (.cells #[.int .i64 op, .int .i64 a, .int .i64 b] 44)) := (Fr.refl _ _).alloc _
            have HI := hide (instr_any p x ⟨op, a, b⟩ ⟨some ⟨gb, ob, none⟩, p.cs.length, scc⟩ ⟨swa, p.ws.length, swc⟩ ⟨some ⟨ia, ja, none⟩, x.ins.length, xac⟩ (wr.alloc (.cells #[.int .i64 op, .int .i64 a, .int .i64 b] 44)) (HPP.out.fr (hFw.trans hFA)) rfl (by have := HCO.out; omega) (by omega))
            have HFW := hide (hFw.trans hFA)
            have HF5 : Hid (Fr nothing w4 (wr.alloc (.cells #[.int .i64 op, .int .i64 a, .int .i64 b] 44))) := hf4.trans hFA
            obtain ⟨er, her⟩ : ∃ er, inC p x ⟨op, a, b⟩ = er := ⟨_, rfl⟩
            rw [her] at hst2 HI
            have HS2 := hide hst2
            clear hy hR2 hf4 he4 hFw hFA her hst2
            by_cases h0 : er = 0
            · subst h0
              have HE : Hid (firstE (inC p x) (x.ins.drop (j + 1)) = firstE (inC p x) x.ins) := by
                have := HS2.out
                rw [if_neg (by simp)] at this
                exact this.symm
              clear HS2
              go_wp2_with (go_at_call 23; refine HI.out.mono ?_; rintro e w6 ⟨rfl, hf6⟩; have HF6 := hide (HF5.out.trans hf6); clear hf6)
              go_roundw
              case rel => exact ⟨j + 1, by omega, by go_num, HF6.out, HE.out⟩
              case measure => simp [intOf]; omega
            · have h0b : (er != 0) = true := by simpa using h0
              have HR : Hid (R = er) := by
                have h1 := HS2.out
                rw [if_pos h0] at h1
                have h2 : codeC p x = er := by unfold codeC; rw [h1, if_pos h0]
                unfold Hid
                rw [HDD.out, HST.out, h2, if_pos h0]
              clear HS2
              go_wp2_with (go_at_call 23; refine HI.out.mono ?_; rintro e w6 ⟨rfl, hf6⟩; have HF6 := hide (HFW.out.trans hf6); clear hf6)
              exact bodyPost_ret (v := .tuple #[.slice none 0 0, .int .i64 er]) (by simp [results, Try.results11, go_sem]) rfl ⟨nilS, by rw [HR.out], HF6.out, fun e => absurd (HR.out.symm.trans e) h0⟩
          · have hin : firstE (inC p x) x.ins = 0 := by rw [← he4]; exact firstE_end _ _ (by omega)
            have hh : codeC p x = (heightsC x.ins).2 := by unfold codeC; rw [hin, if_neg (by simp)]
            have hb17 : ∀ i ∈ x.ins, i.op = 17 → 0 ≤ i.b := fun i hi e => by
              have h1 := firstE_zero hin i hi
              unfold inC at h1
              split at h1
              · cases h1
              split at h1
              · cases h1
              split at h1
              · cases h1
              rename_i r1 r2 r3
              have h4 : i.b = bC p i := Classical.not_not.1 r3
              have h5 : 0 ≤ i.a ∧ i.a < p.cs.length := by
                rw [e] at r2
                have e1 : loC 17 = 0 := rfl
                have e2 : hiC p x 17 = (p.cs.length : Int) - 1 := rfl
                rw [e1, e2] at r2
                omega
              have h6 : p.cs[i.a.toNat]? = some (p.cs[i.a.toNat]'(by omega)) := List.getElem?_eq_getElem _
              have h7 := (HG4.out _ (List.getElem_mem (l := p.cs) (n := i.a.toNat) (by omega))).1
              rw [h4]
              unfold bC npZ
              rw [if_pos e, h6]
              exact h7
            have HHT := hide (vheights_any x.ins x.np x.nv ⟨xaa, x.ins.length, xac⟩ wr (HP3.out.fr hFw (fun _ _ => id)) (by omega) hb17)
            have HFW := hide hFw
            have HF5 : Hid (Fr nothing w2 wr) := HF4.out.trans hf4
            have HG5 : Hid (Gh B q ((p.cs.take k).map hgtZ) wr) := HGK.out.new hf4
            have HNE : Hid ((heightsC x.ins).2 = 0 → (heightsC x.ins).1 ≠ []) := fun e h => by
              have h1 := heights_len e
              rw [h] at h1
              have := HCO.out
              simp at h1
              omega
            obtain ⟨er, her⟩ : ∃ er, (heightsC x.ins).2 = er := ⟨_, rfl⟩
            unfold HtQ at HHT
            rw [her] at hh HHT HNE
            have HH := hide hh
            obtain ⟨w5, hw5⟩ : ∃ x, x = wr := ⟨_, rfl⟩
            subst hw5
            clear hR2 hf4 he4 hFw her hin hh hb17
            by_cases h0 : er = 0
            · subst h0
              have HE : Hid (firstE (codeC p) (p.cs.drop (k + 1)) = firstE (codeC p) p.cs) := by
                have := HST.out
                rw [HH.out, if_neg (by simp)] at this
                exact this.symm
              have HNX : Hid (∀ (sl : Slc) (w6 : World), Fr nothing w5 w6 → Sl encZ 1 w6 sl.v (heightsC x.ins).1 → (∀ b, sl.v.ownBlock = some b → w5.heap.size ≤ b) → (∀ b, sl.v.ownBlock = some b → b < w6.heap.size) → ∃ (q' : Slc) (w7 : World), (Builtin.append_ #[45, 45] 45 #[.slice q.a q.n q.c, .slice (some ⟨w6.heap.size, 0, none⟩) 1 1]).run Try.prog (w6.alloc (.cells #[.slice sl.a sl.n sl.c] 38)) = .ok (.slice q'.a q'.n q'.c) w7 ∧ Fr nothing w2 w7 ∧ Gh B q' ((p.cs.take (k + 1)).map hgtZ) w7) := by
                intro sl w6 hf hs hb1 hb2
                have hg6 := HG5.out.new hf
                have hB := HB.out
                have hsz := (HF5.out.trans hf).size
                obtain ⟨q', w7, r1, r2, r3⟩ := hg6.push hs (fun b hb e => by have h1 := (HG5.out.lt e).2; have := hb1 b hb; omega) hb2 (by omega) (by rw [List.length_map, List.length_take]; omega)
                refine ⟨q', w7, r1, (HF5.out.trans hf).then r3 (fun j hj e => by have h1 := (HG5.out.lt e).1; omega), ?_⟩
                rw [HTK.out, List.map_append]
                exact r2
              go_wp2_with (first
                | (go_at_call 8; refine HHT.out.mono ?_; rintro e w6 ⟨sl, rfl, hf6, hs6, hb6⟩; obtain ⟨q', w7, hap, hf7, hg7⟩ := HNX.out sl w6 hf6 hs6 hb6 (sl_blk hs6 (HNE.out rfl)); have HF7 := hide hf7; have HG7 := hide hg7; clear hf6 hs6 hb6 hf7 hg7)
                | (at_builtin; go_must (refine wpList_run rfl _ _ 45 rfl _ _ rfl rfl hap ?_; clear hap)))
              go_roundw
              case rel => exact ⟨k + 1, q', by omega, by go_num, rfl, HF7.out, HG7.out, HE.out⟩
              case measure => simp [intOf]; omega
            · have h0b : (er != 0) = true := by simpa using h0
              have HR : Hid (R = er) := by
                unfold Hid
                rw [HDD.out, HST.out, HH.out, if_pos h0]
              go_wp2_with (go_at_call 8; refine HHT.out.mono ?_; rintro e w6 ⟨sl, rfl, hf6, hs6, hb6⟩; have HF6 := hide (HFW.out.trans hf6); clear hf6 hs6 hb6)
              exact bodyPost_ret (v := .tuple #[.slice none 0 0, .int .i64 er]) (by simp [results, Try.results11, go_sem]) rfl ⟨nilS, by rw [HR.out], HF6.out, fun e => absurd (HR.out.symm.trans e) h0⟩
      · have hRr : R = 0 := by rw [HDD.out, ← hek]; exact firstE_end _ _ (by omega)
        have hkk : k = p.cs.length := by omega
        have HFN := hide (HF1.out.trans (HF2.out.trans hfk))
        have HGN : Hid (HsOk wr q (p.cs.map hgtZ)) := by
          have := hgk.done
          rw [hkk, List.take_length] at this
          exact this
        subst hRr
        clear hRk hfk hgk hek hkk
        go_wp2_with fail
        exact bodyPost_ret (v := .tuple #[.slice q.a q.n q.c, .int .i64 0]) (by simp [results, Try.results11, go_sem]) rfl ⟨q, rfl, HFN.out, by first | exact HGN.out | exact fun _ => HGN.out⟩
  · rw [if_pos h0] at hd
    subst hd
    have h0b : (R != 0) = true := by simpa using h0
    go_enter Try.func11, Try.ntmps11
    go_wp2_with (go_at_call 22; refine HHD.out.mono ?_; rintro e w2 ⟨rfl, hf2⟩; have HF2 := hide (HF1.out.trans hf2); clear hf2)
    exact bodyPost_ret (v := .tuple #[.slice none 0 0, .int .i64 R]) (by simp [results, Try.results11, go_sem]) rfl ⟨nilS, rfl, HF2.out, fun e => absurd e h0⟩
end Go.Proofs.Ytgocmpooppejdaa
