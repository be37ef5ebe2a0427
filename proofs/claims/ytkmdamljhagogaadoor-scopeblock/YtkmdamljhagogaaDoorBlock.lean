/- Package scope: a block. -/
import Derived.Test.YtkmdamljhagogaaDoorBstmt
import Derived.Test.YtkmdamljhagogaaDoorCounted
import Derived.Test.YtkmdamljhagogaaDoorOrders
set_option maxHeartbeats 0
set_option maxRecDepth 100000
namespace Go.Proofs.YtkmdamljhagogaaDoor
open Go Go.RowKit
theorem stC_nm {F : Bs → Option Int} {k : Int} {t : Bs} {a : List Ex} {x y : List St} {nm : List Bs} {v : Int} {W : WS} (h : (stC F (.mk k t a x y) nm v W).e = 0) : (stC F (.mk k t a x y) nm v W).nm = stN1 nm k t ∧ stE nm v k t = 0 := by
  rw [stC_mk] at h ⊢
  unfold CR.or at h ⊢
  split at h
  · rename_i h1
    rw [if_pos h1]
    try dsimp only at h
    try dsimp only
    split at h
    · rename_i h2
      rw [if_pos h2]
      try dsimp only at h
      try dsimp only
      split at h
      · rename_i h3
        rw [if_pos h3]
        split at h
        · rename_i h4
          rw [if_pos h4]
          exact ⟨rfl, h2⟩
        · rename_i h4; exact absurd h h4
      · rename_i h3; exact absurd h h3
    · rename_i h2; exact absurd h h2
  · rename_i h1; exact absurd h h1
theorem stE_let {nm : List Bs} {v : Int} {t : Bs} (h : stE nm v 1 t = 0) : nm.contains t = false := by
  unfold stE at h
  rw [if_pos rfl] at h
  cases hc : nm.contains t with
  | true => rw [if_pos hc] at h; cases h
  | false => rfl
/-- A name is taken away that was let. -/
theorem BI.away {bb pb wb tb : Nat} {F : AMap} {nm : List Bs} {o : Bs} {own : List Bs} {v : Int} {W : WS} {w : World} (h : BI bb pb wb tb F (nm ++ o :: own) v W w) (ho : o.length ≤ 1500) (h1 : nm.contains o = false) (h2 : own.contains o = false) (ty : TypeId) :
    ∃ w', (Builtin.delete_ #[55, 9] ty #[.map (some tb), .string (bs o)]).run Tryd.prog w = .ok (.tuple #[]) w' ∧ BI bb pb wb tb F (nm ++ own) v W w' ∧ Fr (fun k => k = tb) w w' := by
  obtain ⟨B, b1, b2, b3⟩ := h.tm
  obtain ⟨w', r, s, f⟩ := b1.drop o (by omega) ty
  have hne := h.ne
  obtain ⟨A, a1, a2, a3⟩ := h.wm
  refine ⟨w', r, ⟨(f.cell (p := ⟨bb, 0, none⟩) h.lt hne.2.2.1).trans h.c0, (f.cell (p := ⟨bb, 1, none⟩) h.lt hne.2.2.1).trans h.c1, (f.cell (p := ⟨bb, 2, none⟩) h.lt hne.2.2.1).trans h.c2, (f.cell (p := ⟨bb, 3, none⟩) h.lt hne.2.2.1).trans h.c3, (f.frozen (p := ⟨bb, 3, none⟩) h.lt hne.2.2.1).trans h.f3, Nat.lt_of_lt_of_le h.lt f.size, h.pm.fr f hne.2.2.2.2.1, ⟨A, a1.fr f hne.2.2.2.2.2, a2, a3⟩, ⟨B.del o, s, fun k => ?_, ?_⟩, hne⟩, f⟩
  · unfold AMap.del
    dsimp only
    have hk := b2 k
    by_cases e : k = o
    · subst e
      rw [if_pos rfl]
      simp only [List.contains_eq_mem, decide_eq_false_iff_not] at h1 h2
      simp [h1, h2]
    · rw [if_neg e, hk]
      rw [Bool.eq_iff_iff]
      simp [e]
  · have h3 : (B.f o).isSome = true := by rw [b2 o]; simp
    unfold AMap.del
    dsimp only
    rw [if_pos h3]
    simp only [List.length_append, List.length_cons] at b3 ⊢
    omega
theorem block_step (l : List St) (ih : ∀ s ∈ l, BSt s) (hsl : ∀ k t a x y, St.mk k t a x y ∈ l → t.length ≤ 1500) : BBl l := by
  intro bb pb wb tb F nm v W sl rs w hB hSL hPL hEL hW hv0 hv8 hnm
  obtain ⟨hln, hlm⟩ := sl_len hSL
  obtain ⟨la, ln, lc⟩ := sl
  simp only at hln
  rw [hEL.1] at hln
  subst hln
  have hll : l.length ≤ 9223372036854775807 := by have := hEL.1; omega
  have HSL := hide hSL
  have HEL := hide hEL
  have HB0 := hide hB
  have HLT : Hid (bb < w.heap.size ∧ wb < w.heap.size ∧ tb < w.heap.size ∧ pb < w.heap.size) := ⟨hB.lt, by obtain ⟨A, a1, _⟩ := hB.wm; exact a1.lt, by obtain ⟨A, a1, _⟩ := hB.tm; exact a1.lt, hB.pm.lt⟩
  obtain ⟨j0, hj0, hy0, hy1, hy2⟩ := info_parts sizeNm
  clear hSL hEL hB
  go_enter Tryd.func26, Tryd.ntmps26
  go_wp2
  go_loopw [13, 5, 7, 8] (fun i ow _ _ wr => ∃ (j : Nat) (own : List Bs) (vj : Int) (Wj : WS) (oa : Option Addr) (oc : Nat), j ≤ l.length ∧ i = .int .i64 j ∧ ow = .slice oa own.length oc ∧ 0 ≤ vj ∧ vj ≤ 8 ∧ Hid (BI bb pb wb tb F (nm ++ own) vj Wj wr ∧ Fr (bw bb wb tb) w wr ∧ wr.ownsRow w.heap.size 9 1 (.slice oa own.length oc) own.length (own.flatMap encN) ∧ stsC F.f l nm v W = stsC F.f (l.drop j) (nm ++ own) vj Wj ∧ Wj.n + stsN (l.drop j) ≤ 100000 ∧ nm.length + own.length + stsN (l.drop j) ≤ 100000 ∧ (∀ x ∈ own, x.length ≤ 1500 ∧ nm.contains x = false) ∧ dup own = false)) (fun i _ _ _ _ => l.length - (intOf i).toNat)
  case atStart => exact ⟨0, [], v, W, none, 0, Nat.zero_le _, rfl, rfl, hv0, hv8, by rw [List.append_nil]; exact HB0.out, Fr.refl _ _, World.ownsRow_nil _ _ _ _, by rw [List.append_nil]; rfl, hW, hnm, fun x hx => by simp at hx, rfl⟩
  case round =>
    obtain ⟨j, own, vj, Wj, oa, oc, hj, rfl, rfl, hvj0, hvj8, hR⟩ := hrel
    by_cases hjl : j < l.length
    · have hx : l[j]? = some l[j] := List.getElem?_eq_getElem hjl
      have hr : rs[j]? = some (rs[j]'(by rw [HEL.out.1]; omega)) := List.getElem?_eq_getElem _
      have hxm : l[j] ∈ l := List.getElem_mem hjl
      have hdr : l.drop j = l[j] :: l.drop (j + 1) := List.drop_eq_getElem_cons hjl
      generalize rs[j]'(by rw [HEL.out.1]; omega) = r at hr
      generalize l[j] = st at hx hxm hdr
      have hok := HEL.out.2 j r st hr hx
      have hstr : ∃ a x y, st = St.mk r.k r.t a x y := by cases hok; exact ⟨_, _, _, rfl⟩
      obtain ⟨g, o, hg, dg, p0, p1, p2, p3, p4⟩ := sl_elem5 (s := ⟨la, l.length, lc⟩) HSL.out hr
      simp only at hg
      subst hg
      obtain ⟨hBj, hFj, hOj, hEqj, hWj, hNj, hXj, hDj⟩ := hR.out
      have hgw : ¬ bw bb wb tb g := hPL g rfl
      rw [← hFj.cell (p := ⟨g, _, none⟩) dg hgw] at p0 p1 p2 p3 p4
      have eg : g < wr.heap.size := Nat.lt_of_lt_of_le dg hFj.size
      rw [hdr, stsC_cons] at hEqj
      rw [hdr, stsN] at hWj hNj
      have hFA : Fr nothing wr (wr.alloc (so r)) := (Fr.refl _ _).alloc _
      have hFB : Fr (bw bb wb tb) w (wr.alloc (so r)) := hFj.alloc _
      have hM5 := so_cells (Fr.refl nothing (wr.alloc (so r))) id
      have HIH := hide (ih st hxm bb pb wb tb F (nm ++ own) vj Wj r (wr.alloc (so r)) (hBj.fr hFA id id id id) (st_stays _ _ _ _ _ _ _ hok hFB (fun k hk => hk) (fun _ hk => hk)) (by omega) hvj0 hvj8 (by rw [List.length_append]; omega))
      have hszr := hFj.size
      have HM5 : Hid (∀ w', Fr (bw bb wb tb) (wr.alloc (so r)) w' → B5 wr.heap.size (.int .i64 r.k) (.string (bs r.t)) (.slice r.a.a r.a.n r.a.c) (.slice r.x.a r.x.n r.x.c) (.slice r.y.a r.y.n r.y.c) w') := fun w' hf => so_cells hf (by have := HLT.out; rintro (e | e | e) <;> omega)
      obtain ⟨m0, m1, m2, m3, m4, mf, ml⟩ := hM5
      have HFB := hide hFB
      have HEQ := hide hEqj
      have HO := hide (hOj.alloc (so r))
      clear hR hBj hFj hEqj hOj hFA hFB mf hr hx
      generalize hwa : wr.alloc (so r) = wa at *
      obtain ⟨k, t, sa, sx, sy⟩ := r
      simp only at *
      have hle := stC_le F.f st (nm ++ own) vj Wj
      have hvv := stC_v F.f st (nm ++ own) vj Wj hvj0 hvj8
      obtain ⟨R, hR⟩ : ∃ R, stC F.f st (nm ++ own) vj Wj = R := ⟨_, rfl⟩
      rw [hR] at HIH HEQ hle hvv
      by_cases hRe : R.e = 0
      · obtain ⟨a, x, y, rfl⟩ := hstr
        have hnme := stC_nm (F := F.f) (k := k) (t := t) (a := a) (x := x) (y := y) (nm := nm ++ own) (v := vj) (W := Wj) (by rw [hR]; exact hRe)
        rw [hR] at hnme
        have hv2 := hvv hRe
        have HEQ2 : Hid (stsC F.f l nm v W = stsC F.f (l.drop (j + 1)) R.nm R.v R.W) := by
          show stsC F.f l nm v W = _
          rw [HEQ.out, cr_ok hRe]
        by_cases k1 : k = 1
        · subst k1
          have hnn : R.nm = nm ++ (own ++ [t]) := by rw [hnme.1]; simp [stN1]
          have hct := stE_let hnme.2
          rw [hnn] at HIH HEQ2
          clear hnn hnme hR hvv
          have hpos := stN_pos (St.mk 1 t a x y)
          have hoc : own.contains t = false := by
            simp only [List.contains_eq_mem, decide_eq_false_iff_not, List.mem_append] at hct ⊢
            exact fun h => hct (.inr h)
          have hnc : nm.contains t = false := by
            simp only [List.contains_eq_mem, decide_eq_false_iff_not, List.mem_append] at hct ⊢
            exact fun h => hct (.inl h)
          have HX2 : Hid (∀ x ∈ own ++ [t], x.length ≤ 1500 ∧ nm.contains x = false) := fun x hx => by
            rcases List.mem_append.1 hx with h | h
            · exact hXj x h
            · rw [List.mem_singleton.1 h]; exact ⟨hsl _ _ _ _ _ hxm, hnc⟩
          have HD2 : Hid (dup (own ++ [t]) = false) := by show dup (own ++ [t]) = false; rw [dup_snoc, hDj, hoc]; rfl
          have hol : own.length ≤ 100000 := by omega
          have hnx : (own ++ [t]).length = own.length + 1 := by simp
          have hfm : (own ++ [t]).flatMap encN = own.flatMap encN ++ [.string (bs t)] := by simp [encN]
          clear hct hoc hnc
          go_wp2_with (first
            | (go_at_call 39; refine HIH.out.mono ?_; rintro e w7 ⟨rfl, hf, hc⟩; have HB7 := hide (hc hRe); have HF7 := hide (HFB.out.trans hf); have HO7 := hide (owns_fr HO.out hf (fun k hk e => by have h3 := owns_far HO.out (b := k); have h4 := HLT.out; rcases e with e | e | e <;> exact h3 (by omega) hk.symm)); obtain ⟨n0, n1, n2, n3, n4, nf, nl⟩ := HM5.out _ hf; clear hf hc nf)
            | (at_builtin; go_must (refine wpList_append_lies _ rfl _ _ 32 rfl w.heap.size 9 j0 _ 1 16 Tryd.underlying32 hj0 hy0 hy1 hy2 rfl (by decide) (.slice oa own.length oc) own.length _ rfl (HO7.out.alloc _) ⟨w7.heap.size, 0, none⟩ 1 1 [.string (bs t)] rfl rfl (World.news_of_block (cs := #[.string (bs t)]) (t := 9) (fr := (0, 0)) (heap_new _ _)) (by simp [Value.oneCell']) (by decide) (by unfold maxLen; omega) (by omega) (by have := HF7.out.size; simp; omega) _ rfl ?_); intro g1 cp1 w8 hr8 hg8 hat8 hlt8; have F8 := hide ((HF7.out.alloc (.cells #[.string (bs t)] 9)).grown hg8 (fun k hk => .inr (by have h3 := owns_far HO7.out (b := k); rcases Nat.lt_or_ge k w.heap.size with h | h; exact absurd hk.symm (h3 h); exact h))); have B8 := hide (HB7.out.fr (((Fr.refl (fun k => w.heap.size ≤ k) w7).alloc (.cells #[.string (bs t)] 9)).grown hg8 (fun k hk => .inl (by have h3 := owns_far HO7.out (b := k); rcases Nat.lt_or_ge k w.heap.size with h | h; exact absurd hk.symm (h3 h); exact h))) (by have := HLT.out; omega) (by have := HLT.out; omega) (by have := HLT.out; omega) (by have := HLT.out; omega))))
          go_roundw
          case rel => exact ⟨j + 1, own ++ [t], R.v, R.W, some ⟨g1, 0, none⟩, cp1, by omega, by go_num, by rw [hnx], hv2.1, hv2.2, B8.out, F8.out, by rw [hnx, hfm]; exact hr8, HEQ2.out, by omega, by rw [hnx]; omega, HX2.out, HD2.out⟩
          case measure => simp [intOf]; omega
        · have p1 : (k == 1) = false := by simpa using k1
          have hnn : R.nm = nm ++ own := by rw [hnme.1]; simp [stN1, k1]
          rw [hnn] at HIH HEQ2
          clear hnn hnme hR hvv k1
          have hpos := stN_pos (St.mk k t a x y)
          go_wp2_with (go_at_call 39; refine HIH.out.mono ?_; rintro e w7 ⟨rfl, hf, hc⟩; have HB7 := hide (hc hRe); have HF7 := hide (HFB.out.trans hf); have HO7 := hide (owns_fr HO.out hf (fun k hk e => by have h3 := owns_far HO.out (b := k); have h4 := HLT.out; rcases e with e | e | e <;> exact h3 (by omega) hk.symm)); obtain ⟨n0, n1, n2, n3, n4, nf, nl⟩ := HM5.out _ hf; clear hf hc nf)
          go_roundw
          case rel => exact ⟨j + 1, own, R.v, R.W, oa, oc, by omega, by go_num, rfl, hv2.1, hv2.2, HB7.out, HF7.out, HO7.out, HEQ2.out, by omega, by omega, hXj, hDj⟩
          case measure => simp [intOf]; omega
      · have hRb := ne_bne hRe
        have HEND : Hid ((stsC F.f l nm v W).e = R.e) := by
          show (stsC F.f l nm v W).e = R.e
          rw [HEQ.out, cr_bad hRe]
        go_wp2_with (go_at_call 39; refine HIH.out.mono ?_; rintro e w7 ⟨rfl, hf, hc⟩; have HF7 := hide (HFB.out.trans hf); clear hf hc)
        go_ret
        exact ⟨by rw [HEND.out]; rfl, HF7.out, fun h0 => absurd (HEND.out.symm.trans h0) hRe⟩
    · have hje : j = l.length := by omega
      obtain ⟨hBj, hFj, hOj, hEqj, hWj, hNj, hXj, hDj⟩ := hR.out
      rw [hje, List.drop_length, stsC_nil] at hEqj
      have HEQj := hide hEqj
      have HO := hide (sl_of_owns encN_len hOj)
      have hol : own.length ≤ 100000 := by omega
      have HBj := hide hBj
      have HFj := hide hFj
      have HXj := hide hXj
      have HDj := hide hDj
      have HOB := hide (fun (b : Nat) (hb : (Value.slice oa own.length oc).ownBlock = some b) => (show ¬ bw bb wb tb b from fun e => by have h3 := owns_far hOj (b := b); have h4 := HLT.out; rcases e with e | e | e <;> exact h3 (by omega) hb.symm))
      clear hR hBj hFj hOj hEqj hWj hNj hXj hDj hje
      go_wp2_with fail
      go_loopw [34, 10] (fun i _ ws => ∃ (q : Nat), q ≤ own.length ∧ i = .int .i64 q ∧ Hid (BI bb pb wb tb F (nm ++ own.drop q) vj Wj ws ∧ Fr (bw bb wb tb) wr ws ∧ dup (own.drop q) = false)) (fun i _ _ => own.length - (intOf i).toNat)
      case atStart => exact ⟨0, Nat.zero_le _, rfl, HBj.out, Fr.refl _ _, HDj.out⟩
      case round =>
        obtain ⟨q, hq, rfl, hR⟩ := hrel
        by_cases hql : q < own.length
        · have hx : own[q]? = some own[q] := List.getElem?_eq_getElem hql
          have hxm : own[q] ∈ own := List.getElem_mem hql
          have hdr : own.drop q = own[q] :: own.drop (q + 1) := List.drop_eq_getElem_cons hql
          generalize own[q] = x at hx hxm hdr
          obtain ⟨g2, o2, hg2, dg2, u0⟩ := sl_elem1 (s := ⟨oa, own.length, oc⟩) HO.out hx
          simp only at hg2
          subst hg2
          obtain ⟨hBq, hFq, hDq⟩ := hR.out
          rw [hdr] at hBq
          rw [hdr, dup, Bool.or_eq_false_iff] at hDq
          rw [← hFq.cell (p := ⟨g2, _, none⟩) dg2 (HOB.out g2 rfl)] at u0
          have eg2 := Nat.lt_of_lt_of_le dg2 hFq.size
          have c2 := hBq.c2
          have cl := hBq.lt
          obtain ⟨wu, ru, hbu, hfu⟩ := hBq.away (HXj.out x hxm).1 (HXj.out x hxm).2 hDq.1 0
          have HBU := hide hbu
          have HFU := hide (hFq.trans (hfu.mono (fun _ _ e => .inr (.inr e))))
          have HDQ := hide hDq.2
          clear hR hBq hFq hDq hbu hfu hx
          go_wp2_with fail
          go_roundw
          case rel => exact ⟨q + 1, by omega, by go_num, HBU.out, HFU.out, HDQ.out⟩
          case measure => simp [intOf]; omega
        · have hqe : q = own.length := by omega
          obtain ⟨hBq, hFq, hDq⟩ := hR.out
          rw [hqe, List.drop_length, List.append_nil] at hBq
          have HBq := hide hBq
          have HFq := hide (HFj.out.trans hFq)
          clear hR hBq hFq hDq
          go_wp2
          go_ret
          rw [HEQj.out]
          exact ⟨rfl, HFq.out, fun _ => HBq.out⟩
theorem block_any' : ∀ (n : Nat) (l : List St), stsN l ≤ n → (∀ s ∈ l, StSh s) → BBl l
  | 0, l, hn, hs => block_step l (fun s h => by have := stN_mem h; have := stN_pos s; omega) (fun k t a x y h => by cases hs _ h with | mk _ _ h3 _ _ _ => exact h3)
  | n + 1, l, hn, hs => block_step l (fun s h => by
      have h1 := stN_mem h
      cases hs _ h with
      | @mk k t a x y q1 q2 h3 h4 h5 h6 =>
        rw [stN] at h1
        exact bstmt_step k t a x y (fun e he => bexpr_any e (h4 e he)) (block_any' n x (by omega) h5) (block_any' n y (by omega) h6) h3 q1 q2) (fun k t a x y h => by cases hs _ h with | mk _ _ h3 _ _ _ => exact h3)
theorem block_any (l : List St) (hs : ∀ s ∈ l, StSh s) : BBl l := block_any' _ l (Nat.le_refl _) hs
end Go.Proofs.YtkmdamljhagogaaDoor
