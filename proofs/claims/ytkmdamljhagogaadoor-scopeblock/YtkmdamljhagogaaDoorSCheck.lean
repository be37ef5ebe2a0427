/- Package scope: Check answers what the document's own check answers. -/
import Derived.Test.YtkmdamljhagogaaDoorHeads
import Derived.Test.YtkmdamljhagogaaDoorBlock
set_option maxHeartbeats 0
set_option maxRecDepth 100000
namespace Go.Proofs.YtkmdamljhagogaaDoor
open Go Go.RowKit
/-- A new state for a function. -/
theorem BI.made {w : World} {bb pb wb tb : Nat} {F A : AMap} {W : WS} {p : List Bs} (c0 : w.cell? ⟨bb, 0, none⟩ = some (.map (some pb))) (c1 : w.cell? ⟨bb, 1, none⟩ = some (.map (some wb))) (c2 : w.cell? ⟨bb, 2, none⟩ = some (.map (some tb))) (c3 : w.cell? ⟨bb, 3, none⟩ = some (.int .i64 (p.length : Nat))) (f3 : w.frozen? ⟨bb, 3, none⟩ = false)
    (lt : bb < w.heap.size) (pm : SI pb F w) (wm : SI wb A w) (wf : ∀ k, (A.f k).isSome = W.f k) (wn : A.n = W.n) (tm : SI tb (cnt p) w) (ne : bb ≠ pb ∧ bb ≠ wb ∧ bb ≠ tb ∧ pb ≠ wb ∧ pb ≠ tb ∧ wb ≠ tb) : BI bb pb wb tb F p (p.length : Nat) W w :=
  ⟨c0, c1, c2, c3, f3, lt, pm, ⟨A, wm, wf, wn⟩, ⟨cnt p, tm, cnt_some p, (cnt_n p).1⟩, ne⟩
/-- Four cells of a block are written. -/
theorem set4 {w : World} {b : Nat} {u0 u1 u2 u3 : Value} (v0 v1 v2 v3 : Value) (m0 : w.cell? ⟨b, 0, none⟩ = some u0) (m1 : w.cell? ⟨b, 1, none⟩ = some u1) (m2 : w.cell? ⟨b, 2, none⟩ = some u2) (m3 : w.cell? ⟨b, 3, none⟩ = some u3) (mf : ∀ j, w.frozen? ⟨b, j, none⟩ = false) :
    ∃ w', w' = (((w.setCell ⟨b, 0, none⟩ v0).setCell ⟨b, 1, none⟩ v1).setCell ⟨b, 2, none⟩ v2).setCell ⟨b, 3, none⟩ v3 ∧ w'.cell? ⟨b, 0, none⟩ = some v0 ∧ w'.cell? ⟨b, 1, none⟩ = some v1 ∧ w'.cell? ⟨b, 2, none⟩ = some v2 ∧ w'.cell? ⟨b, 3, none⟩ = some v3 ∧ w'.frozen? ⟨b, 3, none⟩ = false ∧ Fr (fun k => k = b) w w' := by
  refine ⟨_, rfl, ?_, ?_, ?_, ?_, ?_, ?_⟩
  · rw [World.cell?_setCell_other _ ⟨b, 3, none⟩ ⟨b, 0, none⟩ _ (by simp), World.cell?_setCell_other _ ⟨b, 2, none⟩ ⟨b, 0, none⟩ _ (by simp), World.cell?_setCell_other _ ⟨b, 1, none⟩ ⟨b, 0, none⟩ _ (by simp)]
    exact World.cell?_setCell_same _ _ _ m0
  · rw [World.cell?_setCell_other _ ⟨b, 3, none⟩ ⟨b, 1, none⟩ _ (by simp), World.cell?_setCell_other _ ⟨b, 2, none⟩ ⟨b, 1, none⟩ _ (by simp)]
    exact World.cell?_setCell_same _ _ _ (by rw [World.cell?_setCell_other _ ⟨b, 0, none⟩ ⟨b, 1, none⟩ _ (by simp)]; exact m1)
  · rw [World.cell?_setCell_other _ ⟨b, 3, none⟩ ⟨b, 2, none⟩ _ (by simp)]
    exact World.cell?_setCell_same _ _ _ (by rw [World.cell?_setCell_other _ ⟨b, 1, none⟩ ⟨b, 2, none⟩ _ (by simp), World.cell?_setCell_other _ ⟨b, 0, none⟩ ⟨b, 2, none⟩ _ (by simp)]; exact m2)
  · exact World.cell?_setCell_same _ _ _ (by rw [World.cell?_setCell_other _ ⟨b, 2, none⟩ ⟨b, 3, none⟩ _ (by simp), World.cell?_setCell_other _ ⟨b, 1, none⟩ ⟨b, 3, none⟩ _ (by simp), World.cell?_setCell_other _ ⟨b, 0, none⟩ ⟨b, 3, none⟩ _ (by simp)]; exact m3)
  · rw [World.frozen?_setCell, World.frozen?_setCell, World.frozen?_setCell, World.frozen?_setCell]; exact mf 3
  · exact ((((Fr.refl (fun k => k = b) w).setCell (p := ⟨b, 0, none⟩) (.inl rfl) _).setCell (p := ⟨b, 1, none⟩) (.inl rfl) _).setCell (p := ⟨b, 2, none⟩) (.inl rfl) _).setCell (p := ⟨b, 3, none⟩) (.inl rfl) _
theorem checkC_heads {l : List Fn} (h0 : ¬ l.length = 0) (h5 : ¬ 5 < l.length) (h : headsE l ≠ 0) : checkC l = headsE l := by
  unfold checkC headsE at *
  rw [if_neg (by omega)]
  split
  · rfl
  · rename_i h1
    rw [if_neg h1] at h
    split
    · rfl
    · rename_i h2
      rw [if_neg h2] at h
      exact absurd rfl h
theorem checkC_bodies {l : List Fn} (h0 : ¬ l.length = 0) (h5 : ¬ 5 < l.length) (h : headsE l = 0) {F : Bs → Option Int} (hF : (0, F) = headsC l (fun _ => none)) :
    checkC l = if (bodiesC F l WS.empty).e ≠ 0 then (bodiesC F l WS.empty).e else if 16 < (bodiesC F l WS.empty).W.n then 4 else 0 := by
  unfold headsE at h
  unfold checkC
  rw [if_neg (by omega), ← hF]
  rw [← hF] at h
  rw [if_neg (by simp)]
  rw [if_neg (by simp)] at h
  by_cases h1 : firstP l ≠ 0
  · rw [if_pos h1] at h; cases h
  · rw [if_neg h1]
theorem heads_four : ∀ (l : List Fn) (G : Bs → Option Int) (F : Bs → Option Int), headsC l G = (0, F) → ∀ f ∈ l, f.p.length ≤ 4
  | [], _, _, _, f, h => by cases h
  | g :: l, G, F, hh, f, hf => by
    rw [headsC] at hh
    split at hh
    · cases hh
    · split at hh
      · cases hh
      · rcases List.mem_cons.1 hf with rfl | h
        · omega
        · exact heads_four l _ F hh f h
theorem scheck_any (l : List Fn) (s : Slc) (rs : List RawF) (w : World) (hS : Sl encG 3 w s.v rs) (hE : Each (FnOk w (fun k => k < w.heap.size)) rs l) (hSh : ∀ f ∈ l, FnSh f) (hN : fnsN l ≤ 50000) :
    Calls Tryd.prog 8 #[.slice s.a s.n s.c] w fun e w' => e = .returned (.int .i64 (checkC l)) ∧ Fr nothing w w' := by
  obtain ⟨hln, hlm⟩ := sl_len hS
  have HHD := hide (fun h0 h5 => heads_any l s rs w hS hE hSh hN h0 h5)
  obtain ⟨la, ln, lc⟩ := s
  simp only at hln
  rw [hE.1] at hln
  subst hln
  have hll : l.length ≤ 9223372036854775807 := by have := hE.1; omega
  have HS := hide hS
  have HE := hide hE
  clear hS hE
  by_cases h0 : l.length = 0
  · have q0 : ((l.length : Nat) : Int) < 1 := by omega
    have HCK : Hid (checkC l = 5) := by show checkC l = 5; unfold checkC; rw [if_pos (.inl h0)]
    clear h0
    go_enter Tryd.func8, Tryd.ntmps8
    go_wp2
    go_ret
    exact ⟨by rw [HCK.out]; rfl, Fr.refl _ _⟩
  by_cases h5 : 5 < l.length
  · have q0 : ¬ ((l.length : Nat) : Int) < 1 := by omega
    have q5 : (5 : Int) < (l.length : Nat) := by omega
    have HCK : Hid (checkC l = 5) := by show checkC l = 5; unfold checkC; rw [if_pos (.inr h5)]
    go_enter Tryd.func8, Tryd.ntmps8
    go_wp2
    go_ret
    exact ⟨by rw [HCK.out]; rfl, Fr.refl _ _⟩
  have h5' : l.length ≤ 5 := by omega
  have q0 : ¬ ((l.length : Nat) : Int) < 1 := by omega
  have q5 : ¬ (5 : Int) < (l.length : Nat) := by omega
  have HHD2 := hide (HHD.out (by omega) h5')
  by_cases hh : headsE l = 0
  rotate_left
  · have hhb := ne_bne hh
    have HCK := hide (checkC_heads h0 h5 hh)
    go_enter Tryd.func8, Tryd.ntmps8
    go_wp2_with (go_at_call 24; refine HHD2.out.mono ?_; rintro e w7 ⟨m, rfl, hf, hc⟩; have HF7 := hide hf; clear hf hc)
    go_ret
    exact ⟨by rw [HCK.out]; rfl, HF7.out⟩
  have hmm := @run_makeMap Tryd.prog
  rw [hh] at HHD2
  have HCK := hide (fun F hF => checkC_bodies h0 h5 hh (F := F) hF)
  go_enter Tryd.func8, Tryd.ntmps8
  go_wp2_with (go_at_call 24; refine HHD2.out.mono ?_; rintro e w7 ⟨m, rfl, hf, hc⟩; obtain ⟨hm, F, hF1, hF2, hF3⟩ := hc hh; have hm' := hm.symm; subst hm'; have HF7 := hide (hf.alloc (.map #[] 0)); have HPM := hide (hF3.fr ((Fr.refl nothing w7).alloc (.map #[] 0)) id); have HWM := hide (SI.made w7); have HHC := hide hF1; have HLT := hide hF3.lt; clear hf hc hF3 hF1 hm)
  clear hmm
  generalize w7.alloc (.map #[] 0) = w8 at HF7 HPM HWM ⊢
  obtain ⟨pb, hpb⟩ : ∃ x, x = w.heap.size := ⟨_, rfl⟩
  rw [← hpb] at HPM HLT
  rw [← hpb]
  obtain ⟨wb, hwb⟩ : ∃ x, x = w7.heap.size := ⟨_, rfl⟩
  rw [← hwb] at HWM HLT
  rw [← hwb]
  have HGE : Hid (w.heap.size ≤ pb ∧ w.heap.size ≤ wb ∧ pb < wb) := by have h1 := HLT.out; show _ ∧ _; omega
  have HCK2 := hide (HCK.out F.f HHC.out)
  have H4 := hide (heads_four l _ F.f HHC.out.symm)
  clear hpb hwb HLT HCK HHC
  go_loopw [29, 7, 8, 9] (fun i _ _ _ ws => ∃ (k : Nat) (Wk : WS), k ≤ l.length ∧ i = .int .i64 k ∧ Hid (SI pb F ws ∧ (∃ A, SI wb A ws ∧ (∀ k, (A.f k).isSome = Wk.f k) ∧ A.n = Wk.n) ∧ Fr nothing w ws ∧ bodiesC F.f l WS.empty = bodiesC F.f (l.drop k) Wk ∧ Wk.n + fnsN (l.drop k) ≤ 50000)) (fun i _ _ _ _ => l.length - (intOf i).toNat)
  case atStart => exact ⟨0, WS.empty, Nat.zero_le _, rfl, HPM.out, ⟨_, HWM.out, fun _ => rfl, rfl⟩, HF7.out, rfl, by show 0 + _ ≤ _; rw [List.drop_zero]; omega⟩
  case round =>
    obtain ⟨k, Wk, hk, rfl, hR⟩ := hrel
    by_cases hkl : k < l.length
    · have hx : l[k]? = some l[k] := List.getElem?_eq_getElem hkl
      have hr : rs[k]? = some (rs[k]'(by rw [HE.out.1]; omega)) := List.getElem?_eq_getElem _
      have hxm : l[k] ∈ l := List.getElem_mem hkl
      have hdr : l.drop k = l[k] :: l.drop (k + 1) := List.drop_eq_getElem_cons hkl
      generalize rs[k]'(by rw [HE.out.1]; omega) = r at hr
      generalize l[k] = f at hx hxm hdr
      have hok := HE.out.2 k r f hr hx
      obtain ⟨g, o, hg, dg, p0, p1, p2⟩ := sl_elem3 (s := ⟨la, l.length, lc⟩) HS.out hr
      simp only at hg
      subst hg
      obtain ⟨hPk, ⟨A, hA1, hA2, hA3⟩, hFk, hEqk, hNk⟩ := hR.out
      rw [← hFk.cell (p := ⟨g, _, none⟩) dg id] at p0 p1 p2
      have eg : g < wr.heap.size := Nat.lt_of_lt_of_le dg hFk.size
      rw [hdr, bodiesC] at hEqk
      have hNk' : Wk.n + (f.p.length + stsN f.b) + fnsN (l.drop (k + 1)) ≤ 50000 := by
        rw [hdr] at hNk; unfold fnsN at hNk ⊢; simp only [List.map_cons, List.sum_cons] at hNk; omega
      obtain ⟨rt, ⟨pa, pn, pc⟩, rb⟩ := r
      obtain ⟨rfl, hp, hpP, ⟨rss, hb1, hb2⟩, hbP⟩ := hok
      simp only at hp hpP hb1 hbP p0 p1 p2
      obtain ⟨hpn, hpm⟩ := sl_len hp
      simp only at hpn
      subst hpn
      have h4 : f.p.length ≤ 4 := H4.out f hxm
      have hsh := hSh f hxm
      have hpl : f.p.length ≤ 9223372036854775807 := by omega
      have hFA : Fr nothing wr (wr.alloc (fo ⟨f.t, ⟨pa, f.p.length, pc⟩, rb⟩)) := (Fr.refl _ _).alloc _
      obtain ⟨y0, y1, y2, yl⟩ := fo_cells (Fr.refl nothing (wr.alloc (fo ⟨f.t, ⟨pa, f.p.length, pc⟩, rb⟩))) id
      have HPA := hide (hPk.fr hFA id)
      have HAA := hide (hA1.fr hFA id)
      have HFA := hide (hFk.trans hFA)
      have HP := hide (hp.keep HFA.out (P := fun _ => True) (fun _ _ => trivial) (fun _ _ => id))
      have HEQ := hide hEqk
      clear hR hPk hA1 hFk hEqk hFA hp hpP hr hx hNk
      generalize hwa : wr.alloc (fo ⟨f.t, ⟨pa, f.p.length, pc⟩, rb⟩) = wa at *
      have HCNT := hide (fun w' (hf : Fr nothing wa w') => counted_any ⟨pa, f.p.length, pc⟩ f.p w' (HP.out.fr hf (fun _ _ => id)) hsh.p (by omega))
      go_wp2_with fail
      refine wp_region_held_drew (S := fun w' => w'.cell? ⟨wr.heap.size, 1, none⟩ = some (.slice pa f.p.length pc)) (by kernel_rfl) ?_ (fun hHeld => ?_)
      · exact y1
      refine wpAnyH_take (i := 0) (oi := { dst := some 33, op := Op.move (Operand.tmp 3), type := 55, pos := "scope.go:17", after := #[], guard := none }) (v := ?v1) rfl (by kernel_rfl) (by kernel_rfl) (by kernel_rfl) (fun _ _ _ h => h) (Or.inl ⟨by rfl, ?hy1⟩) (by assumption) ?rest1
      case hy1 => (intro w hSw; (try dsimp only at hSw); go_simp; try with_reducible rfl)
      try simp only [Act.put, List.setIfInBounds_toArray, List.set_cons_zero, List.set_cons_succ]
      refine wpAnyH_take (i := 1) (oi := { dst := some 34, op := Op.move (Operand.tmp 5), type := 55, pos := "scope.go:17", after := #[], guard := none }) (v := ?v2) rfl (by kernel_rfl) (by kernel_rfl) (by kernel_rfl) (fun _ _ _ h => h) (Or.inl ⟨by rfl, ?hy2⟩) (by assumption) ?rest2
      case hy2 => (intro w hSw; (try dsimp only at hSw); go_simp; try with_reducible rfl)
      try simp only [Act.put, List.setIfInBounds_toArray, List.set_cons_zero, List.set_cons_succ]
      refine wpAnyH_take (i := 2) (oi := { dst := some 35, op := Op.fieldAddr 43 (Operand.tmp 7) 1, type := 0, pos := "scope.go:17", after := #[], guard := none }) (v := ?v3) rfl (by kernel_rfl) (by kernel_rfl) (by kernel_rfl) (fun _ _ _ h => h) (Or.inl ⟨by rfl, ?hy3⟩) (by assumption) ?rest3
      case hy3 => (intro w hSw; (try dsimp only at hSw); go_simp; try with_reducible rfl)
      try simp only [Act.put, List.setIfInBounds_toArray, List.set_cons_zero, List.set_cons_succ]
      refine wpAnyH_take (i := 3) (oi := { dst := some 36, op := Op.load 32 (Operand.tmp 35), type := 32, pos := "scope.go:17", after := #[{ on := 2, ground := Ground.data }], guard := none }) (v := ?v4) rfl (by kernel_rfl) (by kernel_rfl) (by kernel_rfl) (fun _ _ _ h => h) (Or.inl ⟨by rfl, ?hy4⟩) (by assumption) ?rest4
      case hy4 => (intro w hSw; (try dsimp only at hSw); go_simp; try with_reducible rfl)
      try simp only [Act.put, List.setIfInBounds_toArray, List.set_cons_zero, List.set_cons_succ]
      refine wpAnyH_take (i := 5) (oi := { dst := some 38, op := Op.fieldAddr 43 (Operand.tmp 7) 1, type := 0, pos := "scope.go:17", after := #[], guard := none }) (v := ?v5) rfl (by kernel_rfl) (by kernel_rfl) (by kernel_rfl) (fun _ _ _ h => h) (Or.inl ⟨by rfl, ?hy5⟩) (by assumption) ?rest5
      case hy5 => (intro w hSw; (try dsimp only at hSw); go_simp; try with_reducible rfl)
      try simp only [Act.put, List.setIfInBounds_toArray, List.set_cons_zero, List.set_cons_succ]
      refine wpAnyH_take (i := 6) (oi := { dst := some 39, op := Op.load 32 (Operand.tmp 38), type := 32, pos := "scope.go:17", after := #[{ on := 5, ground := Ground.data }], guard := none }) (v := ?v6) rfl (by kernel_rfl) (by kernel_rfl) (by kernel_rfl) (fun _ _ _ h => h) (Or.inl ⟨by rfl, ?hy6⟩) (by assumption) ?rest6
      case hy6 => (intro w hSw; (try dsimp only at hSw); go_simp; try with_reducible rfl)
      try simp only [Act.put, List.setIfInBounds_toArray, List.set_cons_zero, List.set_cons_succ]
      refine wpAnyH_take (i := 7) (oi := { dst := some 40, op := Op.call { callee := Callee.builtin Builtin.len, args := #[Operand.tmp 39], argTypes := #[32] }, type := 3, pos := "scope.go:17", after := #[{ on := 6, ground := Ground.data }], guard := none }) (v := ?v7) rfl (by kernel_rfl) (by kernel_rfl) (by kernel_rfl) (fun _ _ _ h => h) (Or.inl ⟨by rfl, ?hy7⟩) (by assumption) ?rest7
      case hy7 => (intro w hSw; (try dsimp only at hSw); go_simp; try with_reducible rfl)
      try simp only [Act.put, List.setIfInBounds_toArray, List.set_cons_zero, List.set_cons_succ]
      refine wpAnyH_ready (rs := [4, 9]) (by kernel_rfl) (by simp) ?_
      refine AllReadyH.cons (o := { dst := some 37, op := Op.call { callee := Callee.value (Operand.func 25), args := #[Operand.tmp 36], argTypes := #[32] }, type := 55, pos := "scope.go:17", after := #[{ on := 3, ground := Ground.data }], guard := none }) rfl (fun K hK => ?_) (AllReadyH.cons (o := { dst := some 8, op := Op.alloc 60, type := 0, pos := "scope.go:17", after := #[], guard := none }) rfl (fun K hK => ?_) AllReadyH.nil)
      case' rest7.refine_1 =>
        refine step_call (by rfl) 25 Tryd.f25 #[.tmp 36] #[32] rfl Tryd.func25 (by kernel_rfl) (by kernel_rfl) #[.slice pa f.p.length pc] (by simp [Act.eval]) _ (HCNT.out _ (Fr.refl _ wa).drew) ?_
        rintro e w9 ⟨rfl, hs9', hf9'⟩
        have hs9 : SI wa.heap.size (cnt f.p) w9 := hs9'
        have hf9 : Fr nothing wa w9 := (Fr.refl nothing wa).drew.trans hf9'
        clear hs9' hf9'
        refine ⟨_, rfl, ?_⟩
        have hHeld9 : w9.cell? ⟨wr.heap.size, 1, none⟩ = some (.slice pa f.p.length pc) := (hf9.cell (p := ⟨wr.heap.size, 1, none⟩) yl id).trans y1
        refine hK _ _ hHeld9 (fun _ => ?_)
        clear hK K hHeld
        try simp only [Act.put, List.setIfInBounds_toArray, List.set_cons_zero, List.set_cons_succ]
        refine wpAnyH_take (i := 8) (oi := { dst := some 41, op := Op.build 60 #[(0, Operand.tmp 33), (1, Operand.tmp 34), (2, Operand.tmp 37), (3, Operand.tmp 40)], type := 60, pos := "scope.go:17", after := #[{ on := 0, ground := Ground.data }, { on := 1, ground := Ground.data }, { on := 4, ground := Ground.data }, { on := 7, ground := Ground.data }], guard := none }) (v := ?v8) rfl (by kernel_rfl) (by kernel_rfl) (by kernel_rfl) (fun _ _ _ h => h) (Or.inl ⟨by rfl, ?hy8⟩) (by assumption) ?rest8
        case hy8 => (intro w hSw; (try dsimp only at hSw); go_simp; try with_reducible rfl)
        try simp only [Act.put, List.setIfInBounds_toArray, List.set_cons_zero, List.set_cons_succ]
        refine wpAnyH_ready (rs := [9]) (by kernel_rfl) (by simp) ?_
        refine AllReadyH.cons (o := { dst := some 8, op := Op.alloc 60, type := 0, pos := "scope.go:17", after := #[], guard := none }) rfl (fun K hK => ?_) AllReadyH.nil
        go_simp
        have hFB : Fr nothing w9 (w9.alloc (.cells #[.map none, .map none, .map none, .int .i64 0] 60)) := (Fr.refl _ _).alloc _
        have hHeldB := (hFB.cell (p := ⟨wr.heap.size, 1, none⟩) (Nat.lt_of_lt_of_le yl hf9.size) id).trans hHeld9
        have hM := made_cells (Fr.refl nothing (w9.alloc (.cells #[.map none, .map none, .map none, .int .i64 0] 60))) id
        have hw9 : ∃ w10, w10 = w9.alloc (.cells #[.map none, .map none, .map none, .int .i64 0] 60) := ⟨_, rfl⟩
        obtain ⟨w10, hw10⟩ := hw9
        rw [← hw10] at hHeldB hM hFB ⊢
        clear hw10
        refine hK _ _ hHeldB (fun _ => ?_)
        clear hK K
        try simp only [Act.put, List.setIfInBounds_toArray, List.set_cons_zero, List.set_cons_succ]
        have m0 := hM.1 0
        have m1 := hM.1 1
        have m2 := hM.1 2
        have m3 := hM.1 3
        have mf := hM.2.1
        have ml := hM.2.2
        clear hM
        obtain ⟨w11, hw11, e0, e1, e2, e3, ef, hF11⟩ := set4 (.map (some pb)) (.map (some wb)) (.map (some wa.heap.size)) (.int .i64 (f.p.length : Nat)) m0 m1 m2 m3 mf
        have hne9 : ¬ wr.heap.size = w9.heap.size := by have := hf9.size; omega
        have hHeldC := (hF11.cell (p := ⟨wr.heap.size, 1, none⟩) (Nat.lt_of_lt_of_le (Nat.lt_of_lt_of_le yl hf9.size) hFB.size) hne9).trans hHeldB
        refine wpAnyH_ready (rs := [10]) (by kernel_rfl) (by simp) ?_
        refine AllReadyH.cons (o := { dst := none, op := Op.store 60 (Operand.tmp 8) (Operand.tmp 41), type := 0, pos := "scope.go:17", after := #[{ on := 9, ground := Ground.data }, { on := 8, ground := Ground.data }, { on := 4, ground := Ground.chain }, { on := 0, ground := Ground.phase }, { on := 1, ground := Ground.phase }, { on := 2, ground := Ground.phase }, { on := 3, ground := Ground.phase }, { on := 4, ground := Ground.phase }, { on := 5, ground := Ground.phase }, { on := 6, ground := Ground.phase }, { on := 7, ground := Ground.phase }, { on := 8, ground := Ground.phase }, { on := 9, ground := Ground.phase }], guard := none }) rfl (fun K hK => ?_) AllReadyH.nil
        go_simp
        rw [← hw11]
        refine hK _ _ hHeldC (fun _ => ?_)
        clear hK K
        try simp only [Act.put, List.setIfInBounds_toArray, List.set_cons_zero, List.set_cons_succ]
        refine wpAnyH_done (by kernel_rfl) ?_ _
        have hFZ : Fr nothing wa w11 := (hf9.trans hFB).then hF11 (fun k hk e => by have := hf9.size; omega)
        have HTZ := hide ((hs9.fr hFB id).fr hF11 (fun e => by have h1 := hs9.lt; omega))
        have hb1' : wa.heap.size ≤ w9.heap.size := hf9.size
        have hl11 : w9.heap.size < w11.heap.size := Nat.lt_of_lt_of_le ml hF11.size
        have hne1 : ¬ w9.heap.size = wa.heap.size := by have h1 := hs9.lt; omega
        clear hs9 hf9 hFB hHeld9 hHeldB hHeldC hw11 hF11 m0 m1 m2 m3 mf ml hne9
        generalize w9.heap.size = bb at *
        obtain ⟨tb, htb⟩ : ∃ x, x = wa.heap.size := ⟨_, rfl⟩
        have hb2' : wa.heap.size ≤ tb := by omega
        rw [← htb] at HTZ e2 hne1 ⊢
        clear htb
      case' rest7.refine_2 =>
        go_simp
        have hFB : Fr nothing wa (wa.alloc (.cells #[.map none, .map none, .map none, .int .i64 0] 60)).drew := ((Fr.refl _ _).alloc _).drew
        have hHeldB := (hFB.cell (p := ⟨wr.heap.size, 1, none⟩) yl id).trans y1
        have hM := made_cells (Fr.refl nothing (wa.alloc (.cells #[.map none, .map none, .map none, .int .i64 0] 60))).drew id
        have hw9 : ∃ w10, w10 = (wa.alloc (.cells #[.map none, .map none, .map none, .int .i64 0] 60)).drew := ⟨_, rfl⟩
        obtain ⟨w10, hw10⟩ := hw9
        rw [← hw10] at hHeldB hM hFB ⊢
        clear hw10
        refine hK _ _ hHeldB (fun _ => ?_)
        clear hK K
        try simp only [Act.put, List.setIfInBounds_toArray, List.set_cons_zero, List.set_cons_succ]
        refine wpAnyH_ready (rs := [4]) (by kernel_rfl) (by simp) ?_
        refine AllReadyH.cons (o := { dst := some 37, op := Op.call { callee := Callee.value (Operand.func 25), args := #[Operand.tmp 36], argTypes := #[32] }, type := 55, pos := "scope.go:17", after := #[{ on := 3, ground := Ground.data }], guard := none }) rfl (fun K hK => ?_) AllReadyH.nil
        refine step_call (by rfl) 25 Tryd.f25 #[.tmp 36] #[32] rfl Tryd.func25 (by kernel_rfl) (by kernel_rfl) #[.slice pa f.p.length pc] (by simp [Act.eval]) _ (HCNT.out _ hFB) ?_
        rintro e w9 ⟨rfl, hs9, hf9⟩
        refine ⟨_, rfl, ?_⟩
        have hHeld9 : w9.cell? ⟨wr.heap.size, 1, none⟩ = some (.slice pa f.p.length pc) := (hf9.cell (p := ⟨wr.heap.size, 1, none⟩) (Nat.lt_of_lt_of_le yl hFB.size) id).trans hHeldB
        refine hK _ _ hHeld9 (fun _ => ?_)
        clear hK K hHeld
        try simp only [Act.put, List.setIfInBounds_toArray, List.set_cons_zero, List.set_cons_succ]
        refine wpAnyH_take (i := 8) (oi := { dst := some 41, op := Op.build 60 #[(0, Operand.tmp 33), (1, Operand.tmp 34), (2, Operand.tmp 37), (3, Operand.tmp 40)], type := 60, pos := "scope.go:17", after := #[{ on := 0, ground := Ground.data }, { on := 1, ground := Ground.data }, { on := 4, ground := Ground.data }, { on := 7, ground := Ground.data }], guard := none }) (v := ?v9) rfl (by kernel_rfl) (by kernel_rfl) (by kernel_rfl) (fun _ _ _ h => h) (Or.inl ⟨by rfl, ?hy9⟩) (by assumption) ?rest9
        case hy9 => (intro w hSw; (try dsimp only at hSw); go_simp; try with_reducible rfl)
        try simp only [Act.put, List.setIfInBounds_toArray, List.set_cons_zero, List.set_cons_succ]
        have m0 := (hf9.cell (p := ⟨wa.heap.size, 0, none⟩) hM.2.2 id).trans (hM.1 0)
        have m1 := (hf9.cell (p := ⟨wa.heap.size, 1, none⟩) hM.2.2 id).trans (hM.1 1)
        have m2 := (hf9.cell (p := ⟨wa.heap.size, 2, none⟩) hM.2.2 id).trans (hM.1 2)
        have m3 := (hf9.cell (p := ⟨wa.heap.size, 3, none⟩) hM.2.2 id).trans (hM.1 3)
        have mf := fun j => (hf9.frozen (p := ⟨wa.heap.size, j, none⟩) hM.2.2 id).trans (hM.2.1 j)
        have ml := Nat.lt_of_lt_of_le hM.2.2 hf9.size
        have hw10b := hM.2.2
        clear hM
        obtain ⟨w11, hw11, e0, e1, e2, e3, ef, hF11⟩ := set4 (.map (some pb)) (.map (some wb)) (.map (some w10.heap.size)) (.int .i64 (f.p.length : Nat)) m0 m1 m2 m3 mf
        have hne9 : ¬ wr.heap.size = wa.heap.size := by omega
        have hHeldC := (hF11.cell (p := ⟨wr.heap.size, 1, none⟩) (Nat.lt_of_lt_of_le (Nat.lt_of_lt_of_le yl hFB.size) hf9.size) hne9).trans hHeld9
        refine wpAnyH_ready (rs := [10]) (by kernel_rfl) (by simp) ?_
        refine AllReadyH.cons (o := { dst := none, op := Op.store 60 (Operand.tmp 8) (Operand.tmp 41), type := 0, pos := "scope.go:17", after := #[{ on := 9, ground := Ground.data }, { on := 8, ground := Ground.data }, { on := 4, ground := Ground.chain }, { on := 0, ground := Ground.phase }, { on := 1, ground := Ground.phase }, { on := 2, ground := Ground.phase }, { on := 3, ground := Ground.phase }, { on := 4, ground := Ground.phase }, { on := 5, ground := Ground.phase }, { on := 6, ground := Ground.phase }, { on := 7, ground := Ground.phase }, { on := 8, ground := Ground.phase }, { on := 9, ground := Ground.phase }], guard := none }) rfl (fun K hK => ?_) AllReadyH.nil
        go_simp
        rw [← hw11]
        refine hK _ _ hHeldC (fun _ => ?_)
        clear hK K
        try simp only [Act.put, List.setIfInBounds_toArray, List.set_cons_zero, List.set_cons_succ]
        refine wpAnyH_done (by kernel_rfl) ?_ _
        have hFZ : Fr nothing wa w11 := (hFB.trans hf9).then hF11 (fun k hk e => by omega)
        have HTZ := hide (hs9.fr hF11 (fun e => by have h1 := hs9.lt; omega))
        have hl11 : wa.heap.size < w11.heap.size := Nat.lt_of_lt_of_le ml hF11.size
        have hne1 : ¬ wa.heap.size = w10.heap.size := by omega
        have hb2' : wa.heap.size ≤ w10.heap.size := by omega
        clear hs9 hf9 hFB hHeld9 hHeldB hHeldC hw11 hF11 m0 m1 m2 m3 mf ml hne9 hw10b
        generalize w10.heap.size = tb at *
        obtain ⟨bb, hbb⟩ : ∃ x, x = wa.heap.size := ⟨_, rfl⟩
        have hb1' : wa.heap.size ≤ bb := by omega
        rw [← hbb] at e0 e1 e2 e3 ef hl11 hne1 ⊢
        clear hbb
      all_goals
        have hge := HGE.out
        have hal : wr.heap.size < wa.heap.size := yl
        have HBI := hide (BI.made e0 e1 e2 e3 ef hl11 (HPA.out.fr hFZ id) (HAA.out.fr hFZ id) hA2 hA3 HTZ.out ⟨by have := HPA.out.lt; omega, by have := HAA.out.lt; omega, hne1, by omega, by have := HPA.out.lt; omega, by have := HAA.out.lt; omega⟩)
        have hFZ2 : Fr nothing w w11 := HFA.out.trans hFZ
        have hlow : ∀ b, b < w.heap.size → ¬ bw bb wb tb b := by have := HFA.out.size; rintro b hb (e | e | e) <;> omega
        have HIH := hide (block_any f.b hsh.b bb pb wb tb F f.p (f.p.length : Nat) Wk rb rss w11 HBI.out (hb1.fr hFZ2 (fun _ _ => id)) (fun b hb => hlow b (hbP b hb)) ⟨hb2.1, fun i r x hr hx => st_stays _ _ _ _ _ _ _ (hb2.2 i r x hr hx) hFZ2 (fun _ _ => id) (fun b hb => hlow b hb)⟩ (by omega) (by omega) (by omega) (by omega))
        have hle := stsC_le F.f f.b f.p f.p.length Wk
        generalize hq : stsC F.f f.b f.p f.p.length Wk = q at HIH HEQ hle
        obtain ⟨qe, qn, qv, qW⟩ := q
        simp only at HIH hle HEQ
        have z2 : w11.cell? ⟨wr.heap.size, 2, none⟩ = some (.slice rb.a rb.n rb.c) := (hFZ.cell (p := ⟨wr.heap.size, 2, none⟩) yl id).trans y2
        have zl : wr.heap.size < w11.heap.size := Nat.lt_of_lt_of_le yl hFZ.size
        have HFT := hide (fun w' (hf : Fr (bw bb wb tb) w11 w') => hFZ2.then hf (fun k hk e => hlow k hk e))
        clear hge hq hlow hFZ2 hb1 hb2 hbP e0 e1 e2 e3 ef hA2 hA3
        by_cases hq0 : qe = 0
        · subst hq0
          go_wp2_with (go_at_call 26; refine HIH.out.mono ?_; rintro e w12 ⟨rfl, hf, hc⟩; have HB7 := hide (hc rfl); have HF7 := hide (HFT.out _ hf); clear hf hc)
          go_roundw
          case rel => exact ⟨k + 1, qW, by omega, by go_num, HB7.out.pm, HB7.out.wm, HF7.out, HEQ.out, by omega⟩
          case measure => simp [intOf]; omega
        · have hq2 := ne_bne hq0
          have HEND : Hid (checkC l = qe) := by
            show checkC l = qe
            rw [HCK2.out, HEQ.out, or_bad hq0, if_pos hq0]
          go_wp2_with (go_at_call 26; refine HIH.out.mono ?_; rintro e w12 ⟨rfl, hf, hc⟩; have HF7 := hide (HFT.out _ hf); clear hf hc)
          go_ret
          exact ⟨by rw [HEND.out]; rfl, HF7.out⟩
    · have hke : k = l.length := by omega
      obtain ⟨hPk, ⟨A, hA1, hA2, hA3⟩, hFk, hEqk, hNk⟩ := hR.out
      rw [hke, List.drop_length, bodiesC] at hEqk
      have hln := hA1.len 3
      have HFk := hide hFk
      have hnW : Wk.n ≤ 50000 := by omega
      rw [hA3] at hln
      clear hR hPk hA1 hA2 hA3 hFk hNk hke
      by_cases h16 : 16 < Wk.n
      · have h16' : (16 : Int) < (Wk.n : Nat) := by omega
        have HEND : Hid (checkC l = 4) := by
          show checkC l = 4
          rw [HCK2.out, hEqk, if_neg (by simp), if_pos h16]
        clear hEqk
        go_wp2
        go_ret
        exact ⟨by rw [HEND.out]; rfl, HFk.out⟩
      · have h16' : ¬ (16 : Int) < (Wk.n : Nat) := by omega
        have HEND : Hid (checkC l = 0) := by
          show checkC l = 0
          rw [HCK2.out, hEqk, if_neg (by simp), if_neg h16]
        clear hEqk
        go_wp2
        go_ret
        exact ⟨by rw [HEND.out]; rfl, HFk.out⟩
end Go.Proofs.YtkmdamljhagogaaDoor
