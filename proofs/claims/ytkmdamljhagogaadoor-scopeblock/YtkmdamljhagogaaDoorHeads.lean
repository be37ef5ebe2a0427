/- Scope's look at the heads of functions. -/
import Derived.Test.YtkmdamljhagogaaDoorRCheck
import Derived.Test.YtkmdamljhagogaaDoorOrders
set_option maxHeartbeats 0
set_option maxRecDepth 100000
namespace Go.Proofs.YtkmdamljhagogaaDoor
open Go Go.RowKit
def headsE (l : List Fn) : Int := if (headsC l (fun _ => none)).1 ≠ 0 then (headsC l (fun _ => none)).1 else if firstP l ≠ 0 then 10 else 0
theorem headsE_bad {l : List Fn} {e : Int} {F : Bs → Option Int} (h : headsC l (fun _ => none) = (e, F)) (he : e ≠ 0) : headsE l = e := by
  unfold headsE
  rw [h, if_pos he]
def HPost (l : List Fn) (w : World) (m : Value) (w' : World) : Prop := Fr nothing w w' ∧ (headsE l = 0 → m = .map (some w.heap.size) ∧ ∃ A : AMap, (0, A.f) = headsC l (fun _ => none) ∧ A.n ≤ l.length ∧ SI w.heap.size A w')
theorem heads_end {l : List Fn} {e : Int} {w w' : World} (h : headsE l = e) (he : e ≠ 0) (hf : Fr nothing w w') : ∃ m, Ending.returned (.tuple #[.map none, .int .i64 e]) = .returned (.tuple #[m, .int .i64 (headsE l)]) ∧ HPost l w m w' :=
  ⟨_, by rw [h], hf, fun h2 => absurd (h.symm.trans h2) he⟩
theorem heads_any (l : List Fn) (s : Slc) (rs : List RawF) (w : World) (hS : Sl encG 3 w s.v rs) (hE : Each (FnOk w (fun k => k < w.heap.size)) rs l) (hSh : ∀ f ∈ l, FnSh f) (hN : fnsN l ≤ 50000) (h0 : 0 < l.length) (h5 : l.length ≤ 5) :
    Calls Tryd.prog 24 #[.slice s.a s.n s.c] w fun e w' => ∃ m, e = .returned (.tuple #[m, .int .i64 (headsE l)]) ∧ HPost l w m w' := by
  obtain ⟨hln, hlm⟩ := sl_len hS
  obtain ⟨la, ln, lc⟩ := s
  simp only at hln
  rw [hE.1] at hln
  subst hln
  have hll : l.length ≤ 9223372036854775807 := by have := hE.1; omega
  have HS := hide hS
  have HE := hide hE
  clear hS hE
  have hmm := @run_makeMap Tryd.prog
  have HC0 := hide (SI.made w)
  have HF0 : Hid (Fr nothing w (w.alloc (.map #[] 0))) := (Fr.refl _ _).alloc _
  go_enter Tryd.func24, Tryd.ntmps24
  go_wp2
  clear hmm
  generalize w.alloc (.map #[] 0) = w3 at HC0 HF0 ⊢
  obtain ⟨fb, hfb⟩ : ∃ x, x = w.heap.size := ⟨_, rfl⟩
  rw [← hfb] at HC0
  rw [← hfb]
  have HGE : Hid (w.heap.size ≤ fb) := by show _ ≤ _; omega
  have HFB := hide hfb
  clear hfb
  go_loopw [12, 6, 7, 8] (fun i _ _ _ wr => ∃ (j : Nat) (F : AMap), j ≤ l.length ∧ i = .int .i64 j ∧ F.n ≤ j ∧ Hid (SI fb F wr ∧ Fr nothing w wr ∧ headsC l (fun _ => none) = headsC (l.drop j) F.f)) (fun i _ _ _ _ => l.length - (intOf i).toNat)
  case atStart => exact ⟨0, AMap.empty, Nat.zero_le _, rfl, Nat.le_refl _, HC0.out, HF0.out, rfl⟩
  case round =>
    obtain ⟨j, F, hj, rfl, hFn, hR⟩ := hrel
    by_cases hjl : j < l.length
    · have hx : l[j]? = some l[j] := List.getElem?_eq_getElem hjl
      have hr : rs[j]? = some (rs[j]'(by rw [HE.out.1]; omega)) := List.getElem?_eq_getElem _
      have hxm : l[j] ∈ l := List.getElem_mem hjl
      have hdr : l.drop j = l[j] :: l.drop (j + 1) := List.drop_eq_getElem_cons hjl
      generalize rs[j]'(by rw [HE.out.1]; omega) = r at hr
      generalize l[j] = f at hx hxm hdr
      have hok := HE.out.2 j r f hr hx
      obtain ⟨g, o, hg, dg, p0, p1, p2⟩ := sl_elem3 (s := ⟨la, l.length, lc⟩) HS.out hr
      simp only at hg
      subst hg
      obtain ⟨hCj, hFj, hEqj⟩ := hR.out
      rw [← hFj.cell (p := ⟨g, _, none⟩) dg id] at p0 p1 p2
      have eg : g < wr.heap.size := Nat.lt_of_lt_of_le dg hFj.size
      rw [hdr] at hEqj
      have hsh := hSh f hxm
      have hft := hsh.t
      have hfl : f.p.length ≤ 50000 := by
        have : f.p.length + stsN f.b ≤ fnsN l := by
          unfold fnsN
          have hg : ∀ (l : List Fn), f ∈ l → f.p.length + stsN f.b ≤ (l.map fun f => f.p.length + stsN f.b).sum := by
            intro l
            induction l with
            | nil => intro h; cases h
            | cons a b ih =>
              intro h
              rw [List.map_cons, List.sum_cons]
              rcases List.mem_cons.1 h with rfl | h
              · omega
              · have := ih h; omega
          exact hg l hxm
        omega
      obtain ⟨rt, ⟨pa, pn, pc⟩, rb⟩ := r
      obtain ⟨rfl, hp, hpP, hb, hbP⟩ := hok
      simp only at hp hpP hb hbP p0 p1 p2
      obtain ⟨hpn, hpm⟩ := sl_len hp
      simp only at hpn
      subst hpn
      have hFA : Fr nothing wr (wr.alloc (fo ⟨f.t, ⟨pa, f.p.length, pc⟩, rb⟩)) := (Fr.refl _ _).alloc _
      obtain ⟨y0, y1, y2, yl⟩ := fo_cells (Fr.refl nothing (wr.alloc (fo ⟨f.t, ⟨pa, f.p.length, pc⟩, rb⟩))) id
      have HCA := hide (hCj.fr hFA id)
      have HFA := hide (hFj.trans hFA)
      have HP := hide (hp.keep HFA.out (P := fun _ => True) (fun _ _ => trivial) (fun _ _ => id))
      have hlk := HCA.out.look2 f.t (by omega)
      have HEQ := hide hEqj
      have hpl : f.p.length ≤ 9223372036854775807 := by omega
      clear hR hCj hFj hEqj hFA hp hpP hb hbP hr hx
      generalize hwa : wr.alloc (fo ⟨f.t, ⟨pa, f.p.length, pc⟩, rb⟩) = wa at *
      cases hob : (F.f f.t).isSome with
      | true =>
        rw [hob] at hlk
        have HEND : Hid (headsE l = 7) := by
          show headsE l = 7
          have h1 := HEQ.out
          rw [headsC_bad1 (by rw [hob]; rfl)] at h1
          exact headsE_bad h1 (by decide)
        go_wp2_with fail
        go_region
        go_wp2_with fail
        go_ret2
        exact heads_end HEND.out (by decide) HFA.out.drew
      | false =>
        rw [hob] at hlk
        have HCNT := hide (counted_any ⟨pa, f.p.length, pc⟩ f.p wa.drew (HP.out.fr (Fr.refl nothing wa).drew (fun _ _ => id)) hsh.p hfl)
        have hcn := cnt_n f.p
        go_wp2_with fail
        --REGION6
        refine wp_region_held_drew (S := fun w' => w'.cell? ⟨wr.heap.size, 1, none⟩ = some (.slice pa f.p.length pc)) (by kernel_rfl) ?_ (fun hHeld => ?_)
        · exact y1
        refine wpAnyH_take (i := 0) (oi := { dst := some 23, op := Op.move (Operand.tmp 8), type := 4, pos := "scope.go:32", after := #[], guard := none }) (v := ?v0) rfl (by kernel_rfl) (by kernel_rfl) (by kernel_rfl) (fun _ _ _ h => h) (Or.inl ⟨by rfl, ?hy0⟩) (by assumption) ?rest0
        case hy0 => (intro w hSw; (try dsimp only at hSw); go_simp; try with_reducible rfl)
        try simp only [Act.put, List.setIfInBounds_toArray, List.set_cons_zero, List.set_cons_succ]
        refine wpAnyH_take (i := 1) (oi := { dst := some 24, op := Op.move (Operand.tmp 23), type := 4, pos := "scope.go:32", after := #[{ on := 0, ground := Ground.data }], guard := none }) (v := ?v1) rfl (by kernel_rfl) (by kernel_rfl) (by kernel_rfl) (fun _ _ _ h => h) (Or.inl ⟨by rfl, ?hy1⟩) (by assumption) ?rest1
        case hy1 => (intro w hSw; (try dsimp only at hSw); go_simp; try with_reducible rfl)
        try simp only [Act.put, List.setIfInBounds_toArray, List.set_cons_zero, List.set_cons_succ]
        refine wpAnyH_take (i := 2) (oi := { dst := some 25, op := Op.fieldAddr 43 (Operand.tmp 6) 1, type := 0, pos := "scope.go:32", after := #[{ on := 1, ground := Ground.guard }], guard := some (1, false) }) (v := ?v2) rfl (by kernel_rfl) (by kernel_rfl) (by kernel_rfl) (fun _ _ _ h => h) (Or.inl ⟨by rfl, ?hy2⟩) (by assumption) ?rest2
        case hy2 => (intro w hSw; (try dsimp only at hSw); go_simp; try with_reducible rfl)
        try simp only [Act.put, List.setIfInBounds_toArray, List.set_cons_zero, List.set_cons_succ]
        refine wpAnyH_take (i := 3) (oi := { dst := some 26, op := Op.load 32 (Operand.tmp 25), type := 32, pos := "scope.go:32", after := #[{ on := 2, ground := Ground.data }, { on := 1, ground := Ground.guard }], guard := some (1, false) }) (v := ?v3) rfl (by kernel_rfl) (by kernel_rfl) (by kernel_rfl) (fun _ _ _ h => h) (Or.inl ⟨by rfl, ?hy3⟩) (by assumption) ?rest3
        case hy3 => (intro w hSw; (try dsimp only at hSw); go_simp; try with_reducible rfl)
        try simp only [Act.put, List.setIfInBounds_toArray, List.set_cons_zero, List.set_cons_succ]
        refine wpAnyH_take (i := 6) (oi := { dst := some 29, op := Op.fieldAddr 43 (Operand.tmp 6) 1, type := 0, pos := "scope.go:32", after := #[{ on := 1, ground := Ground.guard }], guard := some (1, false) }) (v := ?v4) rfl (by kernel_rfl) (by kernel_rfl) (by kernel_rfl) (fun _ _ _ h => h) (Or.inl ⟨by rfl, ?hy4⟩) (by assumption) ?rest4
        case hy4 => (intro w hSw; (try dsimp only at hSw); go_simp; try with_reducible rfl)
        try simp only [Act.put, List.setIfInBounds_toArray, List.set_cons_zero, List.set_cons_succ]
        refine wpAnyH_take (i := 7) (oi := { dst := some 30, op := Op.load 32 (Operand.tmp 29), type := 32, pos := "scope.go:32", after := #[{ on := 6, ground := Ground.data }, { on := 1, ground := Ground.guard }], guard := some (1, false) }) (v := ?v5) rfl (by kernel_rfl) (by kernel_rfl) (by kernel_rfl) (fun _ _ _ h => h) (Or.inl ⟨by rfl, ?hy5⟩) (by assumption) ?rest5
        case hy5 => (intro w hSw; (try dsimp only at hSw); go_simp; try with_reducible rfl)
        try simp only [Act.put, List.setIfInBounds_toArray, List.set_cons_zero, List.set_cons_succ]
        refine wpAnyH_take (i := 8) (oi := { dst := some 31, op := Op.call { callee := Callee.builtin Builtin.len, args := #[Operand.tmp 30], argTypes := #[32] }, type := 3, pos := "scope.go:32", after := #[{ on := 7, ground := Ground.data }, { on := 1, ground := Ground.guard }], guard := some (1, false) }) (v := ?v6) rfl (by kernel_rfl) (by kernel_rfl) (by kernel_rfl) (fun _ _ _ h => h) (Or.inl ⟨by rfl, ?hy6⟩) (by assumption) ?rest6
        case hy6 => (intro w hSw; (try dsimp only at hSw); go_simp; try with_reducible rfl)
        try simp only [Act.put, List.setIfInBounds_toArray, List.set_cons_zero, List.set_cons_succ]
        refine wpAnyH_ready (rs := [4]) (by kernel_rfl) (by simp) ?_
        refine AllReadyH.cons (o := { dst := some 27, op := Op.call { callee := Callee.value (Operand.func 25), args := #[Operand.tmp 26], argTypes := #[32] }, type := 55, pos := "scope.go:32", after := #[{ on := 3, ground := Ground.data }, { on := 1, ground := Ground.chain }, { on := 1, ground := Ground.guard }], guard := some (1, false) }) rfl (fun K hK => ?_) AllReadyH.nil
        refine step_call (by rfl) 25 Tryd.f25 #[.tmp 26] #[32] rfl Tryd.func25 (by kernel_rfl) (by kernel_rfl) #[.slice pa f.p.length pc] (by simp [Act.eval]) _ HCNT.out ?_
        rintro e w7 ⟨rfl, hs7, hf7⟩
        refine ⟨_, rfl, ?_⟩
        have hHeld7 : w7.cell? ⟨wr.heap.size, 1, none⟩ = some (.slice pa f.p.length pc) := (hf7.cell (p := ⟨wr.heap.size, 1, none⟩) yl id).trans y1
        refine hK _ _ hHeld7 (fun _ => ?_)
        clear hK K hHeld
        have hlen : (Builtin.len_ #[55] 3 #[.map (some wa.heap.size)]).run Tryd.prog w7 = .ok (.int .i64 (cnt f.p).n) w7 := hs7.len 3
        try simp only [Act.put, List.setIfInBounds_toArray, List.set_cons_zero, List.set_cons_succ]
        refine wpAnyH_ready (rs := [5]) (by kernel_rfl) (by simp) ?_
        refine AllReadyH.cons (o := { dst := some 28, op := Op.call { callee := Callee.builtin Builtin.len, args := #[Operand.tmp 27], argTypes := #[55] }, type := 3, pos := "scope.go:32", after := #[{ on := 4, ground := Ground.data }, { on := 4, ground := Ground.chain }, { on := 1, ground := Ground.guard }], guard := some (1, false) }) rfl (fun K hK => ?_) AllReadyH.nil
        go_simp
        refine hK _ _ hHeld7 (fun _ => ?_)
        clear hK K
        try simp only [Act.put, List.setIfInBounds_toArray, List.set_cons_zero, List.set_cons_succ]
        refine wpAnyH_ready (rs := [9]) (by kernel_rfl) (by simp) ?_
        refine AllReadyH.cons (o := { dst := some 32, op := Op.binOp BinOp.lss 3 (Operand.tmp 28) (Operand.tmp 31) 3, type := 4, pos := "scope.go:32", after := #[{ on := 5, ground := Ground.data }, { on := 8, ground := Ground.data }, { on := 1, ground := Ground.guard }], guard := some (1, false) }) rfl (fun K hK => ?_) AllReadyH.nil
        go_simp
        refine hK _ _ hHeld7 (fun _ => ?_)
        clear hK K
        try simp only [Act.put, List.setIfInBounds_toArray, List.set_cons_zero, List.set_cons_succ]
        refine wpAnyH_ready (rs := [10]) (by kernel_rfl) (by simp) ?_
        refine AllReadyH.cons (o := { dst := some 33, op := Op.pick (Operand.tmp 24) (Operand.const (Value.bool true)) (Operand.tmp 32), type := 4, pos := "scope.go:32", after := #[{ on := 1, ground := Ground.data }, { on := 9, ground := Ground.data }], guard := none }) rfl (fun K hK => ?_) AllReadyH.nil
        go_simp
        refine hK _ _ hHeld7 (fun _ => ?_)
        clear hK K
        try simp only [Act.put, List.setIfInBounds_toArray, List.set_cons_zero, List.set_cons_succ]
        refine wpAnyH_done (by kernel_rfl) ?_ _
        --END6
        have F7 : Fr nothing wa w7 := (Fr.refl nothing wa).drew.trans hf7
        have hn7 : (cnt f.p).n ≤ 50000 := by omega
        have yl7 : wr.heap.size < w7.heap.size := Nat.lt_of_lt_of_le yl F7.size
        have z0 := (F7.cell (p := ⟨wr.heap.size, 0, none⟩) yl id).trans y0
        have HF7 := hide (HFA.out.trans F7)
        have HC7 := hide (HCA.out.fr F7 id)
        by_cases hd : (cnt f.p).n < f.p.length
        · have hd' : ((cnt f.p).n : Int) < (f.p.length : Nat) := by omega
          have HEND : Hid (headsE l = 7) := by
            show headsE l = 7
            have h1 := HEQ.out
            rw [headsC_bad1 (by rw [hob, hcn.2.2 hd]; rfl)] at h1
            exact headsE_bad h1 (by decide)
          clear hcn hs7 hf7 F7 hlen
          rw [show decide ((cnt f.p).n < f.p.length) = true from decide_eq_true hd]
          go_wp2
          go_ret2
          exact heads_end HEND.out (by decide) HF7.out
        · have hd' : ¬ ((cnt f.p).n : Int) < (f.p.length : Nat) := by omega
          have hdp : ((F.f f.t).isSome || dup f.p) = false := by
            rw [hob]
            cases hq : dup f.p with
            | true => exact absurd (hcn.2.1 hq) hd
            | false => rfl
          by_cases h4 : 4 < f.p.length
          · have h4' : (4 : Int) < (f.p.length : Nat) := by omega
            have HEND : Hid (headsE l = 5) := by
              show headsE l = 5
              have h1 := HEQ.out
              rw [headsC_bad2 hdp h4] at h1
              exact headsE_bad h1 (by decide)
            clear hcn hs7 hf7 F7 hlen
            rw [show decide ((cnt f.p).n < f.p.length) = false from decide_eq_false hd]
            go_wp2
            go_ret2
            exact heads_end HEND.out (by decide) HF7.out
          · have h4' : ¬ (4 : Int) < (f.p.length : Nat) := by omega
            have HEQ2 := hide (HEQ.out.trans (headsC_ok hdp h4))
            obtain ⟨wu, ru, hcu, hfu⟩ := HC7.out.store f.t (by omega) f.p.length (by omega) (by omega) (by omega)
            have HCU := hide hcu
            have HFU := hide (HF7.out.then hfu (fun k hk e => by have := HGE.out; omega))
            clear hcn hs7 hf7 F7 hlen hcu hfu
            rw [show decide ((cnt f.p).n < f.p.length) = false from decide_eq_false hd]
            go_wp2
            go_roundw
            case rel => exact ⟨j + 1, F.put f.t f.p.length, by omega, by go_num, by unfold AMap.put; dsimp only; split <;> omega, HCU.out, HFU.out, HEQ2.out⟩
            case measure => simp [intOf]; omega
    · have hje : j = l.length := by omega
      obtain ⟨hCj, hFj, hEqj⟩ := hR.out
      rw [hje, List.drop_length] at hEqj
      have hh : headsC l (fun _ => none) = (0, F.f) := hEqj
      have hx : l[0]? = some l[0] := List.getElem?_eq_getElem h0
      have hr : rs[0]? = some (rs[0]'(by rw [HE.out.1]; omega)) := List.getElem?_eq_getElem _
      generalize rs[0]'(by rw [HE.out.1]; omega) = r at hr
      generalize l[0] = f at hx
      have hok := HE.out.2 0 r f hr hx
      obtain ⟨g, o, hg, dg, p0, p1, p2⟩ := sl_elem3 (s := ⟨la, l.length, lc⟩) HS.out hr
      simp only at hg
      subst hg
      rw [← hFj.cell (p := ⟨g, _, none⟩) dg id] at p0 p1 p2
      have eg : g < wr.heap.size := Nat.lt_of_lt_of_le dg hFj.size
      have hpn := (sl_len hok.p).1
      have hpm := (sl_len hok.p).2
      have hfp : firstP l = f.p.length := by
        cases l with
        | nil => simp at h0
        | cons a b => simp at hx; subst hx; rfl
      simp only [Nat.zero_mul, Nat.add_zero] at p1
      rw [hpn] at p1
      have l0' : (0 : Int) < (l.length : Nat) := by omega
      have HCj := hide hCj
      have HFj := hide hFj
      have HHH := hide hh
      clear hR hCj hFj hEqj hok hr hx hje hpn p0 p2
      by_cases hf0 : f.p.length = 0
      · have n0 : ¬ (0 : Int) < (f.p.length : Nat) := by omega
        have HCK : Hid (headsE l = 0) := by
          show headsE l = 0
          unfold headsE
          rw [hh, if_neg (by simp), if_neg (by rw [hfp, hf0]; simp)]
        clear hfp hh hf0
        go_wp2
        go_ret2
        refine ⟨.map (some fb), ?_, HFj.out, fun _ => ⟨by rw [HFB.out], F, HHH.out.symm, by omega, HFB.out ▸ HCj.out⟩⟩
        rw [HCK.out]
        rfl
      · have n0 : (0 : Int) < (f.p.length : Nat) := by omega
        have HCK : Hid (headsE l = 10) := by
          show headsE l = 10
          unfold headsE
          rw [hh, if_neg (by simp), if_pos (by rw [hfp]; exact hf0)]
        clear hfp hh hf0
        go_wp2
        go_ret2
        exact heads_end HCK.out (by decide) HFj.out
end Go.Proofs.YtkmdamljhagogaaDoor
