/- RDeep; RMk0; RMk1; RMk2. -/
import Derived.Test.YtpemfikdmkmgbaaDoorPartB15
import Derived.Test.YtpemfikdmkmgbaaDoorPartB18
import Derived.Test.YtpemfikdmkmgbaaDoorPartB2
import Derived.Test.YtpemfikdmkmgbaaDoorPartB19
section
/- The document's own answer: how many values lie there at most. -/
set_option maxHeartbeats 0
set_option maxRecDepth 100000
namespace Go.Proofs.YtpemfikdmkmgbaaDoor
open Go Go.RowKit
def dpF (n i : Nat) (l : List Ex) : Nat := max n (dpsK i l)
theorem dpF_nil (n i : Nat) : dpF n i [] = n := by unfold dpF; rw [dpsK]; omega
theorem dpF_cons (n i : Nat) (x : Ex) (l : List Ex) : dpF n i (x :: l) = dpF (max n (i + deepK x)) (i + 1) l := by unfold dpF; rw [dpsK]; omega
mutual
theorem deepK_le : ∀ (x : Ex), deepK x ≤ exN x
  | .mk _ _ _ a => by rw [deepK, exN]; have := dpsK_le a 0; omega
theorem dpsK_le : ∀ (l : List Ex) (i : Nat), dpsK i l ≤ i + exsN l
  | [], i => by rw [dpsK]; omega
  | x :: l, i => by
    have h1 := deepK_le x
    have h2 := dpsK_le l (i + 1)
    have h3 := exN_pos x
    rw [dpsK, exsN]
    omega
end
abbrev lo (w : World) : Nat → Prop := fun k => k < w.heap.size
theorem lo_fr {w w' : World} {r : RawE} {x : Ex} (h : ExOk w (lo w) r x) (hf : Fr nothing w w') : ExOk w' (lo w') r x := ex_stays _ _ nothing _ _ _ _ h hf (fun _ _ => id) (fun _ hk => Nat.lt_of_lt_of_le hk hf.size)
def DEx (x : Ex) : Prop := ∀ (r : RawE) (w : World), ExOk w (lo w) r x → exN x ≤ 100000 → Calls Tryd.prog 62 #[ev r] w fun e w' => e = .returned (.int .i64 (deepK x : Nat)) ∧ Fr nothing w w'
theorem deep_step (k n : Int) (t : Bs) (a : List Ex) (ih : ∀ x ∈ a, DEx x) : DEx (.mk k n t a) := by
  intro r w hX hN
  obtain ⟨rk, rn, rt, ⟨la, ln, lc⟩⟩ := r
  cases hX with
  | mk _ _ _ _ rs _ hS hP hl hE =>
  obtain ⟨hln, hlm⟩ := sl_len hS
  simp only at hln
  rw [hl] at hln
  subst hln
  rw [exN] at hN
  have hll : a.length ≤ 9223372036854775807 := by omega
  have hFA : Fr nothing w (w.alloc (eo ⟨k, n, t, ⟨la, a.length, lc⟩⟩)) := (Fr.refl _ _).alloc _
  have HS := hide hS
  have HE := hide (show Each (ExOk w (lo w)) rs a from ⟨hl, hE⟩)
  have HFA := hide hFA
  have HEQ : Hid (deepK (.mk k n t a) = dpF 1 0 a) := by show deepK _ = _; rw [deepK]; rfl
  clear hS hP hE hFA hl
  go_enter Tryd.func62, Tryd.ntmps62
  go_wp2
  generalize w.alloc (eo ⟨k, n, t, ⟨la, a.length, lc⟩⟩) = w2 at *
  go_loopw [9, 3, 4, 5] (fun i v _ _ wr => ∃ (j m : Nat), j ≤ a.length ∧ i = .int .i64 j ∧ v = .int .i64 m ∧ m ≤ 200000 ∧ Hid (Fr nothing w wr ∧ dpF 1 0 a = dpF m j (a.drop j))) (fun i _ _ _ _ => a.length - (intOf i).toNat)
  case atStart => exact ⟨0, 1, Nat.zero_le _, rfl, rfl, by omega, HFA.out, rfl⟩
  case round =>
    obtain ⟨j, m, hj, rfl, rfl, hm, hR⟩ := hrel
    by_cases hjl : j < a.length
    · have hx : a[j]? = some a[j] := List.getElem?_eq_getElem hjl
      have hr : rs[j]? = some (rs[j]'(by rw [HE.out.1]; omega)) := List.getElem?_eq_getElem _
      have hxm : a[j] ∈ a := List.getElem_mem hjl
      have hdr : a.drop j = a[j] :: a.drop (j + 1) := List.drop_eq_getElem_cons hjl
      generalize rs[j]'(by rw [HE.out.1]; omega) = r at hr
      generalize a[j] = x at hx hxm hdr
      have hok := HE.out.2 j r x hr hx
      obtain ⟨g, o, hg, -, dg, p0, p1, p2, p3⟩ := sl_elem4 (s := ⟨la, a.length, lc⟩) HS.out hr
      simp only at hg
      subst hg
      obtain ⟨hF, hEq⟩ := hR.out
      rw [← hF.cell (p := ⟨g, _, none⟩) dg id] at p0 p1 p2 p3
      have eg : g < wr.heap.size := Nat.lt_of_lt_of_le dg hF.size
      rw [hdr, dpF_cons] at hEq
      have hFB : Fr nothing wr (wr.alloc (eo r)) := (Fr.refl _ _).alloc _
      have hxn := exN_mem hxm
      have hdx := deepK_le x
      have hjn : j ≤ 100000 := by
        have := exsN_drop_le (l := a) (j := a.length) (Nat.le_refl _)
        omega
      have HIH := hide (ih x hxm r (wr.alloc (eo r)) (lo_fr (lo_fr hok hF) hFB) (by omega))
      have HF := hide (hF.trans hFB)
      have HEQ2 := hide hEq
      have hj0 : (0 : Int) ≤ (j : Nat) := by omega
      clear hR hF hEq hFB hok hr hx
      obtain ⟨rk', rn', rt', rs4⟩ := r
      simp only at p0 p1 p2 p3
      go_wp2_with (go_at_call 62; refine HIH.out.mono ?_; rintro e w3 ⟨rfl, hf⟩; have HF3 := hide (HF.out.trans hf); clear hf)
      go_roundw
      case rel => exact ⟨j + 1, max m (j + deepK x), by omega, by go_num, by congr 1; omega, by omega, HF3.out, HEQ2.out⟩
      case measure => simp [intOf]; omega
    · have hje : j = a.length := by omega
      obtain ⟨hF, hEq⟩ := hR.out
      rw [hje, List.drop_length, dpF_nil] at hEq
      have HF := hide hF
      have HE2 := hide (HEQ.out.trans hEq)
      clear hR hF hEq hje
      go_wp2
      go_ret
      rw [HE2.out]
      exact ⟨rfl, HF.out⟩
theorem rdeep_any : ∀ (x : Ex), DEx x
  | .mk k n t a => deep_step k n t a (fun x _ => rdeep_any x)
def hgF (n : Nat) (l : List St) : Nat := max n (highsK l)
theorem hgF_nil (n : Nat) : hgF n [] = n := by unfold hgF; rw [highsK]; omega
theorem hgF_cons (n : Nat) (k : Int) (t : Bs) (a : List Ex) (x y : List St) (l : List St) : hgF n (.mk k t a x y :: l) = hgF (max (max (dpF n 0 a) (highsK x)) (highsK y)) l := by unfold hgF dpF; rw [highsK, highK]; omega
mutual
theorem highK_le : ∀ (s : St), highK s ≤ stN s
  | .mk _ _ a x y => by rw [highK, stN]; have := dpsK_le a 0; have := highsK_le x; have := highsK_le y; omega
theorem highsK_le : ∀ (l : List St), highsK l ≤ stsN l
  | [] => by rw [highsK]; omega
  | s :: l => by rw [highsK, stsN]; have := highK_le s; have := highsK_le l; omega
end
theorem los_fr {w w' : World} {r : RawS} {x : St} (h : StOk w (lo w) r x) (hf : Fr nothing w w') : StOk w' (lo w') r x := st_stays _ _ nothing _ _ _ _ h hf (fun _ _ => id) (fun _ hk => Nat.lt_of_lt_of_le hk hf.size)
def DSt (l : List St) : Prop := ∀ (sl : Slc) (rs : List RawS) (w : World), Sl encS 5 w sl.v rs → Each (StOk w (lo w)) rs l → stsN l ≤ 100000 → Calls Tryd.prog 48 #[.slice sl.a sl.n sl.c] w fun e w' => e = .returned (.int .i64 (highsK l : Nat)) ∧ Fr nothing w w'
theorem high_step (l : List St) (ih : ∀ k t a x y, St.mk k t a x y ∈ l → DSt x ∧ DSt y) : DSt l := by
  intro sl rs w hS hE hN
  obtain ⟨hln, hlm⟩ := sl_len hS
  obtain ⟨la, ln, lc⟩ := sl
  simp only at hln
  rw [hE.1] at hln
  subst hln
  have hll : l.length ≤ 9223372036854775807 := by have := hE.1; omega
  have HS := hide hS
  have HE := hide hE
  have HEQ : Hid (highsK l = hgF 0 l) := by show highsK _ = _; unfold hgF; omega
  clear hS hE
  go_enter Tryd.func48, Tryd.ntmps48
  go_wp2
  go_loopw [10, 3, 5, 6, 7] (fun i v _ _ _ wr => ∃ (j m : Nat), j ≤ l.length ∧ i = .int .i64 j ∧ v = .int .i64 m ∧ m ≤ 100000 ∧ Hid (Fr nothing w wr ∧ hgF 0 l = hgF m (l.drop j))) (fun i _ _ _ _ _ => l.length - (intOf i).toNat)
  case atStart => exact ⟨0, 0, Nat.zero_le _, rfl, rfl, by omega, Fr.refl _ _, rfl⟩
  case round =>
    obtain ⟨j, m, hj, rfl, rfl, hm, hR⟩ := hrel
    by_cases hjl : j < l.length
    · have hx : l[j]? = some l[j] := List.getElem?_eq_getElem hjl
      have hr : rs[j]? = some (rs[j]'(by rw [HE.out.1]; omega)) := List.getElem?_eq_getElem _
      have hxm : l[j] ∈ l := List.getElem_mem hjl
      have hdr : l.drop j = l[j] :: l.drop (j + 1) := List.drop_eq_getElem_cons hjl
      generalize rs[j]'(by rw [HE.out.1]; omega) = r at hr
      generalize l[j] = st at hx hxm hdr
      have hok := HE.out.2 j r st hr hx
      obtain ⟨g, o, hg, dg, p0, p1, p2, p3, p4⟩ := sl_elem5 (s := ⟨la, l.length, lc⟩) HS.out hr
      simp only at hg
      subst hg
      obtain ⟨hF, hEq⟩ := hR.out
      rw [← hF.cell (p := ⟨g, _, none⟩) dg id] at p0 p1 p2 p3 p4
      have eg : g < wr.heap.size := Nat.lt_of_lt_of_le dg hF.size
      obtain ⟨k, t, ⟨aa, an, ac⟩, sx, sy⟩ := r
      cases hok with
      | mk _ _ _ _ _ ra rx ry a x y ha hPa ha2 hsx hPx hx1 hx2 hsy hPy hy1 hy2 =>
      rw [hdr, hgF_cons] at hEq
      obtain ⟨han, ham⟩ := sl_len ha
      simp only at han
      rw [ha2.1] at han
      subst han
      have hal : a.length ≤ 9223372036854775807 := by have := ha2.1; omega
      have hsn := stN_mem hxm
      rw [stN] at hsn
      have hFB : Fr nothing wr (wr.alloc (so ⟨k, t, ⟨aa, a.length, ac⟩, sx, sy⟩)) := (Fr.refl _ _).alloc _
      obtain ⟨m0, m1, m2, m3, m4, mf, ml⟩ := so_cells (Fr.refl nothing (wr.alloc (so ⟨k, t, ⟨aa, a.length, ac⟩, sx, sy⟩))) id
      have HA := hide ha
      have HA2 := hide ha2
      have HF1 := hide (hF.trans hFB)
      have HFB := hide hFB
      have HEQ2 := hide hEq
      have HIX := hide (fun w' (hf : Fr nothing w w') => (ih k t a x y hxm).1 sx rx w' (hsx.fr hf (fun _ _ => id)) ⟨hx1, fun i r z q1 q2 => los_fr (hx2 i r z q1 q2) hf⟩ (by omega))
      have HIY := hide (fun w' (hf : Fr nothing w w') => (ih k t a x y hxm).2 sy ry w' (hsy.fr hf (fun _ _ => id)) ⟨hy1, fun i r z q1 q2 => los_fr (hy2 i r z q1 q2) hf⟩ (by omega))
      have hbx := highsK_le x
      have hby := highsK_le y
      have hba := dpsK_le a 0
      simp only at p0 p1 p2 p3 p4 m0 m1 m2 m3 m4
      clear hR hF hEq hFB hr hx ha ha2 hPa hsx hPx hx1 hx2 hsy hPy hy1 hy2 mf
      generalize hwb : wr.alloc (so ⟨k, t, ⟨aa, a.length, ac⟩, sx, sy⟩) = wb at *
      go_wp2_with fail
      clear hwb eg
      generalize wr.heap.size = bx at *
      go_loopw [17, 3, 6, 7] (fun i v _ _ wv => ∃ (j2 m2 : Nat), j2 ≤ a.length ∧ i = .int .i64 j2 ∧ v = .int .i64 m2 ∧ m2 ≤ 200000 ∧ Hid (Fr nothing wb wv ∧ dpF m 0 a = dpF m2 j2 (a.drop j2))) (fun i _ _ _ _ => a.length - (intOf i).toNat)
      case atStart => exact ⟨0, m, Nat.zero_le _, rfl, rfl, by omega, Fr.refl _ _, rfl⟩
      case round =>
        obtain ⟨j2, m2', hj2, rfl, rfl, hm2, hR⟩ := hrel
        by_cases hjl2 : j2 < a.length
        · have hx : a[j2]? = some a[j2] := List.getElem?_eq_getElem hjl2
          have hr : ra[j2]? = some (ra[j2]'(by rw [HA2.out.1]; omega)) := List.getElem?_eq_getElem _
          have hxm2 : a[j2] ∈ a := List.getElem_mem hjl2
          have hdr2 : a.drop j2 = a[j2] :: a.drop (j2 + 1) := List.drop_eq_getElem_cons hjl2
          generalize ra[j2]'(by rw [HA2.out.1]; omega) = r at hr
          generalize a[j2] = ex at hx hxm2 hdr2
          have hok := HA2.out.2 j2 r ex hr hx
          obtain ⟨g2, o2, hg2, -, dg2, u0, u1, u2, u3⟩ := sl_elem4 (s := ⟨aa, a.length, ac⟩) HA.out hr
          simp only at hg2
          subst hg2
          obtain ⟨hF, hEq⟩ := hR.out
          have hFw := HF1.out.trans hF
          rw [← hFw.cell (p := ⟨g2, _, none⟩) dg2 id] at u0 u1 u2 u3
          have eg2 : g2 < wr.heap.size := Nat.lt_of_lt_of_le dg2 hFw.size
          rw [hdr2, dpF_cons] at hEq
          have hFC : Fr nothing wr (wr.alloc (eo r)) := (Fr.refl _ _).alloc _
          have hxn := exN_mem hxm2
          have hdx := deepK_le ex
          have hjn : j2 ≤ 100000 := by
            have := exsN_drop_le (l := a) (j := a.length) (Nat.le_refl _)
            omega
          have HIH := hide (rdeep_any ex r (wr.alloc (eo r)) (lo_fr (lo_fr hok hFw) hFC) (by omega))
          have HF := hide (hF.trans hFC)
          have HEQ3 := hide hEq
          clear hR hF hEq hFC hok hr hx hFw
          obtain ⟨rk', rn', rt', rs4⟩ := r
          simp only at u0 u1 u2 u3
          go_wp2_with (go_at_call 62; refine HIH.out.mono ?_; rintro e w3 ⟨rfl, hf⟩; have HF3 := hide (HF.out.trans hf); clear hf)
          go_roundw
          case rel => exact ⟨j2 + 1, max m2' (j2 + deepK ex), by omega, by go_num, by congr 1; omega, by omega, HF3.out, HEQ3.out⟩
          case measure => simp [intOf]; omega
        · have hje2 : j2 = a.length := by omega
          obtain ⟨hF, hEq⟩ := hR.out
          rw [hje2, List.drop_length, dpF_nil] at hEq
          rw [hEq] at HEQ2
          have y3 := (hF.cell (p := ⟨bx, 3, none⟩) ml id).trans m3
          have y4 := (hF.cell (p := ⟨bx, 4, none⟩) ml id).trans m4
          have yl := Nat.lt_of_lt_of_le ml hF.size
          have HFv := hide (HF1.out.trans hF)
          have hb4 : m2' ≤ 100000 := by
            have : dpF m 0 a = max m (dpsK 0 a) := rfl
            omega
          clear hR hF hEq hje2
          go_wp2_with fail
          refine wp_region_held_drew (S := fun w' => w'.cell? ⟨bx, 3, none⟩ = some (.slice sx.a sx.n sx.c) ∧ w'.cell? ⟨bx, 4, none⟩ = some (.slice sy.a sy.n sy.c)) (by kernel_rfl) ?_ (fun hHeld => ?_)
          · exact ⟨y3, y4⟩
          refine wpAnyH_take (i := 0) (oi := { dst := some 29, op := Op.move (Operand.tmp 3), type := 3, pos := "ref.go:739", after := #[], guard := none }) (v := ?v1) rfl (by kernel_rfl) (by kernel_rfl) (by kernel_rfl) (fun _ _ _ h => h) (Or.inl ⟨by rfl, ?hy1⟩) (by assumption) ?rest1
          case hy1 => (intro w hSw; (try dsimp only at hSw); obtain ⟨hS1, hS2⟩ := hSw; go_simp; try with_reducible rfl)
          try simp only [Act.put, List.setIfInBounds_toArray, List.set_cons_zero, List.set_cons_succ]
          refine wpAnyH_take (i := 1) (oi := { dst := some 30, op := Op.fieldAddr 128 (Operand.tmp 5) 3, type := 0, pos := "ref.go:739", after := #[], guard := none }) (v := ?v2) rfl (by kernel_rfl) (by kernel_rfl) (by kernel_rfl) (fun _ _ _ h => h) (Or.inl ⟨by rfl, ?hy2⟩) (by assumption) ?rest2
          case hy2 => (intro w hSw; (try dsimp only at hSw); obtain ⟨hS1, hS2⟩ := hSw; go_simp; try with_reducible rfl)
          try simp only [Act.put, List.setIfInBounds_toArray, List.set_cons_zero, List.set_cons_succ]
          refine wpAnyH_take (i := 2) (oi := { dst := some 31, op := Op.load 111 (Operand.tmp 30), type := 111, pos := "ref.go:739", after := #[{ on := 1, ground := Ground.data }], guard := none }) (v := ?v3) rfl (by kernel_rfl) (by kernel_rfl) (by kernel_rfl) (fun _ _ _ h => h) (Or.inl ⟨by rfl, ?hy3⟩) (by assumption) ?rest3
          case hy3 => (intro w hSw; (try dsimp only at hSw); obtain ⟨hS1, hS2⟩ := hSw; go_simp; try with_reducible rfl)
          try simp only [Act.put, List.setIfInBounds_toArray, List.set_cons_zero, List.set_cons_succ]
          refine wpAnyH_take (i := 4) (oi := { dst := some 33, op := Op.fieldAddr 128 (Operand.tmp 5) 4, type := 0, pos := "ref.go:739", after := #[], guard := none }) (v := ?v4) rfl (by kernel_rfl) (by kernel_rfl) (by kernel_rfl) (fun _ _ _ h => h) (Or.inl ⟨by rfl, ?hy4⟩) (by assumption) ?rest4
          case hy4 => (intro w hSw; (try dsimp only at hSw); obtain ⟨hS1, hS2⟩ := hSw; go_simp; try with_reducible rfl)
          try simp only [Act.put, List.setIfInBounds_toArray, List.set_cons_zero, List.set_cons_succ]
          refine wpAnyH_take (i := 5) (oi := { dst := some 34, op := Op.load 111 (Operand.tmp 33), type := 111, pos := "ref.go:739", after := #[{ on := 4, ground := Ground.data }], guard := none }) (v := ?v5) rfl (by kernel_rfl) (by kernel_rfl) (by kernel_rfl) (fun _ _ _ h => h) (Or.inl ⟨by rfl, ?hy5⟩) (by assumption) ?rest5
          case hy5 => (intro w hSw; (try dsimp only at hSw); obtain ⟨hS1, hS2⟩ := hSw; go_simp; try with_reducible rfl)
          try simp only [Act.put, List.setIfInBounds_toArray, List.set_cons_zero, List.set_cons_succ]
          refine wpAnyH_ready (rs := [3]) (by kernel_rfl) (by simp) ?_
          refine AllReadyH.cons (o := { dst := some 32, op := Op.call { callee := Callee.value (Operand.func 48), args := #[Operand.tmp 31], argTypes := #[111] }, type := 3, pos := "ref.go:739", after := #[{ on := 2, ground := Ground.data }], guard := none }) rfl (fun K hK => ?_) AllReadyH.nil
          refine step_call (by rfl) 48 Tryd.f48 #[.tmp 31] #[111] rfl Tryd.func48 (by kernel_rfl) (by kernel_rfl) #[.slice sx.a sx.n sx.c] (by simp [Act.eval]) _ (HIX.out _ HFv.out.drew) ?_
          rintro e w5 ⟨rfl, hf5⟩
          have F5 : Fr nothing wr w5 := (Fr.refl nothing wr).drew.trans hf5
          refine ⟨_, rfl, hK _ _ ⟨(F5.cell (p := ⟨bx, 3, none⟩) yl id).trans y3, (F5.cell (p := ⟨bx, 4, none⟩) yl id).trans y4⟩ (fun _ => ?_)⟩
          clear hK K hHeld
          try simp only [Act.put, List.setIfInBounds_toArray, List.set_cons_zero, List.set_cons_succ]
          refine wpAnyH_ready (rs := [6]) (by kernel_rfl) (by simp) ?_
          refine AllReadyH.cons (o := { dst := some 35, op := Op.call { callee := Callee.value (Operand.func 48), args := #[Operand.tmp 34], argTypes := #[111] }, type := 3, pos := "ref.go:739", after := #[{ on := 5, ground := Ground.data }, { on := 3, ground := Ground.chain }], guard := none }) rfl (fun K hK => ?_) AllReadyH.nil
          refine step_call (by rfl) 48 Tryd.f48 #[.tmp 34] #[111] rfl Tryd.func48 (by kernel_rfl) (by kernel_rfl) #[.slice sy.a sy.n sy.c] (by simp [Act.eval]) _ (HIY.out _ (HFv.out.trans F5)) ?_
          rintro e w6 ⟨rfl, hf6⟩
          have F6 : Fr nothing wr w6 := F5.trans hf6
          have hHeld6 := And.intro ((F6.cell (p := ⟨bx, 3, none⟩) yl id).trans y3) ((F6.cell (p := ⟨bx, 4, none⟩) yl id).trans y4)
          refine ⟨_, rfl, hK _ _ hHeld6 (fun _ => ?_)⟩
          clear hK K
          try simp only [Act.put, List.setIfInBounds_toArray, List.set_cons_zero, List.set_cons_succ]
          refine wpAnyH_ready (rs := [7]) (by kernel_rfl) (by simp) ?_
          refine AllReadyH.cons (o := { dst := some 36, op := Op.call { callee := Callee.builtin Builtin.max, args := #[Operand.tmp 29, Operand.tmp 32, Operand.tmp 35], argTypes := #[3, 3, 3] }, type := 3, pos := "ref.go:739", after := #[{ on := 0, ground := Ground.data }, { on := 3, ground := Ground.data }, { on := 6, ground := Ground.data }], guard := none }) rfl (fun K hK => ?_) AllReadyH.nil
          go_simp
          refine hK _ _ hHeld6 (fun _ => ?_)
          clear hK K
          try simp only [Act.put, List.setIfInBounds_toArray, List.set_cons_zero, List.set_cons_succ]
          refine wpAnyH_ready (rs := [8]) (by kernel_rfl) (by simp) ?_
          refine AllReadyH.cons (o := { dst := some 3, op := Op.assign (Operand.tmp 36), type := 3, pos := "ref.go:739", after := #[{ on := 7, ground := Ground.data }, { on := 6, ground := Ground.chain }, { on := 0, ground := Ground.phase }, { on := 1, ground := Ground.phase }, { on := 2, ground := Ground.phase }, { on := 3, ground := Ground.phase }, { on := 4, ground := Ground.phase }, { on := 5, ground := Ground.phase }, { on := 6, ground := Ground.phase }, { on := 7, ground := Ground.phase }], guard := none }) rfl (fun K hK => ?_) AllReadyH.nil
          go_simp
          refine hK _ _ hHeld6 (fun _ => ?_)
          clear hK K
          try simp only [Act.put, List.setIfInBounds_toArray, List.set_cons_zero, List.set_cons_succ]
          refine wpAnyH_done (by kernel_rfl) ?_ _
          have HF6 := hide (HFv.out.trans F6)
          clear hf5 hf6 F5 F6 hHeld6
          go_wp2_with fail
          go_roundw
          case rel => exact ⟨j + 1, max (max m2' (highsK x)) (highsK y), by omega, by go_num, by congr 1; omega, by omega, HF6.out, HEQ2.out⟩
          case measure => simp [intOf]; omega
    · have hje : j = l.length := by omega
      obtain ⟨hF, hEq⟩ := hR.out
      rw [hje, List.drop_length, hgF_nil] at hEq
      have HF := hide hF
      have HE2 := hide (HEQ.out.trans hEq)
      clear hR hF hEq hje
      go_wp2
      go_ret
      rw [HE2.out]
      exact ⟨rfl, HF.out⟩
theorem high_any' : ∀ (n : Nat) (l : List St), stsN l ≤ n → DSt l
  | 0, l, hn => high_step l fun k t a x y h => by have := stN_mem h; have := stN_pos (St.mk k t a x y); omega
  | n + 1, l, hn => high_step l fun k t a x y h => by
    have h1 := stN_mem h
    rw [stN] at h1
    exact ⟨high_any' n x (by omega), high_any' n y (by omega)⟩
theorem high_any (l : List St) : DSt l := high_any' _ l (Nat.le_refl _)
end Go.Proofs.YtpemfikdmkmgbaaDoor
end
section
/- The document's own answer: Make: what lies there between two functions. -/
set_option maxHeartbeats 0
set_option maxRecDepth 100000
namespace Go.Proofs.YtpemfikdmkmgbaaDoor
open Go Go.RowKit
/-- One row behind a list of codes. -/
theorem code_app {base : Nat} {sc x : Slc} {n : Nat} {rs : List RawC} {r : RawC} {w : World} (h : w.ownsRow base 54 3 sc.v n (rs.flatMap encC)) (hs : Sl encC 3 w x.v [r]) (hb : base ≤ w.heap.size) (hl : n ≤ 1000000) :
    ∃ (g cap : Nat) (w' : World), (Builtin.append_ #[22, 22] 22 #[.slice sc.a sc.n sc.c, .slice x.a x.n x.c]).run Tryd.prog w = .ok (.slice (some ⟨g, 0, none⟩) (n + 1) cap) w' ∧ w'.ownsRow base 54 3 (.slice (some ⟨g, 0, none⟩) (n + 1) cap) (n + 1) (rs.flatMap encC ++ encC r) ∧ Fr (fun k => sc.v.ownBlock = some k) w w' ∧ (sc.v.ownBlock = some g ∨ w.heap.size ≤ g) := by
  obtain ⟨j0, hj0, hy0, hy1, hy2⟩ := info_parts sizeCd
  obtain ⟨hn, hm⟩ := sl_len hs
  obtain ⟨xa, xn, xc⟩ := x
  simp only [List.length_singleton] at hn
  subst hn
  obtain ⟨ao, cap0, he, _, hc⟩ := hs
  simp only [Value.slice.injEq] at he
  obtain ⟨rfl, _, _⟩ := he
  obtain ⟨b, off, rfl, _, hcell⟩ := hc 0 r rfl
  obtain ⟨g, cap, w', hr, h2, h3, h4, h5⟩ := run_append_lies (P := Tryd.prog) w 22 22 base 54 j0 _ 3 40 Tryd.underlying22 hj0 hy0 hy1 hy2 rfl (by decide) sc.v n _ h ⟨b, off, none⟩ 1 xc (encC r) (by rw [encC_len]) (fun j u hj => by
      have := hcell j u hj
      rw [add_eq]
      rw [← this]
      congr 2) (fun u hu => by
      simp only [encC, List.mem_cons, List.not_mem_nil, or_false] at hu
      rcases hu with rfl | rfl | rfl <;> rfl) (by decide) (by unfold maxLen; omega) (by omega) hb _ rfl
  exact ⟨g, cap, w', hr, h2, (Fr.refl _ w).grown h3 (fun k hk => .inl hk), h4.imp id (fun e => by omega)⟩
theorem sl_litC (w : World) (x : RawC) : Sl encC 3 (w.alloc (.cells #[.int .i64 x.np, .int .i64 x.nv, .slice x.s.a x.s.n x.s.c] 54)) (Slc.v ⟨some ⟨w.heap.size, 0, none⟩, 1, 1⟩) [x] := by
  refine ⟨some ⟨w.heap.size, 0, none⟩, 1, rfl, by unfold maxLen; simp, fun i y hi => ?_⟩
  cases i with
  | zero =>
    simp at hi
    subst hi
    refine ⟨_, _, rfl, by simp, fun j u hu => ?_⟩
    have := World.news_of_block (cs := #[.int .i64 x.np, .int .i64 x.nv, .slice x.s.a x.s.n x.s.c]) (t := 54) (fr := (0, 0)) (heap_new w _) j u hu
    rw [add_eq] at this
    simpa using this
  | succ i => simp at hi
/-- What Make has gathered. -/
structure NI (c : Rk) (rb pb : Nat) (T : Nat → Prop) (v : Nat) (cs : List Cd) (ws : List Bs) (w0 w : World) : Prop where
  ri : RI c T v ws w
  f : Fr nothing w0 w
  t0 : ∀ k, T k → w0.heap.size ≤ k
  p1 : w.cell? ⟨pb, 1, none⟩ = some (.slice none 0 0)
  pz : ∀ j, w.frozen? ⟨pb, j, none⟩ = false
  r : ∀ j, w.cell? ⟨rb, j, none⟩ = (#[Value.slice none 0 0, .slice none 0 0])[j]?
  rz : ∀ j, w.frozen? ⟨rb, j, none⟩ = false
  rl : rb < w.heap.size
  tp : ¬ T pb
  tr : ¬ T rb
  n : w0.heap.size ≤ rb ∧ w0.heap.size ≤ pb ∧ rb ≠ pb
  fo : ∀ b, c.fs.v.ownBlock = some b → b < w0.heap.size
  rows : ∃ (sc : Slc) (rs : List RawC), w.cell? ⟨pb, 0, none⟩ = some sc.v ∧ w.ownsRow w0.heap.size 54 3 sc.v cs.length (rs.flatMap encC) ∧ Each (CdOk w (fun k => k < w.heap.size ∧ ¬ T k ∧ k ≠ pb ∧ k ≠ rb ∧ sc.v.ownBlock ≠ some k)) rs cs ∧ ∀ b, sc.v.ownBlock = some b → ¬ T b ∧ b ≠ pb ∧ b ≠ rb
section
variable {c : Rk} {rb pb : Nat} {T T2 : Nat → Prop} {v v2 : Nat} {cs : List Cd} {ws ws2 : List Bs} {w0 w w2 : World}
theorem NI.pl (h : NI c rb pb T v cs ws w0 w) : pb < w.heap.size := lt_of_cell h.p1
theorem NI.call (h : NI c rb pb T v cs ws w0 w) (hR : RP c T w v2 ws2 T2 w2) : NI c rb pb T2 v2 cs ws2 w0 w2 := by
  obtain ⟨h1, h2, h3⟩ := hR
  have nT : ∀ b, ¬ T b → b < w.heap.size → ¬ T2 b := fun b hb hl e => (h3 b e).elim hb (fun h => by omega)
  obtain ⟨sc, rs, r1, r2, r3, r4⟩ := h.rows
  have hsz := h2.size
  refine ⟨h1, h.f.then h2 (fun k hk e => by have := h.t0 k e; omega), fun k hk => ?_, (h2.cell (p := ⟨pb, 1, none⟩) h.pl h.tp).trans h.p1, fun j => (h2.frozen (p := ⟨pb, j, none⟩) h.pl h.tp).trans (h.pz j), fun j => (h2.cell (p := ⟨rb, j, none⟩) h.rl h.tr).trans (h.r j), fun j => (h2.frozen (p := ⟨rb, j, none⟩) h.rl h.tr).trans (h.rz j), Nat.lt_of_lt_of_le h.rl hsz, nT _ h.tp h.pl, nT _ h.tr h.rl, h.n, h.fo, sc, rs, (h2.cell (p := ⟨pb, 0, none⟩) h.pl h.tp).trans r1, owns_fr r2 h2 (fun k hk => (r4 k hk).1), ⟨r3.1, fun i r x e1 e2 => cd_stays _ _ _ _ _ _ _ (r3.2 i r x e1 e2) h2 (fun k hk => hk.2.1) (fun k hk => ⟨Nat.lt_of_lt_of_le hk.1 hsz, nT _ hk.2.1 hk.1, hk.2.2⟩)⟩, fun b hb => ⟨nT _ (r4 b hb).1 (r2.lt b hb).2, (r4 b hb).2⟩⟩
  rcases h3 k hk with e | e
  · exact h.t0 k e
  · exact Nat.le_trans h.f.size e
theorem NI.new (h : NI c rb pb T v cs ws w0 w) (hf : Fr nothing w w2) : NI c rb pb T v cs ws w0 w2 := h.call (.of_new h.ri hf)
theorem NI.vars (h : NI c rb pb T v cs ws w0 w) (u : Nat) : NI c rb pb T u cs ws w0 (w.setCell ⟨c.mb, 2, none⟩ (.int .i64 (u : Nat))) :=
  h.call ⟨(h.ri.vars u).1, (h.ri.vars u).2.mono (fun _ _ e => e ▸ h.ri.tm), fun _ hk => .inl hk⟩
/-- One code more. -/
theorem NI.push (h : NI c rb pb T v cs ws w0 w) {sc x : Slc} {rs : List RawC} {r : RawC} {d : Cd} (r1 : w.cell? ⟨pb, 0, none⟩ = some sc.v) (r2 : w.ownsRow w0.heap.size 54 3 sc.v cs.length (rs.flatMap encC)) (r3 : Each (CdOk w (fun k => k < w.heap.size ∧ ¬ T k ∧ k ≠ pb ∧ k ≠ rb ∧ sc.v.ownBlock ≠ some k)) rs cs) (r4 : ∀ b, sc.v.ownBlock = some b → ¬ T b ∧ b ≠ pb ∧ b ≠ rb) (hs : Sl encC 3 w x.v [r]) (hd : CdOk w (fun k => k < w.heap.size ∧ ¬ T k ∧ k ≠ pb ∧ k ≠ rb ∧ sc.v.ownBlock ≠ some k) r d) (hl : cs.length ≤ 1000) :
    ∃ (g cap : Nat) (w1 : World), (Builtin.append_ #[22, 22] 22 #[.slice sc.a sc.n sc.c, .slice x.a x.n x.c]).run Tryd.prog w = .ok (.slice (some ⟨g, 0, none⟩) (cs.length + 1) cap) w1 ∧ Fr (fun k => sc.v.ownBlock = some k) w w1 ∧ NI c rb pb T v (cs ++ [d]) ws w0 (w1.setCell ⟨pb, 0, none⟩ (.slice (some ⟨g, 0, none⟩) (cs.length + 1) cap)) := by
  obtain ⟨g, cap, w1, hrun, hr, hf, hg⟩ := code_app r2 hs h.f.size (by omega)
  refine ⟨g, cap, w1, hrun, hf, ?_⟩
  have c1 := (hf.cell (p := ⟨pb, 0, none⟩) h.pl (fun e => (r4 _ e).2.1 rfl)).trans r1
  obtain ⟨e1, e2, hf2⟩ := set_one w1 pb 0 (.slice (some ⟨g, 0, none⟩) (cs.length + 1) cap) c1
  have hF : Fr (fun k => sc.v.ownBlock = some k ∨ k = pb) w (w1.setCell ⟨pb, 0, none⟩ (.slice (some ⟨g, 0, none⟩) (cs.length + 1) cap)) := (hf.mono (fun _ _ e => .inl e)).trans (hf2.mono (fun _ _ e => .inr e))
  have hgn : ¬ T g ∧ g ≠ pb ∧ g ≠ rb := by
    rcases hg with e | e
    · exact r4 g e
    · have := h.pl
      have := h.rl
      exact ⟨fun e2 => by have := h.ri.tl g e2; omega, by omega, by omega⟩
  have nb : ∀ k, ¬ T k ∧ k ≠ pb ∧ k ≠ rb ∧ sc.v.ownBlock ≠ some k → ¬ (sc.v.ownBlock = some k ∨ k = pb) := by
    rintro k ⟨_, h1, _, h2⟩ (e | e)
    · exact h2 e
    · exact h1 e
  have nr : ¬ (sc.v.ownBlock = some rb ∨ rb = pb) := by
    rintro (e | e)
    · exact (r4 _ e).2.2 rfl
    · exact h.n.2.2 e
  have hl0 : ∀ k, sc.v.ownBlock = some k → w0.heap.size ≤ k := fun k hk => (r2.lt k hk).1
  have hnew : ∀ k, k < w.heap.size ∧ ¬ T k ∧ k ≠ pb ∧ k ≠ rb ∧ sc.v.ownBlock ≠ some k → (k < (w1.setCell ⟨pb, 0, none⟩ (.slice (some ⟨g, 0, none⟩) (cs.length + 1) cap)).heap.size ∧ ¬ T k ∧ k ≠ pb ∧ k ≠ rb ∧ (Slc.v ⟨some ⟨g, 0, none⟩, cs.length + 1, cap⟩).ownBlock ≠ some k) := by
    rintro k ⟨k1, k2, k3, k4, k5⟩
    refine ⟨Nat.lt_of_lt_of_le k1 hF.size, k2, k3, k4, fun e => ?_⟩
    obtain rfl : g = k := Option.some.inj e
    rcases hg with e | e
    · exact k5 e
    · omega
  refine ⟨h.ri.fr hF ?_ ?_, h.f.then hF ?_, h.t0, (e2 1 (by decide)).trans ((hf.cell (p := ⟨pb, 1, none⟩) h.pl (fun e => (r4 _ e).2.1 rfl)).trans h.p1), fun j => ?_, fun j => (hF.cell (p := ⟨rb, j, none⟩) h.rl nr).trans (h.r j), fun j => (hF.frozen (p := ⟨rb, j, none⟩) h.rl nr).trans (h.rz j), Nat.lt_of_lt_of_le h.rl hF.size, h.tp, h.tr, h.n, h.fo, ⟨some ⟨g, 0, none⟩, cs.length + 1, cap⟩, rs ++ [r], e1, ?_, ⟨by simp [r3.1], ?_⟩, ?_⟩
  · rintro k hk (e | e)
    · exact (r4 k e).1 hk
    · exact h.tp (e ▸ hk)
  · rintro b hb (e | e)
    · have := hl0 b e
      have := h.fo b hb
      omega
    · have := h.n.2.1
      have := h.fo b hb
      omega
  · rintro k hk (e | e)
    · have := hl0 k e; omega
    · have := h.n.2.1; omega
  · rw [World.frozen?_setCell, hf.frozen (p := ⟨pb, j, none⟩) h.pl (fun e => (r4 _ e).2.1 rfl)]; exact h.pz j
  · have := owns_fr hr hf2 (fun k hk e => by cases hk; exact hgn.2.1 e)
    simpa using this
  · intro i r' x' h1 h2
    rcases Nat.lt_trichotomy i cs.length with hi | hi | hi
    · rw [List.getElem?_append_left (by rw [r3.1]; exact hi)] at h1
      rw [List.getElem?_append_left hi] at h2
      exact cd_stays _ _ _ _ _ _ _ (r3.2 i r' x' h1 h2) hF (fun k hk => nb k hk.2) hnew
    · subst hi
      rw [List.getElem?_append_right (by rw [r3.1]; omega), r3.1] at h1
      rw [List.getElem?_append_right (by omega)] at h2
      simp at h1 h2
      subst h1 h2
      exact cd_stays _ _ _ _ _ _ _ hd hF (fun k hk => nb k hk.2) hnew
    · rw [List.getElem?_eq_none (by simp; omega)] at h2
      cases h2
  · intro b hb
    obtain rfl : g = b := Option.some.inj hb
    exact hgn
end
end Go.Proofs.YtpemfikdmkmgbaaDoor
end
section
/- The document's own answer: Make, its walk. -/
set_option maxHeartbeats 0
set_option maxRecDepth 100000
namespace Go.Proofs.YtpemfikdmkmgbaaDoor
open Go Go.RowKit
/-- Of each function: what the document's Make wants. -/
structure FnR (l : List Fn) (f : Fn) : Prop where
  sh : FnSh f
  ke : stsKe f.b
  u : stsU (HasN l) f.b f.p
  p : f.p.length ≤ 4
theorem sl_litI2 (w : World) (x y : In) : Sl encI 3 (w.alloc (.cells #[.int .i64 x.op, .int .i64 x.a, .int .i64 x.b, .int .i64 y.op, .int .i64 y.a, .int .i64 y.b] 59)) (Slc.v ⟨some ⟨w.heap.size, 0, none⟩, 2, 2⟩) [x, y] := by
  refine ⟨some ⟨w.heap.size, 0, none⟩, 2, rfl, by unfold maxLen; simp, fun i z hi => ?_⟩
  have key := fun j u hu => World.news_of_block (cs := #[.int .i64 x.op, .int .i64 x.a, .int .i64 x.b, .int .i64 y.op, .int .i64 y.a, .int .i64 y.b]) (t := 59) (fr := (0, 0)) (heap_new w _) j u hu
  match i, hi with
  | 0, hi =>
    simp at hi
    subst hi
    refine ⟨_, _, rfl, by simp, fun j u hu => ?_⟩
    have hj : j < 3 := by have := (List.getElem?_eq_some_iff.1 hu).1; rwa [encI_len] at this
    have := key j u (by rw [← hu]; match j, hj with | 0, _ => rfl | 1, _ => rfl | 2, _ => rfl)
    rw [add_eq] at this
    simpa using this
  | 1, hi =>
    simp at hi
    subst hi
    refine ⟨_, _, rfl, by simp, fun j u hu => ?_⟩
    have hj : j < 3 := by have := (List.getElem?_eq_some_iff.1 hu).1; rwa [encI_len] at this
    have := key (3 + j) u (by rw [← hu]; match j, hj with | 0, _ => rfl | 1, _ => rfl | 2, _ => rfl)
    rw [add_eq] at this
    simpa using this
  | i + 2, hi => simp at hi
theorem rmake_any (l : List Fn) (hSt : ∀ L, RSts l L) (s : Slc) (rs : List RawF) (w : World) (hS : Sl encG 3 w s.v rs) (hE : Each (FnOk w (fun k => k < w.heap.size)) rs l) (hsb : ∀ b, s.v.ownBlock = some b → b < w.heap.size) (hM : ∀ f ∈ l, FnR l f) (hN : fnsN l ≤ 50000) (h5 : l.length ≤ 5) :
    Calls Tryd.prog 29 #[.slice s.a s.n s.c] w (MkP w (progK l)) := by
  obtain ⟨hln, hlm⟩ := sl_len hS
  obtain ⟨la, ln, lc⟩ := s
  simp only at hln
  rw [hE.1] at hln
  subst hln
  have hll : l.length ≤ 9223372036854775807 := by have := hE.1; omega
  have hmm := @run_makeMap Tryd.prog
  have s1 : (w.alloc (.cells #[.slice none 0 0, .slice none 0 0] 25)).heap.size = w.heap.size + 1 := by simp
  have s2 : ((w.alloc (.cells #[.slice none 0 0, .slice none 0 0] 25)).alloc (.cells #[.slice la l.length lc, .slice none 0 0, .int .i64 0] 118)).heap.size = w.heap.size + 1 + 1 := by simp
  obtain ⟨w3, hw3⟩ : ∃ w3, w3 = ((w.alloc (.cells #[.slice none 0 0, .slice none 0 0] 25)).alloc (.cells #[.slice la l.length lc, .slice none 0 0, .int .i64 0] 118)).alloc (.cells #[.slice none 0 0, .slice none 0 0] 25) := ⟨_, rfl⟩
  have hF3 : Fr nothing w w3 := by rw [hw3]; exact (((Fr.refl _ _).alloc _).alloc _).alloc _
  have cr := made_cells (((Fr.refl nothing (w.alloc (.cells #[.slice none 0 0, .slice none 0 0] 25))).alloc (.cells #[.slice la l.length lc, .slice none 0 0, .int .i64 0] 118)).alloc (.cells #[.slice none 0 0, .slice none 0 0] 25)) id
  have cm := made_cells ((Fr.refl nothing ((w.alloc (.cells #[.slice none 0 0, .slice none 0 0] 25)).alloc (.cells #[.slice la l.length lc, .slice none 0 0, .int .i64 0] 118))).alloc (.cells #[.slice none 0 0, .slice none 0 0] 25)) id
  have cp := made_cells (Fr.refl nothing (((w.alloc (.cells #[.slice none 0 0, .slice none 0 0] 25)).alloc (.cells #[.slice la l.length lc, .slice none 0 0, .int .i64 0] 118)).alloc (.cells #[.slice none 0 0, .slice none 0 0] 25))) id
  rw [s1] at cm
  rw [s2] at cp
  rw [← hw3] at cr cm cp
  have hNI : NI ⟨w.heap.size + 1, w.heap.size, ⟨la, l.length, lc⟩, rs⟩ w.heap.size (w.heap.size + 1 + 1) (fun k => k = w.heap.size + 1) 0 [] [] w w3 := by
    refine ⟨⟨cm.1 0, cm.1 2, cm.2.1, cm.2.2, hS.fr hF3 (fun _ _ => id), ⟨nilS, cm.1 1, World.ownsRow_nil _ _ _ _, fun b hb => (by cases hb)⟩, hF3.size, rfl, fun b hb e => ?_, fun b hb => Nat.lt_of_lt_of_le (hsb b hb) hF3.size, fun k hk => by rw [hk]; exact cm.2.2⟩, hF3, fun k hk => by rw [hk]; omega, cp.1 1, cp.2.1, cr.1, cr.2.1, cr.2.2, ?_, ?_, ⟨Nat.le_refl _, by omega, by omega⟩, hsb, nilS, [], cp.1 0, World.ownsRow_nil _ _ _ _, ⟨rfl, fun i r x h => by simp at h⟩, fun b hb => (by cases hb)⟩
    · have h1 := hsb b hb
      have h2 : b = w.heap.size + 1 := e
      omega
    · show ¬ (w.heap.size + 1 + 1 = w.heap.size + 1); omega
    · show ¬ (w.heap.size = w.heap.size + 1); omega
  have HNI := hide hNI
  have HS := hide hS
  have HE := hide hE
  have HFN : Hid (FnNames ⟨w.heap.size + 1, w.heap.size, ⟨la, l.length, lc⟩, rs⟩ l) := ⟨hE.1, fun i r f h1 h2 => (hE.2 i r f h1 h2).t⟩
  clear hNI hS hE cr cm cp hF3 s1 s2
  go_enter Tryd.func29, Tryd.ntmps29
  go_wp2
  rw [← hw3]
  obtain ⟨mb, hmb⟩ : ∃ x, x = w.heap.size + 1 := ⟨_, rfl⟩
  obtain ⟨rb, hrb⟩ : ∃ x, x = w.heap.size := ⟨_, rfl⟩
  obtain ⟨pb, hpb⟩ : ∃ x, x = w.heap.size + 1 + 1 := ⟨_, rfl⟩
  rw [← hpb] at HNI
  rw [← hpb]
  rw [← hmb] at HNI HFN
  rw [← hmb]
  rw [← hrb] at HNI HFN
  rw [← hrb]
  obtain ⟨c, hc⟩ : ∃ c : Rk, c = ⟨mb, rb, ⟨la, l.length, lc⟩, rs⟩ := ⟨_, rfl⟩
  rw [← hc] at HNI HFN
  have hcm : c.mb = mb := by rw [hc]
  have hcf : c.fs = ⟨la, l.length, lc⟩ := by rw [hc]
  clear hw3 hmb hrb hpb hc
  subst hcm
  go_loopw [18, 7, 8, 9, 10, 11] (fun i _ _ _ _ _ wv => ∃ (k : Nat), k ≤ l.length ∧ i = .int .i64 k ∧ Hid (∃ (T : Nat → Prop) (v : Nat) (cs : List Cd) (ws : List Bs), NI c rb pb T v cs ws w wv ∧ progK l = makeK (gOf l) (l.drop k) ⟨cs, ws⟩ ∧ cs.length = k ∧ ws.length + fnsN (l.drop k) ≤ 50000)) (fun i _ _ _ _ _ _ => l.length - (intOf i).toNat)
  case atStart => exact ⟨0, Nat.zero_le _, rfl, _, 0, [], [], HNI.out, rfl, rfl, by rw [List.drop_zero]; simpa using hN⟩
  case round =>
    obtain ⟨k, hk, rfl, hR⟩ := hrel
    by_cases hkl : k < l.length
    · have hx : l[k]? = some l[k] := List.getElem?_eq_getElem hkl
      have hr : rs[k]? = some (rs[k]'(by rw [HE.out.1]; omega)) := List.getElem?_eq_getElem _
      have hxm : l[k] ∈ l := List.getElem_mem hkl
      have hdr : l.drop k = l[k] :: l.drop (k + 1) := List.drop_eq_getElem_cons hkl
      generalize rs[k]'(by rw [HE.out.1]; omega) = r at hr
      generalize l[k] = f at hx hxm hdr
      have hok := HE.out.2 k r f hr hx
      obtain ⟨g, o, hg, dg, p0, p1, p2⟩ := sl_elem3 (s := ⟨la, l.length, lc⟩) HS.out hr
      simp only at hg
      subst hg
      obtain ⟨T, v, cs, ws, hI, hEq, hcl, hNk⟩ := hR.out
      have hFk := hI.f
      rw [← hFk.cell (p := ⟨g, _, none⟩) dg id] at p0 p1 p2
      have eg : g < wr.heap.size := Nat.lt_of_lt_of_le dg hFk.size
      rw [hdr, makeK] at hEq
      have hNk' : ws.length + (f.p.length + stsN f.b) + fnsN (l.drop (k + 1)) ≤ 50000 := by
        rw [hdr] at hNk; unfold fnsN at hNk ⊢; simp only [List.map_cons, List.sum_cons] at hNk; omega
      have hFM := hM f hxm
      have hfp := hFM.p
      have hpn := hFM.sh
      obtain ⟨hpl, hpm⟩ := sl_len hok.p
      obtain ⟨rt, ⟨rpa, rpn, rpc⟩, ⟨rba, rbn, rbc⟩⟩ := r
      simp only at hpl p0 p1 p2
      subst hpl
      have u1 : (wr.alloc (fo ⟨rt, ⟨rpa, f.p.length, rpc⟩, ⟨rba, rbn, rbc⟩⟩)).heap.size = wr.heap.size + 1 := by simp
      have hF5 : Fr nothing wr ((wr.alloc (fo ⟨rt, ⟨rpa, f.p.length, rpc⟩, ⟨rba, rbn, rbc⟩⟩)).alloc (.map #[] 0)) := ((Fr.refl _ _).alloc _).alloc _
      have hfc := fo_cells ((Fr.refl nothing (wr.alloc (fo ⟨rt, ⟨rpa, f.p.length, rpc⟩, ⟨rba, rbn, rbc⟩⟩))).alloc (.map #[] 0)) id
      have hSI := SI.made (wr.alloc (fo ⟨rt, ⟨rpa, f.p.length, rpc⟩, ⟨rba, rbn, rbc⟩⟩))
      rw [u1] at hSI
      have HI := hide hI
      have HOK := hide hok
      have HEQ := hide hEq
      have HF5 := hide hF5
      have HFC := hide hfc
      have HSI := hide hSI
      have HFM := hide hFM
      clear hR hI hok hEq hFk hF5 hfc hSI hr hx hNk hFM hpn u1
      go_wp2
      generalize (wr.alloc (fo ⟨rt, ⟨rpa, f.p.length, rpc⟩, ⟨rba, rbn, rbc⟩⟩)).alloc (.map #[] 0) = w5 at *
      obtain ⟨fb, hfb⟩ : ∃ x, x = wr.heap.size := ⟨_, rfl⟩
      obtain ⟨ab, hab⟩ : ∃ x, x = wr.heap.size + 1 := ⟨_, rfl⟩
      rw [← hab] at HSI
      rw [← hab]
      rw [← hfb] at HFC
      rw [← hfb]
      have HNUM := hide (And.intro hfb hab)
      have hab' : ab ≠ fb := by omega
      clear hfb hab p0 p1 p2
      obtain ⟨wq, hwq⟩ : ∃ x, x = wr := ⟨_, rfl⟩
      subst hwq
      go_loopw [26, 9, 10] (fun i _ _ wv => ∃ (j : Nat), j ≤ f.p.length ∧ i = .int .i64 j ∧ Hid (∃ (A : AMap) (E : Bs → Int), SI ab A wv ∧ (∀ t, (A.f t).getD 0 = E t) ∧ A.n ≤ j ∧ Fr (fun k => k = ab) w5 wv ∧ parE f.p 0 (fun _ => 0) = parE (f.p.drop j) j E)) (fun i _ _ _ => f.p.length - (intOf i).toNat)
      case atStart => exact ⟨0, Nat.zero_le _, rfl, AMap.empty, fun _ => 0, HSI.out, fun _ => rfl, Nat.le_refl _, Fr.refl _ _, rfl⟩
      case round =>
        obtain ⟨j, hj, rfl, hR⟩ := hrel
        obtain ⟨A, E, hA, hAE, hAn, hFj, hPE⟩ := hR.out
        by_cases hjl : j < f.p.length
        · have hx : f.p[j]? = some f.p[j] := List.getElem?_eq_getElem hjl
          have hxm2 : f.p[j] ∈ f.p := List.getElem_mem hjl
          have hdr2 : f.p.drop j = f.p[j] :: f.p.drop (j + 1) := List.drop_eq_getElem_cons hjl
          generalize f.p[j] = x at hx hxm2 hdr2
          have hxl := HFM.out.sh.p x hxm2
          obtain ⟨g2, o2, hg2, dg2, u0⟩ := sl_elem1 (s := ⟨rpa, f.p.length, rpc⟩) HOK.out.p hx
          simp only at hg2
          subst hg2
          have hF0 : Fr nothing w wr := ((HI.out.f.trans HF5.out).then hFj (fun k hk e => by have := HNUM.out.2; have := HI.out.f.size; omega))
          rw [← hF0.cell (p := ⟨g2, _, none⟩) dg2 id] at u0
          have eg2 : g2 < wr.heap.size := Nat.lt_of_lt_of_le dg2 hF0.size
          obtain ⟨wu, ru, hA2, hfu⟩ := hA.store x (by omega) (j : Nat) (by omega) (by omega) (by omega)
          have HNX := hide (show ∃ (A : AMap) (E : Bs → Int), SI ab A wu ∧ (∀ t, (A.f t).getD 0 = E t) ∧ A.n ≤ j + 1 ∧ Fr (fun k => k = ab) w5 wu ∧ parE f.p 0 (fun _ => 0) = parE (f.p.drop (j + 1)) (j + 1) E from ⟨A.put x j, upd E x j, hA2, idx_step hAE x j, by unfold AMap.put; dsimp only; split <;> omega, hFj.trans hfu, by rw [hPE, hdr2, parE]⟩)
          clear hR hA hAE hAn hFj hPE hF0 hA2 hfu hx
          go_wp2
          go_roundw
          case rel => exact ⟨j + 1, by omega, by go_num, HNX.out⟩
          case measure => simp [intOf]; omega
        · have hje : j = f.p.length := by omega
          rw [hje, List.drop_length, parE] at hPE
          have hnum := HNUM.out
          have hFq : Fr nothing wq wr := HF5.out.then hFj (fun k hk e => by omega)
          have hI2 := HI.out.new hFq
          have hI3 := hI2.vars f.p.length
          have hmc := hI2.ri.c2
          have hmz := hI2.ri.fz 2
          have hml := hI2.ri.ml
          have hmlq := HI.out.ri.ml
          obtain ⟨b0, b1, b2, bl⟩ := HFC.out
          have nf : ¬ fb = ab := fun e => hab' e.symm
          rw [← hFj.cell (p := ⟨fb, _, none⟩) bl nf] at b1 b2
          have bl2 := Nat.lt_of_lt_of_le bl hFj.size
          obtain ⟨d1, d2, hFv⟩ := set_one wr c.mb 2 (.int .i64 (f.p.length : Nat)) hmc
          have nfm : ¬ fb = c.mb := by omega
          obtain ⟨w6, hw6⟩ : ∃ w6, w6 = wr.setCell ⟨c.mb, 2, none⟩ (.int .i64 (f.p.length : Nat)) := ⟨_, rfl⟩
          rw [← hw6] at hI3 hFv
          have b1' := (hFv.cell (p := ⟨fb, 1, none⟩) bl2 nfm).trans b1
          have b2' := (hFv.cell (p := ⟨fb, 2, none⟩) bl2 nfm).trans b2
          have bl3 := Nat.lt_of_lt_of_le bl2 hFv.size
          have hTlow : ∀ k, T k → k < wq.heap.size := HI.out.ri.tl
          have hAT : AtN ab (parE f.p 0 (fun _ => 0)) f.p f.p.length T w6 := ⟨⟨A, hA.fr hFv (fun e => by omega), fun t _ => by rw [hAE, hPE], by omega⟩, fun e => by have := hTlow _ e; omega⟩
          have hok6 : FnOk w6 (ap T w6) ⟨rt, ⟨rpa, f.p.length, rpc⟩, ⟨rba, rbn, rbc⟩⟩ f := fn_stays _ _ _ _ _ _ _ HOK.out hI3.f (fun _ _ => id) (fun k hk => ⟨fun e => by have := HI.out.t0 k e; omega, Nat.lt_of_lt_of_le hk hI3.f.size⟩)
          obtain ⟨rb2, hb1, hb2⟩ := hok6.b
          have hlw := stsK_le (gOf l) f.b (parE f.p 0 (fun _ => 0)) f.p.length ws 0
          have HST := hide (hSt f.b c T f.p.length ws (parE f.p 0 (fun _ => 0)) f.p ab ⟨rba, rbn, rbc⟩ rb2 w6 hI3.ri HFN.out hAT hb1 hok6.bP hb2 HFM.out.u (by omega) (by omega) (by omega) HFM.out.sh.b HFM.out.ke)
          have hNX : ∀ (q : Slc) (T2 : Nat → Prop) (w7 : World), OwnI w6.heap.size q (fnS (gOf l) f ws).ins w7 → RP c T w6 (fnS (gOf l) f ws).v (fnS (gOf l) f ws).ws T2 w7 → (∀ b, q.v.ownBlock = some b → ¬ T2 b) →
              ∃ (q4 : Slc) (w8 : World), (Builtin.append_ #[52, 52] 52 #[.slice q.a q.n q.c, .slice (some ⟨w7.heap.size, 0, none⟩) 2 2]).run Tryd.prog (w7.alloc (.cells #[.int .i64 1, .int .i64 0, .int .i64 0, .int .i64 18, .int .i64 0, .int .i64 0] 59)) = .ok (.slice q4.a q4.n q4.c) w8 ∧
              (NI c rb pb T2 (fnS (gOf l) f ws).v cs (fnS (gOf l) f ws).ws w w8 ∧ OwnI w6.heap.size q4 (fnI (gOf l) f ws) w8 ∧ (∀ b, q4.v.ownBlock = some b → ¬ T2 b) ∧ Fr (fun k => T k ∨ w6.heap.size ≤ k) w6 w8) := by
            intro q T2 w7 o1 p1 n1
            have FL : Fr nothing w7 (w7.alloc (.cells #[.int .i64 1, .int .i64 0, .int .i64 0, .int .i64 18, .int .i64 0, .int .i64 0] 59)) := (Fr.refl _ _).alloc _
            have hll := hlw.i
            obtain ⟨q4, w8, hrun, own4, hF4, t4⟩ := (o1.fr FL (fun _ _ => id)).app (x := ⟨some ⟨w7.heap.size, 0, none⟩, 2, 2⟩) (sl_litI2 w7 ⟨1, 0, 0⟩ ⟨18, 0, 0⟩) (Nat.le_trans p1.2.1.size FL.size) (by show (stsK (gOf l) f.b (parE f.p 0 (fun _ => 0)) f.p.length ws 0).ins.length + 2 ≤ _; omega)
            have hI7 := (hI3.call p1).new FL
            have hTl := hI7.ri.tl
            obtain ⟨sc, rsc, r1, r2, r3, r4⟩ := hI7.rows
            have o1l : ∀ b, q.v.ownBlock = some b → w6.heap.size ≤ b := fun b hb => (o1.lt hb).1
            have FLF : Fr (fun k => q.v.ownBlock = some k) w7 w8 := (FL.mono (fun _ _ e => e.elim)).trans hF4
            have hI8 : NI c rb pb T2 (fnS (gOf l) f ws).v cs (fnS (gOf l) f ws).ws w w8 := hI3.call ⟨p1.1.fr FLF (fun k hk e => n1 k e hk) (fun b hb e => by have := hI3.fo b hb; have := hI3.f.size; have := o1l b e; omega), p1.2.1.then FLF (fun k hk e => by have := o1l k e; omega), p1.2.2⟩
            refine ⟨q4, w8, hrun, hI8, own4, fun b hb => ?_, ((p1.2.1.mono (fun _ _ e => .inl e)).trans (FL.mono (fun _ _ e => e.elim))).trans (hF4.mono (fun k _ e => .inr (o1l k e)))⟩
            rcases t4 b hb with e | e
            · exact n1 b e
            · exact fun e2 => by have := hTl b e2; omega
          have HNX := hide hNX
          have HI3 := hide hI3
          have hlv := hlw.v
          have hlwn := hlw.w
          have hll := hlw.i
          have hTfb : ¬ (T fb ∨ w6.heap.size ≤ fb) := by
            rintro (e | e)
            · have := hTlow _ e; omega
            · omega
          have hpq : w6.cell? ⟨pb, 0, none⟩ = wq.cell? ⟨pb, 0, none⟩ := (hFv.cell (p := ⟨pb, 0, none⟩) hI2.pl (fun e => by have e2 : pb = c.mb := e; exact hI2.tp (e2 ▸ hI2.ri.tm))).trans (hFq.cell (p := ⟨pb, 0, none⟩) HI.out.pl id)
          have hqs : wq.heap.size ≤ w6.heap.size := Nat.le_trans hFq.size hFv.size
          clear hR hA hAE hAn hFj hPE hFq hI2 hI3 d1 d2 hFv hAT hok6 hb1 hb2 hNX hTlow hnum hlw hje
          obtain ⟨n2, hN2⟩ : ∃ n2, (fnI (gOf l) f ws).length = n2 := ⟨_, rfl⟩
          obtain ⟨n3, hN3⟩ : ∃ n3, highsK f.b = n3 := ⟨_, rfl⟩
          have hn2 : n2 ≤ 1000000 := by
            rw [← hN2]
            unfold fnI
            simp only [List.length_append, List.length_cons, List.length_nil]
            show (stsK (gOf l) f.b (parE f.p 0 (fun _ => 0)) f.p.length ws 0).ins.length + _ ≤ _
            omega
          have HHI : Hid (∀ w8, Fr nothing w w8 → Calls Tryd.prog 48 #[.slice rba rbn rbc] w8 fun e w' => e = .returned (.int .i64 (n3 : Nat)) ∧ Fr nothing w8 w') := by
            intro w8 hf
            have hk : FnOk w8 (fun k => k < w8.heap.size) ⟨rt, ⟨rpa, f.p.length, rpc⟩, ⟨rba, rbn, rbc⟩⟩ f := fn_stays _ _ _ _ _ _ _ HOK.out hf (fun _ _ => id) (fun k hk => Nat.lt_of_lt_of_le hk hf.size)
            obtain ⟨rb3, hb3, hb4⟩ := hk.b
            rw [← hN3]
            exact high_any f.b ⟨rba, rbn, rbc⟩ rb3 w8 hb3 hb4 (by omega)
          by_cases h200 : 200 < n2
          · have HMUCH : Hid (progK l = (⟨[], []⟩, 4)) := by
              have := HEQ.out
              rw [if_pos (by unfold fnMuch; rw [hN2]; simp [h200])] at this
              exact this
            clear HEQ
            go_wp2_with (first
              | (go_at_call 47; rw [← hw6]; refine HST.out.mono ?_; rintro e w7 ⟨q, T2, rfl, hO, hR, hq⟩; obtain ⟨⟨qa, qn, qc⟩, w8, hrun, hI8, own8, n8, F8⟩ := HNX.out q T2 w7 hO hR hq; have hqn : qn = (fnI (gOf l) f ws).length := own8.n; rw [hN2] at hqn; subst hqn; have y1 := (F8.cell (p := ⟨fb, 1, none⟩) bl3 hTfb).trans b1'; have y2 := (F8.cell (p := ⟨fb, 2, none⟩) bl3 hTfb).trans b2'; have yl := Nat.lt_of_lt_of_le bl3 F8.size; have z0 := hI8.r 0; have z1 := hI8.r 1; have zf0 := hI8.rz 0; have zf1 := hI8.rz 1; have zl := hI8.rl; have HI8 := hide hI8; have HN8 := hide (And.intro own8 (And.intro n8 F8)); clear hO hR hq hI8 own8 n8 F8)
              | (at_builtin; go_must (refine wpList_run rfl _ _ 52 rfl _ _ rfl rfl hrun ?_)))
            obtain ⟨w12, hw12, g0, g1, hF12⟩ := set2 (.slice none 0 0) (.slice none 0 0) z0 z1
            rw [← hw12]
            clear hw12
            exact bodyPost_ret (v := .tuple #[.agg #[.slice none 0 0, .slice none 0 0], .int .i64 4]) (by simp [results, Tryd.results29, go_sem, g0, g1]) rfl ⟨nilS, nilS, by rw [HMUCH.out], HI8.out.f.then hF12 (fun k hk e => by have := HI3.out.n.1; omega), by rw [HMUCH.out]; exact pgOk_nil _⟩
          by_cases h16 : 16 < n3
          · have HMUCH : Hid (progK l = (⟨[], []⟩, 4)) := by
              have := HEQ.out
              rw [if_pos (by unfold fnMuch; rw [hN3]; simp [h16])] at this
              exact this
            clear HEQ
            go_wp2_with (first
              | (go_at_call 47; rw [← hw6]; refine HST.out.mono ?_; rintro e w7 ⟨q, T2, rfl, hO, hR, hq⟩; obtain ⟨⟨qa, qn, qc⟩, w8, hrun, hI8, own8, n8, F8⟩ := HNX.out q T2 w7 hO hR hq; have hqn : qn = (fnI (gOf l) f ws).length := own8.n; rw [hN2] at hqn; subst hqn; have y1 := (F8.cell (p := ⟨fb, 1, none⟩) bl3 hTfb).trans b1'; have y2 := (F8.cell (p := ⟨fb, 2, none⟩) bl3 hTfb).trans b2'; have yl := Nat.lt_of_lt_of_le bl3 F8.size; skip; have HI8 := hide hI8; have HN8 := hide (And.intro own8 (And.intro n8 F8)); clear hO hR hq hI8 own8 n8 F8)
              | (at_builtin; go_must (refine wpList_run rfl _ _ 52 rfl _ _ rfl rfl hrun ?_))
              | (go_at_call 48; refine (HHI.out w8 HI8.out.f).mono ?_; rintro e w9 ⟨rfl, hF9⟩; have hI9 := HI8.out.new hF9; have z0 := hI9.r 0; have z1 := hI9.r 1; have zf0 := hI9.rz 0; have zf1 := hI9.rz 1; have zl := hI9.rl; have HI9 := hide hI9; clear hI9 hF9))
            obtain ⟨w12, hw12, g0, g1, hF12⟩ := set2 (.slice none 0 0) (.slice none 0 0) z0 z1
            rw [← hw12]
            clear hw12
            exact bodyPost_ret (v := .tuple #[.agg #[.slice none 0 0, .slice none 0 0], .int .i64 4]) (by simp [results, Tryd.results29, go_sem, g0, g1]) rfl ⟨nilS, nilS, by rw [HMUCH.out], HI9.out.f.then hF12 (fun k hk e => by have := HI3.out.n.1; omega), by rw [HMUCH.out]; exact pgOk_nil _⟩
          have HGO : Hid (progK l = makeK (gOf l) (l.drop (k + 1)) ⟨cs ++ [⟨f.p.length, (fnS (gOf l) f ws).v, fnI (gOf l) f ws⟩], (fnS (gOf l) f ws).ws⟩) := by
            have := HEQ.out
            rw [if_neg (by unfold fnMuch; rw [hN2, hN3]; simp; omega)] at this
            exact this
          clear HEQ
          go_wp2_with (first
            | (go_at_call 47; rw [← hw6]; refine HST.out.mono ?_; rintro e w7 ⟨q, T2, rfl, hO, hR, hq⟩; obtain ⟨⟨qa, qn, qc⟩, w8, hrun, hI8, own8, n8, F8⟩ := HNX.out q T2 w7 hO hR hq; have hqn : qn = (fnI (gOf l) f ws).length := own8.n; rw [hN2] at hqn; subst hqn; have y1 := (F8.cell (p := ⟨fb, 1, none⟩) bl3 hTfb).trans b1'; have y2 := (F8.cell (p := ⟨fb, 2, none⟩) bl3 hTfb).trans b2'; have yl := Nat.lt_of_lt_of_le bl3 F8.size; skip; have HI8 := hide hI8; have HN8 := hide (And.intro own8 (And.intro n8 F8)); clear hO hR hq hI8 own8 n8 F8)
            | (at_builtin; go_must (refine wpList_run rfl _ _ 52 rfl _ _ rfl rfl hrun ?_))
            | (go_at_call 48; refine (HHI.out w8 HI8.out.f).mono ?_; rintro e w9 ⟨rfl, hF9⟩; have hI9 := HI8.out.new hF9; have v1 := (hF9.cell (p := ⟨fb, 1, none⟩) yl id).trans y1; have vl := Nat.lt_of_lt_of_le yl hF9.size; have HI9 := hide hI9; have HF9 := hide hF9; clear hI9 hF9))
          have hF10 : Fr nothing w9 (w9.alloc (.cells #[.int .i64 (f.p.length : Nat), .int .i64 ((fnS (gOf l) f ws).v : Nat), .slice qa qn qc] 54)).drew := ((Fr.refl nothing w9).alloc _).drew
          have hI10 := HI9.out.new hF10
          obtain ⟨⟨ca, cn, cc⟩, rsc, r1, r2, r3, r4⟩ := hI10.rows
          have own9 := HN8.out.1.fr HF9.out (fun _ _ => id)
          have hpl9 := HI9.out.pl
          have hcl' : cs.length ≤ 1000 := by omega
          have hsc : ∀ b, (Slc.v ⟨ca, cn, cc⟩).ownBlock = some b → b < wq.heap.size := by
            obtain ⟨sc3, rs3, q1, q2, _, _⟩ := HI.out.rows
            rw [← hpq] at q1
            have e1 := (HN8.out.2.2.cell (p := ⟨pb, 0, none⟩) HI3.out.pl (fun e => e.elim HI3.out.tp (fun e => absurd HI3.out.pl (Nat.not_lt_of_le e)))).trans q1
            have e2 := (HF9.out.cell (p := ⟨pb, 0, none⟩) HI8.out.pl id).trans e1
            have e3 := (hF10.cell (p := ⟨pb, 0, none⟩) hpl9 id).trans e2
            rw [r1] at e3
            rw [Option.some.inj e3]
            exact fun b hb => (q2.lt b hb).2
          obtain ⟨g1, cp1, w11, hrun2, hF11, hN11⟩ := hI10.push (x := ⟨some ⟨w9.heap.size, 0, none⟩, 1, 1⟩) (r := ⟨(f.p.length : Nat), ((fnS (gOf l) f ws).v : Nat), ⟨qa, qn, qc⟩⟩) (d := ⟨f.p.length, (fnS (gOf l) f ws).v, fnI (gOf l) f ws⟩) r1 r2 r3 r4 ((sl_litC w9 ⟨(f.p.length : Nat), ((fnS (gOf l) f ws).v : Nat), ⟨qa, qn, qc⟩⟩).fr (Fr.refl nothing _).drew (fun _ _ => id)) ⟨rfl, rfl, (own9.fr hF10 (fun _ _ => id)).sl, fun b hb => by
              have h1 := own9.lt hb
              have h2 := HN8.out.2.1 b hb
              have h3 := HI3.out.pl
              have h4 := HI3.out.rl
              exact ⟨Nat.lt_of_lt_of_le h1.2 hF10.size, h2, by omega, by omega, fun e => by have := hsc b e; omega⟩⟩ hcl'
          replace r1 : (w9.alloc (.cells #[.int .i64 (f.p.length : Nat), .int .i64 ((fnS (gOf l) f ws).v : Nat), .slice qa qn qc] 54)).drew.cell? ⟨pb, 0, none⟩ = some (.slice ca cn cc) := r1
          have r0 : w9.cell? ⟨pb, 0, none⟩ = some (.slice ca cn cc) := (hF10.cell (p := ⟨pb, 0, none⟩) hpl9 id).symm.trans r1
          have m0 := HI9.out.ri.c2
          have ml := HI9.out.ri.ml
          have hfp9 := HI9.out.ri.ml
          have HS9 : Hid (∀ w', Fr nothing w9 w' → w'.cell? ⟨pb, 0, none⟩ = some (.slice ca cn cc) ∧ w'.cell? ⟨fb, 1, none⟩ = some (.slice rpa f.p.length rpc) ∧ w'.cell? ⟨c.mb, 2, none⟩ = some (.int .i64 ((fnS (gOf l) f ws).v : Nat))) := fun w' hf => ⟨(hf.cell (p := ⟨pb, 0, none⟩) hpl9 id).trans r0, (hf.cell (p := ⟨fb, 1, none⟩) vl id).trans v1, (hf.cell (p := ⟨c.mb, 2, none⟩) ml id).trans m0⟩
          have HS11 : Hid (w11.cell? ⟨pb, 0, none⟩ = some (.slice ca cn cc) ∧ w11.cell? ⟨fb, 1, none⟩ = some (.slice rpa f.p.length rpc) ∧ w11.cell? ⟨c.mb, 2, none⟩ = some (.int .i64 ((fnS (gOf l) f ws).v : Nat))) := by
            obtain ⟨x1, x2, x3⟩ := HS9.out _ hF10
            have nfb : ¬ (Slc.v ⟨ca, cn, cc⟩).ownBlock = some fb := fun e => by
              have h1 := hsc fb e
              have h2 := HNUM.out.1
              omega
            exact ⟨(hF11.cell (p := ⟨pb, 0, none⟩) (Nat.lt_of_lt_of_le hpl9 hF10.size) (fun e => (r4 _ e).2.1 rfl)).trans x1, (hF11.cell (p := ⟨fb, 1, none⟩) (Nat.lt_of_lt_of_le vl hF10.size) nfb).trans x2, (hF11.cell (p := ⟨c.mb, 2, none⟩) (Nat.lt_of_lt_of_le ml hF10.size) (fun e => (r4 _ e).1 HI9.out.ri.tm)).trans x3⟩
          have pz11 : w11.frozen? ⟨pb, 0, none⟩ = false := (hF11.frozen (p := ⟨pb, 0, none⟩) (Nat.lt_of_lt_of_le hpl9 hF10.size) (fun e => (r4 _ e).2.1 rfl)).trans (hI10.pz 0)
          have pl11 : pb < w11.heap.size := Nat.lt_of_lt_of_le (Nat.lt_of_lt_of_le hpl9 hF10.size) hF11.size
          have HEND := hide hN11
          have HRUN := hide hrun2
          have HF10 := hide hF10
          clear hI10 hF10 r1 r2 r3 r4 own9 hsc hF11 hN11 hrun2 HN8
          refine wp_region_T (S := fun w' => w'.cell? ⟨pb, 0, none⟩ = some (.slice ca cn cc) ∧ w'.cell? ⟨fb, 1, none⟩ = some (.slice rpa f.p.length rpc) ∧ w'.cell? ⟨c.mb, 2, none⟩ = some (.int .i64 ((fnS (gOf l) f ws).v : Nat))) (by kernel_rfl) [14] (HS9.out _ (Fr.refl _ _).drew) (fun hHeld => ?_)
          refine wpAnyT_take (i := 0) (oi := { dst := some 60, op := Op.fieldAddr 25 (Operand.tmp 5) 0, type := 0, pos := "ref.go:758", after := #[], guard := none }) (v := ?v1) rfl (by kernel_rfl) (by kernel_rfl) (by kernel_rfl) (by kernel_rfl) (by kernel_rfl) (fun _ _ _ h => h) (Or.inl ⟨by rfl, ?hy1⟩) (by assumption) ?rest1
          case hy1 => (intro w hSw; (try dsimp only at hSw); obtain ⟨hS1, hS2, hS3⟩ := hSw; go_simp; try with_reducible rfl)
          try simp only [Act.put, List.setIfInBounds_toArray, List.set_cons_zero, List.set_cons_succ]
          refine wpAnyT_take (i := 1) (oi := { dst := some 61, op := Op.load 22 (Operand.tmp 60), type := 22, pos := "ref.go:758", after := #[{ on := 0, ground := Ground.data }], guard := none }) (v := ?v2) rfl (by kernel_rfl) (by kernel_rfl) (by kernel_rfl) (by kernel_rfl) (by kernel_rfl) (fun _ _ _ h => h) (Or.inl ⟨by rfl, ?hy2⟩) (by assumption) ?rest2
          case hy2 => (intro w hSw; (try dsimp only at hSw); obtain ⟨hS1, hS2, hS3⟩ := hSw; go_simp; try with_reducible rfl)
          try simp only [Act.put, List.setIfInBounds_toArray, List.set_cons_zero, List.set_cons_succ]
          refine wpAnyT_take (i := 2) (oi := { dst := some 62, op := Op.fieldAddr 113 (Operand.tmp 7) 1, type := 0, pos := "ref.go:758", after := #[], guard := none }) (v := ?v3) rfl (by kernel_rfl) (by kernel_rfl) (by kernel_rfl) (by kernel_rfl) (by kernel_rfl) (fun _ _ _ h => h) (Or.inl ⟨by rfl, ?hy3⟩) (by assumption) ?rest3
          case hy3 => (intro w hSw; (try dsimp only at hSw); obtain ⟨hS1, hS2, hS3⟩ := hSw; go_simp; try with_reducible rfl)
          try simp only [Act.put, List.setIfInBounds_toArray, List.set_cons_zero, List.set_cons_succ]
          refine wpAnyT_take (i := 3) (oi := { dst := some 63, op := Op.load 23 (Operand.tmp 62), type := 23, pos := "ref.go:758", after := #[{ on := 2, ground := Ground.data }], guard := none }) (v := ?v4) rfl (by kernel_rfl) (by kernel_rfl) (by kernel_rfl) (by kernel_rfl) (by kernel_rfl) (fun _ _ _ h => h) (Or.inl ⟨by rfl, ?hy4⟩) (by assumption) ?rest4
          case hy4 => (intro w hSw; (try dsimp only at hSw); obtain ⟨hS1, hS2, hS3⟩ := hSw; go_simp; try with_reducible rfl)
          try simp only [Act.put, List.setIfInBounds_toArray, List.set_cons_zero, List.set_cons_succ]
          refine wpAnyT_take (i := 4) (oi := { dst := some 64, op := Op.call { callee := Callee.builtin Builtin.len, args := #[Operand.tmp 63], argTypes := #[23] }, type := 3, pos := "ref.go:758", after := #[{ on := 3, ground := Ground.data }], guard := none }) (v := ?v5) rfl (by kernel_rfl) (by kernel_rfl) (by kernel_rfl) (by kernel_rfl) (by kernel_rfl) (fun _ _ _ h => h) (Or.inl ⟨by rfl, ?hy5⟩) (by assumption) ?rest5
          case hy5 => (intro w hSw; (try dsimp only at hSw); obtain ⟨hS1, hS2, hS3⟩ := hSw; go_simp; try with_reducible rfl)
          try simp only [Act.put, List.setIfInBounds_toArray, List.set_cons_zero, List.set_cons_succ]
          refine wpAnyT_take (i := 5) (oi := { dst := some 65, op := Op.move (Operand.tmp 4), type := 116, pos := "ref.go:758", after := #[], guard := none }) (v := ?v6) rfl (by kernel_rfl) (by kernel_rfl) (by kernel_rfl) (by kernel_rfl) (by kernel_rfl) (fun _ _ _ h => h) (Or.inl ⟨by rfl, ?hy6⟩) (by assumption) ?rest6
          case hy6 => (intro w hSw; (try dsimp only at hSw); obtain ⟨hS1, hS2, hS3⟩ := hSw; go_simp; try with_reducible rfl)
          try simp only [Act.put, List.setIfInBounds_toArray, List.set_cons_zero, List.set_cons_succ]
          refine wpAnyT_take (i := 9) (oi := { dst := some 69, op := Op.move (Operand.tmp 11), type := 52, pos := "ref.go:758", after := #[], guard := none }) (v := ?v7) rfl (by kernel_rfl) (by kernel_rfl) (by kernel_rfl) (by kernel_rfl) (by kernel_rfl) (fun _ _ _ h => h) (Or.inl ⟨by rfl, ?hy7⟩) (by assumption) ?rest7
          case hy7 => (intro w hSw; (try dsimp only at hSw); obtain ⟨hS1, hS2, hS3⟩ := hSw; go_simp; try with_reducible rfl)
          try simp only [Act.put, List.setIfInBounds_toArray, List.set_cons_zero, List.set_cons_succ]
          refine wpAnyT_ready (rs := [6]) (by kernel_rfl) (by simp) ?_
          refine AllReadyT.cons (o := { dst := some 66, op := Op.nilCheck (Operand.tmp 65), type := 0, pos := "ref.go:758", after := #[{ on := 5, ground := Ground.data }], guard := none }) rfl (fun K hK => ?_) AllReadyT.nil
          go_simp
          refine hK.out _ _ hHeld ?_
          clear hK K
          try simp only [Act.put, List.setIfInBounds_toArray, List.set_cons_zero, List.set_cons_succ]
          refine wpAnyT_take (i := 7) (oi := { dst := some 67, op := Op.fieldAddr 118 (Operand.tmp 66) 2, type := 0, pos := "ref.go:758", after := #[{ on := 6, ground := Ground.data }], guard := none }) (v := ?v8) rfl (by kernel_rfl) (by kernel_rfl) (by kernel_rfl) (by kernel_rfl) (by kernel_rfl) (fun _ _ _ h => h) (Or.inl ⟨by rfl, ?hy8⟩) (by assumption) ?rest8
          case hy8 => (intro w hSw; (try dsimp only at hSw); obtain ⟨hS1, hS2, hS3⟩ := hSw; go_simp; try with_reducible rfl)
          try simp only [Act.put, List.setIfInBounds_toArray, List.set_cons_zero, List.set_cons_succ]
          refine wpAnyT_take (i := 8) (oi := { dst := some 68, op := Op.load 3 (Operand.tmp 67), type := 3, pos := "ref.go:758", after := #[{ on := 7, ground := Ground.data }], guard := none }) (v := ?v9) rfl (by kernel_rfl) (by kernel_rfl) (by kernel_rfl) (by kernel_rfl) (by kernel_rfl) (fun _ _ _ h => h) (Or.inl ⟨by rfl, ?hy9⟩) (by assumption) ?rest9
          case hy9 => (intro w hSw; (try dsimp only at hSw); obtain ⟨hS1, hS2, hS3⟩ := hSw; go_simp; try with_reducible rfl)
          try simp only [Act.put, List.setIfInBounds_toArray, List.set_cons_zero, List.set_cons_succ]
          refine wpAnyT_take (i := 10) (oi := { dst := some 70, op := Op.build 54 #[(0, Operand.tmp 64), (1, Operand.tmp 68), (2, Operand.tmp 69)], type := 54, pos := "ref.go:758", after := #[{ on := 4, ground := Ground.data }, { on := 8, ground := Ground.data }, { on := 9, ground := Ground.data }], guard := none }) (v := ?v10) rfl (by kernel_rfl) (by kernel_rfl) (by kernel_rfl) (by kernel_rfl) (by kernel_rfl) (fun _ _ _ h => h) (Or.inl ⟨by rfl, ?hy10⟩) (by assumption) ?rest10
          case hy10 => (intro w hSw; (try dsimp only at hSw); obtain ⟨hS1, hS2, hS3⟩ := hSw; go_simp; try with_reducible rfl)
          try simp only [Act.put, List.setIfInBounds_toArray, List.set_cons_zero, List.set_cons_succ]
          refine wpAnyT_ready (rs := [11]) (by kernel_rfl) (by simp) ?_
          refine AllReadyT.cons (o := { dst := some 71, op := Op.buildSlice 22 1 #[(0, Operand.tmp 70)], type := 22, pos := "ref.go:758", after := #[{ on := 10, ground := Ground.data }], guard := none }) rfl (fun K hK => ?_) AllReadyT.nil
          go_simp
          refine hK.out _ _ (HS9.out _ HF10.out) ?_
          clear hK K
          try simp only [Act.put, List.setIfInBounds_toArray, List.set_cons_zero, List.set_cons_succ]
          refine wpAnyT_ready (rs := [12]) (by kernel_rfl) (by simp) ?_
          refine AllReadyT.cons (o := { dst := some 72, op := Op.call { callee := Callee.builtin Builtin.append, args := #[Operand.tmp 61, Operand.tmp 71], argTypes := #[22, 22] }, type := 22, pos := "ref.go:758", after := #[{ on := 1, ground := Ground.data }, { on := 11, ground := Ground.data }], guard := none }) rfl (fun K hK => ?_) AllReadyT.nil
          refine step_run rfl _ _ 22 rfl _ _ (by simp [Act.eval]) (by simp [Act.eval]) HRUN.out ?_
          refine hK.out _ _ HS11.out ?_
          clear hK K
          try simp only [Act.put, List.setIfInBounds_toArray, List.set_cons_zero, List.set_cons_succ]
          have x11 := HS11.out.1
          refine wpAnyT_take (i := 13) (oi := { dst := some 73, op := Op.fieldAddr 25 (Operand.tmp 5) 0, type := 0, pos := "ref.go:758", after := #[{ on := 0, ground := Ground.phase }, { on := 1, ground := Ground.phase }, { on := 2, ground := Ground.phase }, { on := 3, ground := Ground.phase }, { on := 4, ground := Ground.phase }, { on := 5, ground := Ground.phase }, { on := 6, ground := Ground.phase }, { on := 7, ground := Ground.phase }, { on := 8, ground := Ground.phase }, { on := 9, ground := Ground.phase }, { on := 10, ground := Ground.phase }, { on := 11, ground := Ground.phase }, { on := 12, ground := Ground.phase }], guard := none }) (v := ?v11) rfl (by kernel_rfl) (by kernel_rfl) (by kernel_rfl) (by kernel_rfl) (by kernel_rfl) (fun _ _ _ h => h) (Or.inl ⟨by rfl, ?hy11⟩) (by assumption) ?rest11
          case hy11 => (intro w hSw; (try dsimp only at hSw); obtain ⟨hS1, hS2, hS3⟩ := hSw; go_simp; try with_reducible rfl)
          try simp only [Act.put, List.setIfInBounds_toArray, List.set_cons_zero, List.set_cons_succ]
          refine wpAnyT_ready (rs := [14]) (by kernel_rfl) (by simp) ?_
          refine AllReadyT.last (o := { dst := none, op := Op.store 22 (Operand.tmp 73) (Operand.tmp 72), type := 0, pos := "ref.go:758", after := #[{ on := 13, ground := Ground.data }, { on := 12, ground := Ground.data }, { on := 12, ground := Ground.chain }, { on := 0, ground := Ground.phase }, { on := 1, ground := Ground.phase }, { on := 2, ground := Ground.phase }, { on := 3, ground := Ground.phase }, { on := 4, ground := Ground.phase }, { on := 5, ground := Ground.phase }, { on := 6, ground := Ground.phase }, { on := 7, ground := Ground.phase }, { on := 8, ground := Ground.phase }, { on := 9, ground := Ground.phase }, { on := 10, ground := Ground.phase }, { on := 11, ground := Ground.phase }, { on := 12, ground := Ground.phase }], guard := none }) rfl (by kernel_rfl) (fun K hK => ?_) AllReadyT.nil
          go_simp
          refine hK.out _ _ ?_
          clear hK K
          try simp only [Act.put, List.setIfInBounds_toArray, List.set_cons_zero, List.set_cons_succ]
          refine wpAny_done (by kernel_rfl) ?_ _
          clear HRUN HS11 HS9 HF10 x11 pz11 pl11 hHeld
          go_wp2_with fail
          go_roundw
          case rel => exact ⟨k + 1, by omega, by go_num, T2, _, _, _, (by have hz := HEND.out; rw [hcl] at hz; exact hz), HGO.out, by rw [List.length_append, hcl]; rfl, by show (stsK (gOf l) f.b (parE f.p 0 (fun _ => 0)) f.p.length ws 0).ws.length + _ ≤ _; omega⟩
          case measure => simp [intOf]; omega
    · have hke : k = l.length := by omega
      obtain ⟨T, v, cs, ws, hI, hEq, hcl, hNk⟩ := hR.out
      rw [hke, List.drop_length, makeK] at hEq
      obtain ⟨⟨ca, cn, cc⟩, rsc, r1, r2, r3, r4⟩ := hI.rows
      obtain ⟨⟨wa, wn, wc⟩, u1, u2, u3⟩ := hI.ri.row
      have z0 := hI.r 0
      have z1 := hI.r 1
      have zf0 := hI.rz 0
      have zf1 := hI.rz 1
      have zl := hI.rl
      have p0 := hI.p1
      have pz0 := hI.pz 0
      have pz1 := hI.pz 1
      have pl := hI.pl
      have ml := hI.ri.ml
      have hrp := hI.n.2.2
      have hne : ¬ pb = rb := fun e => hrp e.symm
      replace r1 : wr.cell? ⟨pb, 0, none⟩ = some (.slice ca cn cc) := r1
      replace u1 : wr.cell? ⟨c.mb, 1, none⟩ = some (.slice wa wn wc) := u1
      obtain ⟨e1, e2, hf1⟩ := set_one wr pb 1 (.slice wa wn wc) p0
      obtain ⟨w9, hw9, g0, g1, hF9⟩ := set2 (w := wr.setCell ⟨pb, 1, none⟩ (.slice wa wn wc)) (b := rb) (.slice ca cn cc) (.slice wa wn wc) ((hf1.cell (p := ⟨rb, 0, none⟩) zl (fun e => hrp e)).trans z0) ((hf1.cell (p := ⟨rb, 1, none⟩) zl (fun e => hrp e)).trans z1)
      have HF : Hid (Fr (fun k => k = pb ∨ k = rb) wr w9) := (hf1.mono (fun _ _ e => .inl e)).trans (hF9.mono (fun _ _ e => .inr e))
      have hpg : PgOk w9 ⟨ca, cn, cc⟩ ⟨wa, wn, wc⟩ ⟨cs, ws⟩ := by
        have hF := HF.out
        have nsc : ∀ k, (Slc.v ⟨ca, cn, cc⟩).ownBlock = some k → ¬ (k = pb ∨ k = rb) := by
          rintro k hk (e | e)
          · exact (r4 k hk).2.1 e
          · exact (r4 k hk).2.2 e
        have nsw : ∀ k, (Slc.v ⟨wa, wn, wc⟩).ownBlock = some k → ¬ (k = pb ∨ k = rb) := by
          rintro k hk (e | e)
          · exact hI.tp (e ▸ (u3 k hk).1)
          · exact hI.tr (e ▸ (u3 k hk).1)
        refine ⟨⟨rsc, sl_of_owns encC_len (by rw [r3.1]; exact owns_fr r2 hF nsc), r3.1, fun i r x h1 h2 => cd_stays _ _ _ _ _ _ _ (r3.2 i r x h1 h2) hF ?_ (fun k hk => Nat.lt_of_lt_of_le hk.1 hF.size)⟩, sl_of_owns encN_len (owns_fr u2 hF nsw), fun b hb => Nat.lt_of_lt_of_le (r2.lt b hb).2 hF.size, fun b hb => Nat.lt_of_lt_of_le (u2.lt b hb).2 hF.size⟩
        rintro k hk (e | e)
        · exact hk.2.2.1 e
        · exact hk.2.2.2.1 e
      have HPG := hide hpg
      have HFk := hide hI.f
      have HN := hide hI.n
      have HEND := hide hEq
      clear hR hI r2 r3 r4 u2 u3 hEq hcl hNk hke e1 e2 hf1 hF9 hpg
      go_wp2_with fail
      rw [← hw9]
      clear hw9
      exact bodyPost_ret (v := .tuple #[.agg #[.slice ca cn cc, .slice wa wn wc], .int .i64 0]) (by simp [results, Tryd.results29, go_sem, g0, g1]) rfl ⟨⟨ca, cn, cc⟩, ⟨wa, wn, wc⟩, by rw [HEND.out], HFk.out.then HF.out (fun k hk e => by have := HN.out; omega), by rw [HEND.out]; exact HPG.out⟩
end Go.Proofs.YtpemfikdmkmgbaaDoor
end
section
/- The document's own answer: code of any statements; Make of any functions. -/
set_option maxHeartbeats 0
set_option maxRecDepth 100000
namespace Go.Proofs.YtpemfikdmkmgbaaDoor
open Go Go.RowKit
theorem rsts_any' (fs : List Fn) : ∀ (n : Nat) (l : List St), stsN l ≤ n → RSts fs l
  | 0, l, hn => rstmts_step fs l fun k t a x y h => by have := stN_mem h; have := stN_pos (St.mk k t a x y); omega
  | n + 1, l, hn => rstmts_step fs l fun k t a x y h => by
    have h1 := stN_mem h
    rw [stN] at h1
    exact ⟨rsts_any' fs n x (by omega), rsts_any' fs n y (by omega)⟩
theorem rsts_any (fs : List Fn) (l : List St) : RSts fs l := rsts_any' fs _ l (Nat.le_refl _)
theorem rmake (l : List Fn) (s : Slc) (rs : List RawF) (w : World) (hS : Sl encG 3 w s.v rs) (hE : Each (FnOk w (fun k => k < w.heap.size)) rs l) (hsb : ∀ b, s.v.ownBlock = some b → b < w.heap.size) (hM : ∀ f ∈ l, FnR l f) (hN : fnsN l ≤ 50000) (h5 : l.length ≤ 5) :
    Calls Tryd.prog 29 #[.slice s.a s.n s.c] w (MkP w (progK l)) := rmake_any l (rsts_any l) s rs w hS hE hsb hM hN h5
end Go.Proofs.YtpemfikdmkmgbaaDoor
end
