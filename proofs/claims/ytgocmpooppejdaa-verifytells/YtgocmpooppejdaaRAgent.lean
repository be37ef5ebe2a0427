/- The document's own answer: what is wrong with an agent. -/
import Derived.Test.YtgocmpooppejdaaRProg
import Derived.Test.YtgocmpooppejdaaRAg0
import Derived.Test.YtgocmpooppejdaaFAgent
import Derived.Test.YtgocmpooppejdaaFKeep
set_option maxHeartbeats 0
set_option maxRecDepth 100000
namespace Go.Proofs.Ytgocmpooppejdaa
open Go Go.RowKit
theorem ragent_any (a : Ag) (sc sw sf sh : Slc) (away : Bool) (w : World) (hA : AgOk w sc sw sf sh a) (hW : WfA a) :
    Calls Try.prog 7 #[.agg (agC a sc sw sf sh), .bool away] w fun e w' => e = .returned (.int .i64 (agentC a away)) ∧ Fr nothing w w' := by
  obtain ⟨rs, hrs, hea⟩ := hA.fr
  obtain ⟨n1, m1⟩ := sl_len hrs
  obtain ⟨n2, m2⟩ := sl_len hA.hp
  rw [hea.1] at n1 m1
  have ncs : sc.n = a.pg.cs.length := by
    obtain ⟨rc, hrc, hec⟩ := hA.pg.cs
    rw [(sl_len hrc).1, hec.1]
  obtain ⟨sca, scn, scc⟩ := sc
  obtain ⟨sfa, sfn, sfc⟩ := sf
  obtain ⟨sha, shn, shc⟩ := sh
  simp only at n1 n2 ncs
  subst n1 n2 ncs
  have hl := hW.l
  have hFA : Fr nothing w (w.alloc (.cells (agC a ⟨sca, a.pg.cs.length, scc⟩ sw ⟨sfa, a.fr.length, sfc⟩ ⟨sha, a.hp.length, shc⟩) 31)) := (Fr.refl _ _).alloc _
  have ma := made_cells (Fr.refl nothing (w.alloc (.cells (agC a ⟨sca, a.pg.cs.length, scc⟩ sw ⟨sfa, a.fr.length, sfc⟩ ⟨sha, a.hp.length, shc⟩) 31))) id
  obtain ⟨w1, hw1⟩ : ∃ x, x = w.alloc (.cells (agC a ⟨sca, a.pg.cs.length, scc⟩ sw ⟨sfa, a.fr.length, sfc⟩ ⟨sha, a.hp.length, shc⟩) 31) := ⟨_, rfl⟩
  rw [← hw1] at hFA ma
  obtain ⟨ab, hab⟩ : ∃ x, x = w.heap.size := ⟨_, rfl⟩
  have HCC : Hid (∀ w', Fr nothing w1 w' → (w'.cell? ⟨ab, 0, none⟩ = some (.int .i64 a.id) ∧ w'.cell? ⟨ab, 1, none⟩ = some (.int .i64 a.trip) ∧ w'.cell? ⟨ab, 2, none⟩ = some (.slice sca a.pg.cs.length scc) ∧ w'.cell? ⟨ab, 3, none⟩ = some (.slice sw.a sw.n sw.c) ∧ w'.cell? ⟨ab, 4, none⟩ = some (.slice sfa a.fr.length sfc)) ∧ (w'.cell? ⟨ab, 5, none⟩ = some (.slice sha a.hp.length shc) ∧ w'.cell? ⟨ab, 6, none⟩ = some (.int .i64 a.fuel) ∧ w'.cell? ⟨ab, 7, none⟩ = some (.int .i64 a.cells) ∧ w'.cell? ⟨ab, 8, none⟩ = some (.int .i64 a.hops)) ∧ ab < w'.heap.size) := by
    rw [hab]
    intro w' hf
    have hc : ∀ j, w'.cell? ⟨w.heap.size, j, none⟩ = w1.cell? ⟨w.heap.size, j, none⟩ := fun j => hf.cell (p := ⟨w.heap.size, j, none⟩) ma.2.2 id
    exact ⟨⟨(hc 0).trans (ma.1 0), (hc 1).trans (ma.1 1), (hc 2).trans (ma.1 2), (hc 3).trans (ma.1 3), (hc 4).trans (ma.1 4)⟩, ⟨(hc 5).trans (ma.1 5), (hc 6).trans (ma.1 6), (hc 7).trans (ma.1 7), (hc 8).trans (ma.1 8)⟩, Nat.lt_of_lt_of_le ma.2.2 hf.size⟩
  have HA1 := hide (hA.fr' hFA)
  have HRS := hide (hrs.fr hFA (fun _ _ => id))
  have HEA : Hid (Each (FmOk w1) rs a.fr) := ⟨hea.1, fun i r x e1 e2 => (hea.2 i r x e1 e2).fr hFA⟩
  have HF1 := hide hFA
  have HW := hide hW
  have HPR := hide (rprogram_any a.pg ⟨sca, a.pg.cs.length, scc⟩ sw w1 HA1.out.pg hW.pg)
  have hd : agentC a away = if programC a.pg ≠ 0 then programC a.pg else if countsC a ≠ 0 then countsC a else if firstN (frameE a away) a.fr.length 0 ≠ 0 then firstN (frameE a away) a.fr.length 0 else firstE (cellC a.hp.length) a.hp := rfl
  obtain ⟨R, hR⟩ : ∃ R, agentC a away = R := ⟨_, rfl⟩
  rw [hR] at hd ⊢
  have hfin := @fine_of a.pg
  obtain ⟨pe, hpe⟩ : ∃ x, programC a.pg = x := ⟨_, rfl⟩
  rw [hpe] at hd HPR hfin
  have a0 := ma.1 0
  have a1 := ma.1 1
  have a2 := ma.1 2
  have a3 := ma.1 3
  have a6 := ma.1 6
  have a7 := ma.1 7
  have a8 := ma.1 8
  have al := ma.2.2
  have e1' := hw1.symm
  have HAB := hide hab
  clear hrs hea hA hFA ma hW hR hw1
  by_cases h0 : pe = 0
  case neg =>
    rw [if_pos h0] at hd
    subst hd
    have h0b : (R != 0) = true := by simpa using h0
    go_enter Try.func7, Try.ntmps7
    go_wp2_with (go_at_call 4; refine HPR.out.mono ?_; rintro e w2 ⟨rfl, hf2⟩; have HF2 := hide (HF1.out.trans hf2); clear hf2)
    go_ret
    exact ⟨rfl, HF2.out⟩
  rw [if_neg (by simpa using h0)] at hd
  have HFI := hide (hfin h0)
  subst h0
  have HDD := hide hd
  have HPE := hide hpe
  clear hd hfin hpe
  go_enter Try.func7, Try.ntmps7
  go_wp2_with (go_at_call 4; refine HPR.out.mono ?_; rintro e w2 ⟨rfl, hf2⟩; obtain ⟨⟨x0, x1, x2, x3, x4⟩, ⟨x5, x6, x7, x8⟩, xl⟩ := HCC.out w2 hf2; rw [hab] at x0 x1 x2 x3 x4 x5 x6 x7 x8 xl; have HF2 := hide hf2; have HROW := hide ((Own.lit (enc := encP) (T := 62) (base := 0) w2 #[.int .i64 a.id, .int .i64 1073741824, .int .i64 a.trip, .int .i64 1073741824, .int .i64 a.fuel, .int .i64 2000, .int .i64 a.cells, .int .i64 60, .int .i64 a.hops, .int .i64 12] (rowsL a) rfl encP_len (Nat.zero_le _) (by unfold maxLen; simp [rowsL])).sl encP_len); clear hf2)
  rw [← hab]
  obtain ⟨rb, hrb⟩ : ∃ x, x = w2.heap.size := ⟨_, rfl⟩
  rw [← hrb] at HROW
  rw [← hrb]
  obtain ⟨w3, hw3⟩ : ∃ x, x = w2.alloc (.cells #[.int .i64 a.id, .int .i64 1073741824, .int .i64 a.trip, .int .i64 1073741824, .int .i64 a.fuel, .int .i64 2000, .int .i64 a.cells, .int .i64 60, .int .i64 a.hops, .int .i64 12] 62) := ⟨_, rfl⟩
  rw [← hw3] at HROW
  rw [← hw3]
  have HF3 : Hid (Fr nothing w1 w3) := by rw [hw3]; exact HF2.out.alloc _
  clear a0 a1 a2 a3 a6 a7 a8 al e1' x0 x1 x2 x3 x4 x5 x6 x7 x8 xl hab HPR hw3 hrb HF2
  have HRF := hide (rows_fit HW.out)
  go_loopw [50, 7] (fun i _ wv => ∃ (j : Nat), j ≤ 5 ∧ i = .int .i64 j ∧ Hid (Fr nothing w3 wv ∧ ∀ p ∈ (rowsL a).take j, ¬ rowBad p)) (fun i _ _ => 5 - (intOf i).toNat)
  case atStart => exact ⟨0, Nat.zero_le _, rfl, Fr.refl _ _, fun p hp => by simp at hp⟩
  case round =>
    obtain ⟨j, hj, rfl, hRj⟩ := hrel
    obtain ⟨hfj, hgj⟩ := hRj.out
    by_cases hjl : j < 5
    · have hx : (rowsL a)[j]? = some ((rowsL a)[j]'hjl) := List.getElem?_eq_getElem _
      have hxm : (rowsL a)[j]'hjl ∈ rowsL a := List.getElem_mem _
      have htk : (rowsL a).take (j + 1) = (rowsL a).take j ++ [(rowsL a)[j]'hjl] := List.take_succ_eq_append_getElem hjl
      generalize (rowsL a)[j]'hjl = p at hx hxm htk
      obtain ⟨g, o, e1, dg, u0, u1⟩ := sl_elemP (s := ⟨some ⟨rb, 0, none⟩, 5, 5⟩) HROW.out hx
      simp only [Option.some.injEq, Addr.mk.injEq, and_true] at e1
      obtain ⟨rfl, rfl⟩ := e1
      have dg' := Nat.lt_of_lt_of_le dg hfj.size
      rw [← hfj.cell (p := ⟨rb, _, none⟩) dg id] at u0 u1
      simp only [Nat.zero_add] at u0 u1
      have hpf := HRF.out p hxm
      have HBD : Hid (rowBad p → R = 3) := fun hb => by
        have hc := counts_bad hxm hb
        have hd := HDD.out
        rw [hc, if_pos (by decide)] at hd
        exact hd
      obtain ⟨x, m⟩ := p
      simp only at u0 u1 hpf
      obtain ⟨⟨f1, f2⟩, f3, f4⟩ := hpf
      have HFN : Hid (Fr nothing w3 (wr.alloc (.cells #[.int .i64 x, .int .i64 m] 62))) := hfj.alloc _
      have HGJ := hide hgj
      have HTK := hide htk
      clear hRj hfj hgj hx hxm htk
      by_cases b1 : x < 0
      · have hR3 := HBD.out (.inl b1)
        subst hR3
        go_wp2_with fail
        go_ret
        exact ⟨rfl, HF1.out.trans (HF3.out.trans HFN.out)⟩
      by_cases b2 : m < x
      · have hR3 := HBD.out (.inr b2)
        subst hR3
        go_wp2_with fail
        go_ret
        exact ⟨rfl, HF1.out.trans (HF3.out.trans HFN.out)⟩
      have HN : Hid (∀ p ∈ (rowsL a).take (j + 1), ¬ rowBad p) := fun p hp => by
        rw [HTK.out] at hp
        rcases List.mem_append.1 hp with hp | hp
        · exact HGJ.out p hp
        · rw [List.mem_singleton.1 hp]
          rintro (h | h)
          · exact b1 h
          · exact b2 h
      go_wp2_with fail
      go_roundw
      case rel => exact ⟨j + 1, by omega, by go_num, HFN.out, HN.out⟩
      case measure => simp [intOf]; omega
    · have hcr := counts_rest (a := a) (fun p hp => hgj p (by rw [List.take_of_length_le (show (rowsL a).length ≤ j by show 5 ≤ j; omega)]; exact hp))
      have hok := hgj (a.cells, 60) (by rw [List.take_of_length_le (show (rowsL a).length ≤ j by show 5 ≤ j; omega)]; simp [rowsL])
      have hcells : 0 ≤ a.cells ∧ a.cells ≤ 60 := by unfold rowBad at hok; simp only at hok; omega
      have hd := HDD.out
      rw [hcr] at hd
      obtain ⟨⟨-, -, i2, i3, i4⟩, ⟨i5, -, i7, -⟩, il⟩ := HCC.out _ (HF3.out.trans hfj)
      have HF4 : Hid (Fr nothing w1 wr) := HF3.out.trans hfj
      obtain ⟨w4, hw4⟩ : ∃ x, x = wr := ⟨_, rfl⟩
      subst hw4
      clear hRj hfj hgj hcr hok HDD HRF HROW HF3
      by_cases c1 : a.fr.length = 0
      · have hrc : restC a = 5 := by unfold restC; rw [if_pos (.inl c1)]
        rw [hrc, if_pos (by decide)] at hd
        subst hd
        rw [c1] at i4
        go_wp2_with fail
        go_ret
        exact ⟨rfl, HF1.out.trans HF4.out⟩
      have c1b : ((a.fr.length : Int) == 0) = false := beq_eq_false_iff_ne.2 (by omega)
      by_cases c2 : 12 < a.fr.length
      · have hrc : restC a = 5 := by unfold restC; rw [if_pos (.inr c2)]
        rw [hrc, if_pos (by decide)] at hd
        subst hd
        go_wp2_with fail
        go_ret
        exact ⟨rfl, HF1.out.trans HF4.out⟩
      by_cases c3 : 60 < a.hp.length + a.cells
      · have hrc : restC a = 4 := by unfold restC; rw [if_neg (by omega), if_pos c3]
        rw [hrc, if_pos (by decide)] at hd
        subst hd
        go_wp2_with fail
        go_ret
        exact ⟨rfl, HF1.out.trans HF4.out⟩
      have hrc : restC a = 0 := by unfold restC; rw [if_neg (by omega), if_neg c3]
      rw [hrc, if_neg (by simp)] at hd
      have HDD := hide hd
      clear hrc
      clear hd
      go_wp2_with fail
      clear i2 i3 i4 i5 i7 il
      go_loopw [86, 8, 9, 10, 11, 12, 13, 14, 15, 16, 18, 19] (fun i _ _ _ _ _ _ _ _ _ _ _ wv => ∃ (k : Nat), k ≤ a.fr.length ∧ i = .int .i64 k ∧ Hid (Fr nothing w4 wv ∧ firstN (frameE a away) (a.fr.length - k) k = firstN (frameE a away) a.fr.length 0)) (fun i _ _ _ _ _ _ _ _ _ _ _ _ => a.fr.length - (intOf i).toNat)
      case atStart => exact ⟨0, Nat.zero_le _, rfl, Fr.refl _ _, rfl⟩
      case round =>
        obtain ⟨k, hk, rfl, hRk⟩ := hrel
        obtain ⟨hfk, hek⟩ := hRk.out
        by_cases hkl : k < a.fr.length
        · have hx : a.fr[k]? = some a.fr[k] := List.getElem?_eq_getElem hkl
          have hxm : a.fr[k] ∈ a.fr := List.getElem_mem hkl
          have hgd : a.fr.getD k fm0 = a.fr[k] := by simp [List.getD, hx]
          have hst := firstN_step (f := frameE a away) hkl
          have hfE := frameE_app a away k hgd
          rw [hek] at hst
          have hra : rs[k]? = some (rs[k]'(by rw [HEA.out.1]; exact hkl)) := List.getElem?_eq_getElem _
          generalize a.fr[k] = f at hx hxm hgd hfE
          generalize rs[k]'(by rw [HEA.out.1]; exact hkl) = r at hra
          have hwm := HW.out.fr f hxm
          have hok := HEA.out.2 k r f hra hx
          obtain ⟨g, o, e1, dg, u0, u1, u2, u3⟩ := sl_elemM (s := ⟨sfa, a.fr.length, sfc⟩) HRS.out hra
          simp only at e1
          subst e1
          obtain ⟨k0, k1, k2, k3⟩ := hok
          obtain ⟨nv, mv⟩ := sl_len k2
          obtain ⟨ns, ms⟩ := sl_len k3
          obtain ⟨rfn, rat, ⟨va, vn, vc⟩, ⟨sa, sn, sc'⟩⟩ := r
          simp only at k0 k1 nv ns u0 u1 u2 u3
          subst k0 k1 nv ns
          have hF4 := HF4.out.trans hfk
          have HWR : Hid (Fr nothing w1 wr) := hF4
          have dg' := Nat.lt_of_lt_of_le dg hF4.size
          rw [← hF4.cell (p := ⟨g, _, none⟩) dg id] at u0 u1 u2 u3
          obtain ⟨⟨-, -, i2, i3, i4⟩, -, il⟩ := HCC.out _ hF4
          have hB : ∀ e : Int, frameE a away k = e → e ≠ 0 → R = e := fun e he hne => by
            rw [he, if_pos hne] at hst
            have := HDD.out
            rw [hst, if_pos hne] at this
            exact this
          have HB : Hid (∀ e : Int, frameC a.pg f (waitC a k away) = e → e ≠ 0 → R = e) := fun e he hne => hB e (by rw [hfE, he, if_pos hne]) hne
          have HV : Hid (∀ e : Int, frameC a.pg f (waitC a k away) = 0 → firstE (wrongV a.hp.length) (f.vars ++ f.stack) = e → e ≠ 0 → R = e) := fun e h0 he hne => hB e (by rw [hfE, h0, if_neg (by simp), he]) hne
          have HN : Hid (frameC a.pg f (waitC a k away) = 0 → firstE (wrongV a.hp.length) (f.vars ++ f.stack) = 0 → firstN (frameE a away) (a.fr.length - (k + 1)) (k + 1) = firstN (frameE a away) a.fr.length 0) := fun h0 he => by
            have he' : frameE a away k = 0 := by rw [hfE, h0, if_neg (by simp), he]
            rw [he', if_neg (by simp)] at hst
            exact hst.symm
          have HWM := hide hwm
          have HK2 := hide k2
          have HK3 := hide k3
          have hFB : Fr nothing wr (wr.alloc (.cells #[.int .i64 f.fn, .int .i64 f.at_, .slice va f.vars.length vc, .slice sa f.stack.length sc'] 55)) := (Fr.refl _ _).alloc _
          have mb := made_cells (Fr.refl nothing (wr.alloc (.cells #[.int .i64 f.fn, .int .i64 f.at_, .slice va f.vars.length vc, .slice sa f.stack.length sc'] 55))) id
          have HF5 : Hid (Fr nothing w1 (wr.alloc (.cells #[.int .i64 f.fn, .int .i64 f.at_, .slice va f.vars.length vc, .slice sa f.stack.length sc'] 55))) := hF4.trans hFB
          have HF45 : Hid (Fr nothing w4 (wr.alloc (.cells #[.int .i64 f.fn, .int .i64 f.at_, .slice va f.vars.length vc, .slice sa f.stack.length sc'] 55))) := hfk.trans hFB
          have HMB := hide mb
          have hfx := hwm.fn
          have hax := hwm.at_
          clear hRk hfk hek hxm hst hfE hra hwm hF4 hFB mb k2 k3 hB
          by_cases b1 : f.fn < 0
          · as_aux_lemma =>
              have hR := HB.out 3 (by rw [frameC_at _ _ _ rfl, if_pos (.inl b1)]) (by decide)
              subst hR
              go_wp2_with fail
              go_ret
              exact ⟨rfl, HF1.out.trans HF5.out⟩
          by_cases b2 : a.pg.cs.length ≤ f.fn
          · as_aux_lemma =>
              have hR := HB.out 3 (by rw [frameC_at _ _ _ rfl, if_pos (.inr b2)]) (by decide)
              subst hR
              go_wp2_with fail
              go_ret
              exact ⟨rfl, HF1.out.trans HF5.out⟩
          have hb2 : ¬ ((f.fn : Int) ≥ (a.pg.cs.length : Int)) := b2
          obtain ⟨m, hm⟩ : ∃ m : Nat, f.fn = m := ⟨f.fn.toNat, by omega⟩
          have hml : m < a.pg.cs.length := by omega
          obtain ⟨rc, hrc, hec⟩ := HA1.out.pg.cs
          have hxc : a.pg.cs[m]? = some a.pg.cs[m] := List.getElem?_eq_getElem hml
          have hrac : rc[m]? = some (rc[m]'(by rw [hec.1]; exact hml)) := List.getElem?_eq_getElem _
          have hcm : a.pg.cs[m] ∈ a.pg.cs := List.getElem_mem hml
          generalize a.pg.cs[m] = c at hxc hcm
          generalize rc[m]'(by rw [hec.1]; exact hml) = q at hrac
          obtain ⟨q1, q2, q3⟩ := hec.2 m q c hrac hxc
          obtain ⟨q4, q5⟩ := sl_len q3
          obtain ⟨gc, oc, e2, dgc, v0', v1, v2⟩ := sl_elemC (s := ⟨sca, a.pg.cs.length, scc⟩) hrc hrac
          obtain ⟨qnp, qnv, ⟨qa, qn, qc⟩⟩ := q
          simp only at q1 q2 q4 v0' v1 v2
          subst q1 q2 q4
          simp only at e2
          subst e2
          have hcd : a.pg.cs.getD f.fn.toNat cz0 = c := by rw [hm]; simp [List.getD_eq_getElem?_getD, hxc]
          have hFC := frameC_at a.pg f (waitC a k away) hcd
          rw [if_neg (by omega)] at hFC
          have HFC := hide hFC
          have dgc' := Nat.lt_of_lt_of_le dgc HWR.out.size
          rw [← HWR.out.cell (p := ⟨gc, _, none⟩) dgc id] at v0' v1 v2
          have HQ3 := hide q3
          rw [hm] at u0 HMB HF5 HF45
          have hcv : 0 ≤ c.nv ∧ c.nv ≤ 8 ∧ c.ins.length ≤ 200 ∧ c.ins.length ≠ 0 := by
            have h1 := HPE.out
            unfold programC at h1
            split at h1
            · rename_i hx; exact absurd h1 hx
            · rename_i hx
              have := (hed_zero (Classical.not_not.1 hx)).2.2.2.2.2 c hcm
              omega
          by_cases b3 : f.at_ < 0
          · as_aux_lemma =>
              have hR := HB.out 3 (by rw [HFC.out, if_pos (.inl b3)]) (by decide)
              subst hR
              go_wp2_with fail
              go_ret
              exact ⟨rfl, HF1.out.trans (HF5.out.alloc _)⟩
          by_cases b4 : c.ins.length ≤ f.at_
          · as_aux_lemma =>
              have hR := HB.out 3 (by rw [HFC.out, if_pos (.inr (.inl b4))]) (by decide)
              subst hR
              go_wp2_with fail
              go_ret
              exact ⟨rfl, HF1.out.trans (HF5.out.alloc _)⟩
          have b4' : ¬ ((f.at_ : Int) ≥ (c.ins.length : Int)) := b4
          by_cases b5 : (f.vars.length : Int) = c.nv
          case neg =>
            have hR := HB.out 3 (by rw [HFC.out, if_pos (.inr (.inr b5))]) (by decide)
            subst hR
            have b5b : ((f.vars.length : Int) != c.nv) = true := by simpa using b5
            go_wp2_with fail
            go_ret
            exact ⟨rfl, HF1.out.trans (HF5.out.alloc _)⟩
          -- THE THREE WAYS
          have b5b : ((f.vars.length : Int) != c.nv) = false := by simpa using b5
          rw [if_neg (fun e => e.elim b3 (fun e => e.elim b4 (fun e => e b5)))] at hFC
          generalize hqq : waitC a k away = q at hFC HB HV HN
          obtain ⟨-, hc0, hb17, ha13⟩ := prog_more HPE.out hcm
          have hw2 := HW.out.pg.c c hcm
          obtain ⟨p, hp⟩ : ∃ p : Nat, f.at_ = p := ⟨f.at_.toNat, by omega⟩
          have hpl : p < c.ins.length := by omega
          have hlen := heights_len hc0
          have hget : (heightsC c.ins).1[p]? = some (heightZ c p) := by
            have h1 : p < (heightsC c.ins).1.length := by rw [hlen]; exact hpl
            simp [heightZ, List.getD_eq_getElem?_getD, List.getElem?_eq_getElem h1]
          have hrng := heights_range c.ins _ (List.mem_of_getElem? hget)
          rw [hp] at hFC u1 HMB HF5 HF45
          simp only [Int.toNat_natCast] at hFC
          obtain ⟨n0, hn0⟩ : ∃ x, heightZ c p = x := ⟨_, rfl⟩
          simp only [hn0] at hFC
          rw [hn0] at hget hrng
          have HFC := hide hFC
          obtain ⟨w5, hw5⟩ : ∃ x, x = wr.alloc (.cells #[.int .i64 (m : Int), .int .i64 (p : Int), .slice va f.vars.length vc, .slice sa f.stack.length sc'] 55) := ⟨_, rfl⟩
          rw [← hw5] at HMB HF5 HF45
          obtain ⟨w6, hw6⟩ : ∃ x, x = w5.alloc (.cells #[.int .i64 c.np, .int .i64 c.nv, .slice qa c.ins.length qc] 37) := ⟨_, rfl⟩
          have hF56 : Fr nothing w5 w6 := by rw [hw6]; exact (Fr.refl _ _).alloc _
          have zc : w5.heap.size = wr.heap.size + 1 := by rw [hw5]; simp
          have HHT := hide (heights_any c.ins c.np c.nv ⟨qa, c.ins.length, qc⟩ w6 (HQ3.out.fr (HF5.out.trans hF56) (fun _ _ => id)) (by omega) hb17 (fun i hi => (hw2.2.2 i hi).op))
          unfold HtP at HHT
          have mc := made_cells (w := w5) (cs := #[.int .i64 c.np, .int .i64 c.nv, .slice qa c.ins.length qc]) (t := 37) (w1 := w6) (S := nothing) (by rw [← hw6]; exact Fr.refl _ _) id
          rw [zc] at mc
          obtain ⟨fb, hfb⟩ : ∃ x, x = wr.heap.size := ⟨_, rfl⟩
          have HCELL : Hid (∀ w', Fr nothing w6 w' →
              (w'.cell? ⟨wr.heap.size, 0, none⟩ = some (.int .i64 (m : Int)) ∧ w'.cell? ⟨wr.heap.size, 1, none⟩ = some (.int .i64 (p : Int)) ∧ w'.cell? ⟨wr.heap.size, 2, none⟩ = some (.slice va f.vars.length vc) ∧ w'.cell? ⟨wr.heap.size, 3, none⟩ = some (.slice sa f.stack.length sc')) ∧ w'.cell? ⟨wr.heap.size + 1, 2, none⟩ = some (.slice qa c.ins.length qc) ∧ wr.heap.size + 1 < w'.heap.size ∧ Fr nothing w1 w' ∧ Fr nothing w4 w') := fun w' hf => by
            have hb : ∀ j, w'.cell? ⟨wr.heap.size, j, none⟩ = _ := fun j => ((hF56.trans hf).cell (p := ⟨wr.heap.size, j, none⟩) HMB.out.2.2 id).trans (HMB.out.1 j)
            exact ⟨⟨(hb 0), (hb 1), (hb 2), (hb 3)⟩, (hf.cell (p := ⟨wr.heap.size + 1, 2, none⟩) mc.2.2 id).trans (mc.1 2), Nat.lt_of_lt_of_le mc.2.2 hf.size, (HF5.out.trans hF56).trans hf, (HF45.out.trans hF56).trans hf⟩
          have HC17 := hide (And.intro hc0 ha13)
          have HHG : Hid (∀ j : Nat, j < c.ins.length → (heightsC c.ins).1[j]? = some (heightZ c j)) := fun j hj => by
            have h1 : j < (heightsC c.ins).1.length := by rw [hlen]; exact hj
            simp [heightZ, List.getD_eq_getElem?_getD, List.getElem?_eq_getElem h1]
          have HLEN := hide hlen
          have HGET := hide hget
          clear hFC hw2 hb17 ha13 hc0 mc zc hF56 hn0 hlen hget
          subst hw6
          subst hw5
          by_cases hl1 : k + 1 = a.fr.length
          · cases away with
            | false =>
              as_aux_lemma =>
                have hlast : ((k : Int) == (a.fr.length : Int) - 1) = true := by simpa using (by omega : (k : Int) = (a.fr.length : Int) - 1)
                have hq : q = (0, 0) := by rw [← hqq, waitC_last a k false (by omega)]; rfl
                subst hq
                have HFC' : Hid (frameC a.pg f (0, 0) = if (f.stack.length : Int) ≠ n0 then 10 else 0) := by
                  have := HFC.out
                  simp only [ne_eq, not_true_eq_false, false_and, if_false, Int.sub_zero] at this
                  exact this
                clear HFC
                go_wp2_with (go_at_call 9; refine HHT.out.mono ?_; rintro e w7 ⟨hs, rfl, hf7, hsl7⟩; obtain ⟨⟨y0, y1, y2, y3⟩, y4, yl, -, -⟩ := HCELL.out w7 hf7; obtain ⟨nh, -⟩ := sl_len hsl7; obtain ⟨gh, oh, eh, dh, uh⟩ := sl_elemZ hsl7 HGET.out; obtain ⟨hsa, hsn, hsc⟩ := hs; simp only at nh eh; subst nh eh; rw [HLEN.out] at hsl7 ⊢; obtain ⟨⟨-, -, -, -, t4⟩, ⟨t5, -, -, -⟩, tl⟩ := HCC.out w7 (HCELL.out w7 hf7).2.2.2.1; have yl0 : wr.heap.size < w7.heap.size := Nat.lt_trans (Nat.lt_succ_self _) yl; have HF7 := hide hf7; have HSL := hide hsl7; clear hf7 hsl7)
                all_goals first
                  | (have hR : R = 10 := HB.out 10 (by rw [HFC'.out, if_pos (by first | exact leafA (by omega) (by assumption) | exact leafB (by omega) (by assumption))]) (by decide)
                     go_ret
                     exact ⟨by first | rfl | (rw [hR]; rfl), HF1.out.trans (HCELL.out _ HF7.out).2.2.2.1⟩)
                  | skip
                have n2 : n0 = (f.stack.length : Int) := leafC (by assumption)
                subst n2
                have HZ : Hid (frameC a.pg f (0, 0) = 0) := by have h := HFC'.out; rw [if_neg (by simp)] at h; exact h
                clear HFC'
                obtain ⟨⟨-, -, z2, z3⟩, -, zl, zf1, zf4⟩ := HCELL.out _ (HF7.out)
                obtain ⟨q1, w10, q2, w11, r1, r2, g9, g10, g11, ho⟩ := vals_two w7 ⟨va, f.vars.length, vc⟩ ⟨sa, f.stack.length, sc'⟩ f.vars f.stack (HK2.out.fr zf1 (fun _ _ => id)) (HK3.out.fr zf1 (fun _ _ => id)) (by omega) (by omega)
                have hSx : ∀ w', Fr nothing w7 w' → w'.cell? ⟨wr.heap.size, 2, none⟩ = some (.slice va f.vars.length vc) ∧ w'.cell? ⟨wr.heap.size, 3, none⟩ = some (.slice sa f.stack.length sc') := fun w' hf => by
                  have := (HCELL.out w' ((HF7.out).trans hf)).1
                  exact ⟨this.2.2.1, this.2.2.2⟩
                refine wp_region_held_drew (S := fun w' => w'.cell? ⟨wr.heap.size, 2, none⟩ = some (.slice va f.vars.length vc) ∧ w'.cell? ⟨wr.heap.size, 3, none⟩ = some (.slice sa f.stack.length sc')) (by kernel_rfl) ?_ (fun hHeld => ?_)
                · exact ⟨z2, z3⟩
                refine wpAnyH_take (i := 1) (oi := { dst := some 206, op := Op.fieldAddr 55 (Operand.tmp 9) 2, type := 0, pos := "ref.go:154", after := #[], guard := none }) (v := ?v1) rfl (by kernel_rfl) (by kernel_rfl) (by kernel_rfl) (fun _ _ _ h => h) (Or.inl ⟨by rfl, ?hy1⟩) (by assumption) ?rest1
                case hy1 => (intro w hSw; (try dsimp only at hSw); obtain ⟨s0, s1⟩ := hSw; go_simp; try with_reducible rfl)
                try simp only [Act.put, List.setIfInBounds_toArray, List.set_cons_zero, List.set_cons_succ]
                refine wpAnyH_take (i := 2) (oi := { dst := some 207, op := Op.load 49 (Operand.tmp 206), type := 49, pos := "ref.go:154", after := #[{ on := 1, ground := Ground.data }], guard := none }) (v := ?v2) rfl (by kernel_rfl) (by kernel_rfl) (by kernel_rfl) (fun _ _ _ h => h) (Or.inl ⟨by rfl, ?hy2⟩) (by assumption) ?rest2
                case hy2 => (intro w hSw; (try dsimp only at hSw); obtain ⟨s0, s1⟩ := hSw; go_simp; try with_reducible rfl)
                try simp only [Act.put, List.setIfInBounds_toArray, List.set_cons_zero, List.set_cons_succ]
                refine wpAnyH_take (i := 4) (oi := { dst := some 209, op := Op.fieldAddr 55 (Operand.tmp 9) 3, type := 0, pos := "ref.go:154", after := #[], guard := none }) (v := ?v3) rfl (by kernel_rfl) (by kernel_rfl) (by kernel_rfl) (fun _ _ _ h => h) (Or.inl ⟨by rfl, ?hy3⟩) (by assumption) ?rest3
                case hy3 => (intro w hSw; (try dsimp only at hSw); obtain ⟨s0, s1⟩ := hSw; go_simp; try with_reducible rfl)
                try simp only [Act.put, List.setIfInBounds_toArray, List.set_cons_zero, List.set_cons_succ]
                refine wpAnyH_take (i := 5) (oi := { dst := some 210, op := Op.load 49 (Operand.tmp 209), type := 49, pos := "ref.go:154", after := #[{ on := 4, ground := Ground.data }], guard := none }) (v := ?v4) rfl (by kernel_rfl) (by kernel_rfl) (by kernel_rfl) (fun _ _ _ h => h) (Or.inl ⟨by rfl, ?hy4⟩) (by assumption) ?rest4
                case hy4 => (intro w hSw; (try dsimp only at hSw); obtain ⟨s0, s1⟩ := hSw; go_simp; try with_reducible rfl)
                try simp only [Act.put, List.setIfInBounds_toArray, List.set_cons_zero, List.set_cons_succ]
                refine wpAnyH_take (i := 8) (oi := { dst := some 213, op := Op.move (Operand.const (Value.int IntKind.i64 0)), type := 3, pos := "ref.go:154", after := #[], guard := none }) (v := ?v5) rfl (by kernel_rfl) (by kernel_rfl) (by kernel_rfl) (fun _ _ _ h => h) (Or.inl ⟨by rfl, ?hy5⟩) (by assumption) ?rest5
                case hy5 => (intro w hSw; (try dsimp only at hSw); obtain ⟨s0, s1⟩ := hSw; go_simp; try with_reducible rfl)
                try simp only [Act.put, List.setIfInBounds_toArray, List.set_cons_zero, List.set_cons_succ]
                refine wpAnyH_ready (rs := [0]) (by kernel_rfl) (by simp) ?_
                refine AllReadyH.cons (o := { dst := some 205, op := Op.buildSlice 49 0 #[], type := 49, pos := "ref.go:154", after := #[], guard := none }) rfl (fun K hK => ?_) AllReadyH.nil
                go_simp
                refine hK _ _ (hSx _ g9) (fun _ => ?_)
                clear hK K hHeld
                try simp only [Act.put, List.setIfInBounds_toArray, List.set_cons_zero, List.set_cons_succ]
                have hHeld := hSx _ g9
                refine wpAnyH_ready (rs := [3]) (by kernel_rfl) (by simp) ?_
                refine AllReadyH.cons (o := { dst := some 208, op := Op.call { callee := Callee.builtin Builtin.append, args := #[Operand.tmp 205, Operand.tmp 207], argTypes := #[49, 49] }, type := 49, pos := "ref.go:154", after := #[{ on := 0, ground := Ground.data }, { on := 2, ground := Ground.data }], guard := none }) rfl (fun K hK => ?_) AllReadyH.nil
                refine step_run rfl _ _ 49 rfl _ _ (by simp [Act.eval]) (by simp [Act.eval]) r1 ?_
                refine hK _ _ (hSx _ g10) (fun _ => ?_)
                clear hK K hHeld
                try simp only [Act.put, List.setIfInBounds_toArray, List.set_cons_zero, List.set_cons_succ]
                have hHeld := hSx _ g10
                refine wpAnyH_ready (rs := [6]) (by kernel_rfl) (by simp) ?_
                refine AllReadyH.cons (o := { dst := some 211, op := Op.call { callee := Callee.builtin Builtin.append, args := #[Operand.tmp 208, Operand.tmp 210], argTypes := #[49, 49] }, type := 49, pos := "ref.go:154", after := #[{ on := 3, ground := Ground.data }, { on := 5, ground := Ground.data }, { on := 3, ground := Ground.chain }], guard := none }) rfl (fun K hK => ?_) AllReadyH.nil
                refine step_run rfl _ _ 49 rfl _ _ (by simp [Act.eval]) (by simp [Act.eval]) r2 ?_
                refine hK _ _ (hSx _ g11) (fun _ => ?_)
                clear hK K hHeld
                try simp only [Act.put, List.setIfInBounds_toArray, List.set_cons_zero, List.set_cons_succ]
                have hHeld := hSx _ g11
                refine wpAnyH_take (i := 7) (oi := { dst := some 212, op := Op.call { callee := Callee.builtin Builtin.len, args := #[Operand.tmp 211], argTypes := #[49] }, type := 3, pos := "ref.go:154", after := #[{ on := 6, ground := Ground.data }], guard := none }) (v := ?v6) rfl (by kernel_rfl) (by kernel_rfl) (by kernel_rfl) (fun _ _ _ h => h) (Or.inl ⟨by rfl, ?hy6⟩) (by assumption) ?rest6
                case hy6 => (intro w hSw; (try dsimp only at hSw); skip; go_simp; try with_reducible rfl)
                try simp only [Act.put, List.setIfInBounds_toArray, List.set_cons_zero, List.set_cons_succ]
                refine wpAnyH_done (by kernel_rfl) ?_ _
                have HF11 := hide ((HF7.out).trans g11)
                have HO := hide (ho.sl encV_len)
                obtain ⟨q2n, -⟩ := sl_len HO.out
                obtain ⟨q2a, q2n', q2c⟩ := q2
                simp only at q2n
                subst q2n
                clear hHeld hSx r1 r2 g9 g10 g11 ho z2 z3 zl zf1 zf4
                have HWL : Hid (∀ v ∈ f.vars ++ f.stack, WfV v) := fun v hv => by
                  rcases List.mem_append.1 hv with hv | hv
                  · exact HWM.out.v v hv
                  · exact HWM.out.s v hv
                have hLl : (f.vars ++ f.stack).length ≤ 100 := by rw [List.length_append]; omega
                generalize f.vars ++ f.stack = L at HO HWL HV HN hLl
                go_wp2_with fail
                go_loopw [213, 18, 19] (fun i _ _ wv => ∃ (v : Nat), v ≤ L.length ∧ i = .int .i64 v ∧ Hid (Fr nothing w11 wv ∧ firstE (wrongV a.hp.length) (L.drop v) = firstE (wrongV a.hp.length) L)) (fun i _ _ _ => L.length - (intOf i).toNat)
                case atStart => exact ⟨0, Nat.zero_le _, rfl, Fr.refl _ _, rfl⟩
                case round =>
                 as_aux_lemma =>
                  obtain ⟨v, hv, rfl, hRv⟩ := hrel
                  obtain ⟨hfv, hev⟩ := hRv.out
                  have hFv := (HCELL.out _ (HF11.out.trans hfv)).2.2.2.1
                  have HFv4 := hide (HCELL.out _ (HF11.out.trans hfv)).2.2.2.2
                  by_cases hvl : v < L.length
                  · have hx : L[v]? = some L[v] := List.getElem?_eq_getElem hvl
                    have hxm : L[v] ∈ L := List.getElem_mem hvl
                    have hst := firstE_drop (wrongV a.hp.length) L hx
                    rw [hev] at hst
                    generalize L[v] = x at hx hxm hst
                    have hwx := HWL.out x hxm
                    obtain ⟨gv, ov, ev, dv, a0, a1, a2⟩ := sl_elemV (s := ⟨q2a, L.length, q2c⟩) HO.out hx
                    simp only at ev
                    subst ev
                    have dv' := Nat.lt_of_lt_of_le dv hfv.size
                    rw [← hfv.cell (p := ⟨gv, _, none⟩) dv id] at a0 a1 a2
                    obtain ⟨-, ⟨i5, -, -, -⟩, il⟩ := HCC.out _ hFv
                    have hFn : Fr nothing wr (wr.alloc (.cells #[.int .i64 x.k, .int .i64 x.n, .string (bs x.t)] 51)) := (Fr.refl _ _).alloc _
                    have HWR := hide (rwrong_any x a.hp.length (wr.alloc (.cells #[.int .i64 x.k, .int .i64 x.n, .string (bs x.t)] 51)) hwx.t)
                    have HFn := hide hFn
                    have HST := hide hst
                    have HFV := hide hFv
                    have HFV2 := hide hfv
                    clear hRv hfv hev hFv hx hxm hst hwx hFn
                    by_cases h1 : wrongV a.hp.length x = 0
                    · have HE : Hid (firstE (wrongV a.hp.length) (L.drop (v + 1)) = firstE (wrongV a.hp.length) L) := by
                        have := HST.out
                        rw [if_neg (by simpa using h1)] at this
                        exact this.symm
                      rw [h1] at HWR
                      go_wp2_with (go_at_call 17; refine HWR.out.mono ?_; rintro e w12 ⟨rfl, hf12⟩; have HF12 := hide (HFV2.out.trans (HFn.out.trans hf12)); clear hf12)
                      go_roundw
                      case rel => exact ⟨v + 1, by omega, by go_num, HF12.out, HE.out⟩
                      case measure => simp [intOf]; omega
                    · have hR : R = wrongV a.hp.length x := HV.out _ HZ.out (by have := HST.out; rw [if_pos h1] at this; exact this) h1
                      generalize wrongV a.hp.length x = er at hR h1 HWR
                      have h1b : (er != 0) = true := by simpa using h1
                      go_wp2_with (go_at_call 17; refine HWR.out.mono ?_; rintro e w12 ⟨rfl, hf12⟩; have HF12 := hide (HFV.out.trans (HFn.out.trans hf12)); clear hf12)
                      go_ret
                      exact ⟨by first | rfl | (rw [hR]; rfl), HF1.out.trans HF12.out⟩
                  · have HE : Hid (firstN (frameE a false) (a.fr.length - (k + 1)) (k + 1) = firstN (frameE a false) a.fr.length 0) := HN.out HZ.out (by rw [← hev]; exact firstE_end _ _ (by omega))
                    clear hRv hfv hev hFv
                    go_wp2_with fail
                    go_roundw
                    case rel => exact ⟨k + 1, by omega, by go_num, HFv4.out, HE.out⟩
                    case measure => simp [intOf]; omega

            | true =>
              as_aux_lemma =>
                have hlast : ((k : Int) == (a.fr.length : Int) - 1) = true := by simpa using (by omega : (k : Int) = (a.fr.length : Int) - 1)
                have hq : q = (13, 0) := by rw [← hqq, waitC_last a k true (by omega)]; rfl
                subst hq
                by_cases hp0 : p = 0
                · as_aux_lemma =>
                    obtain rfl : p = 0 := by omega
                    have hR : R = 10 := HB.out 10 (by have h := HFC.out; rw [if_pos ⟨by simp, .inl rfl⟩] at h; exact h) (by decide)
                    have u1z : wr.cell? ⟨g, o + k * 4 + 1, none⟩ = some (.int .i64 0) := u1
                    clear u1
                    go_wp2_with (go_at_call 9; refine HHT.out.mono ?_; rintro e w7 ⟨hs, rfl, hf7, hsl7⟩; obtain ⟨⟨y0, y1, y2, y3⟩, y4, yl, -, -⟩ := HCELL.out w7 hf7; obtain ⟨nh, -⟩ := sl_len hsl7; obtain ⟨gh, oh, eh, dh, uh⟩ := sl_elemZ hsl7 HGET.out; obtain ⟨hsa, hsn, hsc⟩ := hs; simp only at nh eh; subst nh eh; rw [HLEN.out] at hsl7 ⊢; obtain ⟨⟨-, -, -, -, t4⟩, ⟨t5, -, -, -⟩, tl⟩ := HCC.out w7 (HCELL.out w7 hf7).2.2.2.1; have yl0 : wr.heap.size < w7.heap.size := Nat.lt_trans (Nat.lt_succ_self _) yl; simp only [Nat.add_zero] at uh; have HF7 := hide hf7; have HSL := hide hsl7; clear hf7 hsl7)
                    all_goals
                      go_ret
                      exact ⟨by first | rfl | (rw [hR]; rfl), HF1.out.trans (HCELL.out _ HF7.out).2.2.2.1⟩
                obtain ⟨p', rfl⟩ : ∃ p', p = p' + 1 := ⟨p - 1, by omega⟩
                have hpi : p' < c.ins.length := by omega
                have hpm : ((p' + 1 : Nat) : Int) - 1 = (p' : Int) := by omega
                have hgi : c.ins[p']? = some c.ins[p'] := List.getElem?_eq_getElem hpi
                have hgdi : c.ins.getD p' in0 = c.ins[p'] := by simp [List.getD_eq_getElem?_getD, hgi]
                have him : c.ins[p'] ∈ c.ins := List.getElem_mem hpi
                generalize c.ins[p'] = it at hgi hgdi him
                obtain ⟨iga, ioa, ei, di, v0i, v1i, v2i⟩ := sl_elemI (s := ⟨qa, c.ins.length, qc⟩) HQ3.out hgi
                simp only at ei
                subst ei
                have h13 := HC17.out.2 it him
                obtain ⟨iop, ia, ib⟩ := it
                simp only at v0i v1i v2i h13
                have HI7 : Hid (∀ w', Fr nothing w1 w' → w'.cell? ⟨iga, ioa + p' * 3, none⟩ = some (.int .i64 iop) ∧ w'.cell? ⟨iga, ioa + p' * 3 + 1, none⟩ = some (.int .i64 ia) ∧ w'.cell? ⟨iga, ioa + p' * 3 + 2, none⟩ = some (.int .i64 ib) ∧ iga < w'.heap.size) := fun w' hf =>
                  ⟨(hf.cell (p := ⟨iga, _, none⟩) di id).trans v0i, (hf.cell (p := ⟨iga, _, none⟩) di id).trans v1i, (hf.cell (p := ⟨iga, _, none⟩) di id).trans v2i, Nat.lt_of_lt_of_le di hf.size⟩
                have hgh := HHG.out p' hpi
                have hrh := heights_range c.ins _ (List.mem_of_getElem? hgh)
                obtain ⟨n1, hn1⟩ : ∃ x, heightZ c p' = x := ⟨_, rfl⟩
                rw [hn1] at hgh hrh
                have hFC' := HFC.out
                simp only [Nat.add_sub_cancel, hgdi, hn1] at hFC'
                have HGH := hide hgh
                clear HFC v0i v1i v2i di hgi hgdi hn1 hgh him
                have HFC' : Hid (frameC a.pg f (13, 0) = if n1 = -1 ∨ iop ≠ 13 ∨ ia ≠ 0 then 10 else if (f.stack.length : Int) ≠ n0 - 1 then 10 else 0) := by
                  have h : ¬ (((p' + 1 : Nat) : Int) = 0) := by omega
                  simp only [ne_eq, h, false_or, true_and, not_false_eq_true, if_true, (by decide : ¬ (13 : Int) = 0)] at hFC'
                  exact hFC'
                clear hFC'
                have HW8 : Hid (∀ w7, Fr nothing w7 (w7.alloc (.cells #[.int .i64 iop, .int .i64 ia, .int .i64 ib] 44))) := fun w7 => (Fr.refl _ _).alloc _
                go_wp2_with (go_at_call 9; refine HHT.out.mono ?_; rintro e w7 ⟨hs, rfl, hf7, hsl7⟩; obtain ⟨⟨y0, y1, y2, y3⟩, y4, yl, -, -⟩ := HCELL.out w7 hf7; obtain ⟨nh, -⟩ := sl_len hsl7; obtain ⟨gh, oh, eh, dh, uh⟩ := sl_elemZ hsl7 HGET.out; obtain ⟨gh2, oh2, eh2, dh2, uh2⟩ := sl_elemZ hsl7 HGH.out; obtain ⟨hsa, hsn, hsc⟩ := hs; simp only at nh eh eh2; subst nh eh; simp only [Option.some.injEq, Addr.mk.injEq, and_true] at eh2; obtain ⟨rfl, rfl⟩ := eh2; obtain ⟨vi0, vi1, vi2, vil⟩ := HI7.out w7 (HCELL.out w7 hf7).2.2.2.1; rw [HLEN.out] at hsl7 ⊢; obtain ⟨⟨-, -, -, -, t4⟩, ⟨t5, -, -, -⟩, tl⟩ := HCC.out w7 (HCELL.out w7 hf7).2.2.2.1; have yl0 : wr.heap.size < w7.heap.size := Nat.lt_trans (Nat.lt_succ_self _) yl; have HF7 := hide hf7; have HSL := hide hsl7; clear hf7 hsl7)
                all_goals first
                  | (have hR : R = 10 := HB.out 10 (by rw [HFC'.out]; first | exact if_pos (.inl (by omega)) | exact if_pos (.inr (.inl (by simpa using ‹(!iop == 13) = true›))) | (split <;> first | rfl | exact if_pos (by first | exact leafA (by omega) (by omega) | exact leafB (by omega) (by assumption)))) (by decide)
                     go_ret
                     exact ⟨by first | rfl | (rw [hR]; rfl), HF1.out.trans (HCELL.out _ (HF7.out.trans (HW8.out _))).2.2.2.1⟩)
                  | skip
                have n2 : n0 - 1 = (f.stack.length : Int) := leafC (by assumption)
                have hop : iop = 13 := by simpa using ‹(!iop == 13) = false›
                have HZ : Hid (frameC a.pg f (13, 0) = 0) := by
                  have h := HFC'.out
                  rw [if_neg (fun e => e.elim (by omega) (fun e => e.elim (fun e => e hop) (fun e => e (h13 hop)))), if_neg (by omega)] at h
                  exact h
                clear HFC'
                have hia := h13 hop
                subst hop
                subst hia
                obtain ⟨⟨-, -, z2, z3⟩, -, zl, zf1, zf4⟩ := HCELL.out _ (HF7.out.trans ((Fr.refl _ _).alloc _))
                obtain ⟨q1, w10, q2, w11, r1, r2, g9, g10, g11, ho⟩ := vals_two (w7.alloc (.cells #[.int .i64 13, .int .i64 0, .int .i64 ib] 44)) ⟨va, f.vars.length, vc⟩ ⟨sa, f.stack.length, sc'⟩ f.vars f.stack (HK2.out.fr zf1 (fun _ _ => id)) (HK3.out.fr zf1 (fun _ _ => id)) (by omega) (by omega)
                rw [show (w7.alloc (.cells #[.int .i64 13, .int .i64 0, .int .i64 ib] 44)).heap.size = w7.heap.size + 1 by simp] at r1
                have hSx : ∀ w', Fr nothing (w7.alloc (.cells #[.int .i64 13, .int .i64 0, .int .i64 ib] 44)) w' → w'.cell? ⟨wr.heap.size, 2, none⟩ = some (.slice va f.vars.length vc) ∧ w'.cell? ⟨wr.heap.size, 3, none⟩ = some (.slice sa f.stack.length sc') := fun w' hf => by
                  have := (HCELL.out w' ((HF7.out.trans ((Fr.refl _ _).alloc _)).trans hf)).1
                  exact ⟨this.2.2.1, this.2.2.2⟩
                refine wp_region_held_drew (S := fun w' => w'.cell? ⟨wr.heap.size, 2, none⟩ = some (.slice va f.vars.length vc) ∧ w'.cell? ⟨wr.heap.size, 3, none⟩ = some (.slice sa f.stack.length sc')) (by kernel_rfl) ?_ (fun hHeld => ?_)
                · exact ⟨z2, z3⟩
                refine wpAnyH_take (i := 1) (oi := { dst := some 206, op := Op.fieldAddr 55 (Operand.tmp 9) 2, type := 0, pos := "ref.go:154", after := #[], guard := none }) (v := ?v7) rfl (by kernel_rfl) (by kernel_rfl) (by kernel_rfl) (fun _ _ _ h => h) (Or.inl ⟨by rfl, ?hy7⟩) (by assumption) ?rest7
                case hy7 => (intro w hSw; (try dsimp only at hSw); obtain ⟨s0, s1⟩ := hSw; go_simp; try with_reducible rfl)
                try simp only [Act.put, List.setIfInBounds_toArray, List.set_cons_zero, List.set_cons_succ]
                refine wpAnyH_take (i := 2) (oi := { dst := some 207, op := Op.load 49 (Operand.tmp 206), type := 49, pos := "ref.go:154", after := #[{ on := 1, ground := Ground.data }], guard := none }) (v := ?v8) rfl (by kernel_rfl) (by kernel_rfl) (by kernel_rfl) (fun _ _ _ h => h) (Or.inl ⟨by rfl, ?hy8⟩) (by assumption) ?rest8
                case hy8 => (intro w hSw; (try dsimp only at hSw); obtain ⟨s0, s1⟩ := hSw; go_simp; try with_reducible rfl)
                try simp only [Act.put, List.setIfInBounds_toArray, List.set_cons_zero, List.set_cons_succ]
                refine wpAnyH_take (i := 4) (oi := { dst := some 209, op := Op.fieldAddr 55 (Operand.tmp 9) 3, type := 0, pos := "ref.go:154", after := #[], guard := none }) (v := ?v9) rfl (by kernel_rfl) (by kernel_rfl) (by kernel_rfl) (fun _ _ _ h => h) (Or.inl ⟨by rfl, ?hy9⟩) (by assumption) ?rest9
                case hy9 => (intro w hSw; (try dsimp only at hSw); obtain ⟨s0, s1⟩ := hSw; go_simp; try with_reducible rfl)
                try simp only [Act.put, List.setIfInBounds_toArray, List.set_cons_zero, List.set_cons_succ]
                refine wpAnyH_take (i := 5) (oi := { dst := some 210, op := Op.load 49 (Operand.tmp 209), type := 49, pos := "ref.go:154", after := #[{ on := 4, ground := Ground.data }], guard := none }) (v := ?v10) rfl (by kernel_rfl) (by kernel_rfl) (by kernel_rfl) (fun _ _ _ h => h) (Or.inl ⟨by rfl, ?hy10⟩) (by assumption) ?rest10
                case hy10 => (intro w hSw; (try dsimp only at hSw); obtain ⟨s0, s1⟩ := hSw; go_simp; try with_reducible rfl)
                try simp only [Act.put, List.setIfInBounds_toArray, List.set_cons_zero, List.set_cons_succ]
                refine wpAnyH_take (i := 8) (oi := { dst := some 213, op := Op.move (Operand.const (Value.int IntKind.i64 0)), type := 3, pos := "ref.go:154", after := #[], guard := none }) (v := ?v11) rfl (by kernel_rfl) (by kernel_rfl) (by kernel_rfl) (fun _ _ _ h => h) (Or.inl ⟨by rfl, ?hy11⟩) (by assumption) ?rest11
                case hy11 => (intro w hSw; (try dsimp only at hSw); obtain ⟨s0, s1⟩ := hSw; go_simp; try with_reducible rfl)
                try simp only [Act.put, List.setIfInBounds_toArray, List.set_cons_zero, List.set_cons_succ]
                refine wpAnyH_ready (rs := [0]) (by kernel_rfl) (by simp) ?_
                refine AllReadyH.cons (o := { dst := some 205, op := Op.buildSlice 49 0 #[], type := 49, pos := "ref.go:154", after := #[], guard := none }) rfl (fun K hK => ?_) AllReadyH.nil
                go_simp
                refine hK _ _ (hSx _ g9) (fun _ => ?_)
                clear hK K hHeld
                try simp only [Act.put, List.setIfInBounds_toArray, List.set_cons_zero, List.set_cons_succ]
                have hHeld := hSx _ g9
                refine wpAnyH_ready (rs := [3]) (by kernel_rfl) (by simp) ?_
                refine AllReadyH.cons (o := { dst := some 208, op := Op.call { callee := Callee.builtin Builtin.append, args := #[Operand.tmp 205, Operand.tmp 207], argTypes := #[49, 49] }, type := 49, pos := "ref.go:154", after := #[{ on := 0, ground := Ground.data }, { on := 2, ground := Ground.data }], guard := none }) rfl (fun K hK => ?_) AllReadyH.nil
                refine step_run rfl _ _ 49 rfl _ _ (by simp [Act.eval]) (by simp [Act.eval]) r1 ?_
                refine hK _ _ (hSx _ g10) (fun _ => ?_)
                clear hK K hHeld
                try simp only [Act.put, List.setIfInBounds_toArray, List.set_cons_zero, List.set_cons_succ]
                have hHeld := hSx _ g10
                refine wpAnyH_ready (rs := [6]) (by kernel_rfl) (by simp) ?_
                refine AllReadyH.cons (o := { dst := some 211, op := Op.call { callee := Callee.builtin Builtin.append, args := #[Operand.tmp 208, Operand.tmp 210], argTypes := #[49, 49] }, type := 49, pos := "ref.go:154", after := #[{ on := 3, ground := Ground.data }, { on := 5, ground := Ground.data }, { on := 3, ground := Ground.chain }], guard := none }) rfl (fun K hK => ?_) AllReadyH.nil
                refine step_run rfl _ _ 49 rfl _ _ (by simp [Act.eval]) (by simp [Act.eval]) r2 ?_
                refine hK _ _ (hSx _ g11) (fun _ => ?_)
                clear hK K hHeld
                try simp only [Act.put, List.setIfInBounds_toArray, List.set_cons_zero, List.set_cons_succ]
                have hHeld := hSx _ g11
                refine wpAnyH_take (i := 7) (oi := { dst := some 212, op := Op.call { callee := Callee.builtin Builtin.len, args := #[Operand.tmp 211], argTypes := #[49] }, type := 3, pos := "ref.go:154", after := #[{ on := 6, ground := Ground.data }], guard := none }) (v := ?v12) rfl (by kernel_rfl) (by kernel_rfl) (by kernel_rfl) (fun _ _ _ h => h) (Or.inl ⟨by rfl, ?hy12⟩) (by assumption) ?rest12
                case hy12 => (intro w hSw; (try dsimp only at hSw); skip; go_simp; try with_reducible rfl)
                try simp only [Act.put, List.setIfInBounds_toArray, List.set_cons_zero, List.set_cons_succ]
                refine wpAnyH_done (by kernel_rfl) ?_ _
                have HF11 := hide ((HF7.out.trans ((Fr.refl _ _).alloc _)).trans g11)
                have HO := hide (ho.sl encV_len)
                obtain ⟨q2n, -⟩ := sl_len HO.out
                obtain ⟨q2a, q2n', q2c⟩ := q2
                simp only at q2n
                subst q2n
                clear hHeld hSx r1 r2 g9 g10 g11 ho z2 z3 zl zf1 zf4
                have HWL : Hid (∀ v ∈ f.vars ++ f.stack, WfV v) := fun v hv => by
                  rcases List.mem_append.1 hv with hv | hv
                  · exact HWM.out.v v hv
                  · exact HWM.out.s v hv
                have hLl : (f.vars ++ f.stack).length ≤ 100 := by rw [List.length_append]; omega
                generalize f.vars ++ f.stack = L at HO HWL HV HN hLl
                go_wp2_with fail
                go_loopw [213, 18, 19] (fun i _ _ wv => ∃ (v : Nat), v ≤ L.length ∧ i = .int .i64 v ∧ Hid (Fr nothing w11 wv ∧ firstE (wrongV a.hp.length) (L.drop v) = firstE (wrongV a.hp.length) L)) (fun i _ _ _ => L.length - (intOf i).toNat)
                case atStart => exact ⟨0, Nat.zero_le _, rfl, Fr.refl _ _, rfl⟩
                case round =>
                 as_aux_lemma =>
                  obtain ⟨v, hv, rfl, hRv⟩ := hrel
                  obtain ⟨hfv, hev⟩ := hRv.out
                  have hFv := (HCELL.out _ (HF11.out.trans hfv)).2.2.2.1
                  have HFv4 := hide (HCELL.out _ (HF11.out.trans hfv)).2.2.2.2
                  by_cases hvl : v < L.length
                  · have hx : L[v]? = some L[v] := List.getElem?_eq_getElem hvl
                    have hxm : L[v] ∈ L := List.getElem_mem hvl
                    have hst := firstE_drop (wrongV a.hp.length) L hx
                    rw [hev] at hst
                    generalize L[v] = x at hx hxm hst
                    have hwx := HWL.out x hxm
                    obtain ⟨gv, ov, ev, dv, a0, a1, a2⟩ := sl_elemV (s := ⟨q2a, L.length, q2c⟩) HO.out hx
                    simp only at ev
                    subst ev
                    have dv' := Nat.lt_of_lt_of_le dv hfv.size
                    rw [← hfv.cell (p := ⟨gv, _, none⟩) dv id] at a0 a1 a2
                    obtain ⟨-, ⟨i5, -, -, -⟩, il⟩ := HCC.out _ hFv
                    have hFn : Fr nothing wr (wr.alloc (.cells #[.int .i64 x.k, .int .i64 x.n, .string (bs x.t)] 51)) := (Fr.refl _ _).alloc _
                    have HWR := hide (rwrong_any x a.hp.length (wr.alloc (.cells #[.int .i64 x.k, .int .i64 x.n, .string (bs x.t)] 51)) hwx.t)
                    have HFn := hide hFn
                    have HST := hide hst
                    have HFV := hide hFv
                    have HFV2 := hide hfv
                    clear hRv hfv hev hFv hx hxm hst hwx hFn
                    by_cases h1 : wrongV a.hp.length x = 0
                    · have HE : Hid (firstE (wrongV a.hp.length) (L.drop (v + 1)) = firstE (wrongV a.hp.length) L) := by
                        have := HST.out
                        rw [if_neg (by simpa using h1)] at this
                        exact this.symm
                      rw [h1] at HWR
                      go_wp2_with (go_at_call 17; refine HWR.out.mono ?_; rintro e w12 ⟨rfl, hf12⟩; have HF12 := hide (HFV2.out.trans (HFn.out.trans hf12)); clear hf12)
                      go_roundw
                      case rel => exact ⟨v + 1, by omega, by go_num, HF12.out, HE.out⟩
                      case measure => simp [intOf]; omega
                    · have hR : R = wrongV a.hp.length x := HV.out _ HZ.out (by have := HST.out; rw [if_pos h1] at this; exact this) h1
                      generalize wrongV a.hp.length x = er at hR h1 HWR
                      have h1b : (er != 0) = true := by simpa using h1
                      go_wp2_with (go_at_call 17; refine HWR.out.mono ?_; rintro e w12 ⟨rfl, hf12⟩; have HF12 := hide (HFV.out.trans (HFn.out.trans hf12)); clear hf12)
                      go_ret
                      exact ⟨by first | rfl | (rw [hR]; rfl), HF1.out.trans HF12.out⟩
                  · have HE : Hid (firstN (frameE a true) (a.fr.length - (k + 1)) (k + 1) = firstN (frameE a true) a.fr.length 0) := HN.out HZ.out (by rw [← hev]; exact firstE_end _ _ (by omega))
                    clear hRv hfv hev hFv
                    go_wp2_with fail
                    go_roundw
                    case rel => exact ⟨k + 1, by omega, by go_num, HFv4.out, HE.out⟩
                    case measure => simp [intOf]; omega

          · as_aux_lemma =>
              have hlt2 : k + 1 < a.fr.length := by omega
              have hlast : ((k : Int) == (a.fr.length : Int) - 1) = false := by simpa using (by omega : ¬ (k : Int) = (a.fr.length : Int) - 1)
              have hx2 : a.fr[k + 1]? = some a.fr[k + 1] := List.getElem?_eq_getElem hlt2
              have hra2 : rs[k + 1]? = some (rs[k + 1]'(by rw [HEA.out.1]; exact hlt2)) := List.getElem?_eq_getElem _
              have hwm2 := HW.out.fr _ (List.getElem_mem hlt2)
              generalize a.fr[k + 1] = f2 at hx2 hwm2
              generalize rs[k + 1]'(by rw [HEA.out.1]; exact hlt2) = r2 at hra2
              have hok2 := (HEA.out.2 (k + 1) r2 f2 hra2 hx2).fn
              have hq : q = (17, f2.fn) := by rw [← hqq, waitC_next a k away hx2]
              subst hq
              obtain ⟨g', o', e', d', y0', -, -, -⟩ := sl_elemM (s := ⟨some ⟨g, o, none⟩, a.fr.length, sfc⟩) HRS.out hra2
              simp only [Option.some.injEq, Addr.mk.injEq, and_true] at e'
              obtain ⟨rfl, rfl⟩ := e'
              rw [hok2] at y0'
              have HN2 : Hid (∀ w', Fr nothing w1 w' → w'.cell? ⟨g, o + (k + 1) * 4, none⟩ = some (.int .i64 f2.fn) ∧ g < w'.heap.size) := fun w' hf => ⟨(hf.cell (p := ⟨g, _, none⟩) d' id).trans y0', Nat.lt_of_lt_of_le d' hf.size⟩
              have hf2x := hwm2.fn
              clear hx2 hra2 hwm2 hok2 y0' d'
              by_cases hp0 : p = 0
              · as_aux_lemma =>
                  obtain rfl : p = 0 := by omega
                  have hR : R = 10 := HB.out 10 (by have h := HFC.out; rw [if_pos ⟨by simp, .inl rfl⟩] at h; exact h) (by decide)
                  have u1z : wr.cell? ⟨g, o + k * 4 + 1, none⟩ = some (.int .i64 0) := u1
                  clear u1
                  go_wp2_with (go_at_call 9; refine HHT.out.mono ?_; rintro e w7 ⟨hs, rfl, hf7, hsl7⟩; obtain ⟨⟨y0, y1, y2, y3⟩, y4, yl, -, -⟩ := HCELL.out w7 hf7; obtain ⟨nh, -⟩ := sl_len hsl7; obtain ⟨gh, oh, eh, dh, uh⟩ := sl_elemZ hsl7 HGET.out; obtain ⟨hsa, hsn, hsc⟩ := hs; simp only at nh eh; subst nh eh; rw [HLEN.out] at hsl7 ⊢; obtain ⟨⟨-, -, -, -, t4⟩, ⟨t5, -, -, -⟩, tl⟩ := HCC.out w7 (HCELL.out w7 hf7).2.2.2.1; have yl0 : wr.heap.size < w7.heap.size := Nat.lt_trans (Nat.lt_succ_self _) yl; simp only [Nat.add_zero] at uh; have HF7 := hide hf7; have HSL := hide hsl7; clear hf7 hsl7)
                  all_goals
                    go_ret
                    exact ⟨by first | rfl | (rw [hR]; rfl), HF1.out.trans (HCELL.out _ HF7.out).2.2.2.1⟩
              obtain ⟨p', rfl⟩ : ∃ p', p = p' + 1 := ⟨p - 1, by omega⟩
              have hpi : p' < c.ins.length := by omega
              have hpm : ((p' + 1 : Nat) : Int) - 1 = (p' : Int) := by omega
              have hgi : c.ins[p']? = some c.ins[p'] := List.getElem?_eq_getElem hpi
              have hgdi : c.ins.getD p' in0 = c.ins[p'] := by simp [List.getD_eq_getElem?_getD, hgi]
              have him : c.ins[p'] ∈ c.ins := List.getElem_mem hpi
              generalize c.ins[p'] = it at hgi hgdi him
              obtain ⟨iga, ioa, ei, di, v0i, v1i, v2i⟩ := sl_elemI (s := ⟨qa, c.ins.length, qc⟩) HQ3.out hgi
              simp only at ei
              subst ei
              have h13 := HC17.out.2 it him
              obtain ⟨iop, ia, ib⟩ := it
              simp only at v0i v1i v2i h13
              have HI7 : Hid (∀ w', Fr nothing w1 w' → w'.cell? ⟨iga, ioa + p' * 3, none⟩ = some (.int .i64 iop) ∧ w'.cell? ⟨iga, ioa + p' * 3 + 1, none⟩ = some (.int .i64 ia) ∧ w'.cell? ⟨iga, ioa + p' * 3 + 2, none⟩ = some (.int .i64 ib) ∧ iga < w'.heap.size) := fun w' hf =>
                ⟨(hf.cell (p := ⟨iga, _, none⟩) di id).trans v0i, (hf.cell (p := ⟨iga, _, none⟩) di id).trans v1i, (hf.cell (p := ⟨iga, _, none⟩) di id).trans v2i, Nat.lt_of_lt_of_le di hf.size⟩
              have hgh := HHG.out p' hpi
              have hrh := heights_range c.ins _ (List.mem_of_getElem? hgh)
              obtain ⟨n1, hn1⟩ : ∃ x, heightZ c p' = x := ⟨_, rfl⟩
              rw [hn1] at hgh hrh
              have hFC' := HFC.out
              simp only [Nat.add_sub_cancel, hgdi, hn1] at hFC'
              have HGH := hide hgh
              clear HFC v0i v1i v2i di hgi hgdi hn1 hgh him
              have HFC' : Hid (frameC a.pg f (17, f2.fn) = if n1 = -1 ∨ iop ≠ 17 ∨ ia ≠ f2.fn then 10 else if (f.stack.length : Int) ≠ n0 - 1 then 10 else 0) := by
                have h : ¬ (((p' + 1 : Nat) : Int) = 0) := by omega
                simp only [ne_eq, h, false_or, true_and, not_false_eq_true, if_true, (by decide : ¬ (17 : Int) = 0)] at hFC'
                exact hFC'
              clear hFC'
              go_wp2_with (go_at_call 9; refine HHT.out.mono ?_; rintro e w7 ⟨hs, rfl, hf7, hsl7⟩; obtain ⟨⟨y0, y1, y2, y3⟩, y4, yl, -, -⟩ := HCELL.out w7 hf7; obtain ⟨nh, -⟩ := sl_len hsl7; obtain ⟨gh, oh, eh, dh, uh⟩ := sl_elemZ hsl7 HGET.out; obtain ⟨gh2, oh2, eh2, dh2, uh2⟩ := sl_elemZ hsl7 HGH.out; obtain ⟨hsa, hsn, hsc⟩ := hs; simp only at nh eh eh2; subst nh eh; simp only [Option.some.injEq, Addr.mk.injEq, and_true] at eh2; obtain ⟨rfl, rfl⟩ := eh2; obtain ⟨vi0, vi1, vi2, vil⟩ := HI7.out w7 (HCELL.out w7 hf7).2.2.2.1; rw [HLEN.out] at hsl7 ⊢; obtain ⟨⟨-, -, -, -, t4⟩, ⟨t5, -, -, -⟩, tl⟩ := HCC.out w7 (HCELL.out w7 hf7).2.2.2.1; have yl0 : wr.heap.size < w7.heap.size := Nat.lt_trans (Nat.lt_succ_self _) yl; have HF7 := hide hf7; have HSL := hide hsl7; clear hf7 hsl7)
              have mI := made_cells (Fr.refl nothing (w7.alloc (.cells #[.int .i64 iop, .int .i64 ia, .int .i64 ib] 44))) id
              have HMI := hide mI
              clear mI
              have HW8 : Hid (Fr nothing w7 (w7.alloc (.cells #[.int .i64 iop, .int .i64 ia, .int .i64 ib] 44)).drew) := ((Fr.refl _ _).alloc _).drew
              by_cases s1 : 0 ≤ n1
              case neg =>
               as_aux_lemma =>
                have d1 : decide (0 ≤ n1) = false := decide_eq_false s1
                simp only [d1]
                refine wp_region_held_drew (S := fun _ => True) (by kernel_rfl) trivial (fun hHeld => ?_)
                refine wpAnyH_take (i := 0) (oi := { dst := some 176, op := Op.move (Operand.tmp 16), type := 4, pos := "ref.go:145", after := #[], guard := none }) (v := ?v13) rfl (by kernel_rfl) (by kernel_rfl) (by kernel_rfl) (fun _ _ _ h => h) (Or.inl ⟨by rfl, ?hy13⟩) (by assumption) ?rest13
                case hy13 => (intro w hSw; (try dsimp only at hSw); skip; go_simp; try with_reducible rfl)
                try simp only [Act.put, List.setIfInBounds_toArray, List.set_cons_zero, List.set_cons_succ]
                refine wpAnyH_take (i := 1) (oi := { dst := some 177, op := Op.move (Operand.tmp 176), type := 4, pos := "ref.go:145", after := #[{ on := 0, ground := Ground.data }], guard := none }) (v := ?v14) rfl (by kernel_rfl) (by kernel_rfl) (by kernel_rfl) (fun _ _ _ h => h) (Or.inl ⟨by rfl, ?hy14⟩) (by assumption) ?rest14
                case hy14 => (intro w hSw; (try dsimp only at hSw); skip; go_simp; try with_reducible rfl)
                try simp only [Act.put, List.setIfInBounds_toArray, List.set_cons_zero, List.set_cons_succ]
                refine wpAnyH_take (i := 2) (oi := { dst := some 178, op := Op.fieldAddr 44 (Operand.tmp 15) 0, type := 0, pos := "ref.go:145", after := #[{ on := 1, ground := Ground.guard }], guard := some (1, true) }) (v := undef) rfl (by kernel_rfl) (by kernel_rfl) (by kernel_rfl) (fun _ _ _ h => h) (Or.inr ⟨by rfl, rfl⟩) (by assumption) ?_
                try simp only [Act.put, List.setIfInBounds_toArray, List.set_cons_zero, List.set_cons_succ]
                refine wpAnyH_take (i := 3) (oi := { dst := some 179, op := Op.load 3 (Operand.tmp 178), type := 3, pos := "ref.go:145", after := #[{ on := 2, ground := Ground.data }, { on := 1, ground := Ground.guard }], guard := some (1, true) }) (v := undef) rfl (by kernel_rfl) (by kernel_rfl) (by kernel_rfl) (fun _ _ _ h => h) (Or.inr ⟨by rfl, rfl⟩) (by assumption) ?_
                try simp only [Act.put, List.setIfInBounds_toArray, List.set_cons_zero, List.set_cons_succ]
                refine wpAnyH_take (i := 4) (oi := { dst := some 180, op := Op.binOp BinOp.eql 3 (Operand.tmp 179) (Operand.const (Value.int IntKind.i64 17)) 3, type := 4, pos := "ref.go:145", after := #[{ on := 3, ground := Ground.data }, { on := 1, ground := Ground.guard }], guard := some (1, true) }) (v := undef) rfl (by kernel_rfl) (by kernel_rfl) (by kernel_rfl) (fun _ _ _ h => h) (Or.inr ⟨by rfl, rfl⟩) (by assumption) ?_
                try simp only [Act.put, List.setIfInBounds_toArray, List.set_cons_zero, List.set_cons_succ]
                refine wpAnyH_take (i := 5) (oi := { dst := some 181, op := Op.pick (Operand.tmp 177) (Operand.tmp 180) (Operand.const (Value.bool false)), type := 4, pos := "ref.go:145", after := #[{ on := 1, ground := Ground.data }, { on := 4, ground := Ground.data }], guard := none }) (v := ?v15) rfl (by kernel_rfl) (by kernel_rfl) (by kernel_rfl) (fun _ _ _ h => h) (Or.inl ⟨by rfl, ?hy15⟩) (by assumption) ?rest15
                case hy15 => (intro w hSw; (try dsimp only at hSw); skip; go_simp; try with_reducible rfl)
                try simp only [Act.put, List.setIfInBounds_toArray, List.set_cons_zero, List.set_cons_succ]
                refine wpAnyH_take (i := 6) (oi := { dst := some 182, op := Op.move (Operand.tmp 181), type := 4, pos := "ref.go:145", after := #[{ on := 5, ground := Ground.data }, { on := 1, ground := Ground.chain }], guard := none }) (v := ?v16) rfl (by kernel_rfl) (by kernel_rfl) (by kernel_rfl) (fun _ _ _ h => h) (Or.inl ⟨by rfl, ?hy16⟩) (by assumption) ?rest16
                case hy16 => (intro w hSw; (try dsimp only at hSw); skip; go_simp; try with_reducible rfl)
                try simp only [Act.put, List.setIfInBounds_toArray, List.set_cons_zero, List.set_cons_succ]
                refine wpAnyH_take (i := 7) (oi := { dst := some 183, op := Op.fieldAddr 44 (Operand.tmp 15) 1, type := 0, pos := "ref.go:145", after := #[{ on := 6, ground := Ground.guard }], guard := some (6, true) }) (v := undef) rfl (by kernel_rfl) (by kernel_rfl) (by kernel_rfl) (fun _ _ _ h => h) (Or.inr ⟨by rfl, rfl⟩) (by assumption) ?_
                try simp only [Act.put, List.setIfInBounds_toArray, List.set_cons_zero, List.set_cons_succ]
                refine wpAnyH_take (i := 8) (oi := { dst := some 184, op := Op.load 3 (Operand.tmp 183), type := 3, pos := "ref.go:145", after := #[{ on := 7, ground := Ground.data }, { on := 6, ground := Ground.guard }], guard := some (6, true) }) (v := undef) rfl (by kernel_rfl) (by kernel_rfl) (by kernel_rfl) (fun _ _ _ h => h) (Or.inr ⟨by rfl, rfl⟩) (by assumption) ?_
                try simp only [Act.put, List.setIfInBounds_toArray, List.set_cons_zero, List.set_cons_succ]
                refine wpAnyH_take (i := 9) (oi := { dst := some 185, op := Op.fieldAddr 31 (Operand.tmp 2) 3, type := 0, pos := "ref.go:145", after := #[{ on := 6, ground := Ground.guard }], guard := some (6, true) }) (v := undef) rfl (by kernel_rfl) (by kernel_rfl) (by kernel_rfl) (fun _ _ _ h => h) (Or.inr ⟨by rfl, rfl⟩) (by assumption) ?_
                try simp only [Act.put, List.setIfInBounds_toArray, List.set_cons_zero, List.set_cons_succ]
                refine wpAnyH_take (i := 10) (oi := { dst := some 186, op := Op.load 26 (Operand.tmp 185), type := 26, pos := "ref.go:145", after := #[{ on := 9, ground := Ground.data }, { on := 6, ground := Ground.guard }], guard := some (6, true) }) (v := undef) rfl (by kernel_rfl) (by kernel_rfl) (by kernel_rfl) (fun _ _ _ h => h) (Or.inr ⟨by rfl, rfl⟩) (by assumption) ?_
                try simp only [Act.put, List.setIfInBounds_toArray, List.set_cons_zero, List.set_cons_succ]
                refine wpAnyH_take (i := 11) (oi := { dst := some 187, op := Op.move (Operand.tmp 8), type := 3, pos := "ref.go:145", after := #[{ on := 6, ground := Ground.guard }], guard := some (6, true) }) (v := undef) rfl (by kernel_rfl) (by kernel_rfl) (by kernel_rfl) (fun _ _ _ h => h) (Or.inr ⟨by rfl, rfl⟩) (by assumption) ?_
                try simp only [Act.put, List.setIfInBounds_toArray, List.set_cons_zero, List.set_cons_succ]
                refine wpAnyH_take (i := 12) (oi := { dst := some 188, op := Op.binOp BinOp.add 3 (Operand.tmp 187) (Operand.const (Value.int IntKind.i64 1)) 3, type := 3, pos := "ref.go:145", after := #[{ on := 11, ground := Ground.data }, { on := 6, ground := Ground.guard }], guard := some (6, true) }) (v := undef) rfl (by kernel_rfl) (by kernel_rfl) (by kernel_rfl) (fun _ _ _ h => h) (Or.inr ⟨by rfl, rfl⟩) (by assumption) ?_
                try simp only [Act.put, List.setIfInBounds_toArray, List.set_cons_zero, List.set_cons_succ]
                refine wpAnyH_take (i := 13) (oi := { dst := some 189, op := Op.indexAddr 26 (Operand.tmp 186) (Operand.tmp 188), type := 0, pos := "ref.go:145", after := #[{ on := 10, ground := Ground.data }, { on := 12, ground := Ground.data }, { on := 6, ground := Ground.guard }], guard := some (6, true) }) (v := undef) rfl (by kernel_rfl) (by kernel_rfl) (by kernel_rfl) (fun _ _ _ h => h) (Or.inr ⟨by rfl, rfl⟩) (by assumption) ?_
                try simp only [Act.put, List.setIfInBounds_toArray, List.set_cons_zero, List.set_cons_succ]
                refine wpAnyH_take (i := 14) (oi := { dst := some 190, op := Op.fieldAddr 55 (Operand.tmp 189) 0, type := 0, pos := "ref.go:145", after := #[{ on := 13, ground := Ground.data }, { on := 6, ground := Ground.guard }], guard := some (6, true) }) (v := undef) rfl (by kernel_rfl) (by kernel_rfl) (by kernel_rfl) (fun _ _ _ h => h) (Or.inr ⟨by rfl, rfl⟩) (by assumption) ?_
                try simp only [Act.put, List.setIfInBounds_toArray, List.set_cons_zero, List.set_cons_succ]
                refine wpAnyH_take (i := 15) (oi := { dst := some 191, op := Op.load 3 (Operand.tmp 190), type := 3, pos := "ref.go:145", after := #[{ on := 14, ground := Ground.data }, { on := 6, ground := Ground.guard }], guard := some (6, true) }) (v := undef) rfl (by kernel_rfl) (by kernel_rfl) (by kernel_rfl) (fun _ _ _ h => h) (Or.inr ⟨by rfl, rfl⟩) (by assumption) ?_
                try simp only [Act.put, List.setIfInBounds_toArray, List.set_cons_zero, List.set_cons_succ]
                refine wpAnyH_take (i := 16) (oi := { dst := some 192, op := Op.binOp BinOp.eql 3 (Operand.tmp 184) (Operand.tmp 191) 3, type := 4, pos := "ref.go:145", after := #[{ on := 8, ground := Ground.data }, { on := 15, ground := Ground.data }, { on := 6, ground := Ground.guard }], guard := some (6, true) }) (v := undef) rfl (by kernel_rfl) (by kernel_rfl) (by kernel_rfl) (fun _ _ _ h => h) (Or.inr ⟨by rfl, rfl⟩) (by assumption) ?_
                try simp only [Act.put, List.setIfInBounds_toArray, List.set_cons_zero, List.set_cons_succ]
                refine wpAnyH_take (i := 17) (oi := { dst := some 193, op := Op.pick (Operand.tmp 182) (Operand.tmp 192) (Operand.const (Value.bool false)), type := 4, pos := "ref.go:145", after := #[{ on := 6, ground := Ground.data }, { on := 16, ground := Ground.data }], guard := none }) (v := ?v17) rfl (by kernel_rfl) (by kernel_rfl) (by kernel_rfl) (fun _ _ _ h => h) (Or.inl ⟨by rfl, ?hy17⟩) (by assumption) ?rest17
                case hy17 => (intro w hSw; (try dsimp only at hSw); skip; go_simp; try with_reducible rfl)
                try simp only [Act.put, List.setIfInBounds_toArray, List.set_cons_zero, List.set_cons_succ]
                refine wpAnyH_take (i := 18) (oi := { dst := some 16, op := Op.assign (Operand.tmp 193), type := 4, pos := "ref.go:145", after := #[{ on := 17, ground := Ground.data }, { on := 6, ground := Ground.chain }, { on := 0, ground := Ground.phase }, { on := 1, ground := Ground.phase }, { on := 2, ground := Ground.phase }, { on := 3, ground := Ground.phase }, { on := 4, ground := Ground.phase }, { on := 5, ground := Ground.phase }, { on := 6, ground := Ground.phase }, { on := 7, ground := Ground.phase }, { on := 8, ground := Ground.phase }, { on := 9, ground := Ground.phase }, { on := 10, ground := Ground.phase }, { on := 11, ground := Ground.phase }, { on := 12, ground := Ground.phase }, { on := 13, ground := Ground.phase }, { on := 14, ground := Ground.phase }, { on := 15, ground := Ground.phase }, { on := 16, ground := Ground.phase }, { on := 17, ground := Ground.phase }], guard := none }) (v := ?v18) rfl (by kernel_rfl) (by kernel_rfl) (by kernel_rfl) (fun _ _ _ h => h) (Or.inl ⟨by rfl, ?hy18⟩) (by assumption) ?rest18
                case hy18 => (intro w hSw; (try dsimp only at hSw); skip; go_simp; try with_reducible rfl)
                try simp only [Act.put, List.setIfInBounds_toArray, List.set_cons_zero, List.set_cons_succ]
                refine wpAnyH_done (by kernel_rfl) ?_ _
                have hR : R = 10 := HB.out 10 (by rw [HFC'.out]; exact if_pos (.inl (by omega))) (by decide)
                go_wp2_with fail
                go_ret
                exact ⟨by first | rfl | (rw [hR]; rfl), HF1.out.trans (HCELL.out _ (HF7.out.trans HW8.out)).2.2.2.1⟩
              have d1 : decide (0 ≤ n1) = true := decide_eq_true s1
              simp only [d1]
              by_cases s2 : iop = 17
              case neg =>
               as_aux_lemma =>
                have d2 : (iop == 17) = false := by simpa using s2
                have d3 : decide (iop = 17) = false := decide_eq_false s2
                refine wp_region_held_drew (S := fun w' => w'.cell? ⟨w7.heap.size, 0, none⟩ = some (.int .i64 iop)) (by kernel_rfl) (HMI.out.1 0) (fun hHeld => ?_)
                refine wpAnyH_take (i := 0) (oi := { dst := some 176, op := Op.move (Operand.tmp 16), type := 4, pos := "ref.go:145", after := #[], guard := none }) (v := ?v19) rfl (by kernel_rfl) (by kernel_rfl) (by kernel_rfl) (fun _ _ _ h => h) (Or.inl ⟨by rfl, ?hy19⟩) (by assumption) ?rest19
                case hy19 => (intro w hSw; (try dsimp only at hSw); skip; go_simp; try with_reducible rfl)
                try simp only [Act.put, List.setIfInBounds_toArray, List.set_cons_zero, List.set_cons_succ]
                refine wpAnyH_take (i := 1) (oi := { dst := some 177, op := Op.move (Operand.tmp 176), type := 4, pos := "ref.go:145", after := #[{ on := 0, ground := Ground.data }], guard := none }) (v := ?v20) rfl (by kernel_rfl) (by kernel_rfl) (by kernel_rfl) (fun _ _ _ h => h) (Or.inl ⟨by rfl, ?hy20⟩) (by assumption) ?rest20
                case hy20 => (intro w hSw; (try dsimp only at hSw); skip; go_simp; try with_reducible rfl)
                try simp only [Act.put, List.setIfInBounds_toArray, List.set_cons_zero, List.set_cons_succ]
                refine wpAnyH_take (i := 2) (oi := { dst := some 178, op := Op.fieldAddr 44 (Operand.tmp 15) 0, type := 0, pos := "ref.go:145", after := #[{ on := 1, ground := Ground.guard }], guard := some (1, true) }) (v := ?v21) rfl (by kernel_rfl) (by kernel_rfl) (by kernel_rfl) (fun _ _ _ h => h) (Or.inl ⟨by rfl, ?hy21⟩) (by assumption) ?rest21
                case hy21 => (intro w hSw; (try dsimp only at hSw); skip; go_simp; try with_reducible rfl)
                try simp only [Act.put, List.setIfInBounds_toArray, List.set_cons_zero, List.set_cons_succ]
                refine wpAnyH_take (i := 3) (oi := { dst := some 179, op := Op.load 3 (Operand.tmp 178), type := 3, pos := "ref.go:145", after := #[{ on := 2, ground := Ground.data }, { on := 1, ground := Ground.guard }], guard := some (1, true) }) (v := ?v22) rfl (by kernel_rfl) (by kernel_rfl) (by kernel_rfl) (fun _ _ _ h => h) (Or.inl ⟨by rfl, ?hy22⟩) (by assumption) ?rest22
                case hy22 => (intro w hSw; (try dsimp only at hSw); skip; go_simp; try with_reducible rfl)
                try simp only [Act.put, List.setIfInBounds_toArray, List.set_cons_zero, List.set_cons_succ]
                refine wpAnyH_take (i := 4) (oi := { dst := some 180, op := Op.binOp BinOp.eql 3 (Operand.tmp 179) (Operand.const (Value.int IntKind.i64 17)) 3, type := 4, pos := "ref.go:145", after := #[{ on := 3, ground := Ground.data }, { on := 1, ground := Ground.guard }], guard := some (1, true) }) (v := ?v23) rfl (by kernel_rfl) (by kernel_rfl) (by kernel_rfl) (fun _ _ _ h => h) (Or.inl ⟨by rfl, ?hy23⟩) (by assumption) ?rest23
                case hy23 => (intro w hSw; (try dsimp only at hSw); skip; go_simp; try with_reducible rfl)
                try simp only [Act.put, List.setIfInBounds_toArray, List.set_cons_zero, List.set_cons_succ]
                try simp only [d2]
                try simp only [d3]
                refine wpAnyH_take (i := 5) (oi := { dst := some 181, op := Op.pick (Operand.tmp 177) (Operand.tmp 180) (Operand.const (Value.bool false)), type := 4, pos := "ref.go:145", after := #[{ on := 1, ground := Ground.data }, { on := 4, ground := Ground.data }], guard := none }) (v := ?v24) rfl (by kernel_rfl) (by kernel_rfl) (by kernel_rfl) (fun _ _ _ h => h) (Or.inl ⟨by rfl, ?hy24⟩) (by assumption) ?rest24
                case hy24 => (intro w hSw; (try dsimp only at hSw); skip; go_simp; try with_reducible rfl)
                try simp only [Act.put, List.setIfInBounds_toArray, List.set_cons_zero, List.set_cons_succ]
                refine wpAnyH_take (i := 6) (oi := { dst := some 182, op := Op.move (Operand.tmp 181), type := 4, pos := "ref.go:145", after := #[{ on := 5, ground := Ground.data }, { on := 1, ground := Ground.chain }], guard := none }) (v := ?v25) rfl (by kernel_rfl) (by kernel_rfl) (by kernel_rfl) (fun _ _ _ h => h) (Or.inl ⟨by rfl, ?hy25⟩) (by assumption) ?rest25
                case hy25 => (intro w hSw; (try dsimp only at hSw); skip; go_simp; try with_reducible rfl)
                try simp only [Act.put, List.setIfInBounds_toArray, List.set_cons_zero, List.set_cons_succ]
                try simp only [d2]
                try simp only [d3]
                refine wpAnyH_take (i := 7) (oi := { dst := some 183, op := Op.fieldAddr 44 (Operand.tmp 15) 1, type := 0, pos := "ref.go:145", after := #[{ on := 6, ground := Ground.guard }], guard := some (6, true) }) (v := undef) rfl (by kernel_rfl) (by kernel_rfl) (by kernel_rfl) (fun _ _ _ h => h) (Or.inr ⟨by rfl, rfl⟩) (by assumption) ?_
                try simp only [Act.put, List.setIfInBounds_toArray, List.set_cons_zero, List.set_cons_succ]
                refine wpAnyH_take (i := 8) (oi := { dst := some 184, op := Op.load 3 (Operand.tmp 183), type := 3, pos := "ref.go:145", after := #[{ on := 7, ground := Ground.data }, { on := 6, ground := Ground.guard }], guard := some (6, true) }) (v := undef) rfl (by kernel_rfl) (by kernel_rfl) (by kernel_rfl) (fun _ _ _ h => h) (Or.inr ⟨by rfl, rfl⟩) (by assumption) ?_
                try simp only [Act.put, List.setIfInBounds_toArray, List.set_cons_zero, List.set_cons_succ]
                refine wpAnyH_take (i := 9) (oi := { dst := some 185, op := Op.fieldAddr 31 (Operand.tmp 2) 3, type := 0, pos := "ref.go:145", after := #[{ on := 6, ground := Ground.guard }], guard := some (6, true) }) (v := undef) rfl (by kernel_rfl) (by kernel_rfl) (by kernel_rfl) (fun _ _ _ h => h) (Or.inr ⟨by rfl, rfl⟩) (by assumption) ?_
                try simp only [Act.put, List.setIfInBounds_toArray, List.set_cons_zero, List.set_cons_succ]
                refine wpAnyH_take (i := 10) (oi := { dst := some 186, op := Op.load 26 (Operand.tmp 185), type := 26, pos := "ref.go:145", after := #[{ on := 9, ground := Ground.data }, { on := 6, ground := Ground.guard }], guard := some (6, true) }) (v := undef) rfl (by kernel_rfl) (by kernel_rfl) (by kernel_rfl) (fun _ _ _ h => h) (Or.inr ⟨by rfl, rfl⟩) (by assumption) ?_
                try simp only [Act.put, List.setIfInBounds_toArray, List.set_cons_zero, List.set_cons_succ]
                refine wpAnyH_take (i := 11) (oi := { dst := some 187, op := Op.move (Operand.tmp 8), type := 3, pos := "ref.go:145", after := #[{ on := 6, ground := Ground.guard }], guard := some (6, true) }) (v := undef) rfl (by kernel_rfl) (by kernel_rfl) (by kernel_rfl) (fun _ _ _ h => h) (Or.inr ⟨by rfl, rfl⟩) (by assumption) ?_
                try simp only [Act.put, List.setIfInBounds_toArray, List.set_cons_zero, List.set_cons_succ]
                refine wpAnyH_take (i := 12) (oi := { dst := some 188, op := Op.binOp BinOp.add 3 (Operand.tmp 187) (Operand.const (Value.int IntKind.i64 1)) 3, type := 3, pos := "ref.go:145", after := #[{ on := 11, ground := Ground.data }, { on := 6, ground := Ground.guard }], guard := some (6, true) }) (v := undef) rfl (by kernel_rfl) (by kernel_rfl) (by kernel_rfl) (fun _ _ _ h => h) (Or.inr ⟨by rfl, rfl⟩) (by assumption) ?_
                try simp only [Act.put, List.setIfInBounds_toArray, List.set_cons_zero, List.set_cons_succ]
                refine wpAnyH_take (i := 13) (oi := { dst := some 189, op := Op.indexAddr 26 (Operand.tmp 186) (Operand.tmp 188), type := 0, pos := "ref.go:145", after := #[{ on := 10, ground := Ground.data }, { on := 12, ground := Ground.data }, { on := 6, ground := Ground.guard }], guard := some (6, true) }) (v := undef) rfl (by kernel_rfl) (by kernel_rfl) (by kernel_rfl) (fun _ _ _ h => h) (Or.inr ⟨by rfl, rfl⟩) (by assumption) ?_
                try simp only [Act.put, List.setIfInBounds_toArray, List.set_cons_zero, List.set_cons_succ]
                refine wpAnyH_take (i := 14) (oi := { dst := some 190, op := Op.fieldAddr 55 (Operand.tmp 189) 0, type := 0, pos := "ref.go:145", after := #[{ on := 13, ground := Ground.data }, { on := 6, ground := Ground.guard }], guard := some (6, true) }) (v := undef) rfl (by kernel_rfl) (by kernel_rfl) (by kernel_rfl) (fun _ _ _ h => h) (Or.inr ⟨by rfl, rfl⟩) (by assumption) ?_
                try simp only [Act.put, List.setIfInBounds_toArray, List.set_cons_zero, List.set_cons_succ]
                refine wpAnyH_take (i := 15) (oi := { dst := some 191, op := Op.load 3 (Operand.tmp 190), type := 3, pos := "ref.go:145", after := #[{ on := 14, ground := Ground.data }, { on := 6, ground := Ground.guard }], guard := some (6, true) }) (v := undef) rfl (by kernel_rfl) (by kernel_rfl) (by kernel_rfl) (fun _ _ _ h => h) (Or.inr ⟨by rfl, rfl⟩) (by assumption) ?_
                try simp only [Act.put, List.setIfInBounds_toArray, List.set_cons_zero, List.set_cons_succ]
                refine wpAnyH_take (i := 16) (oi := { dst := some 192, op := Op.binOp BinOp.eql 3 (Operand.tmp 184) (Operand.tmp 191) 3, type := 4, pos := "ref.go:145", after := #[{ on := 8, ground := Ground.data }, { on := 15, ground := Ground.data }, { on := 6, ground := Ground.guard }], guard := some (6, true) }) (v := undef) rfl (by kernel_rfl) (by kernel_rfl) (by kernel_rfl) (fun _ _ _ h => h) (Or.inr ⟨by rfl, rfl⟩) (by assumption) ?_
                try simp only [Act.put, List.setIfInBounds_toArray, List.set_cons_zero, List.set_cons_succ]
                refine wpAnyH_take (i := 17) (oi := { dst := some 193, op := Op.pick (Operand.tmp 182) (Operand.tmp 192) (Operand.const (Value.bool false)), type := 4, pos := "ref.go:145", after := #[{ on := 6, ground := Ground.data }, { on := 16, ground := Ground.data }], guard := none }) (v := ?v26) rfl (by kernel_rfl) (by kernel_rfl) (by kernel_rfl) (fun _ _ _ h => h) (Or.inl ⟨by rfl, ?hy26⟩) (by assumption) ?rest26
                case hy26 => (intro w hSw; (try dsimp only at hSw); skip; go_simp; try with_reducible rfl)
                try simp only [Act.put, List.setIfInBounds_toArray, List.set_cons_zero, List.set_cons_succ]
                refine wpAnyH_take (i := 18) (oi := { dst := some 16, op := Op.assign (Operand.tmp 193), type := 4, pos := "ref.go:145", after := #[{ on := 17, ground := Ground.data }, { on := 6, ground := Ground.chain }, { on := 0, ground := Ground.phase }, { on := 1, ground := Ground.phase }, { on := 2, ground := Ground.phase }, { on := 3, ground := Ground.phase }, { on := 4, ground := Ground.phase }, { on := 5, ground := Ground.phase }, { on := 6, ground := Ground.phase }, { on := 7, ground := Ground.phase }, { on := 8, ground := Ground.phase }, { on := 9, ground := Ground.phase }, { on := 10, ground := Ground.phase }, { on := 11, ground := Ground.phase }, { on := 12, ground := Ground.phase }, { on := 13, ground := Ground.phase }, { on := 14, ground := Ground.phase }, { on := 15, ground := Ground.phase }, { on := 16, ground := Ground.phase }, { on := 17, ground := Ground.phase }], guard := none }) (v := ?v27) rfl (by kernel_rfl) (by kernel_rfl) (by kernel_rfl) (fun _ _ _ h => h) (Or.inl ⟨by rfl, ?hy27⟩) (by assumption) ?rest27
                case hy27 => (intro w hSw; (try dsimp only at hSw); skip; go_simp; try with_reducible rfl)
                try simp only [Act.put, List.setIfInBounds_toArray, List.set_cons_zero, List.set_cons_succ]
                refine wpAnyH_done (by kernel_rfl) ?_ _
                have hR : R = 10 := HB.out 10 (by rw [HFC'.out]; exact if_pos (.inr (.inl s2))) (by decide)
                go_wp2_with fail
                go_ret
                exact ⟨by first | rfl | (rw [hR]; rfl), HF1.out.trans (HCELL.out _ (HF7.out.trans HW8.out)).2.2.2.1⟩
              subst s2
              have hc4 := (HCC.out _ (HCELL.out _ (HF7.out.trans ((Fr.refl _ _).alloc (.cells #[.int .i64 17, .int .i64 ia, .int .i64 ib] 44)))).2.2.2.1).1.2.2.2.2
              have hc5 := (HN2.out _ (HCELL.out _ (HF7.out.trans ((Fr.refl _ _).alloc (.cells #[.int .i64 17, .int .i64 ia, .int .i64 ib] 44)))).2.2.2.1).1
              refine wp_region_held_drew (S := fun w' => w'.cell? ⟨w7.heap.size, 0, none⟩ = some (.int .i64 17) ∧ w'.cell? ⟨w7.heap.size, 1, none⟩ = some (.int .i64 ia) ∧ w'.cell? ⟨ab, 4, none⟩ = some (.slice (some ⟨g, o, none⟩) a.fr.length sfc) ∧ w'.cell? ⟨g, o + (k + 1) * 4, none⟩ = some (.int .i64 f2.fn)) (by kernel_rfl) ⟨HMI.out.1 0, HMI.out.1 1, hc4, hc5⟩ (fun hHeld => ?_)
              have hkw : IntKind.i64.wrap ((k : Int) + 1) = (k : Int) + 1 := wrap_in _ (by omega) (by omega)
              have hki : 0 ≤ (k : Int) + 1 ∧ (k : Int) + 1 < (a.fr.length : Int) := by omega
              have hkt : ((k : Int) + 1).toNat = k + 1 := by omega
              refine wpAnyH_take (i := 0) (oi := { dst := some 176, op := Op.move (Operand.tmp 16), type := 4, pos := "ref.go:145", after := #[], guard := none }) (v := ?v28) rfl (by kernel_rfl) (by kernel_rfl) (by kernel_rfl) (fun _ _ _ h => h) (Or.inl ⟨by rfl, ?hy28⟩) (by assumption) ?rest28
              case hy28 => (intro w hSw; (try dsimp only at hSw); obtain ⟨t0, t1, t2, t3⟩ := hSw; go_simp; try with_reducible rfl)
              try simp only [Act.put, List.setIfInBounds_toArray, List.set_cons_zero, List.set_cons_succ]
              refine wpAnyH_take (i := 1) (oi := { dst := some 177, op := Op.move (Operand.tmp 176), type := 4, pos := "ref.go:145", after := #[{ on := 0, ground := Ground.data }], guard := none }) (v := ?v29) rfl (by kernel_rfl) (by kernel_rfl) (by kernel_rfl) (fun _ _ _ h => h) (Or.inl ⟨by rfl, ?hy29⟩) (by assumption) ?rest29
              case hy29 => (intro w hSw; (try dsimp only at hSw); obtain ⟨t0, t1, t2, t3⟩ := hSw; go_simp; try with_reducible rfl)
              try simp only [Act.put, List.setIfInBounds_toArray, List.set_cons_zero, List.set_cons_succ]
              refine wpAnyH_take (i := 2) (oi := { dst := some 178, op := Op.fieldAddr 44 (Operand.tmp 15) 0, type := 0, pos := "ref.go:145", after := #[{ on := 1, ground := Ground.guard }], guard := some (1, true) }) (v := ?v30) rfl (by kernel_rfl) (by kernel_rfl) (by kernel_rfl) (fun _ _ _ h => h) (Or.inl ⟨by rfl, ?hy30⟩) (by assumption) ?rest30
              case hy30 => (intro w hSw; (try dsimp only at hSw); obtain ⟨t0, t1, t2, t3⟩ := hSw; go_simp; try with_reducible rfl)
              try simp only [Act.put, List.setIfInBounds_toArray, List.set_cons_zero, List.set_cons_succ]
              refine wpAnyH_take (i := 3) (oi := { dst := some 179, op := Op.load 3 (Operand.tmp 178), type := 3, pos := "ref.go:145", after := #[{ on := 2, ground := Ground.data }, { on := 1, ground := Ground.guard }], guard := some (1, true) }) (v := ?v31) rfl (by kernel_rfl) (by kernel_rfl) (by kernel_rfl) (fun _ _ _ h => h) (Or.inl ⟨by rfl, ?hy31⟩) (by assumption) ?rest31
              case hy31 => (intro w hSw; (try dsimp only at hSw); obtain ⟨t0, t1, t2, t3⟩ := hSw; go_simp; try with_reducible rfl)
              try simp only [Act.put, List.setIfInBounds_toArray, List.set_cons_zero, List.set_cons_succ]
              refine wpAnyH_take (i := 4) (oi := { dst := some 180, op := Op.binOp BinOp.eql 3 (Operand.tmp 179) (Operand.const (Value.int IntKind.i64 17)) 3, type := 4, pos := "ref.go:145", after := #[{ on := 3, ground := Ground.data }, { on := 1, ground := Ground.guard }], guard := some (1, true) }) (v := ?v32) rfl (by kernel_rfl) (by kernel_rfl) (by kernel_rfl) (fun _ _ _ h => h) (Or.inl ⟨by rfl, ?hy32⟩) (by assumption) ?rest32
              case hy32 => (intro w hSw; (try dsimp only at hSw); obtain ⟨t0, t1, t2, t3⟩ := hSw; go_simp; try with_reducible rfl)
              try simp only [Act.put, List.setIfInBounds_toArray, List.set_cons_zero, List.set_cons_succ]
              refine wpAnyH_take (i := 5) (oi := { dst := some 181, op := Op.pick (Operand.tmp 177) (Operand.tmp 180) (Operand.const (Value.bool false)), type := 4, pos := "ref.go:145", after := #[{ on := 1, ground := Ground.data }, { on := 4, ground := Ground.data }], guard := none }) (v := ?v33) rfl (by kernel_rfl) (by kernel_rfl) (by kernel_rfl) (fun _ _ _ h => h) (Or.inl ⟨by rfl, ?hy33⟩) (by assumption) ?rest33
              case hy33 => (intro w hSw; (try dsimp only at hSw); obtain ⟨t0, t1, t2, t3⟩ := hSw; go_simp; try with_reducible rfl)
              try simp only [Act.put, List.setIfInBounds_toArray, List.set_cons_zero, List.set_cons_succ]
              refine wpAnyH_take (i := 6) (oi := { dst := some 182, op := Op.move (Operand.tmp 181), type := 4, pos := "ref.go:145", after := #[{ on := 5, ground := Ground.data }, { on := 1, ground := Ground.chain }], guard := none }) (v := ?v34) rfl (by kernel_rfl) (by kernel_rfl) (by kernel_rfl) (fun _ _ _ h => h) (Or.inl ⟨by rfl, ?hy34⟩) (by assumption) ?rest34
              case hy34 => (intro w hSw; (try dsimp only at hSw); obtain ⟨t0, t1, t2, t3⟩ := hSw; go_simp; try with_reducible rfl)
              try simp only [Act.put, List.setIfInBounds_toArray, List.set_cons_zero, List.set_cons_succ]
              refine wpAnyH_take (i := 7) (oi := { dst := some 183, op := Op.fieldAddr 44 (Operand.tmp 15) 1, type := 0, pos := "ref.go:145", after := #[{ on := 6, ground := Ground.guard }], guard := some (6, true) }) (v := ?v35) rfl (by kernel_rfl) (by kernel_rfl) (by kernel_rfl) (fun _ _ _ h => h) (Or.inl ⟨by rfl, ?hy35⟩) (by assumption) ?rest35
              case hy35 => (intro w hSw; (try dsimp only at hSw); obtain ⟨t0, t1, t2, t3⟩ := hSw; go_simp; try with_reducible rfl)
              try simp only [Act.put, List.setIfInBounds_toArray, List.set_cons_zero, List.set_cons_succ]
              refine wpAnyH_take (i := 8) (oi := { dst := some 184, op := Op.load 3 (Operand.tmp 183), type := 3, pos := "ref.go:145", after := #[{ on := 7, ground := Ground.data }, { on := 6, ground := Ground.guard }], guard := some (6, true) }) (v := ?v36) rfl (by kernel_rfl) (by kernel_rfl) (by kernel_rfl) (fun _ _ _ h => h) (Or.inl ⟨by rfl, ?hy36⟩) (by assumption) ?rest36
              case hy36 => (intro w hSw; (try dsimp only at hSw); obtain ⟨t0, t1, t2, t3⟩ := hSw; go_simp; try with_reducible rfl)
              try simp only [Act.put, List.setIfInBounds_toArray, List.set_cons_zero, List.set_cons_succ]
              refine wpAnyH_take (i := 9) (oi := { dst := some 185, op := Op.fieldAddr 31 (Operand.tmp 2) 3, type := 0, pos := "ref.go:145", after := #[{ on := 6, ground := Ground.guard }], guard := some (6, true) }) (v := ?v37) rfl (by kernel_rfl) (by kernel_rfl) (by kernel_rfl) (fun _ _ _ h => h) (Or.inl ⟨by rfl, ?hy37⟩) (by assumption) ?rest37
              case hy37 => (intro w hSw; (try dsimp only at hSw); obtain ⟨t0, t1, t2, t3⟩ := hSw; go_simp; try with_reducible rfl)
              try simp only [Act.put, List.setIfInBounds_toArray, List.set_cons_zero, List.set_cons_succ]
              refine wpAnyH_take (i := 10) (oi := { dst := some 186, op := Op.load 26 (Operand.tmp 185), type := 26, pos := "ref.go:145", after := #[{ on := 9, ground := Ground.data }, { on := 6, ground := Ground.guard }], guard := some (6, true) }) (v := ?v38) rfl (by kernel_rfl) (by kernel_rfl) (by kernel_rfl) (fun _ _ _ h => h) (Or.inl ⟨by rfl, ?hy38⟩) (by assumption) ?rest38
              case hy38 => (intro w hSw; (try dsimp only at hSw); obtain ⟨t0, t1, t2, t3⟩ := hSw; go_simp; try with_reducible rfl)
              try simp only [Act.put, List.setIfInBounds_toArray, List.set_cons_zero, List.set_cons_succ]
              refine wpAnyH_take (i := 11) (oi := { dst := some 187, op := Op.move (Operand.tmp 8), type := 3, pos := "ref.go:145", after := #[{ on := 6, ground := Ground.guard }], guard := some (6, true) }) (v := ?v39) rfl (by kernel_rfl) (by kernel_rfl) (by kernel_rfl) (fun _ _ _ h => h) (Or.inl ⟨by rfl, ?hy39⟩) (by assumption) ?rest39
              case hy39 => (intro w hSw; (try dsimp only at hSw); obtain ⟨t0, t1, t2, t3⟩ := hSw; go_simp; try with_reducible rfl)
              try simp only [Act.put, List.setIfInBounds_toArray, List.set_cons_zero, List.set_cons_succ]
              refine wpAnyH_take (i := 12) (oi := { dst := some 188, op := Op.binOp BinOp.add 3 (Operand.tmp 187) (Operand.const (Value.int IntKind.i64 1)) 3, type := 3, pos := "ref.go:145", after := #[{ on := 11, ground := Ground.data }, { on := 6, ground := Ground.guard }], guard := some (6, true) }) (v := ?v40) rfl (by kernel_rfl) (by kernel_rfl) (by kernel_rfl) (fun _ _ _ h => h) (Or.inl ⟨by rfl, ?hy40⟩) (by assumption) ?rest40
              case hy40 => (intro w hSw; (try dsimp only at hSw); obtain ⟨t0, t1, t2, t3⟩ := hSw; go_simp; try with_reducible rfl)
              try simp only [Act.put, List.setIfInBounds_toArray, List.set_cons_zero, List.set_cons_succ]
              try simp only [hkw]
              refine wpAnyH_take (i := 13) (oi := { dst := some 189, op := Op.indexAddr 26 (Operand.tmp 186) (Operand.tmp 188), type := 0, pos := "ref.go:145", after := #[{ on := 10, ground := Ground.data }, { on := 12, ground := Ground.data }, { on := 6, ground := Ground.guard }], guard := some (6, true) }) (v := ?v41) rfl (by kernel_rfl) (by kernel_rfl) (by kernel_rfl) (fun _ _ _ h => h) (Or.inl ⟨by rfl, ?hy41⟩) (by assumption) ?rest41
              case hy41 => (intro w hSw; (try dsimp only at hSw); go_simp; first | with_reducible rfl | exact Eq.refl _ | (refine Eq.trans ?_ rfl; rfl))
              try simp only [Act.put, List.setIfInBounds_toArray, List.set_cons_zero, List.set_cons_succ]
              refine wpAnyH_take (i := 14) (oi := { dst := some 190, op := Op.fieldAddr 55 (Operand.tmp 189) 0, type := 0, pos := "ref.go:145", after := #[{ on := 13, ground := Ground.data }, { on := 6, ground := Ground.guard }], guard := some (6, true) }) (v := ?v42) rfl (by kernel_rfl) (by kernel_rfl) (by kernel_rfl) (fun _ _ _ h => h) (Or.inl ⟨by rfl, ?hy42⟩) (by assumption) ?rest42
              case hy42 => (intro w hSw; (try dsimp only at hSw); obtain ⟨t0, t1, t2, t3⟩ := hSw; go_simp; try with_reducible rfl)
              try simp only [Act.put, List.setIfInBounds_toArray, List.set_cons_zero, List.set_cons_succ]
              refine wpAnyH_take (i := 15) (oi := { dst := some 191, op := Op.load 3 (Operand.tmp 190), type := 3, pos := "ref.go:145", after := #[{ on := 14, ground := Ground.data }, { on := 6, ground := Ground.guard }], guard := some (6, true) }) (v := ?v43) rfl (by kernel_rfl) (by kernel_rfl) (by kernel_rfl) (fun _ _ _ h => h) (Or.inl ⟨by rfl, ?hy43⟩) (by assumption) ?rest43
              case hy43 => (intro w hSw; (try dsimp only at hSw); obtain ⟨t0, t1, t2, t3⟩ := hSw; go_simp; try with_reducible rfl)
              try simp only [Act.put, List.setIfInBounds_toArray, List.set_cons_zero, List.set_cons_succ]
              refine wpAnyH_take (i := 16) (oi := { dst := some 192, op := Op.binOp BinOp.eql 3 (Operand.tmp 184) (Operand.tmp 191) 3, type := 4, pos := "ref.go:145", after := #[{ on := 8, ground := Ground.data }, { on := 15, ground := Ground.data }, { on := 6, ground := Ground.guard }], guard := some (6, true) }) (v := ?v44) rfl (by kernel_rfl) (by kernel_rfl) (by kernel_rfl) (fun _ _ _ h => h) (Or.inl ⟨by rfl, ?hy44⟩) (by assumption) ?rest44
              case hy44 => (intro w hSw; (try dsimp only at hSw); obtain ⟨t0, t1, t2, t3⟩ := hSw; go_simp; try with_reducible rfl)
              try simp only [Act.put, List.setIfInBounds_toArray, List.set_cons_zero, List.set_cons_succ]
              clear hkw hki hkt
              by_cases s3 : ia = f2.fn
              case neg =>
               as_aux_lemma =>
                have d4 : (ia == f2.fn) = false := by simpa using s3
                have d5 : decide (ia = f2.fn) = false := decide_eq_false s3
                try simp only [d4]
                try simp only [d5]
                refine wpAnyH_take (i := 17) (oi := { dst := some 193, op := Op.pick (Operand.tmp 182) (Operand.tmp 192) (Operand.const (Value.bool false)), type := 4, pos := "ref.go:145", after := #[{ on := 6, ground := Ground.data }, { on := 16, ground := Ground.data }], guard := none }) (v := ?v45) rfl (by kernel_rfl) (by kernel_rfl) (by kernel_rfl) (fun _ _ _ h => h) (Or.inl ⟨by rfl, ?hy45⟩) (by assumption) ?rest45
                case hy45 => (intro w hSw; (try dsimp only at hSw); skip; go_simp; try with_reducible rfl)
                try simp only [Act.put, List.setIfInBounds_toArray, List.set_cons_zero, List.set_cons_succ]
                refine wpAnyH_take (i := 18) (oi := { dst := some 16, op := Op.assign (Operand.tmp 193), type := 4, pos := "ref.go:145", after := #[{ on := 17, ground := Ground.data }, { on := 6, ground := Ground.chain }, { on := 0, ground := Ground.phase }, { on := 1, ground := Ground.phase }, { on := 2, ground := Ground.phase }, { on := 3, ground := Ground.phase }, { on := 4, ground := Ground.phase }, { on := 5, ground := Ground.phase }, { on := 6, ground := Ground.phase }, { on := 7, ground := Ground.phase }, { on := 8, ground := Ground.phase }, { on := 9, ground := Ground.phase }, { on := 10, ground := Ground.phase }, { on := 11, ground := Ground.phase }, { on := 12, ground := Ground.phase }, { on := 13, ground := Ground.phase }, { on := 14, ground := Ground.phase }, { on := 15, ground := Ground.phase }, { on := 16, ground := Ground.phase }, { on := 17, ground := Ground.phase }], guard := none }) (v := ?v46) rfl (by kernel_rfl) (by kernel_rfl) (by kernel_rfl) (fun _ _ _ h => h) (Or.inl ⟨by rfl, ?hy46⟩) (by assumption) ?rest46
                case hy46 => (intro w hSw; (try dsimp only at hSw); skip; go_simp; try with_reducible rfl)
                try simp only [Act.put, List.setIfInBounds_toArray, List.set_cons_zero, List.set_cons_succ]
                refine wpAnyH_done (by kernel_rfl) ?_ _
                have hR : R = 10 := HB.out 10 (by rw [HFC'.out]; exact if_pos (.inr (.inr s3))) (by decide)
                go_wp2_with fail
                go_ret
                exact ⟨by first | rfl | (rw [hR]; rfl), HF1.out.trans (HCELL.out _ (HF7.out.trans HW8.out)).2.2.2.1⟩
              subst s3
              have d4 : (f2.fn == f2.fn) = true := by simp
              have d5 : decide (f2.fn = f2.fn) = true := by simp
              try simp only [d4]
              try simp only [d5]
              refine wpAnyH_take (i := 17) (oi := { dst := some 193, op := Op.pick (Operand.tmp 182) (Operand.tmp 192) (Operand.const (Value.bool false)), type := 4, pos := "ref.go:145", after := #[{ on := 6, ground := Ground.data }, { on := 16, ground := Ground.data }], guard := none }) (v := ?v47) rfl (by kernel_rfl) (by kernel_rfl) (by kernel_rfl) (fun _ _ _ h => h) (Or.inl ⟨by rfl, ?hy47⟩) (by assumption) ?rest47
              case hy47 => (intro w hSw; (try dsimp only at hSw); skip; go_simp; try with_reducible rfl)
              try simp only [Act.put, List.setIfInBounds_toArray, List.set_cons_zero, List.set_cons_succ]
              refine wpAnyH_take (i := 18) (oi := { dst := some 16, op := Op.assign (Operand.tmp 193), type := 4, pos := "ref.go:145", after := #[{ on := 17, ground := Ground.data }, { on := 6, ground := Ground.chain }, { on := 0, ground := Ground.phase }, { on := 1, ground := Ground.phase }, { on := 2, ground := Ground.phase }, { on := 3, ground := Ground.phase }, { on := 4, ground := Ground.phase }, { on := 5, ground := Ground.phase }, { on := 6, ground := Ground.phase }, { on := 7, ground := Ground.phase }, { on := 8, ground := Ground.phase }, { on := 9, ground := Ground.phase }, { on := 10, ground := Ground.phase }, { on := 11, ground := Ground.phase }, { on := 12, ground := Ground.phase }, { on := 13, ground := Ground.phase }, { on := 14, ground := Ground.phase }, { on := 15, ground := Ground.phase }, { on := 16, ground := Ground.phase }, { on := 17, ground := Ground.phase }], guard := none }) (v := ?v48) rfl (by kernel_rfl) (by kernel_rfl) (by kernel_rfl) (fun _ _ _ h => h) (Or.inl ⟨by rfl, ?hy48⟩) (by assumption) ?rest48
              case hy48 => (intro w hSw; (try dsimp only at hSw); skip; go_simp; try with_reducible rfl)
              try simp only [Act.put, List.setIfInBounds_toArray, List.set_cons_zero, List.set_cons_succ]
              refine wpAnyH_done (by kernel_rfl) ?_ _
              clear hHeld hc4 hc5
              have HCZ := HCELL.out _ (HF7.out.trans HW8.out)
              obtain ⟨⟨z0, z1, z2, z3⟩, z4, zl, zf1, zf4⟩ := HCZ
              obtain ⟨⟨-, -, -, -, t4'⟩, ⟨t5', -, -, -⟩, tl'⟩ := HCC.out _ zf1
              go_wp2_with fail
              all_goals first
                | (have hR : R = 10 := HB.out 10 (by rw [HFC'.out, if_neg (fun e => e.elim (by omega) (fun e => e.elim (fun e => e rfl) (fun e => e rfl)))]; exact if_pos (by first | exact leafA (by omega) (by omega) | exact leafB (by omega) (by assumption))) (by decide)
                   go_ret
                   exact ⟨by first | rfl | (rw [hR]; rfl), HF1.out.trans (HCELL.out _ (HF7.out.trans HW8.out)).2.2.2.1⟩)
                | skip
              have n2 : n0 - 1 = (f.stack.length : Int) := leafC (by assumption)
              have HZ : Hid (frameC a.pg f (17, f2.fn) = 0) := by
                have h := HFC'.out
                rw [if_neg (fun e => e.elim (by omega) (fun e => e.elim (fun e => e rfl) (fun e => e rfl))), if_neg (by omega)] at h
                exact h
              clear HFC' z0 z1 z2 z3 z4 zl zf1 zf4 t4' t5' tl'
              obtain ⟨⟨-, -, z2, z3⟩, -, zl, zf1, zf4⟩ := HCELL.out _ (HF7.out.trans HW8.out)
              obtain ⟨q1, w10, q2, w11, r1, r2, g9, g10, g11, ho⟩ := vals_two (w7.alloc (.cells #[.int .i64 17, .int .i64 f2.fn, .int .i64 ib] 44)).drew ⟨va, f.vars.length, vc⟩ ⟨sa, f.stack.length, sc'⟩ f.vars f.stack (HK2.out.fr zf1 (fun _ _ => id)) (HK3.out.fr zf1 (fun _ _ => id)) (by omega) (by omega)
              rw [show (w7.alloc (.cells #[.int .i64 17, .int .i64 f2.fn, .int .i64 ib] 44)).drew.heap.size = w7.heap.size + 1 by simp [World.drew]] at r1
              have hSx : ∀ w', Fr nothing (w7.alloc (.cells #[.int .i64 17, .int .i64 f2.fn, .int .i64 ib] 44)).drew w' → w'.cell? ⟨wr.heap.size, 2, none⟩ = some (.slice va f.vars.length vc) ∧ w'.cell? ⟨wr.heap.size, 3, none⟩ = some (.slice sa f.stack.length sc') := fun w' hf => by
                have := (HCELL.out w' ((HF7.out.trans HW8.out).trans hf)).1
                exact ⟨this.2.2.1, this.2.2.2⟩
              refine wp_region_held_drew (S := fun w' => w'.cell? ⟨wr.heap.size, 2, none⟩ = some (.slice va f.vars.length vc) ∧ w'.cell? ⟨wr.heap.size, 3, none⟩ = some (.slice sa f.stack.length sc')) (by kernel_rfl) ?_ (fun hHeld => ?_)
              · exact ⟨z2, z3⟩
              refine wpAnyH_take (i := 1) (oi := { dst := some 206, op := Op.fieldAddr 55 (Operand.tmp 9) 2, type := 0, pos := "ref.go:154", after := #[], guard := none }) (v := ?v49) rfl (by kernel_rfl) (by kernel_rfl) (by kernel_rfl) (fun _ _ _ h => h) (Or.inl ⟨by rfl, ?hy49⟩) (by assumption) ?rest49
              case hy49 => (intro w hSw; (try dsimp only at hSw); obtain ⟨s0, s1⟩ := hSw; go_simp; try with_reducible rfl)
              try simp only [Act.put, List.setIfInBounds_toArray, List.set_cons_zero, List.set_cons_succ]
              refine wpAnyH_take (i := 2) (oi := { dst := some 207, op := Op.load 49 (Operand.tmp 206), type := 49, pos := "ref.go:154", after := #[{ on := 1, ground := Ground.data }], guard := none }) (v := ?v50) rfl (by kernel_rfl) (by kernel_rfl) (by kernel_rfl) (fun _ _ _ h => h) (Or.inl ⟨by rfl, ?hy50⟩) (by assumption) ?rest50
              case hy50 => (intro w hSw; (try dsimp only at hSw); obtain ⟨s0, s1⟩ := hSw; go_simp; try with_reducible rfl)
              try simp only [Act.put, List.setIfInBounds_toArray, List.set_cons_zero, List.set_cons_succ]
              refine wpAnyH_take (i := 4) (oi := { dst := some 209, op := Op.fieldAddr 55 (Operand.tmp 9) 3, type := 0, pos := "ref.go:154", after := #[], guard := none }) (v := ?v51) rfl (by kernel_rfl) (by kernel_rfl) (by kernel_rfl) (fun _ _ _ h => h) (Or.inl ⟨by rfl, ?hy51⟩) (by assumption) ?rest51
              case hy51 => (intro w hSw; (try dsimp only at hSw); obtain ⟨s0, s1⟩ := hSw; go_simp; try with_reducible rfl)
              try simp only [Act.put, List.setIfInBounds_toArray, List.set_cons_zero, List.set_cons_succ]
              refine wpAnyH_take (i := 5) (oi := { dst := some 210, op := Op.load 49 (Operand.tmp 209), type := 49, pos := "ref.go:154", after := #[{ on := 4, ground := Ground.data }], guard := none }) (v := ?v52) rfl (by kernel_rfl) (by kernel_rfl) (by kernel_rfl) (fun _ _ _ h => h) (Or.inl ⟨by rfl, ?hy52⟩) (by assumption) ?rest52
              case hy52 => (intro w hSw; (try dsimp only at hSw); obtain ⟨s0, s1⟩ := hSw; go_simp; try with_reducible rfl)
              try simp only [Act.put, List.setIfInBounds_toArray, List.set_cons_zero, List.set_cons_succ]
              refine wpAnyH_take (i := 8) (oi := { dst := some 213, op := Op.move (Operand.const (Value.int IntKind.i64 0)), type := 3, pos := "ref.go:154", after := #[], guard := none }) (v := ?v53) rfl (by kernel_rfl) (by kernel_rfl) (by kernel_rfl) (fun _ _ _ h => h) (Or.inl ⟨by rfl, ?hy53⟩) (by assumption) ?rest53
              case hy53 => (intro w hSw; (try dsimp only at hSw); obtain ⟨s0, s1⟩ := hSw; go_simp; try with_reducible rfl)
              try simp only [Act.put, List.setIfInBounds_toArray, List.set_cons_zero, List.set_cons_succ]
              refine wpAnyH_ready (rs := [0]) (by kernel_rfl) (by simp) ?_
              refine AllReadyH.cons (o := { dst := some 205, op := Op.buildSlice 49 0 #[], type := 49, pos := "ref.go:154", after := #[], guard := none }) rfl (fun K hK => ?_) AllReadyH.nil
              go_simp
              refine hK _ _ (hSx _ g9) (fun _ => ?_)
              clear hK K hHeld
              try simp only [Act.put, List.setIfInBounds_toArray, List.set_cons_zero, List.set_cons_succ]
              have hHeld := hSx _ g9
              refine wpAnyH_ready (rs := [3]) (by kernel_rfl) (by simp) ?_
              refine AllReadyH.cons (o := { dst := some 208, op := Op.call { callee := Callee.builtin Builtin.append, args := #[Operand.tmp 205, Operand.tmp 207], argTypes := #[49, 49] }, type := 49, pos := "ref.go:154", after := #[{ on := 0, ground := Ground.data }, { on := 2, ground := Ground.data }], guard := none }) rfl (fun K hK => ?_) AllReadyH.nil
              refine step_run rfl _ _ 49 rfl _ _ (by simp [Act.eval]) (by simp [Act.eval]) r1 ?_
              refine hK _ _ (hSx _ g10) (fun _ => ?_)
              clear hK K hHeld
              try simp only [Act.put, List.setIfInBounds_toArray, List.set_cons_zero, List.set_cons_succ]
              have hHeld := hSx _ g10
              refine wpAnyH_ready (rs := [6]) (by kernel_rfl) (by simp) ?_
              refine AllReadyH.cons (o := { dst := some 211, op := Op.call { callee := Callee.builtin Builtin.append, args := #[Operand.tmp 208, Operand.tmp 210], argTypes := #[49, 49] }, type := 49, pos := "ref.go:154", after := #[{ on := 3, ground := Ground.data }, { on := 5, ground := Ground.data }, { on := 3, ground := Ground.chain }], guard := none }) rfl (fun K hK => ?_) AllReadyH.nil
              refine step_run rfl _ _ 49 rfl _ _ (by simp [Act.eval]) (by simp [Act.eval]) r2 ?_
              refine hK _ _ (hSx _ g11) (fun _ => ?_)
              clear hK K hHeld
              try simp only [Act.put, List.setIfInBounds_toArray, List.set_cons_zero, List.set_cons_succ]
              have hHeld := hSx _ g11
              refine wpAnyH_take (i := 7) (oi := { dst := some 212, op := Op.call { callee := Callee.builtin Builtin.len, args := #[Operand.tmp 211], argTypes := #[49] }, type := 3, pos := "ref.go:154", after := #[{ on := 6, ground := Ground.data }], guard := none }) (v := ?v54) rfl (by kernel_rfl) (by kernel_rfl) (by kernel_rfl) (fun _ _ _ h => h) (Or.inl ⟨by rfl, ?hy54⟩) (by assumption) ?rest54
              case hy54 => (intro w hSw; (try dsimp only at hSw); skip; go_simp; try with_reducible rfl)
              try simp only [Act.put, List.setIfInBounds_toArray, List.set_cons_zero, List.set_cons_succ]
              refine wpAnyH_done (by kernel_rfl) ?_ _
              have HF11 := hide ((HF7.out.trans HW8.out).trans g11)
              have HO := hide (ho.sl encV_len)
              obtain ⟨q2n, -⟩ := sl_len HO.out
              obtain ⟨q2a, q2n', q2c⟩ := q2
              simp only at q2n
              subst q2n
              clear hHeld hSx r1 r2 g9 g10 g11 ho z2 z3 zl zf1 zf4
              have HWL : Hid (∀ v ∈ f.vars ++ f.stack, WfV v) := fun v hv => by
                rcases List.mem_append.1 hv with hv | hv
                · exact HWM.out.v v hv
                · exact HWM.out.s v hv
              have hLl : (f.vars ++ f.stack).length ≤ 100 := by rw [List.length_append]; omega
              generalize f.vars ++ f.stack = L at HO HWL HV HN hLl
              go_wp2_with fail
              go_loopw [213, 18, 19] (fun i _ _ wv => ∃ (v : Nat), v ≤ L.length ∧ i = .int .i64 v ∧ Hid (Fr nothing w11 wv ∧ firstE (wrongV a.hp.length) (L.drop v) = firstE (wrongV a.hp.length) L)) (fun i _ _ _ => L.length - (intOf i).toNat)
              case atStart => exact ⟨0, Nat.zero_le _, rfl, Fr.refl _ _, rfl⟩
              case round =>
               as_aux_lemma =>
                obtain ⟨v, hv, rfl, hRv⟩ := hrel
                obtain ⟨hfv, hev⟩ := hRv.out
                have hFv := (HCELL.out _ (HF11.out.trans hfv)).2.2.2.1
                have HFv4 := hide (HCELL.out _ (HF11.out.trans hfv)).2.2.2.2
                by_cases hvl : v < L.length
                · have hx : L[v]? = some L[v] := List.getElem?_eq_getElem hvl
                  have hxm : L[v] ∈ L := List.getElem_mem hvl
                  have hst := firstE_drop (wrongV a.hp.length) L hx
                  rw [hev] at hst
                  generalize L[v] = x at hx hxm hst
                  have hwx := HWL.out x hxm
                  obtain ⟨gv, ov, ev, dv, a0, a1, a2⟩ := sl_elemV (s := ⟨q2a, L.length, q2c⟩) HO.out hx
                  simp only at ev
                  subst ev
                  have dv' := Nat.lt_of_lt_of_le dv hfv.size
                  rw [← hfv.cell (p := ⟨gv, _, none⟩) dv id] at a0 a1 a2
                  obtain ⟨-, ⟨i5, -, -, -⟩, il⟩ := HCC.out _ hFv
                  have hFn : Fr nothing wr (wr.alloc (.cells #[.int .i64 x.k, .int .i64 x.n, .string (bs x.t)] 51)) := (Fr.refl _ _).alloc _
                  have HWR := hide (rwrong_any x a.hp.length (wr.alloc (.cells #[.int .i64 x.k, .int .i64 x.n, .string (bs x.t)] 51)) hwx.t)
                  have HFn := hide hFn
                  have HST := hide hst
                  have HFV := hide hFv
                  have HFV2 := hide hfv
                  clear hRv hfv hev hFv hx hxm hst hwx hFn
                  by_cases h1 : wrongV a.hp.length x = 0
                  · have HE : Hid (firstE (wrongV a.hp.length) (L.drop (v + 1)) = firstE (wrongV a.hp.length) L) := by
                      have := HST.out
                      rw [if_neg (by simpa using h1)] at this
                      exact this.symm
                    rw [h1] at HWR
                    go_wp2_with (go_at_call 17; refine HWR.out.mono ?_; rintro e w12 ⟨rfl, hf12⟩; have HF12 := hide (HFV2.out.trans (HFn.out.trans hf12)); clear hf12)
                    go_roundw
                    case rel => exact ⟨v + 1, by omega, by go_num, HF12.out, HE.out⟩
                    case measure => simp [intOf]; omega
                  · have hR : R = wrongV a.hp.length x := HV.out _ HZ.out (by have := HST.out; rw [if_pos h1] at this; exact this) h1
                    generalize wrongV a.hp.length x = er at hR h1 HWR
                    have h1b : (er != 0) = true := by simpa using h1
                    go_wp2_with (go_at_call 17; refine HWR.out.mono ?_; rintro e w12 ⟨rfl, hf12⟩; have HF12 := hide (HFV.out.trans (HFn.out.trans hf12)); clear hf12)
                    go_ret
                    exact ⟨by first | rfl | (rw [hR]; rfl), HF1.out.trans HF12.out⟩
                · have HE : Hid (firstN (frameE a away) (a.fr.length - (k + 1)) (k + 1) = firstN (frameE a away) a.fr.length 0) := HN.out HZ.out (by rw [← hev]; exact firstE_end _ _ (by omega))
                  clear hRv hfv hev hFv
                  go_wp2_with fail
                  go_roundw
                  case rel => exact ⟨k + 1, by omega, by go_num, HFv4.out, HE.out⟩
                  case measure => simp [intOf]; omega

        · as_aux_lemma =>
            have hz : firstN (frameE a away) a.fr.length 0 = 0 := by rw [← hek, show a.fr.length - k = 0 by omega, firstN]
            have hd := HDD.out
            rw [hz, if_neg (by simp)] at hd
            have HD2 := hide hd
            have HF5 : Hid (Fr nothing w4 wr) := hfk
            obtain ⟨⟨-, -, -, -, -⟩, ⟨i5, -, -, -⟩, il⟩ := HCC.out _ (HF4.out.trans hfk)
            have HHP := hide HA1.out.hp
            obtain ⟨w5, hw5⟩ : ∃ x, x = wr := ⟨_, rfl⟩
            subst hw5
            clear hRk hfk hek hz hd HDD
            go_wp2_with fail
            clear i5 il
            go_loopw [230, 21, 22, 23] (fun i _ _ _ wv => ∃ (j : Nat), j ≤ a.hp.length ∧ i = .int .i64 j ∧ Hid (Fr nothing w5 wv ∧ firstE (cellC a.hp.length) (a.hp.drop j) = firstE (cellC a.hp.length) a.hp)) (fun i _ _ _ _ => a.hp.length - (intOf i).toNat)
            case atStart => exact ⟨0, Nat.zero_le _, rfl, Fr.refl _ _, rfl⟩
            case round =>
              obtain ⟨j, hj, rfl, hRj⟩ := hrel
              obtain ⟨hfj, hej⟩ := hRj.out
              have hFj := HF4.out.trans (HF5.out.trans hfj)
              by_cases hjl : j < a.hp.length
              · have hx : a.hp[j]? = some a.hp[j] := List.getElem?_eq_getElem hjl
                have hxm : a.hp[j] ∈ a.hp := List.getElem_mem hjl
                have hst := firstE_drop (cellC a.hp.length) a.hp hx
                rw [hej] at hst
                generalize a.hp[j] = c at hx hxm hst
                have hwc := HW.out.hp c hxm
                obtain ⟨g, o, e1, dg, u0, u1, u2, u3, u4, u5⟩ := sl_elemL (s := ⟨sha, a.hp.length, shc⟩) HHP.out hx
                simp only at e1
                subst e1
                have dg' := Nat.lt_of_lt_of_le dg hFj.size
                rw [← hFj.cell (p := ⟨g, _, none⟩) dg id] at u0 u1 u2 u3 u4 u5
                obtain ⟨cl, cr⟩ := c
                obtain ⟨lk, ln, lt⟩ := cl
                obtain ⟨rk, rn, rt⟩ := cr
                simp only at u0 u1 u2 u3 u4 u5 hwc
                obtain ⟨-, ⟨i5, -, -, -⟩, il⟩ := HCC.out _ hFj
                have hFB : Fr nothing wr (wr.alloc (.cells #[.int .i64 lk, .int .i64 ln, .string (bs lt), .int .i64 rk, .int .i64 rn, .string (bs rt)] 61)) := (Fr.refl _ _).alloc _
                have mb := made_cells (Fr.refl nothing (wr.alloc (.cells #[.int .i64 lk, .int .i64 ln, .string (bs lt), .int .i64 rk, .int .i64 rn, .string (bs rt)] 61))) id
                have HL := hide (fun w' => rwrong_any ⟨lk, ln, lt⟩ a.hp.length w' hwc.1.t)
                have HRR := hide (fun w' => rwrong_any ⟨rk, rn, rt⟩ a.hp.length w' hwc.2.t)
                have hcc : cellC a.hp.length ⟨⟨lk, ln, lt⟩, ⟨rk, rn, rt⟩⟩ = if wrongV a.hp.length ⟨lk, ln, lt⟩ ≠ 0 then wrongV a.hp.length ⟨lk, ln, lt⟩ else wrongV a.hp.length ⟨rk, rn, rt⟩ := rfl
                rw [hcc] at hst
                obtain ⟨el, hel⟩ : ∃ x, wrongV a.hp.length ⟨lk, ln, lt⟩ = x := ⟨_, rfl⟩
                obtain ⟨er, her⟩ : ∃ x, wrongV a.hp.length ⟨rk, rn, rt⟩ = x := ⟨_, rfl⟩
                simp only [hel, her] at hst
                simp only [hel] at HL
                simp only [her] at HRR
                have HST := hide hst
                have HFB := hide hFB
                have HMB := hide mb
                have HFJ := hide hFj
                have HFj := hide hfj
                clear hRj hfj hej hx hxm hst hwc hFj hFB mb hcc hel her
                by_cases h1 : el = 0
                case neg =>
                  have h1b : (el != 0) = true := by simpa using h1
                  have hR : R = el := by
                    have := HST.out
                    simp only [h1, ne_eq, not_false_eq_true, if_true] at this
                    exact HD2.out.trans this
                  go_wp2_with (go_at_call 17; refine (HL.out _).mono ?_; rintro e w7 ⟨rfl, hf7⟩; have HF7 := hide (HFJ.out.trans (HFB.out.trans hf7)); clear hf7)
                  go_ret
                  exact ⟨by first | rfl | (rw [hR]; rfl), HF1.out.trans HF7.out⟩
                subst h1
                by_cases h2 : er = 0
                case neg =>
                  have h2b : (er != 0) = true := by simpa using h2
                  have hR : R = er := by
                    have := HST.out
                    simp only [h2, ne_eq, not_true_eq_false, not_false_eq_true, if_true, if_false] at this
                    exact HD2.out.trans this
                  go_wp2_with (first
                    | (go_at_call 17; refine (HRR.out w7).mono ?_; rintro e w8 ⟨rfl, hf8⟩; have HF8 := hide (HFJ.out.trans (HF7.out.trans hf8)); clear hf8)
                    | (go_at_call 17; refine (HL.out _).mono ?_; rintro e w7 ⟨rfl, hf7⟩; have n3 := (hf7.cell (p := ⟨wr.heap.size, 3, none⟩) HMB.out.2.2 id).trans (HMB.out.1 3); have n4 := (hf7.cell (p := ⟨wr.heap.size, 4, none⟩) HMB.out.2.2 id).trans (HMB.out.1 4); have n5 := (hf7.cell (p := ⟨wr.heap.size, 5, none⟩) HMB.out.2.2 id).trans (HMB.out.1 5); have nl := Nat.lt_of_lt_of_le HMB.out.2.2 hf7.size; obtain ⟨-, ⟨p5, -, -, -⟩, pl⟩ := HCC.out w7 (HFJ.out.trans (HFB.out.trans hf7)); have HF7 := hide (HFB.out.trans hf7); clear hf7))
                  go_ret
                  exact ⟨by first | rfl | (rw [hR]; rfl), HF1.out.trans HF8.out⟩
                subst h2
                have HE : Hid (firstE (cellC a.hp.length) (a.hp.drop (j + 1)) = firstE (cellC a.hp.length) a.hp) := by
                  have := HST.out
                  simp only [ne_eq, not_true_eq_false, if_false] at this
                  exact this.symm
                go_wp2_with (first
                  | (go_at_call 17; refine (HRR.out w7).mono ?_; rintro e w8 ⟨rfl, hf8⟩; have HF8 := hide (HFj.out.trans (HF7.out.trans hf8)); clear hf8)
                  | (go_at_call 17; refine (HL.out _).mono ?_; rintro e w7 ⟨rfl, hf7⟩; have n3 := (hf7.cell (p := ⟨wr.heap.size, 3, none⟩) HMB.out.2.2 id).trans (HMB.out.1 3); have n4 := (hf7.cell (p := ⟨wr.heap.size, 4, none⟩) HMB.out.2.2 id).trans (HMB.out.1 4); have n5 := (hf7.cell (p := ⟨wr.heap.size, 5, none⟩) HMB.out.2.2 id).trans (HMB.out.1 5); have nl := Nat.lt_of_lt_of_le HMB.out.2.2 hf7.size; obtain ⟨-, ⟨p5, -, -, -⟩, pl⟩ := HCC.out w7 (HFJ.out.trans (HFB.out.trans hf7)); have HF7 := hide (HFB.out.trans hf7); clear hf7))
                go_roundw
                case rel => exact ⟨j + 1, by omega, by go_num, HF8.out, HE.out⟩
                case measure => simp [intOf]; omega
              · have hR0 : R = 0 := by rw [HD2.out, ← hej]; exact firstE_end _ _ (by omega)
                have HFF := hide (HF1.out.trans hFj)
                subst hR0
                clear hRj hfj hej hFj
                go_wp2_with fail
                go_ret
                exact ⟨rfl, HFF.out⟩
end Go.Proofs.Ytgocmpooppejdaa
