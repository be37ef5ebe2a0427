/- VRight; Laid. -/
import Derived.Test.YtkmdamljhagogaaDoorCards
import Derived.Test.YtkmdamljhagogaaDoorTie
import Derived.ProofKit
import Derived.OpenShut
import Derived.Deep.DeepHandedRow
import Derived.ChangeMaps5
import Derived.SizedLaws
import Derived.Lib.LaidU8
import Derived.Lib.LaidTab
import Derived.LaidLaws
import Derived.Test.YtkmdamljhagogaaDoorPartR22
import Derived.Test.YtkmdamljhagogaaDoorPartR17
import Derived.Test.YtkmdamljhagogaaDoorPartR19
section
/- CodeRight: the closed fact; the law's walk. -/
set_option maxHeartbeats 0
set_option maxRecDepth 100000
namespace Go.Proofs.YtkmdamljhagogaaDoor
open Go Go.RowKit
theorem PgOk.fr2 {w w' : World} {sc sw : Slc} {P : Pg} (h : PgOk w sc sw P) (hf : Fr nothing w w') : PgOk w' sc sw P := by
  obtain ⟨⟨rs, h1, h2⟩, h3, h4, h5⟩ := h
  exact ⟨⟨rs, h1.fr hf (fun _ _ => id), h2.1, fun i r x e1 e2 => cd_stays _ _ _ _ _ _ _ (h2.2 i r x e1 e2) hf (fun _ _ => id) (fun k hk => Nat.lt_of_lt_of_le hk hf.size)⟩, h3.fr hf (fun _ _ => id), fun b hb => Nat.lt_of_lt_of_le (h4 b hb) hf.size, fun b hb => Nat.lt_of_lt_of_le (h5 b hb) hf.size⟩
theorem makeK_err (G : Bs → Int) : ∀ (l : List Fn) (P : Pg), (makeK G l P).2 = 0 ∨ makeK G l P = (⟨[], []⟩, 4)
  | [], P => .inl (by rw [makeK])
  | f :: l, P => by
    rw [makeK]
    split
    · exact .inr rfl
    · exact makeK_err G l _
theorem InOk.np {nw nv nc : Nat} {n1 n2 : Nat → Nat} {i : In} (h : InOk nw nv nc n1 i) (he : ∀ j, j < nc → n1 j = n2 j) : InOk nw nv nc n2 i :=
  ⟨h.op, h.o1, h.o2, h.o3, h.o5, fun e => by
    obtain ⟨a, b, c⟩ := h.o17 e
    exact ⟨a, b, by rw [c, he _ (by omega)]⟩, h.b, h.a⟩
theorem GoodP.ok {l : List Fn} {P : Pg} (h : GoodP l P) : ∀ c ∈ P.cs, COk P c := by
  intro c hc
  obtain ⟨j, hj, rfl⟩ := List.getElem_of_mem hc
  have hl : l[j]? = some (l[j]'(by rw [← h.n]; exact hj)) := List.getElem?_eq_getElem _
  have hg := h.c j _ _ hl (List.getElem?_eq_getElem hj)
  refine ⟨hg.n4, hg.nv, hg.len, fun i hi => ?_, hg.j, hg.h⟩
  have := hg.ok i hi
  rw [← h.n] at this
  refine this.np fun k hk => ?_
  have e1 : l[k]? = some (l[k]'(by rw [← h.n]; exact hk)) := List.getElem?_eq_getElem _
  have e2 : P.cs[k]? = some P.cs[k] := List.getElem?_eq_getElem hk
  unfold npOf
  rw [e1, e2]
  simp only [Option.map_some, Option.getD_some]
  exact (h.c k _ _ e1 e2).np.symm
abbrev b1 : Bs := [40, 109, 97, 105, 110, 32, 40, 41, 32, 40, 119, 104, 105, 108, 101, 32, 49, 32, 40, 115, 97, 121, 32, 39, 97, 39, 41, 41, 41]
theorem b1z : (pt b1).2 = 0 := by kernel_rfl
theorem b1c : checkC (pt b1).1 = 0 := by kernel_rfl
theorem b1e : (progK (pt b1).1).2 = 0 := by kernel_rfl
theorem b1n : (progK (pt b1).1).1.cs.length = 1 := by kernel_rfl
theorem b1w : (progK (pt b1).1).1.ws.length = 1 := by kernel_rfl
theorem b1i : ((progK (pt b1).1).1.cs[0]?).map (fun c => (c.ins.length, (c.ins[1]?).map (fun i => (i.op, i.a, i.b)))) = some (7, some (16, 5, 0)) := by kernel_rfl
theorem alive5_any (w : World) (hE : Er w) (hT : Tab w) : Calls Tryd.prog 16 #[] w fun e w' => e = .returned (.bool true) ∧ Fr nothing w w' := by
  have HP := hide (parse_any b1 w hE hT (by decide))
  have hR := right_of b1c
  have hfine := pt_fine b1z
  have HM := hide (fnM_r hR hfine.1 (pt_r b1z))
  have h5 := hR.n
  have hfn : fnsN (pt b1).1 ≤ 50000 := by have := hfine.2.1; omega
  have hMK : ∀ (sl : Slc) (rs : List RawF) (w1 : World), Sl encG 3 w1 sl.v rs → Each (FnOk w1 (fun k => k < w1.heap.size)) rs (pt b1).1 → Calls Tryd.prog 13 #[.slice sl.a sl.n sl.c] w1 fun e w' => ∃ (pa : Option Addr) (pc : Nat) (wa : Option Addr) (wc : Nat) (g o : Nat) (xa : Option Addr) (xc : Nat) (gi oi : Nat), pa = some ⟨g, o, none⟩ ∧ xa = some ⟨gi, oi, none⟩ ∧ e = .returned (.tuple #[.agg #[.slice pa 1 pc, .slice wa 1 wc], .int .i64 0]) ∧ Fr nothing w1 w' ∧ g < w'.heap.size ∧ gi < w'.heap.size ∧ w'.cell? ⟨g, o + 2, none⟩ = some (.slice xa 7 xc) ∧ w'.cell? ⟨gi, oi + 3, none⟩ = some (.int .i64 16) ∧ w'.cell? ⟨gi, oi + 3 + 1, none⟩ = some (.int .i64 5) ∧ w'.cell? ⟨gi, oi + 3 + 2, none⟩ = some (.int .i64 0) := by
    intro sl rs w1 h1 h2
    refine (make_any _ sl rs w1 h1 h2 HM.out hfn h5).mono ?_
    rintro e w' ⟨sc, sw, rfl, hf, ⟨ra, a1, a2⟩, a3, a4, a5⟩
    obtain ⟨n1, _⟩ := sl_len a1
    obtain ⟨n3, _⟩ := sl_len a3
    rw [a2.1, b1n] at n1
    rw [b1w] at n3
    have hi := b1i
    obtain ⟨c, hc, hci⟩ := Option.map_eq_some_iff.1 hi
    simp only [Prod.mk.injEq] at hci
    obtain ⟨i, hi1, hi2⟩ := Option.map_eq_some_iff.1 hci.2
    simp only [Prod.mk.injEq] at hi2
    have hra : ra[0]? = some (ra[0]'(by rw [a2.1, b1n]; decide)) := List.getElem?_eq_getElem _
    generalize ra[0]'(by rw [a2.1, b1n]; decide) = x at hra
    have hok := a2.2 0 x c hra hc
    obtain ⟨g, o, e1, dg, _, _, u2⟩ := sl_elemC (s := sc) a1 hra
    obtain ⟨n4, _⟩ := sl_len hok.s
    rw [hci.1] at n4
    obtain ⟨gi, oi, e2, dgi, v0, v1, v2⟩ := sl_elemI (s := x.s) hok.s hi1
    rw [hi2.1] at v0
    rw [hi2.2.1] at v1
    rw [hi2.2.2] at v2
    refine ⟨sc.a, sc.c, sw.a, sw.c, g, o, x.s.a, x.s.c, gi, oi, e1, e2, by rw [n1, n3, b1e], hf, dg, dgi, ?_, ?_, ?_, ?_⟩
    · have := u2
      rw [n4] at this
      simpa using this
    · simpa using v0
    · simpa using v1
    · simpa using v2
  have HMK := hide hMK
  clear hE hT hR hfine hMK HM hfn h5
  go_enter Tryd.func16, Tryd.ntmps16
  go_wp2_with (first
    | (go_at_call 13; refine (HMK.out sl rs w1 HS1.out (each2 HE1.out).1).mono ?_; rintro e w2 ⟨pa, pc, wa, wc, g, o, xa, xc, gi, oi, rfl, rfl, rfl, hf2, dg, dgi, u2, v0, v1, v2⟩; have HF2 := hide (HF1.out.trans hf2); clear hf2)
    | (go_at_call 7; refine HP.out.mono ?_; rintro e w1 ⟨sl, rfl, hf1, hn1, rs, hs1, he1⟩; rw [b1z]; have HF1 := hide hf1; have HS1 := hide hs1; have HE1 := hide he1; clear hf1 hs1 he1 hn1))
  go_ret
  exact ⟨rfl, HF2.out.alloc _⟩
theorem Er.keep2 {w w' : World} (h : Er w) (hf : Fr nothing w w') : Er w' := h.fr hf id id
theorem Tab.keep2 {w w' : World} (h : Tab w) (hf : Fr nothing w w') : Tab w' := Lib.tabBelow_of_tabIs h w' (hf.below (Nat.le_refl _) (fun _ _ => id))
theorem codeRight_law (S : ByteArray) (w : World) (hE : Er w) (hT : Tab w) (hS : S.size ≤ 140737488355328) :
    Calls Tryd.prog 6 #[.string S] w fun e w' => e = .returned (.bool true) ∧ Fr nothing w w' := by
  obtain ⟨s, rfl⟩ : ∃ s, S = bs s := ⟨S.data.toList, rfl⟩
  rw [bs_size] at hS
  have HAL := hide (alive5_any w hE hT)
  have HPP := hide (fun (w0 : World) (hf : Fr nothing w w0) => parse_any s w0 (hE.keep2 hf) (hT.keep2 hf) (by omega))
  have hfine := @pt_fine s
  have hr := @pt_r s
  clear hE hT
  generalize hpt : pt s = q at *
  obtain ⟨l, z⟩ := q
  simp only at hfine hr
  by_cases hz : z = 0
  · obtain ⟨hsh, hfn, _⟩ := hfine hz
    have hrr := hr hz
    subst hz
    have HSH := hide hsh
    have HRR := hide hrr
    clear hpt hfine hsh hr hrr
    by_cases hc : checkC l = 0
    · have hR := right_of hc
      have HM := hide (fnM_r hR HSH.out HRR.out)
      have hl5 := hR.n
      have hl0 := hR.n0
      have hp0 := hR.p0
      rcases makeK_err (idxG l 0 (fun _ => 0)) l ⟨[], []⟩ with he | he
      · obtain ⟨P, hP⟩ : ∃ P, progK l = (P, 0) := ⟨(progK l).1, by rw [← he]; rfl⟩
        have hG := good_of hc HRR.out P hP
        have HCN := hide hG.n
        have HG := hide hG
        have HZ : Hid (∀ c, P.cs[0]? = some c → c.np = 0) := by
          intro c hc0
          have hl : l[0]? = some (l[0]'(by omega)) := List.getElem?_eq_getElem _
          have h1 := (hG.c 0 _ c hl hc0).np
          rw [h1]
          unfold firstP at hp0
          cases l with
          | nil => simp at hl0
          | cons f l => simpa using hp0
        clear hR he hG
        go_enter Tryd.func6, Tryd.ntmps6
        go_wp2_with (first
          | (go_at_call 9; refine (rcheck_any l sl rs w1 HS1.out (each2 HE1.out).1 (each2 HE1.out).2 HSH.out (by omega)).mono ?_; rintro e w2 ⟨rfl, hf2⟩; rw [hc]; have HF2 := hide (HF1.out.trans hf2); have HS2 := hide (HS1.out.fr hf2 (fun _ _ => id)); have HE2 := hide (each_fr (each2 HE1.out).1 hf2); clear hf2)
          | (go_at_call 13; refine (make_any l sl rs w2 HS2.out HE2.out HM.out (by omega) hl5).mono ?_; rintro e w3 ⟨ps, pw, rfl, hf3, hpg⟩; rw [hP] at hpg ⊢; simp only at hpg ⊢; have HF3 := hide (HF2.out.trans hf3); have HS3 := hide (HS2.out.fr hf3 (fun _ _ => id)); have HE3 := hide (each_fr HE2.out hf3); obtain ⟨psa, psn, psc⟩ := ps; obtain ⟨pwa, pwn, pwc⟩ := pw; have hpn : psn = P.cs.length := (by obtain ⟨⟨ra, a1, a2⟩, _⟩ := hpg; exact (sl_len a1).1.trans a2.1); have hpwn : pwn = P.ws.length := (by obtain ⟨_, a3, _⟩ := hpg; exact (sl_len a3).1); subst hpn; subst hpwn; have hsn : sl.n = l.length := (sl_len HS3.out).1.trans HE3.out.1; have HPG := hide hpg; clear hf3 hpg)
          | (go_at_call 7; refine (HPP.out w0 HF0.out).mono ?_; rintro e w1 ⟨sl, rfl, hf1, hn1, rs, hs1, he1⟩; have HF1 := hide (HF0.out.trans hf1); have HS1 := hide hs1; have HE1 := hide he1; clear hf1 hs1 he1 hn1)
          | (go_at_call 16; refine HAL.out.mono ?_; rintro e w0 ⟨rfl, hf0⟩; have HF0 := hide hf0; clear hf0))
        have hf4 : Fr nothing w3 (w3.alloc (.cells #[.slice psa P.cs.length psc, .slice pwa P.ws.length pwc] 34)) := (Fr.refl _ _).alloc _
        have c4 := made_cells (Fr.refl nothing (w3.alloc (.cells #[.slice psa P.cs.length psc, .slice pwa P.ws.length pwc] 34))) id
        have HPG4 := hide (HPG.out.fr2 hf4)
        have HS4 := hide (HS3.out.fr hf4 (fun _ _ => id))
        have HE4 := hide (each_fr HE3.out hf4)
        have HF4 := hide (HF3.out.trans hf4)
        obtain ⟨w4, hw4⟩ : ∃ w4, w4 = w3.alloc (.cells #[.slice psa P.cs.length psc, .slice pwa P.ws.length pwc] 34) := ⟨_, rfl⟩
        rw [← hw4] at HPG4 HS4 HE4 HF4 c4
        have HC4 := hide c4
        rw [← hw4]
        obtain ⟨pb, hpb⟩ : ∃ x, x = w3.heap.size := ⟨_, rfl⟩
        rw [← hpb] at HC4
        rw [← hpb]
        obtain ⟨sla, sln, slc⟩ := sl
        simp only at hsn
        subst hsn
        have hp5 : P.cs.length ≤ 5 := by have := HCN.out; omega
        have hp0' : P.cs.length ≠ 0 := by have := HCN.out; omega
        clear hf4 c4 hw4 hpb HS3 HE3 HF3 HPG HS1 HE1 HS2 HE2 HF1 HF2
        go_loopw [42, 7, 8, 9] (fun i _ _ _ wv => ∃ (k : Nat), k ≤ P.cs.length ∧ i = .int .i64 k ∧ Hid (Fr nothing w4 wv)) (fun i _ _ _ _ => P.cs.length - (intOf i).toNat)
        case atStart => exact ⟨0, Nat.zero_le _, rfl, Fr.refl _ _⟩
        case round =>
          obtain ⟨k, hk, rfl, hRk⟩ := hrel
          by_cases hkl : k < P.cs.length
          · obtain ⟨⟨ra, a1, a2⟩, a3, a4, a5⟩ := HPG4.out
            have hkl2 : k < l.length := by have := HCN.out; omega
            have hx : P.cs[k]? = some P.cs[k] := List.getElem?_eq_getElem hkl
            have hf : l[k]? = some l[k] := List.getElem?_eq_getElem hkl2
            have hra : ra[k]? = some (ra[k]'(by rw [a2.1]; omega)) := List.getElem?_eq_getElem _
            have hrs : rs[k]? = some (rs[k]'(by rw [HE4.out.1]; omega)) := List.getElem?_eq_getElem _
            generalize P.cs[k] = x at hx
            generalize l[k] = fn at hf
            generalize ra[k]'(by rw [a2.1]; omega) = xa at hra
            generalize rs[k]'(by rw [HE4.out.1]; omega) = fr at hrs
            have hg := HG.out.c k fn x hf hx
            obtain ⟨p1, p2, p3, p4⟩ := a2.2 k xa x hra hx
            have hfo := HE4.out.2 k fr fn hrs hf
            obtain ⟨gb, ob, e1, dgb, ub, ub1, ub2⟩ := sl_elemC (s := ⟨psa, P.cs.length, psc⟩) a1 hra
            obtain ⟨gf, off, e3, dgf, t0, t1, t2⟩ := sl_elem3 (s := ⟨sla, l.length, slc⟩) HS4.out hrs
            simp only at e1 e3
            subst e1 e3
            obtain ⟨n1, m1⟩ := sl_len p3
            obtain ⟨n2, m2⟩ := sl_len hfo.p
            obtain ⟨m, hm⟩ : ∃ m, x.ins.length = m + 1 := ⟨x.ins.length - 1, by have := hg.len.1; omega⟩
            obtain ⟨L, hL⟩ : ∃ L, x.ins.length = L := ⟨_, rfl⟩
            have hlast := hg.last
            rw [hm, Nat.add_sub_cancel] at hlast
            obtain ⟨ia, ja, e4, dia, v0, v1, v2⟩ := sl_elemI p3 hlast
            obtain ⟨xa1, xa2, ⟨xaa, xan, xac⟩⟩ := xa
            obtain ⟨frt, ⟨frpa, frpn, frpc⟩, frb⟩ := fr
            simp only at p1 p2 n1 n2 ub ub1 ub2 t1 e4 v0
            rw [hL] at n1
            rw [hg.np] at p1
            have n1' := n1.symm
            subst p1 p2 n1' n2 e4
            clear n1
            have hF := hRk.out
            have eg1 := Nat.lt_of_lt_of_le dgb hF.size
            have eg2 := Nat.lt_of_lt_of_le dgf hF.size
            have eg3 := Nat.lt_of_lt_of_le dia hF.size
            rw [← hF.cell (p := ⟨gb, _, none⟩) dgb id] at ub ub1 ub2
            rw [← hF.cell (p := ⟨gf, _, none⟩) dgf id] at t1
            rw [← hF.cell (p := ⟨ia, _, none⟩) dia id] at v0
            have hmm := made_cells (Fr.refl nothing (wr.alloc (.cells #[.int .i64 (fn.p.length : Nat), .int .i64 (x.nv : Nat), .slice (some ⟨ia, ja, none⟩) L xac] 40))) id
            have hFA : Fr nothing wr (wr.alloc (.cells #[.int .i64 (fn.p.length : Nat), .int .i64 (x.nv : Nat), .slice (some ⟨ia, ja, none⟩) L xac] 40)) := (Fr.refl _ _).alloc _
            have i0 := hmm.1 0
            have i2 := hmm.1 2
            have t1' := (hFA.cell (p := ⟨gf, off + k * 3 + 1, none⟩) eg2 id).trans t1
            have v0' := (hFA.cell (p := ⟨ia, ja + m * 3, none⟩) eg3 id).trans v0
            have HN : Hid (Fr nothing w4 (wr.alloc (.cells #[.int .i64 (fn.p.length : Nat), .int .i64 (x.nv : Nat), .slice (some ⟨ia, ja, none⟩) L xac] 40)).drew) := (hRk.out.trans hFA).drew
            have hm1 : 1 ≤ m := by have := hg.len.1; omega
            have hm2 : m ≤ 200 := by have := hg.len.2; omega
            have hN1 : IntKind.i64.wrap ((L : Int) - 1) = (m : Nat) := by rw [wrap_in _ (by omega) (by omega)]; omega
            have hN2 : decide ((L : Int) < 2) = false := decide_eq_false (by omega)
            have hN3 : m < L := by omega
            clear hm hL hm1 hm2
            clear hx hf hra hrs hg hfo p3 p4 hlast v1 v2 t0 t2 hF hmm hFA a1 a2 a3 a4 a5 hRk
            go_wp2_with fail
            refine wp_region_held_drew (S := fun w' => w'.cell? ⟨wr.heap.size, 0, none⟩ = some (.int .i64 (fn.p.length : Nat)) ∧ w'.cell? ⟨wr.heap.size, 2, none⟩ = some (.slice (some ⟨ia, ja, none⟩) L xac) ∧ w'.cell? ⟨gf, off + k * 3 + 1, none⟩ = some (.slice frpa fn.p.length frpc) ∧ w'.cell? ⟨ia, ja + m * 3, none⟩ = some (.int .i64 18)) (by kernel_rfl) ⟨i0, i2, t1', v0'⟩ (fun hHeld => ?_)
            refine wpAnyH_take (i := 0) (oi := { dst := some 50, op := Op.fieldAddr 40 (Operand.tmp 8) 0, type := 0, pos := "law.go:44", after := #[], guard := none }) (v := ?v1) rfl (by kernel_rfl) (by kernel_rfl) (by kernel_rfl) (fun _ _ _ h => h) (Or.inl ⟨by rfl, ?hy1⟩) (by assumption) ?rest1
            case hy1 => (intro w hSw; (try dsimp only at hSw); obtain ⟨hS1, hS2, hS3, hS4⟩ := hSw; go_simp; try with_reducible rfl)
            try simp only [Act.put, List.setIfInBounds_toArray, List.set_cons_zero, List.set_cons_succ]
            refine wpAnyH_take (i := 1) (oi := { dst := some 51, op := Op.load 3 (Operand.tmp 50), type := 3, pos := "law.go:44", after := #[{ on := 0, ground := Ground.data }], guard := none }) (v := ?v2) rfl (by kernel_rfl) (by kernel_rfl) (by kernel_rfl) (fun _ _ _ h => h) (Or.inl ⟨by rfl, ?hy2⟩) (by assumption) ?rest2
            case hy2 => (intro w hSw; (try dsimp only at hSw); obtain ⟨hS1, hS2, hS3, hS4⟩ := hSw; go_simp; try with_reducible rfl)
            try simp only [Act.put, List.setIfInBounds_toArray, List.set_cons_zero, List.set_cons_succ]
            refine wpAnyH_take (i := 2) (oi := { dst := some 52, op := Op.move (Operand.tmp 3), type := 22, pos := "law.go:44", after := #[], guard := none }) (v := ?v3) rfl (by kernel_rfl) (by kernel_rfl) (by kernel_rfl) (fun _ _ _ h => h) (Or.inl ⟨by rfl, ?hy3⟩) (by assumption) ?rest3
            case hy3 => (intro w hSw; (try dsimp only at hSw); obtain ⟨hS1, hS2, hS3, hS4⟩ := hSw; go_simp; try with_reducible rfl)
            try simp only [Act.put, List.setIfInBounds_toArray, List.set_cons_zero, List.set_cons_succ]
            refine wpAnyH_take (i := 3) (oi := { dst := some 53, op := Op.move (Operand.tmp 7), type := 3, pos := "law.go:44", after := #[], guard := none }) (v := ?v4) rfl (by kernel_rfl) (by kernel_rfl) (by kernel_rfl) (fun _ _ _ h => h) (Or.inl ⟨by rfl, ?hy4⟩) (by assumption) ?rest4
            case hy4 => (intro w hSw; (try dsimp only at hSw); obtain ⟨hS1, hS2, hS3, hS4⟩ := hSw; go_simp; try with_reducible rfl)
            try simp only [Act.put, List.setIfInBounds_toArray, List.set_cons_zero, List.set_cons_succ]
            refine wpAnyH_take (i := 4) (oi := { dst := some 54, op := Op.indexAddr 22 (Operand.tmp 52) (Operand.tmp 53), type := 0, pos := "law.go:44", after := #[{ on := 2, ground := Ground.data }, { on := 3, ground := Ground.data }], guard := none }) (v := ?v5) rfl (by kernel_rfl) (by kernel_rfl) (by kernel_rfl) (fun _ _ _ h => h) (Or.inl ⟨by rfl, ?hy5⟩) (by assumption) ?rest5
            case hy5 => (intro w hSw; (try dsimp only at hSw); obtain ⟨hS1, hS2, hS3, hS4⟩ := hSw; go_simp; try with_reducible rfl)
            try simp only [Act.put, List.setIfInBounds_toArray, List.set_cons_zero, List.set_cons_succ]
            refine wpAnyH_take (i := 5) (oi := { dst := some 55, op := Op.fieldAddr 43 (Operand.tmp 54) 1, type := 0, pos := "law.go:44", after := #[{ on := 4, ground := Ground.data }], guard := none }) (v := ?v6) rfl (by kernel_rfl) (by kernel_rfl) (by kernel_rfl) (fun _ _ _ h => h) (Or.inl ⟨by rfl, ?hy6⟩) (by assumption) ?rest6
            case hy6 => (intro w hSw; (try dsimp only at hSw); obtain ⟨hS1, hS2, hS3, hS4⟩ := hSw; go_simp; try with_reducible rfl)
            try simp only [Act.put, List.setIfInBounds_toArray, List.set_cons_zero, List.set_cons_succ]
            refine wpAnyH_take (i := 6) (oi := { dst := some 56, op := Op.load 32 (Operand.tmp 55), type := 32, pos := "law.go:44", after := #[{ on := 5, ground := Ground.data }], guard := none }) (v := ?v7) rfl (by kernel_rfl) (by kernel_rfl) (by kernel_rfl) (fun _ _ _ h => h) (Or.inl ⟨by rfl, ?hy7⟩) (by assumption) ?rest7
            case hy7 => (intro w hSw; (try dsimp only at hSw); obtain ⟨hS1, hS2, hS3, hS4⟩ := hSw; go_simp; try with_reducible rfl)
            try simp only [Act.put, List.setIfInBounds_toArray, List.set_cons_zero, List.set_cons_succ]
            refine wpAnyH_take (i := 7) (oi := { dst := some 57, op := Op.call { callee := Callee.builtin Builtin.len, args := #[Operand.tmp 56], argTypes := #[32] }, type := 3, pos := "law.go:44", after := #[{ on := 6, ground := Ground.data }], guard := none }) (v := ?v8) rfl (by kernel_rfl) (by kernel_rfl) (by kernel_rfl) (fun _ _ _ h => h) (Or.inl ⟨by rfl, ?hy8⟩) (by assumption) ?rest8
            case hy8 => (intro w hSw; (try dsimp only at hSw); obtain ⟨hS1, hS2, hS3, hS4⟩ := hSw; go_simp; try with_reducible rfl)
            try simp only [Act.put, List.setIfInBounds_toArray, List.set_cons_zero, List.set_cons_succ]
            refine wpAnyH_take (i := 8) (oi := { dst := some 58, op := Op.binOp BinOp.neq 3 (Operand.tmp 51) (Operand.tmp 57) 3, type := 4, pos := "law.go:44", after := #[{ on := 1, ground := Ground.data }, { on := 7, ground := Ground.data }], guard := none }) (v := ?v9) rfl (by kernel_rfl) (by kernel_rfl) (by kernel_rfl) (fun _ _ _ h => h) (Or.inl ⟨by rfl, ?hy9⟩) (by assumption) ?rest9
            case hy9 => (intro w hSw; (try dsimp only at hSw); obtain ⟨hS1, hS2, hS3, hS4⟩ := hSw; go_simp; try with_reducible rfl)
            try simp only [Act.put, List.setIfInBounds_toArray, List.set_cons_zero, List.set_cons_succ]
            refine wpAnyH_take (i := 9) (oi := { dst := some 59, op := Op.move (Operand.tmp 58), type := 4, pos := "law.go:44", after := #[{ on := 8, ground := Ground.data }], guard := none }) (v := ?v10) rfl (by kernel_rfl) (by kernel_rfl) (by kernel_rfl) (fun _ _ _ h => h) (Or.inl ⟨by rfl, ?hy10⟩) (by assumption) ?rest10
            case hy10 => (intro w hSw; (try dsimp only at hSw); obtain ⟨hS1, hS2, hS3, hS4⟩ := hSw; go_simp; try with_reducible rfl)
            try simp only [Act.put, List.setIfInBounds_toArray, List.set_cons_zero, List.set_cons_succ]
            refine wpAnyH_take (i := 10) (oi := { dst := some 60, op := Op.move (Operand.tmp 9), type := 3, pos := "law.go:44", after := #[{ on := 9, ground := Ground.guard }], guard := some (9, false) }) (v := ?v11) rfl (by kernel_rfl) (by kernel_rfl) (by kernel_rfl) (fun _ _ _ h => h) (Or.inl ⟨by rfl, ?hy11⟩) (by assumption) ?rest11
            case hy11 => (intro w hSw; (try dsimp only at hSw); obtain ⟨hS1, hS2, hS3, hS4⟩ := hSw; go_simp; try with_reducible rfl)
            try simp only [Act.put, List.setIfInBounds_toArray, List.set_cons_zero, List.set_cons_succ]
            refine wpAnyH_take (i := 11) (oi := { dst := some 61, op := Op.binOp BinOp.lss 3 (Operand.tmp 60) (Operand.const (Value.int IntKind.i64 2)) 3, type := 4, pos := "law.go:44", after := #[{ on := 10, ground := Ground.data }, { on := 9, ground := Ground.guard }], guard := some (9, false) }) (v := ?v12) rfl (by kernel_rfl) (by kernel_rfl) (by kernel_rfl) (fun _ _ _ h => h) (Or.inl ⟨by rfl, ?hy12⟩) (by assumption) ?rest12
            case hy12 => (intro w hSw; (try dsimp only at hSw); obtain ⟨hS1, hS2, hS3, hS4⟩ := hSw; go_simp; try with_reducible rfl)
            try simp only [Act.put, List.setIfInBounds_toArray, List.set_cons_zero, List.set_cons_succ]
            try simp only [hN2]
            refine wpAnyH_take (i := 12) (oi := { dst := some 62, op := Op.pick (Operand.tmp 59) (Operand.const (Value.bool true)) (Operand.tmp 61), type := 4, pos := "law.go:44", after := #[{ on := 9, ground := Ground.data }, { on := 11, ground := Ground.data }], guard := none }) (v := ?v13) rfl (by kernel_rfl) (by kernel_rfl) (by kernel_rfl) (fun _ _ _ h => h) (Or.inl ⟨by rfl, ?hy13⟩) (by assumption) ?rest13
            case hy13 => (intro w hSw; (try dsimp only at hSw); obtain ⟨hS1, hS2, hS3, hS4⟩ := hSw; go_simp; try with_reducible rfl)
            try simp only [Act.put, List.setIfInBounds_toArray, List.set_cons_zero, List.set_cons_succ]
            refine wpAnyH_take (i := 13) (oi := { dst := some 63, op := Op.move (Operand.tmp 62), type := 4, pos := "law.go:44", after := #[{ on := 12, ground := Ground.data }, { on := 9, ground := Ground.chain }], guard := none }) (v := ?v14) rfl (by kernel_rfl) (by kernel_rfl) (by kernel_rfl) (fun _ _ _ h => h) (Or.inl ⟨by rfl, ?hy14⟩) (by assumption) ?rest14
            case hy14 => (intro w hSw; (try dsimp only at hSw); obtain ⟨hS1, hS2, hS3, hS4⟩ := hSw; go_simp; try with_reducible rfl)
            try simp only [Act.put, List.setIfInBounds_toArray, List.set_cons_zero, List.set_cons_succ]
            refine wpAnyH_take (i := 14) (oi := { dst := some 64, op := Op.fieldAddr 40 (Operand.tmp 8) 2, type := 0, pos := "law.go:44", after := #[{ on := 13, ground := Ground.guard }], guard := some (13, false) }) (v := ?v15) rfl (by kernel_rfl) (by kernel_rfl) (by kernel_rfl) (fun _ _ _ h => h) (Or.inl ⟨by rfl, ?hy15⟩) (by assumption) ?rest15
            case hy15 => (intro w hSw; (try dsimp only at hSw); obtain ⟨hS1, hS2, hS3, hS4⟩ := hSw; go_simp; try with_reducible rfl)
            try simp only [Act.put, List.setIfInBounds_toArray, List.set_cons_zero, List.set_cons_succ]
            refine wpAnyH_take (i := 15) (oi := { dst := some 65, op := Op.load 38 (Operand.tmp 64), type := 38, pos := "law.go:44", after := #[{ on := 14, ground := Ground.data }, { on := 13, ground := Ground.guard }], guard := some (13, false) }) (v := ?v16) rfl (by kernel_rfl) (by kernel_rfl) (by kernel_rfl) (fun _ _ _ h => h) (Or.inl ⟨by rfl, ?hy16⟩) (by assumption) ?rest16
            case hy16 => (intro w hSw; (try dsimp only at hSw); obtain ⟨hS1, hS2, hS3, hS4⟩ := hSw; go_simp; try with_reducible rfl)
            try simp only [Act.put, List.setIfInBounds_toArray, List.set_cons_zero, List.set_cons_succ]
            refine wpAnyH_take (i := 16) (oi := { dst := some 66, op := Op.move (Operand.tmp 9), type := 3, pos := "law.go:44", after := #[{ on := 13, ground := Ground.guard }], guard := some (13, false) }) (v := ?v17) rfl (by kernel_rfl) (by kernel_rfl) (by kernel_rfl) (fun _ _ _ h => h) (Or.inl ⟨by rfl, ?hy17⟩) (by assumption) ?rest17
            case hy17 => (intro w hSw; (try dsimp only at hSw); obtain ⟨hS1, hS2, hS3, hS4⟩ := hSw; go_simp; try with_reducible rfl)
            try simp only [Act.put, List.setIfInBounds_toArray, List.set_cons_zero, List.set_cons_succ]
            refine wpAnyH_take (i := 17) (oi := { dst := some 67, op := Op.binOp BinOp.sub 3 (Operand.tmp 66) (Operand.const (Value.int IntKind.i64 1)) 3, type := 3, pos := "law.go:44", after := #[{ on := 16, ground := Ground.data }, { on := 13, ground := Ground.guard }], guard := some (13, false) }) (v := ?v18) rfl (by kernel_rfl) (by kernel_rfl) (by kernel_rfl) (fun _ _ _ h => h) (Or.inl ⟨by rfl, ?hy18⟩) (by assumption) ?rest18
            case hy18 => (intro w hSw; (try dsimp only at hSw); obtain ⟨hS1, hS2, hS3, hS4⟩ := hSw; go_simp; try with_reducible rfl)
            try simp only [Act.put, List.setIfInBounds_toArray, List.set_cons_zero, List.set_cons_succ]
            refine wpAnyH_take (i := 18) (oi := { dst := some 68, op := Op.indexAddr 38 (Operand.tmp 65) (Operand.tmp 67), type := 0, pos := "law.go:44", after := #[{ on := 15, ground := Ground.data }, { on := 17, ground := Ground.data }, { on := 13, ground := Ground.guard }], guard := some (13, false) }) (v := ?v19) rfl (by kernel_rfl) (by kernel_rfl) (by kernel_rfl) (fun _ _ _ h => h) (Or.inl ⟨by rfl, ?hy19⟩) (by assumption) ?rest19
            case hy19 => (intro w hSw; (try dsimp only at hSw); obtain ⟨hS1, hS2, hS3, hS4⟩ := hSw; go_simp; try with_reducible rfl)
            try simp only [Act.put, List.setIfInBounds_toArray, List.set_cons_zero, List.set_cons_succ]
            refine wpAnyH_take (i := 19) (oi := { dst := some 69, op := Op.fieldAddr 45 (Operand.tmp 68) 0, type := 0, pos := "law.go:44", after := #[{ on := 18, ground := Ground.data }, { on := 13, ground := Ground.guard }], guard := some (13, false) }) (v := ?v20) rfl (by kernel_rfl) (by kernel_rfl) (by kernel_rfl) (fun _ _ _ h => h) (Or.inl ⟨by rfl, ?hy20⟩) (by assumption) ?rest20
            case hy20 => (intro w hSw; (try dsimp only at hSw); obtain ⟨hS1, hS2, hS3, hS4⟩ := hSw; go_simp; try with_reducible rfl)
            try simp only [Act.put, List.setIfInBounds_toArray, List.set_cons_zero, List.set_cons_succ]
            refine wpAnyH_take (i := 20) (oi := { dst := some 70, op := Op.load 3 (Operand.tmp 69), type := 3, pos := "law.go:44", after := #[{ on := 19, ground := Ground.data }, { on := 13, ground := Ground.guard }], guard := some (13, false) }) (v := ?v21) rfl (by kernel_rfl) (by kernel_rfl) (by kernel_rfl) (fun _ _ _ h => h) (Or.inl ⟨by rfl, ?hy21⟩) (by assumption) ?rest21
            case hy21 => (intro w hSw; (try dsimp only at hSw); obtain ⟨hS1, hS2, hS3, hS4⟩ := hSw; go_simp; try with_reducible rfl)
            try simp only [Act.put, List.setIfInBounds_toArray, List.set_cons_zero, List.set_cons_succ]
            refine wpAnyH_take (i := 21) (oi := { dst := some 71, op := Op.binOp BinOp.neq 3 (Operand.tmp 70) (Operand.const (Value.int IntKind.i64 18)) 3, type := 4, pos := "law.go:44", after := #[{ on := 20, ground := Ground.data }, { on := 13, ground := Ground.guard }], guard := some (13, false) }) (v := ?v22) rfl (by kernel_rfl) (by kernel_rfl) (by kernel_rfl) (fun _ _ _ h => h) (Or.inl ⟨by rfl, ?hy22⟩) (by assumption) ?rest22
            case hy22 => (intro w hSw; (try dsimp only at hSw); obtain ⟨hS1, hS2, hS3, hS4⟩ := hSw; go_simp; try with_reducible rfl)
            try simp only [Act.put, List.setIfInBounds_toArray, List.set_cons_zero, List.set_cons_succ]
            refine wpAnyH_take (i := 22) (oi := { dst := some 72, op := Op.pick (Operand.tmp 63) (Operand.const (Value.bool true)) (Operand.tmp 71), type := 4, pos := "law.go:44", after := #[{ on := 13, ground := Ground.data }, { on := 21, ground := Ground.data }], guard := none }) (v := ?v23) rfl (by kernel_rfl) (by kernel_rfl) (by kernel_rfl) (fun _ _ _ h => h) (Or.inl ⟨by rfl, ?hy23⟩) (by assumption) ?rest23
            case hy23 => (intro w hSw; (try dsimp only at hSw); obtain ⟨hS1, hS2, hS3, hS4⟩ := hSw; go_simp; try with_reducible rfl)
            try simp only [Act.put, List.setIfInBounds_toArray, List.set_cons_zero, List.set_cons_succ]
            refine wpAnyH_done (by kernel_rfl) ?_ _
            clear hHeld
            go_wp2_with fail
            go_roundw
            case rel => exact ⟨k + 1, by omega, by go_num, HN.out⟩
            case measure => simp [intOf]; omega
          · have g0 := (hRk.out.cell (p := ⟨pb, 0, none⟩) HC4.out.2.2 id).trans (HC4.out.1 0)
            have g1 := (hRk.out.cell (p := ⟨pb, 1, none⟩) HC4.out.2.2 id).trans (HC4.out.1 1)
            have gl := Nat.lt_of_lt_of_le HC4.out.2.2 hRk.out.size
            have HPR := hide (program_ok P ⟨psa, P.cs.length, psc⟩ ⟨pwa, P.ws.length, pwc⟩ wr (HPG4.out.fr2 hRk.out) (by omega) (by omega) HG.out.w HG.out.word HG.out.ok HZ.out)
            have HF5 := hide (HF4.out.trans hRk.out)
            have hcn2 : ((P.cs.length : Int) == (l.length : Int)) = true := by rw [HCN.out]; simp
            clear hRk
            go_wp2_with (go_at_call 17; refine HPR.out.mono ?_; rintro e w6 ⟨rfl, hf6⟩; have HF6 := hide (HF5.out.trans hf6); clear hf6)
            go_ret
            exact ⟨rfl, HF6.out⟩
      · have hP : progK l = (⟨[], []⟩, 4) := he
        go_enter Tryd.func6, Tryd.ntmps6
        go_wp2_with (first
          | (go_at_call 9; refine (rcheck_any l sl rs w1 HS1.out (each2 HE1.out).1 (each2 HE1.out).2 HSH.out (by omega)).mono ?_; rintro e w2 ⟨rfl, hf2⟩; rw [hc]; have HF2 := hide (HF1.out.trans hf2); have HS2 := hide (HS1.out.fr hf2 (fun _ _ => id)); have HE2 := hide (each_fr (each2 HE1.out).1 hf2); clear hf2)
          | (go_at_call 13; refine (make_any l sl rs w2 HS2.out HE2.out HM.out (by omega) hl5).mono ?_; rintro e w3 ⟨ps, pw, rfl, hf3, hpg⟩; rw [hP] at hpg ⊢; simp only at hpg ⊢; have HF3 := hide (HF2.out.trans hf3); have HS3 := hide (HS2.out.fr hf3 (fun _ _ => id)); have HE3 := hide (each_fr HE2.out hf3); have hpn : ps.n = 0 := (by obtain ⟨⟨ra, a1, a2⟩, _⟩ := hpg; exact (sl_len a1).1.trans a2.1); obtain ⟨psa, psn, psc⟩ := ps; simp only at hpn; subst hpn; have HPG := hide hpg; clear hf3 hpg)
          | (go_at_call 7; refine (HPP.out w0 HF0.out).mono ?_; rintro e w1 ⟨sl, rfl, hf1, hn1, rs, hs1, he1⟩; have HF1 := hide (HF0.out.trans hf1); have HS1 := hide hs1; have HE1 := hide he1; clear hf1 hs1 he1 hn1)
          | (go_at_call 16; refine HAL.out.mono ?_; rintro e w0 ⟨rfl, hf0⟩; have HF0 := hide hf0; clear hf0))
        go_ret
        exact ⟨rfl, HF3.out.alloc _⟩
    · have hcb := ne_bne hc
      go_enter Tryd.func6, Tryd.ntmps6
      go_wp2_with (first
        | (go_at_call 9; refine (rcheck_any l sl rs w1 HS1.out (each2 HE1.out).1 (each2 HE1.out).2 HSH.out (by omega)).mono ?_; rintro e w2 ⟨rfl, hf2⟩; have HF2 := hide (HF1.out.trans hf2); clear hf2)
        | (go_at_call 7; refine (HPP.out w0 HF0.out).mono ?_; rintro e w1 ⟨sl, rfl, hf1, hn1, rs, hs1, he1⟩; have HF1 := hide (HF0.out.trans hf1); have HS1 := hide hs1; have HE1 := hide he1; clear hf1 hs1 he1 hn1)
        | (go_at_call 16; refine HAL.out.mono ?_; rintro e w0 ⟨rfl, hf0⟩; have HF0 := hide hf0; clear hf0))
      go_ret
      exact ⟨rfl, HF2.out⟩
  · have hzb := ne_bne hz
    clear hpt hfine hr
    go_enter Tryd.func6, Tryd.ntmps6
    go_wp2_with (first
      | (go_at_call 7; refine (HPP.out w0 HF0.out).mono ?_; rintro e w1 ⟨sl, rfl, hf1, hn1, rs, hs1, he1⟩; have HF1 := hide (HF0.out.trans hf1); have HS1 := hide hs1; have HE1 := hide he1; clear hf1 hs1 he1 hn1)
      | (go_at_call 16; refine HAL.out.mono ?_; rintro e w0 ⟨rfl, hf0⟩; have HF0 := hide hf0; clear hf0))
    go_ret
    exact ⟨rfl, HF1.out⟩
end Go.Proofs.YtkmdamljhagogaaDoor
end
section
/- A world for the witnesses: the settled one, the tables and errors of Go's library holding what their initialisers lay; what a row's list gives. -/
namespace Go.Proofs.YtkmdamljhagogaaDoor
/-- One block's cells put in place. -/
def putCells (l : List Value) : Obj → Obj
  | .cells _ t frozen => .cells l.toArray t frozen
  | o => o
open Go.ChangeShapes Go.WideShapes Go.ChangeAt Go.RowKit Go.ChangeMaps
def pow10s : List Value := [1, 10, 100, 1000, 10000, 100000, 1000000, 10000000, 100000000, 1000000000, 10000000000, 100000000000, 1000000000000, 10000000000000, 100000000000000, 1000000000000000, 10000000000000000, 100000000000000000, 1000000000000000000, 10000000000000000000].map fun n => .int .u64 n
def bruijn32 : List Value := [0, 1, 28, 2, 29, 14, 24, 3, 30, 22, 20, 15, 25, 17, 4, 8, 31, 27, 13, 23, 21, 19, 16, 7, 26, 12, 18, 6, 11, 5, 10, 9].map fun n => .int .u8 n
def bruijn64 : List Value := [0, 1, 56, 2, 57, 49, 28, 3, 61, 58, 42, 50, 38, 29, 17, 4, 62, 47, 59, 36, 45, 43, 51, 22, 53, 39, 33, 30, 24, 18, 12, 5, 63, 55, 48, 27, 60, 41, 37, 16, 46, 35, 44, 21, 52, 32, 23, 11, 54, 26, 40, 15, 34, 20, 31, 10, 25, 14, 19, 9, 13, 8, 7, 6].map fun n => .int .u8 n
def synT : List UInt8 := [105, 110, 118, 97, 108, 105, 100, 32, 115, 121, 110, 116, 97, 120]
def rngT : List UInt8 := [118, 97, 108, 117, 101, 32, 111, 117, 116, 32, 111, 102, 32, 114, 97, 110, 103, 101]
noncomputable def baseWorld (os : Os) : World := World.holding Tryd.prog os ⟨#[], #[], []⟩
noncomputable def laidWorld (os : Os) : World :=
  { baseWorld os with heap := ((((((baseWorld os).heap.modify 0 (putCells [.iface 147 (.pointer (some ⟨(baseWorld os).heap.size, 0, none⟩))])).modify 1 (putCells [.iface 147 (.pointer (some ⟨(baseWorld os).heap.size + 1, 0, none⟩))])).modify 2 (putCells pow10s)).modify 3 (putCells bruijn32)).modify 4 (putCells bruijn64)).push (.cells #[.string ⟨synT.toArray⟩] 149 (0, 0)) |>.push (.cells #[.string ⟨rngT.toArray⟩] 149 (0, 0)) }
theorem own : ownKnob Tryd.prog.godebug = none := by kernel_rfl
theorem laidOut : laidOutB Tryd.prog = true := by kernel_rfl
theorem g0 : Tryd.prog.globalNamed "strconv.ErrSyntax" = some 0 := by kernel_rfl
theorem g1 : Tryd.prog.globalNamed "strconv.ErrRange" = some 1 := by kernel_rfl
theorem gt0 : (Tryd.prog.globals[0]?).map (·.type) = some 111 := by kernel_rfl
theorem gt1 : (Tryd.prog.globals[1]?).map (·.type) = some 111 := by kernel_rfl
theorem err_at {W : World} {n : String} {g : Nat} {nm : String} {d : DataW Unit} (hg : Tryd.prog.globalNamed n = some g) (ht : (Tryd.prog.globals[g]?).map (·.type) = some 111) (h : Lib.VarReads Tryd.prog W n (.iface nm d)) : ∃ ev, W.cell? ⟨g, 0, none⟩ = some ev ∧ (ev = .nilIface ∨ ∃ te pe, ev = .iface te pe) := by
  obtain ⟨g', t', cs, fuel, p, h1, h2, h3, h4⟩ := h
  obtain rfl := Option.some.inj (hg.symm.trans h1)
  obtain rfl := Option.some.inj (ht.symm.trans h2)
  obtain ⟨_, u, v, hcs, _⟩ := iface_of_trod Tryd.underlying111 h4
  refine ⟨.iface u v, ?_, .inr ⟨u, v, rfl⟩⟩
  unfold World.var? at h3
  rw [hg] at h3
  simp only [Option.bind_some] at h3
  unfold World.cell?
  split at h3
  · rename_i cs' t fr he
    cases h3
    rw [he]
    obtain ⟨l⟩ := cs
    simp only at hcs
    subst hcs
    simp
  · cases h3
/-- What the row's list gives: the two errors. -/
theorem errs {W : World} (h : laidMetH Tryd.prog Rows.scopeTellsRow.laid W) : Er W := by
  have h1 : laidMet Tryd.prog Rows.scopeTellsRow.laid W := h
  exact ⟨err_at g0 gt0 (Lib.laidMet.reads h1 (n := "strconv.ErrSyntax") (d := Rows.laid_strconv_ErrSyntax) (by simp [Rows.scopeTellsRow])), err_at g1 gt1 (Lib.laidMet.reads h1 (n := "strconv.ErrRange") (d := Rows.laid_strconv_ErrRange) (by simp [Rows.scopeTellsRow]))⟩
theorem gTab : Tryd.prog.globalNamed "internal/strconv.uint64pow10" = some 2 := by kernel_rfl
theorem gTabType : (Tryd.prog.globals[2]?).map (·.type) = some 151 := by kernel_rfl
theorem cellsA20 : Tryd.prog.cellsOf 151 = 20 := by kernel_rfl
theorem cellsU64 : Tryd.prog.cellsOf 131 = 1 := by kernel_rfl
/-- What the row's list gives: the table that Itoa reads. -/
theorem table {W : World} (h : laidMetH Tryd.prog Rows.scopeTellsRow.laid W) : Tab W := by
  have h1 : laidMet Tryd.prog Rows.scopeTellsRow.laid W := h
  have h2 := h1.filter (fun x => x.1 == "internal/strconv.uint64pow10")
  exact Lib.tabIs_of_head (rest := []) gTab gTabType Tryd.underlying151 Tryd.underlying131 cellsU64 cellsA20 h2
end Go.Proofs.YtkmdamljhagogaaDoor
end
