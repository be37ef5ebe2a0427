/- The document's own check of functions. -/
import Derived.Test.YtkmdamljhagogaaDoorCany
import Derived.Test.YtkmdamljhagogaaDoorShape
import Derived.Test.YtkmdamljhagogaaDoorCounted
set_option maxHeartbeats 0
set_option maxRecDepth 100000
namespace Go.Proofs.YtkmdamljhagogaaDoor
open Go Go.RowKit
abbrev fo (a : RawF) : Obj := .cells #[.string (bs a.t), .slice a.p.a a.p.n a.p.c, .slice a.b.a a.b.n a.b.c] 43
theorem fo_cells {w w' : World} {r : RawF} {S : Nat → Prop} (hf : Fr S (w.alloc (fo r)) w') (hs : ¬ S w.heap.size) : w'.cell? ⟨w.heap.size, 0, none⟩ = some (.string (bs r.t)) ∧ w'.cell? ⟨w.heap.size, 1, none⟩ = some (.slice r.p.a r.p.n r.p.c) ∧ w'.cell? ⟨w.heap.size, 2, none⟩ = some (.slice r.b.a r.b.n r.b.c) ∧ w.heap.size < w'.heap.size := by
  have hn := made_cells hf hs
  exact ⟨hn.1 0, hn.1 1, hn.1 2, hn.2.2⟩
theorem sl_take {w : World} {pa : Option Addr} {n c : Nat} {p : List Bs} (h : Sl encN 1 w (.slice pa n c) p) (i : Nat) (hi : i ≤ p.length) (c' : Nat) : Sl encN 1 w (.slice pa i c') (p.take i) := by
  obtain ⟨ao, cap, e, h1, h2⟩ := h
  injection e with e1 e2 e3
  subst e1
  refine ⟨pa, c', ?_, ?_, fun k x hk => h2 k x ?_⟩
  · rw [List.length_take, Nat.min_eq_left hi]
  · rw [List.length_take]; omega
  · rw [List.getElem?_take] at hk
    split at hk
    · exact hk
    · cases hk
/-- The checker's first state. -/
theorem CI.made (w : World) : CI (w.heap.size + 1 + 1) w.heap.size (w.heap.size + 1) AMap.empty 0 WS.empty (((w.alloc (.map #[] 0)).alloc (.map #[] 0)).alloc (.cells #[.map (some w.heap.size), .int .i64 0, .map (some (w.heap.size + 1))] 65)) := by
  have s1 : (w.alloc (.map #[] 0)).heap.size = w.heap.size + 1 := by simp
  have s2 : ((w.alloc (.map #[] 0)).alloc (.map #[] 0)).heap.size = w.heap.size + 1 + 1 := by simp
  have hn := made_cells (Fr.refl nothing (((w.alloc (.map #[] 0)).alloc (.map #[] 0)).alloc (.cells #[.map (some w.heap.size), .int .i64 0, .map (some (w.heap.size + 1))] 65))) id
  rw [s2] at hn
  have f1 : Fr nothing (w.alloc (.map #[] 0)) (((w.alloc (.map #[] 0)).alloc (.map #[] 0)).alloc (.cells #[.map (some w.heap.size), .int .i64 0, .map (some (w.heap.size + 1))] 65)) := ((Fr.refl _ _).alloc _).alloc _
  have f2 : Fr nothing ((w.alloc (.map #[] 0)).alloc (.map #[] 0)) (((w.alloc (.map #[] 0)).alloc (.map #[] 0)).alloc (.cells #[.map (some w.heap.size), .int .i64 0, .map (some (w.heap.size + 1))] 65)) := (Fr.refl _ _).alloc _
  have m2 := SB.made (w.alloc (.map #[] 0))
  rw [s1] at m2
  exact ⟨hn.1 0, hn.1 1, hn.1 2, hn.2.1 1, hn.2.2, (SI.made w).fr f1 id, ⟨_, m2.fr f2 id, fun _ => rfl, rfl⟩, by omega, by omega, by omega⟩
/-- A function's head is put into the checker's map. -/
theorem CI.head {cb fb wb : Nat} {F : AMap} {v : Int} {W : WS} {w : World} (h : CI cb fb wb F v W w) (t : Bs) (ht : t.length ≤ 100000) (n : Nat) (hn : F.n ≤ 100000) (h1 : n ≤ 4) :
    ∃ w', (Instr.mapUpdate 55 (.map (some fb)) (.string (bs t)) (.int .i64 n)).run Tryd.prog w = .ok () w' ∧ CI cb fb wb (F.put t n) v W w' ∧ Fr (fun j => j = fb) w w' := by
  obtain ⟨w', r, s, f⟩ := h.fm.store t ht n hn (by omega) (by omega)
  have hne := h.ne
  obtain ⟨A, a1, a2, a3⟩ := h.wm
  exact ⟨w', r, ⟨(f.cell (p := ⟨cb, 0, none⟩) h.lt hne.1).trans h.c0, (f.cell (p := ⟨cb, 1, none⟩) h.lt hne.1).trans h.c1, (f.cell (p := ⟨cb, 2, none⟩) h.lt hne.1).trans h.c2, (f.frozen (p := ⟨cb, 1, none⟩) h.lt hne.1).trans h.f1, Nat.lt_of_lt_of_le h.lt f.size, s, ⟨A, a1.fr f (fun e => hne.2.2 e.symm), a2, a3⟩, hne⟩, f⟩
theorem headsC_bad1 {f : Fn} {l : List Fn} {F : Bs → Option Int} (h : ((F f.t).isSome || dup f.p) = true) : headsC (f :: l) F = (7, F) := by rw [headsC, if_pos h]
theorem headsC_bad2 {f : Fn} {l : List Fn} {F : Bs → Option Int} (h : ((F f.t).isSome || dup f.p) = false) (h4 : 4 < f.p.length) : headsC (f :: l) F = (5, F) := by rw [headsC, if_neg (by rw [h]; decide), if_pos h4]
theorem headsC_ok {f : Fn} {l : List Fn} {F : AMap} (h : ((F.f f.t).isSome || dup f.p) = false) (h4 : ¬ 4 < f.p.length) : headsC (f :: l) F.f = headsC l (F.put f.t f.p.length).f := by rw [headsC, if_neg (by rw [h]; decide), if_neg h4]; rfl
theorem checkC_head {l : List Fn} (h0 : ¬ l.length = 0) (h5 : ¬ 5 < l.length) {e : Int} {F : Bs → Option Int} (h : headsC l (fun _ => none) = (e, F)) (he : e ≠ 0) : checkC l = e := by
  unfold checkC
  rw [if_neg (by omega), h, if_pos he]

theorem rcheck_any (l : List Fn) (s : Slc) (rs : List RawF) (w : World) (hS : Sl encG 3 w s.v rs) (hE : Each (FnOk w (fun k => k < w.heap.size)) rs l) (hCap : ∀ r ∈ rs, r.p.n ≤ r.p.c) (hSh : ∀ f ∈ l, FnSh f) (hN : fnsN l ≤ 50000) :
    Calls Tryd.prog 9 #[.slice s.a s.n s.c] w fun e w' => e = .returned (.int .i64 (checkC l)) ∧ Fr nothing w w' := by
  obtain ⟨hln, hlm⟩ := sl_len hS
  obtain ⟨la, ln, lc⟩ := s
  simp only at hln
  rw [hE.1] at hln
  subst hln
  have hll : l.length ≤ 9223372036854775807 := by have := hE.1; omega
  have HS := hide hS
  have HE := hide hE
  clear hS hE
  by_cases h0 : l.length = 0
  · have q0 : (((l.length : Nat) : Int) == 0) = true := by simp [h0]
    have HCK : Hid (checkC l = 5) := by show checkC l = 5; unfold checkC; rw [if_pos (.inl h0)]
    clear h0
    go_enter Tryd.func9, Tryd.ntmps9
    go_wp2
    go_ret
    exact ⟨by rw [HCK.out]; rfl, Fr.refl _ _⟩
  by_cases h5 : 5 < l.length
  · have q0 : (((l.length : Nat) : Int) == 0) = false := by simpa using h0
    have q5 : (5 : Int) < (l.length : Nat) := by omega
    have HCK : Hid (checkC l = 5) := by show checkC l = 5; unfold checkC; rw [if_pos (.inr h5)]
    go_enter Tryd.func9, Tryd.ntmps9
    go_wp2
    go_ret
    exact ⟨by rw [HCK.out]; rfl, Fr.refl _ _⟩
  have h5' : l.length ≤ 5 := by omega
  have q0 : (((l.length : Nat) : Int) == 0) = false := by simpa using h0
  have q5 : ¬ (5 : Int) < (l.length : Nat) := by omega
  have hmm := @run_makeMap Tryd.prog
  have HC0 := hide (CI.made w)
  have HF0 : Hid (Fr nothing w (((w.alloc (.map #[] 0)).alloc (.map #[] 0)).alloc (.cells #[.map (some w.heap.size), .int .i64 0, .map (some (w.heap.size + 1))] 65))) := (((Fr.refl _ _).alloc _).alloc _).alloc _
  go_enter Tryd.func9, Tryd.ntmps9
  go_wp2
  clear hmm
  generalize ((w.alloc (.map #[] 0)).alloc (.map #[] 0)).alloc (.cells #[.map (some w.heap.size), .int .i64 0, .map (some (w.heap.size + 1))] 65) = w3 at HC0 HF0 ⊢
  generalize hcb : w.heap.size + 1 + 1 = cb at HC0 ⊢
  generalize hwb : w.heap.size + 1 = wb at HC0 ⊢
  obtain ⟨fb, hfb⟩ : ∃ x, x = w.heap.size := ⟨_, rfl⟩
  rw [← hfb] at HC0
  rw [← hfb]
  have HGE : Hid (w.heap.size ≤ fb ∧ w.heap.size ≤ wb ∧ w.heap.size ≤ cb) := by show _ ∧ _; omega
  clear hfb hcb hwb
  go_loopw [27, 5, 6, 7, 8, 9] (fun i _ _ _ _ _ wr => ∃ (j : Nat) (F : AMap), j ≤ l.length ∧ i = .int .i64 j ∧ F.n ≤ j ∧ Hid (CI cb fb wb F 0 WS.empty wr ∧ Fr nothing w wr ∧ headsC l (fun _ => none) = headsC (l.drop j) F.f ∧ ∀ f ∈ l.take j, f.p.length ≤ 4)) (fun i _ _ _ _ _ _ => l.length - (intOf i).toNat)
  case atStart => exact ⟨0, AMap.empty, Nat.zero_le _, rfl, Nat.le_refl _, HC0.out, HF0.out, rfl, fun f hf => by simp at hf⟩
  case round =>
    obtain ⟨j, F, hj, rfl, hFn, hR⟩ := hrel
    by_cases hjl : j < l.length
    · have hx : l[j]? = some l[j] := List.getElem?_eq_getElem hjl
      have hr : rs[j]? = some (rs[j]'(by rw [HE.out.1]; omega)) := List.getElem?_eq_getElem _
      have hxm : l[j] ∈ l := List.getElem_mem hjl
      have hdr : l.drop j = l[j] :: l.drop (j + 1) := List.drop_eq_getElem_cons hjl
      have htk : l.take (j + 1) = l.take j ++ [l[j]] := (List.take_append_getElem hjl).symm
      generalize rs[j]'(by rw [HE.out.1]; omega) = r at hr
      generalize l[j] = f at hx hxm hdr htk
      have hok := HE.out.2 j r f hr hx
      have hcp := hCap r (List.mem_of_getElem? hr)
      obtain ⟨g, o, hg, dg, p0, p1, p2⟩ := sl_elem3 (s := ⟨la, l.length, lc⟩) HS.out hr
      simp only at hg
      subst hg
      obtain ⟨hCj, hFj, hEqj, hTj⟩ := hR.out
      rw [← hFj.cell (p := ⟨g, _, none⟩) dg id] at p0 p1 p2
      have eg : g < wr.heap.size := Nat.lt_of_lt_of_le dg hFj.size
      rw [hdr] at hEqj
      have hsh := hSh f hxm
      have hft := hsh.t
      obtain ⟨rt, ⟨pa, pn, pc⟩, rb⟩ := r
      obtain ⟨rfl, hp, hpP, hb, hbP⟩ := hok
      simp only at hp hpP hb hbP p0 p1 p2 hcp
      obtain ⟨hpn, hpm⟩ := sl_len hp
      simp only at hpn
      subst hpn
      have hFA : Fr nothing wr (wr.alloc (fo ⟨f.t, ⟨pa, f.p.length, pc⟩, rb⟩)) := (Fr.refl _ _).alloc _
      obtain ⟨y0, y1, y2, yl⟩ := fo_cells (Fr.refl nothing (wr.alloc (fo ⟨f.t, ⟨pa, f.p.length, pc⟩, rb⟩))) id
      have HCA := hide (hCj.fr hFA id id id)
      have HFA := hide (hFj.trans hFA)
      have HP := hide (hp.keep HFA.out (P := fun _ => True) (fun _ _ => trivial) (fun _ _ => id))
      have hlk : (Instr.lookup 55 (.map (some fb)) (.string (bs f.t)) true).run Tryd.prog (wr.alloc (fo ⟨f.t, ⟨pa, f.p.length, pc⟩, rb⟩)).drew = .ok (.tuple #[.int .i64 ((F.f f.t).getD 0), .bool (F.f f.t).isSome]) (wr.alloc (fo ⟨f.t, ⟨pa, f.p.length, pc⟩, rb⟩)).drew := (HCA.out.fr (S := nothing) (Fr.refl nothing _).drew id id id).fm.look2 f.t (by omega)
      have z0 := HCA.out.c0
      have zl := HCA.out.lt
      have HEQ := hide hEqj
      have HT := hide hTj
      have hpl : f.p.length ≤ 9223372036854775807 := by omega
      clear hR hCj hFj hEqj hTj hFA hp hpP hb hbP hr hx
      generalize hwa : wr.alloc (fo ⟨f.t, ⟨pa, f.p.length, pc⟩, rb⟩) = wa at *
      generalize hob : (F.f f.t).isSome = ob at hlk
      go_wp2_with fail
      go_region
      go_wp2_with fail
      clear hlk
      go_loopw [44, 7, 8, 9] (fun i had _ _ ws => ∃ (q : Nat), q ≤ f.p.length ∧ i = .int .i64 q ∧ had = .bool (ob || dup (f.p.take q)) ∧ ws = wa.drew) (fun i _ _ _ _ => f.p.length - (intOf i).toNat)
      case atStart => exact ⟨0, Nat.zero_le _, rfl, by simp [dup], rfl⟩
      case round =>
        obtain ⟨q, hq, rfl, rfl, hwq⟩ := hrel
        subst hwq
        by_cases hql : q < f.p.length
        · have hx : f.p[q]? = some f.p[q] := List.getElem?_eq_getElem hql
          have htq : f.p.take (q + 1) = f.p.take q ++ [f.p[q]] := (List.take_append_getElem hql).symm
          generalize f.p[q] = x at hx htq
          obtain ⟨g2, o2, hg2, dg2, u0⟩ := sl_elem1 (s := ⟨pa, f.p.length, pc⟩) HP.out hx
          simp only at hg2
          subst hg2
          cases hd : (ob || dup (f.p.take q)) with
          | true =>
            have HN : Hid ((ob || dup (f.p.take (q + 1))) = true) := by
              show (ob || dup (f.p.take (q + 1))) = true
              rw [htq, dup_snoc, ← Bool.or_assoc, hd]; rfl
            clear hd
            go_wp2
            go_roundw
            case rel => exact ⟨q + 1, by omega, by go_num, by rw [HN.out], by first | rfl | trivial⟩
            case measure => simp [intOf]; omega
          | false =>
            have HN : Hid ((ob || dup (f.p.take (q + 1))) = (f.p.take q).contains x) := by
              show (ob || dup (f.p.take (q + 1))) = _
              rw [htq, dup_snoc, ← Bool.or_assoc, hd]; rfl
            have HH := hide (fun c' => has_any ⟨some ⟨g2, o2, none⟩, q, c'⟩ (f.p.take q) x wa.drew (sl_take (HP.out.fr (Fr.refl nothing wa).drew (fun _ _ => id)) q (by omega) c'))
            have b1 : (0 : Int) ≤ (q : Nat) := by omega
            have b2 : ((q : Nat) : Int) ≤ (pc : Nat) := by omega
            have b3 : q ≤ pc := by omega
            clear hd
            go_wp2_with (go_at_call 27; refine (HH.out _).mono ?_; rintro e w4 ⟨rfl, hw4⟩; have hw4' := hw4.symm; subst hw4'; clear hw4)
            go_roundw
            case rel => exact ⟨q + 1, by omega, by go_num, by rw [HN.out]; simp, by first | rfl | trivial⟩
            case measure => simp [intOf]; omega
        · have hqe : q = f.p.length := by omega
          have htq : f.p.take q = f.p := by rw [hqe, List.take_length]
          rw [htq]
          cases hd : (ob || dup f.p) with
          | true =>
            have HEND : Hid (checkC l = 7) := by
              show checkC l = 7
              have h1 := HEQ.out
              rw [headsC_bad1 (by rw [hob]; exact hd)] at h1
              exact checkC_head h0 h5 h1 (by decide)
            clear hd
            go_wp2
            go_ret
            exact ⟨by rw [HEND.out]; rfl, HFA.out.drew⟩
          | false =>
            by_cases h4 : 4 < f.p.length
            · have h4' : (4 : Int) < (f.p.length : Nat) := by omega
              have HEND : Hid (checkC l = 5) := by
                show checkC l = 5
                have h1 := HEQ.out
                rw [headsC_bad2 (by rw [hob]; exact hd) h4] at h1
                exact checkC_head h0 h5 h1 (by decide)
              clear hd
              go_wp2
              go_ret
              exact ⟨by rw [HEND.out]; rfl, HFA.out.drew⟩
            · have h4' : ¬ (4 : Int) < (f.p.length : Nat) := by omega
              have HEQ2 := hide (HEQ.out.trans (headsC_ok (by rw [hob]; exact hd) h4))
              obtain ⟨wu, ru, hcu, hfu⟩ := (HCA.out.fr (S := nothing) (Fr.refl nothing wa).drew.drew id id id).head f.t (by omega) f.p.length (by omega) (by omega)
              have HCU := hide hcu
              have HFU := hide ((HFA.out.drew.drew).then hfu (fun k hk e => by have := HGE.out.1; omega))
              clear hd hcu hfu
              go_wp2_with fail
              go_region
              go_wp2_with fail
              go_roundw
              case rel => exact ⟨j + 1, F.put f.t f.p.length, by omega, by go_num, by unfold AMap.put; dsimp only; split <;> omega, HCU.out, HFU.out, HEQ2.out, fun f2 hf2 => by
                rw [htk] at hf2
                rcases List.mem_append.1 hf2 with h | h
                · exact HT.out f2 h
                · rw [List.mem_singleton.1 h]; omega⟩
              case measure => simp [intOf]; omega
    · have hje : j = l.length := by omega
      obtain ⟨hCj, hFj, hEqj, hTj⟩ := hR.out
      rw [hje, List.drop_length] at hEqj
      have hh : headsC l (fun _ => none) = (0, F.f) := hEqj
      rw [hje, List.take_length] at hTj
      have hl0 : 0 < l.length := by omega
      have hx : l[0]? = some l[0] := List.getElem?_eq_getElem hl0
      have hr : rs[0]? = some (rs[0]'(by rw [HE.out.1]; omega)) := List.getElem?_eq_getElem _
      generalize rs[0]'(by rw [HE.out.1]; omega) = r at hr
      generalize l[0] = f at hx
      have hok := HE.out.2 0 r f hr hx
      obtain ⟨g, o, hg, dg, p0, p1, p2⟩ := sl_elem3 (s := ⟨la, l.length, lc⟩) HS.out hr
      simp only at hg
      subst hg
      rw [← hFj.cell (p := ⟨g, _, none⟩) dg id] at p0 p1 p2
      have eg : g < wr.heap.size := Nat.lt_of_lt_of_le dg hFj.size
      have hpn := (sl_len hok.p).1
      have hpm := (sl_len hok.p).2
      have hfp : firstP l = f.p.length := by
        cases l with
        | nil => simp at hl0
        | cons a b => simp at hx; subst hx; rfl
      simp only [Nat.zero_mul, Nat.add_zero] at p1
      rw [hpn] at p1
      have l0' : (0 : Int) < (l.length : Nat) := by omega
      have HCj := hide hCj
      have HFj := hide hFj
      have HT := hide hTj
      clear hR hCj hFj hEqj hTj hok hr hx hje hpn p0 p2
      by_cases hf0 : f.p.length = 0
      · have n0 : (((f.p.length : Nat) : Int) != 0) = false := by simp [hf0]
        have hck : checkC l = if (bodiesC F.f l WS.empty).e ≠ 0 then (bodiesC F.f l WS.empty).e else if 16 < (bodiesC F.f l WS.empty).W.n then 4 else 0 := by
          unfold checkC
          rw [if_neg (by omega), hh, if_neg (by simp), if_neg (by rw [hfp, hf0]; simp)]
        have HCK := hide hck
        clear hck hfp hh hf0
        go_wp2_with fail
        clear p1 eg
        go_loopw [82, 11, 12] (fun i _ _ ws => ∃ (k : Nat) (vk : Int) (Wk : WS), k ≤ l.length ∧ i = .int .i64 k ∧ Hid (CI cb fb wb F vk Wk ws ∧ Fr nothing w ws ∧ bodiesC F.f l WS.empty = bodiesC F.f (l.drop k) Wk ∧ Wk.n + fnsN (l.drop k) ≤ 50000)) (fun i _ _ _ => l.length - (intOf i).toNat)
        case atStart => exact ⟨0, 0, WS.empty, Nat.zero_le _, rfl, HCj.out, HFj.out, rfl, by show 0 + _ ≤ _; rw [List.drop_zero]; omega⟩
        case round =>
          obtain ⟨k, vk, Wk, hk, rfl, hR⟩ := hrel
          by_cases hkl : k < l.length
          · have hx : l[k]? = some l[k] := List.getElem?_eq_getElem hkl
            have hr : rs[k]? = some (rs[k]'(by rw [HE.out.1]; omega)) := List.getElem?_eq_getElem _
            have hxm : l[k] ∈ l := List.getElem_mem hkl
            have hdr : l.drop k = l[k] :: l.drop (k + 1) := List.drop_eq_getElem_cons hkl
            generalize rs[k]'(by rw [HE.out.1]; omega) = r at hr
            generalize l[k] = f at hx hxm hdr
            have hok := HE.out.2 k r f hr hx
            obtain ⟨g, o, hg, dg, p0, p1, p2⟩ := sl_elem3 (s := ⟨_, l.length, lc⟩) HS.out hr
            simp only at hg
            injection hg with hg
            injection hg with hg1 hg2 hg3
            subst hg1
            subst hg2
            obtain ⟨hCk, hFk, hEqk, hNk⟩ := hR.out
            rw [← hFk.cell (p := ⟨_, _, none⟩) dg id] at p0 p1 p2
            have eg := Nat.lt_of_lt_of_le dg hFk.size
            rw [hdr, bodiesC] at hEqk
            have hNk' : Wk.n + (f.p.length + stsN f.b) + fnsN (l.drop (k + 1)) ≤ 50000 := by
              rw [hdr] at hNk; unfold fnsN at hNk ⊢; simp only [List.map_cons, List.sum_cons] at hNk; omega
            obtain ⟨rt, ⟨pa, pn, pc⟩, rb⟩ := r
            obtain ⟨rfl, hp, hpP, ⟨rss, hb1, hb2⟩, hbP⟩ := hok
            simp only at hp hpP hb1 hbP p0 p1 p2
            obtain ⟨hpn, hpm⟩ := sl_len hp
            simp only at hpn
            subst hpn
            have h4 : f.p.length ≤ 4 := HT.out f hxm
            have hFA : Fr nothing wr (wr.alloc (fo ⟨f.t, ⟨pa, f.p.length, pc⟩, rb⟩)) := (Fr.refl _ _).alloc _
            obtain ⟨y0, y1, y2, yl⟩ := fo_cells (Fr.refl nothing (wr.alloc (fo ⟨f.t, ⟨pa, f.p.length, pc⟩, rb⟩))) id
            have HCA := hide (hCk.fr hFA id id id)
            have HFA := hide (hFk.trans hFA)
            have hne : ¬ wr.heap.size = cb := by have := hCk.lt; omega
            generalize hwa : wr.alloc (fo ⟨f.t, ⟨pa, f.p.length, pc⟩, rb⟩) = wa at *
            have hFV : Fr (fun k => k = cb) wa (wa.setCell ⟨cb, 1, none⟩ (.int .i64 f.p.length)) := (Fr.refl (fun k => k = cb) wa).setCell (p := ⟨cb, 1, none⟩) (.inl rfl) _
            have HCV := hide (HCA.out.vars f.p.length)
            have hFV2 : Fr nothing w (wa.setCell ⟨cb, 1, none⟩ (.int .i64 f.p.length)) := HFA.out.then hFV (fun k hk e => by have := HGE.out.2.2; omega)
            have v1 : (wa.setCell ⟨cb, 1, none⟩ (.int .i64 f.p.length)).cell? ⟨wr.heap.size, 1, none⟩ = some (.slice pa f.p.length pc) := (hFV.cell (p := ⟨wr.heap.size, 1, none⟩) yl hne).trans y1
            have v2 : (wa.setCell ⟨cb, 1, none⟩ (.int .i64 f.p.length)).cell? ⟨wr.heap.size, 2, none⟩ = some (.slice rb.a rb.n rb.c) := (hFV.cell (p := ⟨wr.heap.size, 2, none⟩) yl hne).trans y2
            have hge := HGE.out
            have hlow : ∀ b, b < w.heap.size → ¬ cw cb wb b := by rintro b hb (e | e) <;> omega
            have HIH := hide (cstmts_any f.b (hSh f hxm).b cb fb wb F f.p.length f.p ⟨pa, f.p.length, pc⟩ Wk rb rss _ HCV.out (hb1.fr hFV2 (fun _ _ => id)) (fun b hb => hlow b (hbP b hb)) ⟨hb2.1, fun i r x hr hx => st_stays _ _ _ _ _ _ _ (hb2.2 i r x hr hx) hFV2 (fun _ _ => id) (fun b hb => hlow b hb)⟩ (hp.fr hFV2 (fun _ _ => id)) (fun b hb => hlow b (hpP b hb)) (by omega) (by omega) (by omega) (by omega))
            have hle := stsC_le F.f f.b f.p f.p.length Wk
            generalize hq : stsC F.f f.b f.p f.p.length Wk = q at HIH hEqk hle
            obtain ⟨qe, qn, qv, qW⟩ := q
            simp only at HIH hle hEqk
            have c1 := HCA.out.c1
            have f1 := HCA.out.f1
            have cl := HCA.out.lt
            have HEQ := hide hEqk
            have HFV2 := hide hFV2
            have HFT := hide (fun w' (hf : Fr (cw cb wb) (wa.setCell ⟨cb, 1, none⟩ (.int .i64 f.p.length)) w') => hFV2.then hf (fun k hk e => by rcases e with e | e <;> omega))
            clear hR hCk hFk hEqk hNk hFA hp hpP hb1 hb2 hbP hr hx hq hlow hge hFV hFV2
            by_cases hq0 : qe = 0
            · subst hq0
              go_wp2_with (go_at_call 28; refine HIH.out.mono ?_; rintro e w7 ⟨rfl, hf, hc⟩; have HC7 := hide (hc rfl); have HF7 := hide (HFT.out _ hf); clear hf hc)
              go_roundw
              case rel => exact ⟨k + 1, qv, qW, by omega, by go_num, HC7.out, HF7.out, HEQ.out, by omega⟩
              case measure => simp [intOf]; omega
            · have hq2 := ne_bne hq0
              have HEND : Hid (checkC l = qe) := by
                show checkC l = qe
                rw [HCK.out, HEQ.out, or_bad hq0, if_pos hq0]
              go_wp2_with (go_at_call 28; refine HIH.out.mono ?_; rintro e w7 ⟨rfl, hf, hc⟩; have HF7 := hide (HFT.out _ hf); clear hf hc)
              go_ret
              exact ⟨by rw [HEND.out]; rfl, HF7.out⟩
          · have hke : k = l.length := by omega
            obtain ⟨hCk, hFk, hEqk, hNk⟩ := hR.out
            rw [hke, List.drop_length, bodiesC] at hEqk
            obtain ⟨A, a1, a2, a3⟩ := hCk.wm
            have hln := a1.len 3
            have c2 := hCk.c2
            have cl := hCk.lt
            have HFk := hide hFk
            have hnW : Wk.n ≤ 50000 := by omega
            rw [a3] at hln
            clear hR hCk hFk hNk a1 a2 a3 hke
            by_cases h16 : 16 < Wk.n
            · have h16' : (16 : Int) < (Wk.n : Nat) := by omega
              have HEND : Hid (checkC l = 4) := by
                show checkC l = 4
                rw [HCK.out, hEqk, if_neg (by simp), if_pos h16]
              clear hEqk
              go_wp2
              go_ret
              exact ⟨by rw [HEND.out]; rfl, HFk.out⟩
            · have h16' : ¬ (16 : Int) < (Wk.n : Nat) := by omega
              have HEND : Hid (checkC l = 0) := by
                show checkC l = 0
                rw [HCK.out, hEqk, if_neg (by simp), if_neg h16]
              clear hEqk
              go_wp2
              go_ret
              exact ⟨by rw [HEND.out]; rfl, HFk.out⟩
      · have n0 : (((f.p.length : Nat) : Int) != 0) = true := by simpa using hf0
        have n1 : ¬ ((f.p.length : Nat) : Int) = 0 := by omega
        have HCK : Hid (checkC l = 10) := by
          show checkC l = 10
          unfold checkC
          rw [if_neg (by omega), hh, if_neg (by simp), if_pos (by rw [hfp]; exact hf0)]
        clear hfp hh hf0
        go_wp2
        go_ret
        exact ⟨by rw [HCK.out]; rfl, HFj.out⟩
end Go.Proofs.YtkmdamljhagogaaDoor
