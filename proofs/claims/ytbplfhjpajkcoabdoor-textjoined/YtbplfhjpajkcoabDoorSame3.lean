/- Functions that are the same are told so. -/
import Derived.Test.YtbplfhjpajkcoabDoorSame2
namespace Go.Proofs.YtbplfhjpajkcoabDoor
open Go.RowKit

theorem sl_elem3 {w : World} {s : Slc} {rs : List RawF} (h : Sl encG 3 w s.v rs) {i : Nat} {r : RawF} (hi : rs[i]? = some r) : ∃ b off, s.a = some ⟨b, off, none⟩ ∧ b < w.heap.size ∧ w.cell? ⟨b, off + i * 3, none⟩ = some (.string (bs r.t)) ∧ w.cell? ⟨b, off + i * 3 + 1, none⟩ = some (.slice r.p.a r.p.n r.p.c) ∧ w.cell? ⟨b, off + i * 3 + 2, none⟩ = some (.slice r.b.a r.b.n r.b.c) := by
  obtain ⟨ao, cap, he, _, hc⟩ := h
  obtain ⟨b, off, rfl, hb, hcell⟩ := hc i r hi
  simp only [Value.slice.injEq] at he
  exact ⟨b, off, he.1, hb, hcell 0 _ rfl, hcell 1 _ rfl, hcell 2 _ rfl⟩
theorem sl_elem1 {w : World} {s : Slc} {rs : List Bs} (h : Sl encN 1 w s.v rs) {i : Nat} {r : Bs} (hi : rs[i]? = some r) : ∃ b off, s.a = some ⟨b, off, none⟩ ∧ b < w.heap.size ∧ w.cell? ⟨b, off + i, none⟩ = some (.string (bs r)) := by
  obtain ⟨ao, cap, he, _, hc⟩ := h
  obtain ⟨b, off, rfl, hb, hcell⟩ := hc i r hi
  simp only [Value.slice.injEq] at he
  have := hcell 0 _ rfl
  rw [Nat.mul_one, Nat.add_zero] at this
  exact ⟨b, off, he.1, hb, this⟩
set_option maxHeartbeats 2000000 in
set_option maxRecDepth 20000 in
theorem sameFns_yes (fs : List Fn) (sa sb : Slc) (ra rb : List RawF) (w : World) (hsa : Sl encG 3 w sa.v ra) (hsb : Sl encG 3 w sb.v rb) (hea : Each (FnOk w Tr) ra fs) (heb : Each (FnOk w Tr) rb fs) :
    Calls Tryd.prog 8 #[.slice sa.a sa.n sa.c, .slice sb.a sb.n sb.c] w fun e w' => e = .returned (.bool true) ∧ Fr nothing w w' := by
  obtain ⟨aa, an, ac⟩ := sa
  obtain ⟨ba, bn, bc⟩ := sb
  have n1 : an = fs.length := (sl_len hsa).1.trans hea.1
  have n2 : bn = fs.length := (sl_len hsb).1.trans heb.1
  have hll : fs.length ≤ 9223372036854775807 := by have := (sl_len hsa).2; have := hea.1; omega
  subst n1 n2
  have HSA := hide hsa
  have HSB := hide hsb
  have HEA := hide hea
  have HEB := hide heb
  clear hsa hsb hea heb
  go_enter Tryd.func8, Tryd.ntmps8
  go_wp2
  go_loopw [14] (fun i wr => ∃ m : Nat, m ≤ fs.length ∧ i = .int .i64 m ∧ Hid (Fr nothing w wr)) (fun i _ => fs.length - (intOf i).toNat)
  case atStart => exact ⟨0, Nat.zero_le _, rfl, Fr.refl _ _⟩
  case round =>
    obtain ⟨m, hm, rfl, hR⟩ := hrel
    by_cases hlt : m < fs.length
    · have ha : ra[m]? = some (ra[m]'(by rw [HEA.out.1]; exact hlt)) := List.getElem?_eq_getElem _
      have hb : rb[m]? = some (rb[m]'(by rw [HEB.out.1]; exact hlt)) := List.getElem?_eq_getElem _
      have hx : fs[m]? = some fs[m] := List.getElem?_eq_getElem _
      generalize ra[m]'(by rw [HEA.out.1]; exact hlt) = a at ha
      generalize rb[m]'(by rw [HEB.out.1]; exact hlt) = b at hb
      generalize fs[m] = f at hx
      have hOa := HEA.out.2 m a f ha hx
      have hOb := HEB.out.2 m b f hb hx
      obtain ⟨g1, o1, rfl, d1, p0, p1, p2⟩ := sl_elem3 (s := ⟨aa, fs.length, ac⟩) HSA.out ha
      obtain ⟨g2, o2, rfl, d2, q0, q1, q2⟩ := sl_elem3 (s := ⟨ba, fs.length, bc⟩) HSB.out hb
      rw [← hR.out.cell (p := ⟨g1, _, none⟩) d1 id] at p0 p1 p2
      rw [← hR.out.cell (p := ⟨g2, _, none⟩) d2 id] at q0 q1 q2
      have e1 : g1 < wr.heap.size := Nat.lt_of_lt_of_le d1 hR.out.size
      have e2 : g2 < wr.heap.size := Nat.lt_of_lt_of_le d2 hR.out.size
      clear ha hb hx d1 d2
      obtain ⟨at_, ⟨Pa, Pn, Pc⟩, ab⟩ := a
      obtain ⟨bt_, ⟨Qa, Qn, Qc⟩, bb⟩ := b
      obtain ⟨ft, fp, fb⟩ := f
      obtain ⟨h1, h2, -, ⟨rA, h3, h4⟩, -⟩ := hOa
      obtain ⟨k1, k2, -, ⟨rB, k3, k4⟩, -⟩ := hOb
      simp only at h1 k1
      subst h1
      subst k1
      have nP : Pn = fp.length := (sl_len h2).1
      have nQ : Qn = fp.length := (sl_len k2).1
      have hfp : fp.length ≤ 9223372036854775807 := (sl_len h2).2
      subst nP nQ
      have HC : Hid (∀ w', Fr nothing wr w' → Calls Tryd.prog 19 #[.slice ab.a ab.n ab.c, .slice bb.a bb.n bb.c] w' fun e w'' => e = .returned (.bool true) ∧ Fr nothing w' w'') := fun w' hf => sameStmts_yes fb ab bb rA rB w' (h3.keepN (hR.out.trans hf)) (k3.keepN (hR.out.trans hf)) (each_st h4 (hR.out.trans hf)) (each_st k4 (hR.out.trans hf))
      have HP := hide h2
      have HQ := hide k2
      clear h2 h3 h4 k2 k3 k4
      have j0 : (0 : Int) ≤ (m : Int) := by omega
      have j1 : (m : Int) < (fs.length : Int) := by omega
      go_wp2_with fail
      first | go_region_held3 (fun w' => w'.cell? ⟨g1, o1 + m * 3, none⟩ = some (.string (bs bt_)) ∧ w'.cell? ⟨g1, o1 + m * 3 + 1, none⟩ = some (.slice Pa fp.length Pc) ∧ w'.cell? ⟨g1, o1 + m * 3 + 2, none⟩ = some (.slice ab.a ab.n ab.c) ∧ w'.cell? ⟨g2, o2 + m * 3, none⟩ = some (.string (bs bt_)) ∧ w'.cell? ⟨g2, o2 + m * 3 + 1, none⟩ = some (.slice Qa fp.length Qc) ∧ w'.cell? ⟨g2, o2 + m * 3 + 2, none⟩ = some (.slice bb.a bb.n bb.c)) (go_keep)
            (first | (go_at_call 19; refine (HC.out _ (Fr.refl _ _).drew).mono ?_; rintro e w6 ⟨rfl, hf6⟩; have hF6 : Hid (Fr nothing wr w6) := ((Fr.refl nothing wr).drew.trans hf6); have t1 := (hF6.out.cell (p := ⟨g1, _, none⟩) e1 id).trans p0; have t2 := (hF6.out.cell (p := ⟨g1, _, none⟩) e1 id).trans p1; have t3 := (hF6.out.cell (p := ⟨g1, _, none⟩) e1 id).trans p2; have t4 := (hF6.out.cell (p := ⟨g2, _, none⟩) e2 id).trans q0; have t5 := (hF6.out.cell (p := ⟨g2, _, none⟩) e2 id).trans q1; have t6 := (hF6.out.cell (p := ⟨g2, _, none⟩) e2 id).trans q2; have u1 : g1 < w6.heap.size := (Nat.lt_of_lt_of_le e1 hF6.out.size); have u2 : g2 < w6.heap.size := (Nat.lt_of_lt_of_le e2 hF6.out.size); clear hf6)) | fail
      go_wp2
      have HF6 : Hid (Fr nothing w w6) := hR.out.trans hF6.out
      clear p0 p1 p2 q0 q1 q2 e1 e2 HC hR
      go_loopw [63] (fun i wq => ∃ j : Nat, j ≤ fp.length ∧ i = .int .i64 j ∧ Hid (Fr nothing w6 wq)) (fun i _ => fp.length - (intOf i).toNat)
      case atStart => exact ⟨0, Nat.zero_le _, rfl, (Fr.refl _ _)⟩
      case round =>
        obtain ⟨j, hj, rfl, hQ⟩ := hrel
        have hFw : Hid (Fr nothing w wr) := HF6.out.trans hQ.out
        by_cases hjl : j < fp.length
        · have hx : fp[j]? = some fp[j] := List.getElem?_eq_getElem _
          generalize fp[j] = x at hx
          obtain ⟨g3, o3, rfl, d1, p0⟩ := sl_elem1 (s := ⟨Pa, fp.length, Pc⟩) HP.out hx
          obtain ⟨g4, o4, rfl, d2, q0⟩ := sl_elem1 (s := ⟨Qa, fp.length, Qc⟩) HQ.out hx
          rw [← hFw.out.cell (p := ⟨g3, _, none⟩) d1 id] at p0
          rw [← hFw.out.cell (p := ⟨g4, _, none⟩) d2 id] at q0
          have s1 := (hQ.out.cell (p := ⟨g1, _, none⟩) u1 id).trans t2
          have s2 := (hQ.out.cell (p := ⟨g2, _, none⟩) u2 id).trans t5
          have e1 : g3 < wr.heap.size := Nat.lt_of_lt_of_le d1 hFw.out.size
          have e2 : g4 < wr.heap.size := Nat.lt_of_lt_of_le d2 hFw.out.size
          have e3 : g1 < wr.heap.size := Nat.lt_of_lt_of_le u1 hQ.out.size
          have e4 : g2 < wr.heap.size := Nat.lt_of_lt_of_le u2 hQ.out.size
          have k0 : (0 : Int) ≤ (j : Int) := by omega
          have k1 : (j : Int) < (fp.length : Int) := by omega
          clear hx d1 d2 t1 t2 t3 t4 t5 t6
          go_wp2_with fail
          go_region
          go_wp2
          go_roundw
          case rel => exact ⟨j + 1, by omega, by go_num, hQ.out.drew⟩
          case measure => simp [intOf]; omega
        · go_wp2
          go_roundw
          case rel => exact ⟨m + 1, by omega, by go_num, hFw.out⟩
          case measure => simp [intOf]; omega
    · go_wp2
      go_ret
      exact ⟨rfl, hR.out⟩
end Go.Proofs.YtbplfhjpajkcoabDoor
