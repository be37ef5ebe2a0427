/- Statements that are the same are told so. -/
import Derived.Test.YtbplfhjpajkcoabDoorSame
namespace Go.Proofs.YtbplfhjpajkcoabDoor
open Go.RowKit

theorem sl_elem5 {w : World} {s : Slc} {rs : List RawS} (h : Sl encS 5 w s.v rs) {i : Nat} {r : RawS} (hi : rs[i]? = some r) : ∃ b off, s.a = some ⟨b, off, none⟩ ∧ b < w.heap.size ∧ w.cell? ⟨b, off + i * 5, none⟩ = some (.int .i64 r.k) ∧ w.cell? ⟨b, off + i * 5 + 1, none⟩ = some (.string (bs r.t)) ∧ w.cell? ⟨b, off + i * 5 + 2, none⟩ = some (.slice r.a.a r.a.n r.a.c) ∧ w.cell? ⟨b, off + i * 5 + 3, none⟩ = some (.slice r.x.a r.x.n r.x.c) ∧ w.cell? ⟨b, off + i * 5 + 4, none⟩ = some (.slice r.y.a r.y.n r.y.c) := by
  obtain ⟨ao, cap, he, _, hc⟩ := h
  obtain ⟨b, off, rfl, hb, hcell⟩ := hc i r hi
  simp only [Value.slice.injEq] at he
  exact ⟨b, off, he.1, hb, hcell 0 _ rfl, hcell 1 _ rfl, hcell 2 _ rfl, hcell 3 _ rfl, hcell 4 _ rfl⟩
abbrev Tr : Nat → Prop := fun _ => True
def SameOK (xs : List St) : Prop := ∀ (sa sb : Slc) (ra rb : List RawS) (w : World), Sl encS 5 w sa.v ra → Sl encS 5 w sb.v rb → Each (StOk w Tr) ra xs → Each (StOk w Tr) rb xs →
  Calls Tryd.prog 19 #[.slice sa.a sa.n sa.c, .slice sb.a sb.n sb.c] w fun e w' => e = .returned (.bool true) ∧ Fr nothing w w'
theorem each_st {w w' : World} {rs : List RawS} {xs : List St} (h : Each (StOk w Tr) rs xs) (hf : Fr nothing w w') : Each (StOk w' Tr) rs xs := ⟨h.1, fun i r x k1 k2 => st_stays _ _ nothing _ _ r x (h.2 i r x k1 k2) hf (fun _ _ => id) (fun _ _ => trivial)⟩
theorem Sl.keepN {α : Type} {enc : α → List Value} {sz : Nat} {w w' : World} {v : Value} {l : List α} (h : Sl enc sz w v l) (hf : Fr nothing w w') : Sl enc sz w' v l := h.keep hf (P := Tr) (fun _ _ => trivial) (fun _ _ => id)
abbrev sto (k : Int) (t : Bs) (a x y : Slc) : Obj := .cells #[.int .i64 k, .string (bs t), .slice a.a a.n a.c, .slice x.a x.n x.c, .slice y.a y.n y.c] 43
theorem sto_cells {w w' : World} {k : Int} {t : Bs} {a x y a' x' y' : Slc} (hf : Fr nothing ((w.alloc (sto k t a x y)).alloc (sto k t a' x' y')) w') :
    w'.cell? ⟨w.heap.size, 2, none⟩ = some (.slice a.a a.n a.c) ∧ w'.cell? ⟨w.heap.size, 4, none⟩ = some (.slice y.a y.n y.c) ∧ w'.cell? ⟨w.heap.size + 1, 2, none⟩ = some (.slice a'.a a'.n a'.c) ∧ w'.cell? ⟨w.heap.size + 1, 4, none⟩ = some (.slice y'.a y'.n y'.c) ∧ w.heap.size < w'.heap.size ∧ w.heap.size + 1 < w'.heap.size := by
  have hz := hf.size
  simp only [World.size_alloc] at hz
  have o : ∀ j, w'.cell? ⟨w.heap.size, j, none⟩ = #[Value.int .i64 k, .string (bs t), .slice a.a a.n a.c, .slice x.a x.n x.c, .slice y.a y.n y.c][j]? := fun j => (hf.cell (p := ⟨w.heap.size, j, none⟩) (by simp; omega) id).trans ((World.cell?_alloc_past _ _ _ (by simp)).trans (World.cell?_alloc_new _ _ _ _))
  have n : ∀ j, w'.cell? ⟨w.heap.size + 1, j, none⟩ = #[Value.int .i64 k, .string (bs t), .slice a'.a a'.n a'.c, .slice x'.a x'.n x'.c, .slice y'.a y'.n y'.c][j]? := fun j => (hf.cell (p := ⟨w.heap.size + 1, j, none⟩) (by simp) id).trans (by
    have := World.cell?_alloc_new (w.alloc (sto k t a x y)) #[Value.int .i64 k, .string (bs t), .slice a'.a a'.n a'.c, .slice x'.a x'.n x'.c, .slice y'.a y'.n y'.c] 43 j
    simp only [World.size_alloc] at this
    exact this)
  exact ⟨o 2, o 4, n 2, n 4, by omega, by omega⟩
set_option maxHeartbeats 2000000 in
set_option maxRecDepth 20000 in
theorem sameStmts_step (xs : List St) (ih : ∀ z ∈ xs, ∀ k t la lx ly, z = .mk k t la lx ly → SameOK lx ∧ SameOK ly) : SameOK xs := by
  intro sa sb ra rb w hsa hsb hea heb
  obtain ⟨aa, an, ac⟩ := sa
  obtain ⟨ba, bn, bc⟩ := sb
  have n1 : an = xs.length := (sl_len hsa).1.trans hea.1
  have n2 : bn = xs.length := (sl_len hsb).1.trans heb.1
  have hll : xs.length ≤ 9223372036854775807 := by have := (sl_len hsa).2; have := hea.1; omega
  subst n1 n2
  have hl1 := hea.1
  have hl2 := heb.1
  have HSA := hide hsa
  have HSB := hide hsb
  have HEA := hide hea
  have HEB := hide heb
  have HIH := hide ih
  have HL1 := hide hl1
  have HL2 := hide hl2
  clear hsa hsb hea heb ih hl1 hl2
  go_enter Tryd.func19, Tryd.ntmps19
  go_wp2
  go_loopw [16] (fun i wr => ∃ m : Nat, m ≤ xs.length ∧ i = .int .i64 m ∧ Hid (Fr nothing w wr)) (fun i _ => xs.length - (intOf i).toNat)
  case atStart => exact ⟨0, Nat.zero_le _, rfl, Fr.refl _ _⟩
  case round =>
    obtain ⟨m, hm, rfl, hR⟩ := hrel
    by_cases hlt : m < xs.length
    · have ha : ra[m]? = some (ra[m]'(by rw [HL1.out]; exact hlt)) := List.getElem?_eq_getElem _
      have hb : rb[m]? = some (rb[m]'(by rw [HL2.out]; exact hlt)) := List.getElem?_eq_getElem _
      have hx : xs[m]? = some xs[m] := List.getElem?_eq_getElem _
      generalize ra[m]'(by rw [HL1.out]; exact hlt) = a at ha
      generalize rb[m]'(by rw [HL2.out]; exact hlt) = b at hb
      have hxm : xs[m] ∈ xs := List.getElem_mem hlt
      generalize xs[m] = x at hx hxm
      have hOa := HEA.out.2 m a x ha hx
      have hOb := HEB.out.2 m b x hb hx
      obtain ⟨g1, o1, rfl, d1, p0, p1, p2, p3, p4⟩ := sl_elem5 (s := ⟨aa, xs.length, ac⟩) HSA.out ha
      obtain ⟨g2, o2, rfl, d2, q0, q1, q2, q3, q4⟩ := sl_elem5 (s := ⟨ba, xs.length, bc⟩) HSB.out hb
      rw [← hR.out.cell (p := ⟨g1, _, none⟩) d1 id] at p0 p1 p2 p3 p4
      rw [← hR.out.cell (p := ⟨g2, _, none⟩) d2 id] at q0 q1 q2 q3 q4
      have e1 : g1 < wr.heap.size := Nat.lt_of_lt_of_le d1 hR.out.size
      have e2 : g2 < wr.heap.size := Nat.lt_of_lt_of_le d2 hR.out.size
      clear ha hb hx d1 d2
      cases hOa with
      | mk k t sA sX sY rA rX rY la lx ly a1 _ a2 a3 _ a4 a5 a6 _ a7 a8 =>
      cases hOb with
      | mk _ _ sA' sX' sY' rA' rX' rY' _ _ _ b1 _ b2 b3 _ b4 b5 b6 _ b7 b8 =>
      obtain ⟨I1, I2⟩ := HIH.out _ hxm k t la lx ly rfl
      have HC1 : Hid (∀ w', Fr nothing w w' → Calls Tryd.prog 19 #[.slice sX.a sX.n sX.c, .slice sX'.a sX'.n sX'.c] w' fun e w'' => e = .returned (.bool true) ∧ Fr nothing w' w'') := fun w' hf => I1 sX sX' rX rX' w' (a3.keepN hf) (b3.keepN hf) (each_st ⟨a4, a5⟩ hf) (each_st ⟨b4, b5⟩ hf)
      have HC2 : Hid (∀ w', Fr nothing w w' → Calls Tryd.prog 19 #[.slice sY.a sY.n sY.c, .slice sY'.a sY'.n sY'.c] w' fun e w'' => e = .returned (.bool true) ∧ Fr nothing w' w'') := fun w' hf => I2 sY sY' rY rY' w' (a6.keepN hf) (b6.keepN hf) (each_st ⟨a7, a8⟩ hf) (each_st ⟨b7, b8⟩ hf)
      have nA : sA.n = la.length := (sl_len a1).1.trans a2.1
      have nB : sA'.n = la.length := (sl_len b1).1.trans b2.1
      have hla : la.length ≤ 9223372036854775807 := by have := (sl_len a1).2; have := a2.1; omega
      obtain ⟨Aa, An, Ac⟩ := sA
      obtain ⟨Ba, Bn, Bc⟩ := sA'
      simp only at nA nB
      subst nA nB
      have HA1 := hide a1
      have HA2 := hide a2
      have HB1 := hide b1
      have HB2 := hide b2
      clear a1 a2 a3 a4 a5 a6 a7 a8 b1 b2 b3 b4 b5 b6 b7 b8 I1 I2 hxm
      have j0 : (0 : Int) ≤ (m : Int) := by omega
      have j1 : (m : Int) < (xs.length : Int) := by omega
      go_wp2_with fail
      refine (HC1.out _ ((hR.out.alloc _).alloc _)).mono ?_
      rintro e w4 ⟨rfl, hf4⟩
      obtain ⟨s1, s2, s3, s4, l1, l2⟩ := sto_cells (a := ⟨Aa, la.length, Ac⟩) (x := sX) (y := sY) (a' := ⟨Ba, la.length, Bc⟩) (x' := sX') (y' := sY') hf4
      have HF4 := hide hf4
      clear hf4
      go_wp2_with fail
      refine (HC2.out _ (((hR.out.alloc _).alloc _).trans HF4.out)).mono ?_
      rintro e w5 ⟨rfl, hf5⟩
      have HF5 := hide (HF4.out.trans hf5)
      clear hf5 s1 s2 s3 s4 l1 l2
      obtain ⟨s1, -, s3, -, l1, l2⟩ := sto_cells (a := ⟨Aa, la.length, Ac⟩) (x := sX) (y := sY) (a' := ⟨Ba, la.length, Bc⟩) (x' := sX') (y' := sY') HF5.out
      have HFw5 : Hid (Fr nothing w w5) := ((hR.out.alloc _).alloc _).trans HF5.out
      go_wp2
      clear HF4 HF5 p0 p1 p2 p3 p4 q0 q1 q2 q3 q4 e1 e2 HC1 HC2 hR
      generalize wr.heap.size = W at *
      go_loopw [65] (fun i wq => ∃ j : Nat, j ≤ la.length ∧ i = .int .i64 j ∧ Hid (Fr nothing w5 wq)) (fun i _ => la.length - (intOf i).toNat)
      case atStart => exact ⟨0, Nat.zero_le _, rfl, Fr.refl _ _⟩
      case round =>
        obtain ⟨j, hj, rfl, hQ⟩ := hrel
        have hFw : Hid (Fr nothing w wr) := HFw5.out.trans hQ.out
        by_cases hjl : j < la.length
        · have ha : rA[j]? = some (rA[j]'(by rw [HA2.out.1]; exact hjl)) := List.getElem?_eq_getElem _
          have hb : rA'[j]? = some (rA'[j]'(by rw [HB2.out.1]; exact hjl)) := List.getElem?_eq_getElem _
          have hx : la[j]? = some la[j] := List.getElem?_eq_getElem _
          generalize rA[j]'(by rw [HA2.out.1]; exact hjl) = a at ha
          generalize rA'[j]'(by rw [HB2.out.1]; exact hjl) = b at hb
          generalize la[j] = x at hx
          have HOa := hide (HA2.out.2 j a x ha hx)
          have HOb := hide (HB2.out.2 j b x hb hx)
          obtain ⟨g3, o3, rfl, -, d1, p0, p1, p2, p3⟩ := sl_elem4 (s := ⟨Aa, la.length, Ac⟩) HA1.out ha
          obtain ⟨g4, o4, rfl, -, d2, q0, q1, q2, q3⟩ := sl_elem4 (s := ⟨Ba, la.length, Bc⟩) HB1.out hb
          rw [← hFw.out.cell (p := ⟨g3, _, none⟩) d1 id] at p0 p1 p2 p3
          rw [← hFw.out.cell (p := ⟨g4, _, none⟩) d2 id] at q0 q1 q2 q3
          have s1' := (hQ.out.cell (p := ⟨W, 2, none⟩) l1 id).trans s1
          have s3' := (hQ.out.cell (p := ⟨W + 1, 2, none⟩) l2 id).trans s3
          have e1 : g3 < wr.heap.size := Nat.lt_of_lt_of_le d1 hFw.out.size
          have e2 : g4 < wr.heap.size := Nat.lt_of_lt_of_le d2 hFw.out.size
          have e3 : W < wr.heap.size := Nat.lt_of_lt_of_le l1 hQ.out.size
          have e4 : W + 1 < wr.heap.size := Nat.lt_of_lt_of_le l2 hQ.out.size
          have k0 : (0 : Int) ≤ (j : Int) := by omega
          have k1 : (j : Int) < (la.length : Int) := by omega
          have HC : Hid (∀ w', Fr nothing wr w' → Calls Tryd.prog 35 #[ev a, ev b] w' fun e w'' => e = .returned (.bool true) ∧ Fr nothing w' w'') := fun w' hf => sameExpr_yes x a b w'
            (ex_stays _ _ nothing _ _ _ _ HOa.out (hFw.out.trans hf) (fun _ _ => id) (fun _ _ => trivial)) (ex_stays _ _ nothing _ _ _ _ HOb.out (hFw.out.trans hf) (fun _ _ => id) (fun _ _ => trivial))
          clear ha hb hx d1 d2 s1 s3
          go_wp2_with fail
          go_region_held3 (fun w' => w'.cell? ⟨W, 2, none⟩ = some (.slice (some ⟨g3, o3, none⟩) la.length Ac) ∧ w'.cell? ⟨W + 1, 2, none⟩ = some (.slice (some ⟨g4, o4, none⟩) la.length Bc) ∧ w'.cell? ⟨g3, o3 + j * 4, none⟩ = some (.int .i64 a.k) ∧ w'.cell? ⟨g3, o3 + j * 4 + 1, none⟩ = some (.int .i64 a.n) ∧ w'.cell? ⟨g3, o3 + j * 4 + 2, none⟩ = some (.string (bs a.t)) ∧ w'.cell? ⟨g3, o3 + j * 4 + 3, none⟩ = some (.slice a.s.a a.s.n a.s.c) ∧ w'.cell? ⟨g4, o4 + j * 4, none⟩ = some (.int .i64 b.k) ∧ w'.cell? ⟨g4, o4 + j * 4 + 1, none⟩ = some (.int .i64 b.n) ∧ w'.cell? ⟨g4, o4 + j * 4 + 2, none⟩ = some (.string (bs b.t)) ∧ w'.cell? ⟨g4, o4 + j * 4 + 3, none⟩ = some (.slice b.s.a b.s.n b.s.c)) (go_keep)
            (first | (go_at_call 35; refine (HC.out _ (Fr.refl _ _).drew).mono ?_; rintro e w6 ⟨rfl, hf6⟩; have hF6 : Hid (Fr nothing wr w6) := ((Fr.refl nothing wr).drew.trans hf6); have t1 := (hF6.out.cell (p := ⟨W, 2, none⟩) e3 id).trans s1'; have t2 := (hF6.out.cell (p := ⟨W + 1, 2, none⟩) e4 id).trans s3'; have t3 := (hF6.out.cell (p := ⟨g3, _, none⟩) e1 id).trans p0; have t4 := (hF6.out.cell (p := ⟨g3, _, none⟩) e1 id).trans p1; have t5 := (hF6.out.cell (p := ⟨g3, _, none⟩) e1 id).trans p2; have t6 := (hF6.out.cell (p := ⟨g3, _, none⟩) e1 id).trans p3; have t7 := (hF6.out.cell (p := ⟨g4, _, none⟩) e2 id).trans q0; have t8 := (hF6.out.cell (p := ⟨g4, _, none⟩) e2 id).trans q1; have t9 := (hF6.out.cell (p := ⟨g4, _, none⟩) e2 id).trans q2; have t10 := (hF6.out.cell (p := ⟨g4, _, none⟩) e2 id).trans q3; clear hf6))
          go_wp2
          go_roundw
          case rel => exact ⟨j + 1, by omega, by go_num, hQ.out.trans hF6.out⟩
          case measure => simp [intOf]; omega
        · go_wp2
          go_roundw
          case rel => exact ⟨m + 1, by omega, by go_num, hFw.out⟩
          case measure => simp [intOf]; omega
    · go_wp2
      go_ret
      exact ⟨rfl, hR.out⟩
theorem sameStmts_yes (xs : List St) : SameOK xs := sameStmts_step xs fun z _hz k t la lx ly _e => ⟨sameStmts_yes lx, sameStmts_yes ly⟩
termination_by SizeOf.sizeOf xs
decreasing_by
  · have := List.sizeOf_lt_of_mem _hz
    subst _e
    simp at this
    omega
  · have := List.sizeOf_lt_of_mem _hz
    subst _e
    simp at this
    omega
end Go.Proofs.YtbplfhjpajkcoabDoor
