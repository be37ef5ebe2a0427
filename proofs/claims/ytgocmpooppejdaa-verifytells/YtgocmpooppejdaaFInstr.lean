/- Package verify: what is wrong with an instruction. -/
import Derived.Test.YtgocmpooppejdaaFProg
set_option maxHeartbeats 0
set_option maxRecDepth 100000
namespace Go.Proofs.Ytgocmpooppejdaa
open Go Go.RowKit
/-- One instruction. -/
theorem instr_any (p : Pz) (c : Cz) (i : In) (sc sw xs : Slc) (w : World) (hP : PzOk w sc sw p) (h3 : xs.n = c.ins.length) (hv : 0 ≤ c.nv ∧ c.nv ≤ 9223372036854775807) (hl : c.ins.length ≤ 9223372036854775807) :
    Calls Try.prog 23 #[.agg #[.slice sc.a sc.n sc.c, .slice sw.a sw.n sw.c], .agg #[.int .i64 c.np, .int .i64 c.nv, .slice xs.a xs.n xs.c], .agg #[.int .i64 i.op, .int .i64 i.a, .int .i64 i.b]] w fun e w' => e = .returned (.int .i64 (inC p c i)) ∧ Fr nothing w w' := by
  obtain ⟨⟨rs, hrs, hea⟩, hws⟩ := hP
  obtain ⟨n1, m1⟩ := sl_len hrs
  obtain ⟨n2, m2⟩ := sl_len hws
  rw [hea.1] at n1 m1
  have HB := hide (fun w1 => bounds_any p c sc sw xs i.op w1 n1 n2 h3 hv ⟨m1, m2, hl⟩)
  obtain ⟨sca, scn, scc⟩ := sc
  obtain ⟨swa, swn, swc⟩ := sw
  obtain ⟨xsa, xsn, xsc⟩ := xs
  obtain ⟨op, a, b⟩ := i
  simp only at n1 n2 h3 HB
  subst n1 n2 h3
  obtain ⟨w1, hw1⟩ : ∃ x, x = w.alloc (.cells #[.slice sca p.cs.length scc, .slice swa p.ws.length swc] 25) := ⟨_, rfl⟩
  obtain ⟨w2, hw2⟩ : ∃ x, x = w1.alloc (.cells #[.int .i64 c.np, .int .i64 c.nv, .slice xsa c.ins.length xsc] 37) := ⟨_, rfl⟩
  obtain ⟨w3, hw3⟩ : ∃ x, x = w2.alloc (.cells #[.int .i64 op, .int .i64 a, .int .i64 b] 44) := ⟨_, rfl⟩
  have f1 : Fr nothing w w1 := by rw [hw1]; exact (Fr.refl _ _).alloc _
  have f2 : Fr nothing w1 w2 := by rw [hw2]; exact (Fr.refl _ _).alloc _
  have f3 : Fr nothing w2 w3 := by rw [hw3]; exact (Fr.refl _ _).alloc _
  have z1 : w1.heap.size = w.heap.size + 1 := by rw [hw1]; simp
  have z2 : w2.heap.size = w.heap.size + 1 + 1 := by rw [hw2]; simp [z1]
  have mc1 := made_cells (w := w) (cs := #[.slice sca p.cs.length scc, .slice swa p.ws.length swc]) (t := 25) (w1 := w3) (S := nothing) (by rw [← hw1]; exact f2.trans f3) id
  have mc2 := made_cells (w := w1) (cs := #[.int .i64 c.np, .int .i64 c.nv, .slice xsa c.ins.length xsc]) (t := 37) (w1 := w3) (S := nothing) (by rw [← hw2]; exact f3) id
  have mc3 := made_cells (w := w2) (cs := #[.int .i64 op, .int .i64 a, .int .i64 b]) (t := 44) (w1 := w3) (S := nothing) (by rw [← hw3]; exact Fr.refl _ _) id
  rw [z1] at mc2
  rw [z2] at mc3
  have p0 := mc1.1 0
  have p1 := mc1.1 1
  have pl := mc1.2.2
  have c0 := mc2.1 0
  have c1 := mc2.1 1
  have c2 := mc2.1 2
  have cl := mc2.2.2
  have i0 := mc3.1 0
  have i1 := mc3.1 1
  have i2 := mc3.1 2
  have il := mc3.2.2
  have HF3 := hide ((f1.trans f2).trans f3)
  have HRS := hide (hrs.fr ((f1.trans f2).trans f3) (fun _ _ => id))
  have HEA := hide hea
  have HD : Hid (inC p c ⟨op, a, b⟩ = if op < 1 ∨ 19 < op then 1 else if a < loC op ∨ hiC p c op < a then 3 else if b ≠ bC p ⟨op, a, b⟩ then 3 else 0) := rfl
  generalize inC p c ⟨op, a, b⟩ = R at *
  have hd := HD.out
  have a1 := hw1.symm
  have a2 := hw2.symm
  have a3 := hw3.symm
  clear f1 f2 f3 mc1 mc2 mc3 hrs hea hws m2 hl hv hw1 hw2 hw3
  by_cases ho : op < 1 ∨ 19 < op
  · rw [if_pos ho] at hd
    subst hd
    have hbw : betw op 1 19 = false := decide_eq_false (by omega)
    go_enter Try.func23, Try.ntmps23
    go_wp2_with (go_at_call 24; refine (between_any op 1 19 w3).mono ?_; rintro e w4 ⟨rfl, hw4⟩; rw [hw4, hbw]; clear hw4)
    go_ret
    exact ⟨rfl, HF3.out⟩
  rw [if_neg ho] at hd
  have hbw : betw op 1 19 = true := decide_eq_true (by omega)
  obtain ⟨lo, hlo⟩ : ∃ x, x = loC op := ⟨_, rfl⟩
  obtain ⟨hi, hhi⟩ : ∃ x, x = hiC p c op := ⟨_, rfl⟩
  rw [← hlo, ← hhi] at HB hd
  by_cases ha : a < lo ∨ hi < a
  · rw [if_pos ha] at hd
    subst hd
    have hbw2 : betw a lo hi = false := decide_eq_false (by omega)
    clear hlo hhi ha
    go_enter Try.func23, Try.ntmps23
    go_wp2_with (first
      | (go_at_call 29; refine (HB.out w3).mono ?_; rintro e w5 ⟨rfl, hf5⟩; have HF5 := hide (HF3.out.trans hf5); have j1 := (hf5.cell (p := ⟨w.heap.size + 1 + 1, 1, none⟩) il id).trans i1; have jl := Nat.lt_of_lt_of_le il hf5.size; clear hf5)
      | (go_at_call 24; refine (between_any a lo hi w5).mono ?_; rintro e w4 ⟨rfl, hw4⟩; rw [hw4, hbw2]; clear hw4)
      | (go_at_call 24; refine (between_any op 1 19 w3).mono ?_; rintro e w4 ⟨rfl, hw4⟩; rw [hw4, hbw]; clear hw4))
    go_ret
    exact ⟨rfl, HF5.out⟩
  rw [if_neg ha] at hd
  have hbw2 : betw a lo hi = true := decide_eq_true (by omega)
  by_cases k17 : op = 17
  · subst k17
    have hlo' : lo = 0 := hlo
    have hhi' : hi = (p.cs.length : Int) - 1 := hhi
    obtain ⟨k, rfl⟩ : ∃ k : Nat, a = k := ⟨a.toNat, by omega⟩
    have hk : k < p.cs.length := by omega
    have hx : p.cs[k]? = some p.cs[k] := List.getElem?_eq_getElem hk
    have hra : rs[k]? = some (rs[k]'(by rw [HEA.out.1]; exact hk)) := List.getElem?_eq_getElem _
    have hbc : bC p ⟨17, k, b⟩ = p.cs[k].np := by simp [bC, npZ, hx]
    rw [hbc] at hd
    generalize p.cs[k] = x at hx hd hbc
    generalize rs[k]'(by rw [HEA.out.1]; exact hk) = xa at hra
    have hxo := HEA.out.2 k xa x hra hx
    obtain ⟨g, o, e1, dg, u0, u1, u2⟩ := sl_elemC (s := ⟨sca, p.cs.length, scc⟩) HRS.out hra
    simp only at e1
    subst e1
    rw [hxo.np] at u0
    clear hlo hhi ha hlo' hhi' hx hra hbc hxo u1 u2 ho
    by_cases hb : b = x.np
    · rw [if_neg (by simpa using hb)] at hd
      subst hd hb
      go_enter Try.func23, Try.ntmps23
      go_wp2_with (first
        | (go_at_call 29; refine (HB.out w3).mono ?_; rintro e w5 ⟨rfl, hf5⟩; have HF5 := hide (HF3.out.trans hf5); have j0 := (hf5.cell (p := ⟨w.heap.size + 1 + 1, 0, none⟩) il id).trans i0; have j1 := (hf5.cell (p := ⟨w.heap.size + 1 + 1, 1, none⟩) il id).trans i1; have j2 := (hf5.cell (p := ⟨w.heap.size + 1 + 1, 2, none⟩) il id).trans i2; have jl := Nat.lt_of_lt_of_le il hf5.size; have q0 := (hf5.cell (p := ⟨w.heap.size, 0, none⟩) pl id).trans p0; have ql := Nat.lt_of_lt_of_le pl hf5.size; have v0 := (hf5.cell (p := ⟨g, o + k * 3, none⟩) dg id).trans u0; have gl := Nat.lt_of_lt_of_le dg hf5.size; clear hf5)
        | (go_at_call 24; refine (between_any (k : Int) lo hi w5).mono ?_; rintro e w4 ⟨rfl, hw4⟩; rw [hw4, hbw2]; clear hw4)
        | (go_at_call 24; refine (between_any 17 1 19 w3).mono ?_; rintro e w4 ⟨rfl, hw4⟩; rw [hw4, hbw]; clear hw4))
      go_ret
      exact ⟨rfl, HF5.out⟩
    · rw [if_pos hb] at hd
      have hbb : (b != x.np) = true := by simpa using hb
      subst hd
      go_enter Try.func23, Try.ntmps23
      go_wp2_with (first
        | (go_at_call 29; refine (HB.out w3).mono ?_; rintro e w5 ⟨rfl, hf5⟩; have HF5 := hide (HF3.out.trans hf5); have j0 := (hf5.cell (p := ⟨w.heap.size + 1 + 1, 0, none⟩) il id).trans i0; have j1 := (hf5.cell (p := ⟨w.heap.size + 1 + 1, 1, none⟩) il id).trans i1; have j2 := (hf5.cell (p := ⟨w.heap.size + 1 + 1, 2, none⟩) il id).trans i2; have jl := Nat.lt_of_lt_of_le il hf5.size; have q0 := (hf5.cell (p := ⟨w.heap.size, 0, none⟩) pl id).trans p0; have ql := Nat.lt_of_lt_of_le pl hf5.size; have v0 := (hf5.cell (p := ⟨g, o + k * 3, none⟩) dg id).trans u0; have gl := Nat.lt_of_lt_of_le dg hf5.size; clear hf5)
        | (go_at_call 24; refine (between_any (k : Int) lo hi w5).mono ?_; rintro e w4 ⟨rfl, hw4⟩; rw [hw4, hbw2]; clear hw4)
        | (go_at_call 24; refine (between_any 17 1 19 w3).mono ?_; rintro e w4 ⟨rfl, hw4⟩; rw [hw4, hbw]; clear hw4))
      go_ret
      exact ⟨rfl, HF5.out⟩
  have k17b : (op == 17) = false := by simpa using k17
  have hbc : bC p ⟨op, a, b⟩ = 0 := by unfold bC; rw [if_neg k17]
  rw [hbc] at hd
  clear hlo hhi ha hbc ho
  by_cases hb : b = 0
  · rw [if_neg (by simpa using hb)] at hd
    subst hd hb
    go_enter Try.func23, Try.ntmps23
    go_wp2_with (first
      | (go_at_call 29; refine (HB.out w3).mono ?_; rintro e w5 ⟨rfl, hf5⟩; have HF5 := hide (HF3.out.trans hf5); have j0 := (hf5.cell (p := ⟨w.heap.size + 1 + 1, 0, none⟩) il id).trans i0; have j1 := (hf5.cell (p := ⟨w.heap.size + 1 + 1, 1, none⟩) il id).trans i1; have j2 := (hf5.cell (p := ⟨w.heap.size + 1 + 1, 2, none⟩) il id).trans i2; have jl := Nat.lt_of_lt_of_le il hf5.size; clear hf5)
      | (go_at_call 24; refine (between_any a lo hi w5).mono ?_; rintro e w4 ⟨rfl, hw4⟩; rw [hw4, hbw2]; clear hw4)
      | (go_at_call 24; refine (between_any op 1 19 w3).mono ?_; rintro e w4 ⟨rfl, hw4⟩; rw [hw4, hbw]; clear hw4))
    go_ret
    exact ⟨rfl, HF5.out⟩
  · rw [if_pos hb] at hd
    have hbb : (b != 0) = true := by simpa using hb
    subst hd
    go_enter Try.func23, Try.ntmps23
    go_wp2_with (first
      | (go_at_call 29; refine (HB.out w3).mono ?_; rintro e w5 ⟨rfl, hf5⟩; have HF5 := hide (HF3.out.trans hf5); have j0 := (hf5.cell (p := ⟨w.heap.size + 1 + 1, 0, none⟩) il id).trans i0; have j1 := (hf5.cell (p := ⟨w.heap.size + 1 + 1, 1, none⟩) il id).trans i1; have j2 := (hf5.cell (p := ⟨w.heap.size + 1 + 1, 2, none⟩) il id).trans i2; have jl := Nat.lt_of_lt_of_le il hf5.size; clear hf5)
      | (go_at_call 24; refine (between_any a lo hi w5).mono ?_; rintro e w4 ⟨rfl, hw4⟩; rw [hw4, hbw2]; clear hw4)
      | (go_at_call 24; refine (between_any op 1 19 w3).mono ?_; rintro e w4 ⟨rfl, hw4⟩; rw [hw4, hbw]; clear hw4))
    go_ret
    exact ⟨rfl, HF5.out⟩
end Go.Proofs.Ytgocmpooppejdaa
