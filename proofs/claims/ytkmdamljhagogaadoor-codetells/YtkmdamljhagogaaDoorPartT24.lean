/- SameP; CTells; Laid. -/
import Derived.Test.YtkmdamljhagogaaDoorCards
import Derived.Test.YtkmdamljhagogaaDoorTie
import Derived.ProofKit
import Derived.OpenShut
import Derived.Deep.DeepHandedRow
import Derived.ChangeMaps5
import Derived.SizedLaws
import Derived.Lib.LaidU8
import Derived.Lib.LaidTab
import Derived.LaidLaws
import Derived.Test.YtkmdamljhagogaaDoorPartT22
import Derived.Test.YtkmdamljhagogaaDoorPartT18
import Derived.Test.YtkmdamljhagogaaDoorPartT23
section
/- SameProgram says yes of the same program. -/
set_option maxHeartbeats 0
set_option maxRecDepth 100000
namespace Go.Proofs.YtkmdamljhagogaaDoor
open Go Go.RowKit
theorem sl_elemC {w : World} {s : Slc} {rs : List RawC} (h : Sl encC 3 w s.v rs) {i : Nat} {r : RawC} (hi : rs[i]? = some r) : ∃ b off, s.a = some ⟨b, off, none⟩ ∧ b < w.heap.size ∧ w.cell? ⟨b, off + i * 3, none⟩ = some (.int .i64 r.np) ∧ w.cell? ⟨b, off + i * 3 + 1, none⟩ = some (.int .i64 r.nv) ∧ w.cell? ⟨b, off + i * 3 + 2, none⟩ = some (.slice r.s.a r.s.n r.s.c) := by
  obtain ⟨ao, cap, he, _, hc⟩ := h
  obtain ⟨b, off, rfl, hb, hcell⟩ := hc i r hi
  simp only [Value.slice.injEq] at he
  exact ⟨b, off, he.1, hb, hcell 0 _ rfl, hcell 1 _ rfl, hcell 2 _ rfl⟩
theorem sameP_any (P : Pg) (sa swa sb swb : Slc) (w : World) (hA : PgOk w sa swa P) (hB : PgOk w sb swb P) :
    Calls Tryd.prog 15 #[.agg #[.slice sa.a sa.n sa.c, .slice swa.a swa.n swa.c], .agg #[.slice sb.a sb.n sb.c, .slice swb.a swb.n swb.c]] w fun e w' => e = .returned (.bool true) ∧ Fr nothing w w' := by
  obtain ⟨⟨ra, a1, a2⟩, a3, a4, a5⟩ := hA
  obtain ⟨⟨rb, b1, b2⟩, b3, b4, b5⟩ := hB
  obtain ⟨n1, m1⟩ := sl_len a1
  obtain ⟨n2, m2⟩ := sl_len b1
  obtain ⟨n3, m3⟩ := sl_len a3
  obtain ⟨n4, m4⟩ := sl_len b3
  obtain ⟨saa, san, sac⟩ := sa
  obtain ⟨sba, sbn, sbc⟩ := sb
  obtain ⟨waa, wan, wac⟩ := swa
  obtain ⟨wba, wbn, wbc⟩ := swb
  simp only at n1 n2 n3 n4
  rw [a2.1] at n1 m1
  rw [b2.1] at n2 m2
  subst n1 n2 n3 n4
  have s1 : (w.alloc (.cells #[.slice saa P.cs.length sac, .slice waa P.ws.length wac] 34)).heap.size = w.heap.size + 1 := by simp
  obtain ⟨w2, hw2⟩ : ∃ w2, w2 = (w.alloc (.cells #[.slice saa P.cs.length sac, .slice waa P.ws.length wac] 34)).alloc (.cells #[.slice sba P.cs.length sbc, .slice wba P.ws.length wbc] 34) := ⟨_, rfl⟩
  have hF2 : Fr nothing w w2 := by rw [hw2]; exact ((Fr.refl _ _).alloc _).alloc _
  have ca := made_cells ((Fr.refl nothing (w.alloc (.cells #[.slice saa P.cs.length sac, .slice waa P.ws.length wac] 34))).alloc (.cells #[.slice sba P.cs.length sbc, .slice wba P.ws.length wbc] 34)) id
  have cb := made_cells (Fr.refl nothing ((w.alloc (.cells #[.slice saa P.cs.length sac, .slice waa P.ws.length wac] 34)).alloc (.cells #[.slice sba P.cs.length sbc, .slice wba P.ws.length wbc] 34))) id
  rw [s1] at cb
  rw [← hw2] at ca cb
  have hl1 : P.cs.length ≤ 9223372036854775807 := by omega
  have hl2 : P.ws.length ≤ 9223372036854775807 := by omega
  obtain ⟨A1, hA1⟩ : ∃ x, x = w.heap.size := ⟨_, rfl⟩
  obtain ⟨B1, hB1⟩ : ∃ x, x = w.heap.size + 1 := ⟨_, rfl⟩
  rw [← hA1] at ca
  rw [← hB1] at cb
  have c0 := ca.1 0
  have c1 := ca.1 1
  have cl := ca.2.2
  have d0 := cb.1 0
  have d1 := cb.1 1
  have dl := cb.2.2
  have HA := hide (And.intro a1 (And.intro a2 a3))
  have HB := hide (And.intro b1 (And.intro b2 b3))
  have HF2 := hide hF2
  have HCC : Hid (∀ w', Fr nothing w2 w' → w'.cell? ⟨A1, 0, none⟩ = some (.slice saa P.cs.length sac) ∧ w'.cell? ⟨A1, 1, none⟩ = some (.slice waa P.ws.length wac) ∧ w'.cell? ⟨B1, 0, none⟩ = some (.slice sba P.cs.length sbc) ∧ w'.cell? ⟨B1, 1, none⟩ = some (.slice wba P.ws.length wbc) ∧ A1 < w'.heap.size ∧ B1 < w'.heap.size) := fun w' hf => ⟨(hf.cell (p := ⟨A1, 0, none⟩) cl id).trans c0, (hf.cell (p := ⟨A1, 1, none⟩) cl id).trans c1, (hf.cell (p := ⟨B1, 0, none⟩) dl id).trans d0, (hf.cell (p := ⟨B1, 1, none⟩) dl id).trans d1, Nat.lt_of_lt_of_le cl hf.size, Nat.lt_of_lt_of_le dl hf.size⟩
  clear ca cb a1 a2 a3 b1 b2 b3 s1 hF2 m1 m2 m3 m4 a4 a5 b4 b5
  go_enter Tryd.func15, Tryd.ntmps15
  go_wp2
  rw [← hw2, ← hB1, ← hA1]
  clear hw2 hA1 hB1 c0 c1 d0 d1 cl dl
  go_loopw [29, 5] (fun i _ wv => ∃ (j : Nat), j ≤ P.ws.length ∧ i = .int .i64 j ∧ Hid (Fr nothing w2 wv)) (fun i _ _ => P.ws.length - (intOf i).toNat)
  case atStart => exact ⟨0, Nat.zero_le _, rfl, Fr.refl _ _⟩
  case round =>
    obtain ⟨j, hj, rfl, hR⟩ := hrel
    by_cases hjl : j < P.ws.length
    · have hx : P.ws[j]? = some P.ws[j] := List.getElem?_eq_getElem hjl
      generalize P.ws[j] = x at hx
      obtain ⟨ga, oa, e1, dga, ua⟩ := sl_elem1 (s := ⟨waa, P.ws.length, wac⟩) HA.out.2.2 hx
      obtain ⟨gb, ob, e2, dgb, ub⟩ := sl_elem1 (s := ⟨wba, P.ws.length, wbc⟩) HB.out.2.2 hx
      simp only at e1 e2
      subst e1 e2
      have hF := (HF2.out.trans hR.out).drew
      have eg1 := Nat.lt_of_lt_of_le dga hF.size
      have eg2 := Nat.lt_of_lt_of_le dgb hF.size
      rw [← hF.cell (p := ⟨ga, _, none⟩) dga id] at ua
      rw [← hF.cell (p := ⟨gb, _, none⟩) dgb id] at ub
      obtain ⟨c0, c1, d0, d1, cl, dl⟩ := HCC.out _ hR.out.drew
      have HN : Hid (Fr nothing w2 wr.drew) := hR.out.drew
      clear hF hx hR
      go_wp2_with fail
      refine wp_region_held_drew (S := fun w' => w'.cell? ⟨A1, 1, none⟩ = some (.slice (some ⟨ga, oa, none⟩) P.ws.length wac) ∧ w'.cell? ⟨B1, 1, none⟩ = some (.slice (some ⟨gb, ob, none⟩) P.ws.length wbc) ∧ w'.cell? ⟨ga, oa + j, none⟩ = some (.string (bs x)) ∧ w'.cell? ⟨gb, ob + j, none⟩ = some (.string (bs x))) (by kernel_rfl) ⟨c1, d1, ua, ub⟩ (fun hHeld => ?_)
      refine wpAnyH_take (i := 0) (oi := { dst := some 32, op := Op.fieldAddr 34 (Operand.tmp 2) 1, type := 0, pos := "ref.go:770", after := #[], guard := none }) (v := ?v1) rfl (by kernel_rfl) (by kernel_rfl) (by kernel_rfl) (fun _ _ _ h => h) (Or.inl ⟨by rfl, ?hy1⟩) (by assumption) ?rest1
      case hy1 => (intro w hSw; (try dsimp only at hSw); obtain ⟨hS1, hS2, hS3, hS4⟩ := hSw; go_simp; try with_reducible rfl)
      try simp only [Act.put, List.setIfInBounds_toArray, List.set_cons_zero, List.set_cons_succ]
      refine wpAnyH_take (i := 1) (oi := { dst := some 33, op := Op.load 32 (Operand.tmp 32), type := 32, pos := "ref.go:770", after := #[{ on := 0, ground := Ground.data }], guard := none }) (v := ?v2) rfl (by kernel_rfl) (by kernel_rfl) (by kernel_rfl) (fun _ _ _ h => h) (Or.inl ⟨by rfl, ?hy2⟩) (by assumption) ?rest2
      case hy2 => (intro w hSw; (try dsimp only at hSw); obtain ⟨hS1, hS2, hS3, hS4⟩ := hSw; go_simp; try with_reducible rfl)
      try simp only [Act.put, List.setIfInBounds_toArray, List.set_cons_zero, List.set_cons_succ]
      refine wpAnyH_take (i := 2) (oi := { dst := some 34, op := Op.move (Operand.tmp 5), type := 3, pos := "ref.go:770", after := #[], guard := none }) (v := ?v3) rfl (by kernel_rfl) (by kernel_rfl) (by kernel_rfl) (fun _ _ _ h => h) (Or.inl ⟨by rfl, ?hy3⟩) (by assumption) ?rest3
      case hy3 => (intro w hSw; (try dsimp only at hSw); obtain ⟨hS1, hS2, hS3, hS4⟩ := hSw; go_simp; try with_reducible rfl)
      try simp only [Act.put, List.setIfInBounds_toArray, List.set_cons_zero, List.set_cons_succ]
      refine wpAnyH_take (i := 3) (oi := { dst := some 35, op := Op.indexAddr 32 (Operand.tmp 33) (Operand.tmp 34), type := 0, pos := "ref.go:770", after := #[{ on := 1, ground := Ground.data }, { on := 2, ground := Ground.data }], guard := none }) (v := ?v4) rfl (by kernel_rfl) (by kernel_rfl) (by kernel_rfl) (fun _ _ _ h => h) (Or.inl ⟨by rfl, ?hy4⟩) (by assumption) ?rest4
      case hy4 => (intro w hSw; (try dsimp only at hSw); obtain ⟨hS1, hS2, hS3, hS4⟩ := hSw; go_simp; try with_reducible rfl)
      try simp only [Act.put, List.setIfInBounds_toArray, List.set_cons_zero, List.set_cons_succ]
      refine wpAnyH_take (i := 4) (oi := { dst := some 36, op := Op.load 9 (Operand.tmp 35), type := 9, pos := "ref.go:770", after := #[{ on := 3, ground := Ground.data }], guard := none }) (v := ?v5) rfl (by kernel_rfl) (by kernel_rfl) (by kernel_rfl) (fun _ _ _ h => h) (Or.inl ⟨by rfl, ?hy5⟩) (by assumption) ?rest5
      case hy5 => (intro w hSw; (try dsimp only at hSw); obtain ⟨hS1, hS2, hS3, hS4⟩ := hSw; go_simp; try with_reducible rfl)
      try simp only [Act.put, List.setIfInBounds_toArray, List.set_cons_zero, List.set_cons_succ]
      refine wpAnyH_take (i := 5) (oi := { dst := some 37, op := Op.fieldAddr 34 (Operand.tmp 3) 1, type := 0, pos := "ref.go:770", after := #[], guard := none }) (v := ?v6) rfl (by kernel_rfl) (by kernel_rfl) (by kernel_rfl) (fun _ _ _ h => h) (Or.inl ⟨by rfl, ?hy6⟩) (by assumption) ?rest6
      case hy6 => (intro w hSw; (try dsimp only at hSw); obtain ⟨hS1, hS2, hS3, hS4⟩ := hSw; go_simp; try with_reducible rfl)
      try simp only [Act.put, List.setIfInBounds_toArray, List.set_cons_zero, List.set_cons_succ]
      refine wpAnyH_take (i := 6) (oi := { dst := some 38, op := Op.load 32 (Operand.tmp 37), type := 32, pos := "ref.go:770", after := #[{ on := 5, ground := Ground.data }], guard := none }) (v := ?v7) rfl (by kernel_rfl) (by kernel_rfl) (by kernel_rfl) (fun _ _ _ h => h) (Or.inl ⟨by rfl, ?hy7⟩) (by assumption) ?rest7
      case hy7 => (intro w hSw; (try dsimp only at hSw); obtain ⟨hS1, hS2, hS3, hS4⟩ := hSw; go_simp; try with_reducible rfl)
      try simp only [Act.put, List.setIfInBounds_toArray, List.set_cons_zero, List.set_cons_succ]
      refine wpAnyH_take (i := 7) (oi := { dst := some 39, op := Op.move (Operand.tmp 5), type := 3, pos := "ref.go:770", after := #[], guard := none }) (v := ?v8) rfl (by kernel_rfl) (by kernel_rfl) (by kernel_rfl) (fun _ _ _ h => h) (Or.inl ⟨by rfl, ?hy8⟩) (by assumption) ?rest8
      case hy8 => (intro w hSw; (try dsimp only at hSw); obtain ⟨hS1, hS2, hS3, hS4⟩ := hSw; go_simp; try with_reducible rfl)
      try simp only [Act.put, List.setIfInBounds_toArray, List.set_cons_zero, List.set_cons_succ]
      refine wpAnyH_take (i := 8) (oi := { dst := some 40, op := Op.indexAddr 32 (Operand.tmp 38) (Operand.tmp 39), type := 0, pos := "ref.go:770", after := #[{ on := 6, ground := Ground.data }, { on := 7, ground := Ground.data }], guard := none }) (v := ?v9) rfl (by kernel_rfl) (by kernel_rfl) (by kernel_rfl) (fun _ _ _ h => h) (Or.inl ⟨by rfl, ?hy9⟩) (by assumption) ?rest9
      case hy9 => (intro w hSw; (try dsimp only at hSw); obtain ⟨hS1, hS2, hS3, hS4⟩ := hSw; go_simp; try with_reducible rfl)
      try simp only [Act.put, List.setIfInBounds_toArray, List.set_cons_zero, List.set_cons_succ]
      refine wpAnyH_take (i := 9) (oi := { dst := some 41, op := Op.load 9 (Operand.tmp 40), type := 9, pos := "ref.go:770", after := #[{ on := 8, ground := Ground.data }], guard := none }) (v := ?v10) rfl (by kernel_rfl) (by kernel_rfl) (by kernel_rfl) (fun _ _ _ h => h) (Or.inl ⟨by rfl, ?hy10⟩) (by assumption) ?rest10
      case hy10 => (intro w hSw; (try dsimp only at hSw); obtain ⟨hS1, hS2, hS3, hS4⟩ := hSw; go_simp; try with_reducible rfl)
      try simp only [Act.put, List.setIfInBounds_toArray, List.set_cons_zero, List.set_cons_succ]
      refine wpAnyH_take (i := 10) (oi := { dst := some 42, op := Op.binOp BinOp.neq 9 (Operand.tmp 36) (Operand.tmp 41) 9, type := 4, pos := "ref.go:770", after := #[{ on := 4, ground := Ground.data }, { on := 9, ground := Ground.data }], guard := none }) (v := ?v11) rfl (by kernel_rfl) (by kernel_rfl) (by kernel_rfl) (fun _ _ _ h => h) (Or.inl ⟨by rfl, ?hy11⟩) (by assumption) ?rest11
      case hy11 => (intro w hSw; (try dsimp only at hSw); obtain ⟨hS1, hS2, hS3, hS4⟩ := hSw; go_simp; try with_reducible rfl)
      try simp only [Act.put, List.setIfInBounds_toArray, List.set_cons_zero, List.set_cons_succ]
      refine wpAnyH_done (by kernel_rfl) ?_ _
      clear hHeld
      go_wp2_with fail
      go_roundw
      case rel => exact ⟨j + 1, by omega, by go_num, HN.out⟩
      case measure => simp [intOf]; omega
    · obtain ⟨c0, c1, d0, d1, cl, dl⟩ := HCC.out _ hR.out
      obtain ⟨w3, hw3⟩ : ∃ x, x = wr := ⟨_, rfl⟩
      subst hw3
      go_wp2_with fail
      clear c0 c1 d0 d1 cl dl
      go_loopw [47, 6, 7, 8, 9] (fun i _ _ _ _ wv => ∃ (k : Nat), k ≤ P.cs.length ∧ i = .int .i64 k ∧ Hid (Fr nothing w2 wv)) (fun i _ _ _ _ _ => P.cs.length - (intOf i).toNat)
      case atStart => exact ⟨0, Nat.zero_le _, rfl, hR⟩
      case round =>
        obtain ⟨k, hk, rfl, hRk⟩ := hrel
        by_cases hkl : k < P.cs.length
        · have hx : P.cs[k]? = some P.cs[k] := List.getElem?_eq_getElem hkl
          have hra : ra[k]? = some (ra[k]'(by rw [HA.out.2.1.1]; omega)) := List.getElem?_eq_getElem _
          have hrb : rb[k]? = some (rb[k]'(by rw [HB.out.2.1.1]; omega)) := List.getElem?_eq_getElem _
          generalize P.cs[k] = x at hx
          generalize ra[k]'(by rw [HA.out.2.1.1]; omega) = xa at hra
          generalize rb[k]'(by rw [HB.out.2.1.1]; omega) = xb at hrb
          obtain ⟨p1, p2, p3, p4⟩ := HA.out.2.1.2 k xa x hra hx
          obtain ⟨q1, q2, q3, q4⟩ := HB.out.2.1.2 k xb x hrb hx
          obtain ⟨ga, oa, e1, dga, ua, ua1, ua2⟩ := sl_elemC (s := ⟨saa, P.cs.length, sac⟩) HA.out.1 hra
          obtain ⟨gb, ob, e2, dgb, ub, ub1, ub2⟩ := sl_elemC (s := ⟨sba, P.cs.length, sbc⟩) HB.out.1 hrb
          simp only at e1 e2
          subst e1 e2
          obtain ⟨n1, m1⟩ := sl_len p3
          obtain ⟨n2, m2⟩ := sl_len q3
          obtain ⟨xa1, xa2, ⟨xaa, xan, xac⟩⟩ := xa
          obtain ⟨xb1, xb2, ⟨xba, xbn, xbc⟩⟩ := xb
          simp only at p1 p2 q1 q2 n1 n2 ua ua1 ua2 ub ub1 ub2
          subst p1 p2 q1 q2 n1 n2
          have hF := HF2.out.trans hRk.out
          have eg1 := Nat.lt_of_lt_of_le dga hF.size
          have eg2 := Nat.lt_of_lt_of_le dgb hF.size
          rw [← hF.cell (p := ⟨ga, _, none⟩) dga id] at ua ua1 ua2
          rw [← hF.cell (p := ⟨gb, _, none⟩) dgb id] at ub ub1 ub2
          obtain ⟨c0, c1, d0, d1, cl, dl⟩ := HCC.out _ hRk.out
          have t1 : (wr.alloc (.cells #[.int .i64 (x.np : Nat), .int .i64 (x.nv : Nat), .slice xaa x.ins.length xac] 40)).heap.size = wr.heap.size + 1 := by simp
          have hA4 := made_cells ((Fr.refl nothing (wr.alloc (.cells #[.int .i64 (x.np : Nat), .int .i64 (x.nv : Nat), .slice xaa x.ins.length xac] 40))).alloc (.cells #[.int .i64 (x.np : Nat), .int .i64 (x.nv : Nat), .slice xba x.ins.length xbc] 40)) id
          have hB4 := made_cells (Fr.refl nothing ((wr.alloc (.cells #[.int .i64 (x.np : Nat), .int .i64 (x.nv : Nat), .slice xaa x.ins.length xac] 40)).alloc (.cells #[.int .i64 (x.np : Nat), .int .i64 (x.nv : Nat), .slice xba x.ins.length xbc] 40))) id
          rw [t1] at hB4
          have hF4 : Fr nothing wr ((wr.alloc (.cells #[.int .i64 (x.np : Nat), .int .i64 (x.nv : Nat), .slice xaa x.ins.length xac] 40)).alloc (.cells #[.int .i64 (x.np : Nat), .int .i64 (x.nv : Nat), .slice xba x.ins.length xbc] 40)) := ((Fr.refl _ _).alloc _).alloc _
          have hml : x.ins.length ≤ 9223372036854775807 := by omega
          have HP := hide (And.intro p3 q3)
          have HA4 := hide hA4
          have HB4 := hide hB4
          have HF4 := hide hF4
          clear hx hra hrb p3 p4 q3 q4 hF hA4 hB4 hF4 m1 m2
          go_wp2_with fail
          generalize (wr.alloc (.cells #[.int .i64 (x.np : Nat), .int .i64 (x.nv : Nat), .slice xaa x.ins.length xac] 40)).alloc (.cells #[.int .i64 (x.np : Nat), .int .i64 (x.nv : Nat), .slice xba x.ins.length xbc] 40) = w4 at *
          obtain ⟨A7, hA7⟩ : ∃ x, x = wr.heap.size := ⟨_, rfl⟩
          obtain ⟨B8, hB8⟩ : ∃ x, x = wr.heap.size + 1 := ⟨_, rfl⟩
          rw [← hB8] at HB4
          rw [← hB8]
          rw [← hA7] at HA4
          rw [← hA7]
          have HR4 : Hid (Fr nothing w2 w4) := hRk.out.trans HF4.out
          clear hA7 hB8 c0 c1 d0 d1 cl dl ua ua1 ua2 ub ub1 ub2 t1 eg1 eg2
          go_loopw [81, 9] (fun i _ wv => ∃ (j2 : Nat), j2 ≤ x.ins.length ∧ i = .int .i64 j2 ∧ Hid (Fr nothing w4 wv)) (fun i _ _ => x.ins.length - (intOf i).toNat)
          case atStart => exact ⟨0, Nat.zero_le _, rfl, Fr.refl _ _⟩
          case round =>
            obtain ⟨j2, hj2, rfl, hR2⟩ := hrel
            by_cases hj2l : j2 < x.ins.length
            · have hx : x.ins[j2]? = some x.ins[j2] := List.getElem?_eq_getElem hj2l
              generalize x.ins[j2] = y at hx
              obtain ⟨ia, ja, e1, dia, v0, v1, v2⟩ := sl_elemI (s := ⟨xaa, x.ins.length, xac⟩) HP.out.1 hx
              obtain ⟨ib, jb, e2, dib, z0, z1, z2⟩ := sl_elemI (s := ⟨xba, x.ins.length, xbc⟩) HP.out.2 hx
              simp only at e1 e2
              subst e1 e2
              have hF := ((HF2.out.trans HR4.out).trans hR2.out).drew
              have eg1 := Nat.lt_of_lt_of_le dia hF.size
              have eg2 := Nat.lt_of_lt_of_le dib hF.size
              rw [← hF.cell (p := ⟨ia, _, none⟩) dia id] at v0 v1 v2
              rw [← hF.cell (p := ⟨ib, _, none⟩) dib id] at z0 z1 z2
              have a2 := (hR2.out.drew.cell (p := ⟨A7, 2, none⟩) HA4.out.2.2 id).trans (HA4.out.1 2)
              have b2 := (hR2.out.drew.cell (p := ⟨B8, 2, none⟩) HB4.out.2.2 id).trans (HB4.out.1 2)
              have al := Nat.lt_of_lt_of_le HA4.out.2.2 hR2.out.size
              have bl := Nat.lt_of_lt_of_le HB4.out.2.2 hR2.out.size
              have HN : Hid (Fr nothing w4 wr.drew) := hR2.out.drew
              clear hF hx hR2
              go_wp2_with fail
              refine wp_region_held_drew (S := fun w' => w'.cell? ⟨A7, 2, none⟩ = some (.slice (some ⟨ia, ja, none⟩) x.ins.length xac) ∧ w'.cell? ⟨B8, 2, none⟩ = some (.slice (some ⟨ib, jb, none⟩) x.ins.length xbc) ∧ w'.cell? ⟨ia, ja + j2 * 3, none⟩ = some (.int .i64 y.op) ∧ w'.cell? ⟨ia, ja + j2 * 3 + 1, none⟩ = some (.int .i64 y.a) ∧ w'.cell? ⟨ia, ja + j2 * 3 + 2, none⟩ = some (.int .i64 y.b) ∧ w'.cell? ⟨ib, jb + j2 * 3, none⟩ = some (.int .i64 y.op) ∧ w'.cell? ⟨ib, jb + j2 * 3 + 1, none⟩ = some (.int .i64 y.a) ∧ w'.cell? ⟨ib, jb + j2 * 3 + 2, none⟩ = some (.int .i64 y.b)) (by kernel_rfl) ⟨a2, b2, v0, v1, v2, z0, z1, z2⟩ (fun hHeld => ?_)
              refine wpAnyH_take (i := 0) (oi := { dst := some 84, op := Op.fieldAddr 40 (Operand.tmp 7) 2, type := 0, pos := "ref.go:780", after := #[], guard := none }) (v := ?v12) rfl (by kernel_rfl) (by kernel_rfl) (by kernel_rfl) (fun _ _ _ h => h) (Or.inl ⟨by rfl, ?hy12⟩) (by assumption) ?rest12
              case hy12 => (intro w hSw; (try dsimp only at hSw); obtain ⟨hS1, hS2, hS3, hS4, hS5, hS6, hS7, hS8⟩ := hSw; go_simp; try with_reducible rfl)
              try simp only [Act.put, List.setIfInBounds_toArray, List.set_cons_zero, List.set_cons_succ]
              refine wpAnyH_take (i := 1) (oi := { dst := some 85, op := Op.load 38 (Operand.tmp 84), type := 38, pos := "ref.go:780", after := #[{ on := 0, ground := Ground.data }], guard := none }) (v := ?v13) rfl (by kernel_rfl) (by kernel_rfl) (by kernel_rfl) (fun _ _ _ h => h) (Or.inl ⟨by rfl, ?hy13⟩) (by assumption) ?rest13
              case hy13 => (intro w hSw; (try dsimp only at hSw); obtain ⟨hS1, hS2, hS3, hS4, hS5, hS6, hS7, hS8⟩ := hSw; go_simp; try with_reducible rfl)
              try simp only [Act.put, List.setIfInBounds_toArray, List.set_cons_zero, List.set_cons_succ]
              refine wpAnyH_take (i := 2) (oi := { dst := some 86, op := Op.move (Operand.tmp 9), type := 3, pos := "ref.go:780", after := #[], guard := none }) (v := ?v14) rfl (by kernel_rfl) (by kernel_rfl) (by kernel_rfl) (fun _ _ _ h => h) (Or.inl ⟨by rfl, ?hy14⟩) (by assumption) ?rest14
              case hy14 => (intro w hSw; (try dsimp only at hSw); obtain ⟨hS1, hS2, hS3, hS4, hS5, hS6, hS7, hS8⟩ := hSw; go_simp; try with_reducible rfl)
              try simp only [Act.put, List.setIfInBounds_toArray, List.set_cons_zero, List.set_cons_succ]
              refine wpAnyH_take (i := 3) (oi := { dst := some 87, op := Op.indexAddr 38 (Operand.tmp 85) (Operand.tmp 86), type := 0, pos := "ref.go:780", after := #[{ on := 1, ground := Ground.data }, { on := 2, ground := Ground.data }], guard := none }) (v := ?v15) rfl (by kernel_rfl) (by kernel_rfl) (by kernel_rfl) (fun _ _ _ h => h) (Or.inl ⟨by rfl, ?hy15⟩) (by assumption) ?rest15
              case hy15 => (intro w hSw; (try dsimp only at hSw); obtain ⟨hS1, hS2, hS3, hS4, hS5, hS6, hS7, hS8⟩ := hSw; go_simp; try with_reducible rfl)
              try simp only [Act.put, List.setIfInBounds_toArray, List.set_cons_zero, List.set_cons_succ]
              refine wpAnyH_take (i := 4) (oi := { dst := some 88, op := Op.load 45 (Operand.tmp 87), type := 45, pos := "ref.go:780", after := #[{ on := 3, ground := Ground.data }], guard := none }) (v := ?v16) rfl (by kernel_rfl) (by kernel_rfl) (by kernel_rfl) (fun _ _ _ h => h) (Or.inl ⟨by rfl, ?hy16⟩) (by assumption) ?rest16
              case hy16 => (intro w hSw; (try dsimp only at hSw); obtain ⟨hS1, hS2, hS3, hS4, hS5, hS6, hS7, hS8⟩ := hSw; go_simp; try with_reducible rfl)
              try simp only [Act.put, List.setIfInBounds_toArray, List.set_cons_zero, List.set_cons_succ]
              refine wpAnyH_take (i := 5) (oi := { dst := some 89, op := Op.fieldAddr 40 (Operand.tmp 8) 2, type := 0, pos := "ref.go:780", after := #[], guard := none }) (v := ?v17) rfl (by kernel_rfl) (by kernel_rfl) (by kernel_rfl) (fun _ _ _ h => h) (Or.inl ⟨by rfl, ?hy17⟩) (by assumption) ?rest17
              case hy17 => (intro w hSw; (try dsimp only at hSw); obtain ⟨hS1, hS2, hS3, hS4, hS5, hS6, hS7, hS8⟩ := hSw; go_simp; try with_reducible rfl)
              try simp only [Act.put, List.setIfInBounds_toArray, List.set_cons_zero, List.set_cons_succ]
              refine wpAnyH_take (i := 6) (oi := { dst := some 90, op := Op.load 38 (Operand.tmp 89), type := 38, pos := "ref.go:780", after := #[{ on := 5, ground := Ground.data }], guard := none }) (v := ?v18) rfl (by kernel_rfl) (by kernel_rfl) (by kernel_rfl) (fun _ _ _ h => h) (Or.inl ⟨by rfl, ?hy18⟩) (by assumption) ?rest18
              case hy18 => (intro w hSw; (try dsimp only at hSw); obtain ⟨hS1, hS2, hS3, hS4, hS5, hS6, hS7, hS8⟩ := hSw; go_simp; try with_reducible rfl)
              try simp only [Act.put, List.setIfInBounds_toArray, List.set_cons_zero, List.set_cons_succ]
              refine wpAnyH_take (i := 7) (oi := { dst := some 91, op := Op.move (Operand.tmp 9), type := 3, pos := "ref.go:780", after := #[], guard := none }) (v := ?v19) rfl (by kernel_rfl) (by kernel_rfl) (by kernel_rfl) (fun _ _ _ h => h) (Or.inl ⟨by rfl, ?hy19⟩) (by assumption) ?rest19
              case hy19 => (intro w hSw; (try dsimp only at hSw); obtain ⟨hS1, hS2, hS3, hS4, hS5, hS6, hS7, hS8⟩ := hSw; go_simp; try with_reducible rfl)
              try simp only [Act.put, List.setIfInBounds_toArray, List.set_cons_zero, List.set_cons_succ]
              refine wpAnyH_take (i := 8) (oi := { dst := some 92, op := Op.indexAddr 38 (Operand.tmp 90) (Operand.tmp 91), type := 0, pos := "ref.go:780", after := #[{ on := 6, ground := Ground.data }, { on := 7, ground := Ground.data }], guard := none }) (v := ?v20) rfl (by kernel_rfl) (by kernel_rfl) (by kernel_rfl) (fun _ _ _ h => h) (Or.inl ⟨by rfl, ?hy20⟩) (by assumption) ?rest20
              case hy20 => (intro w hSw; (try dsimp only at hSw); obtain ⟨hS1, hS2, hS3, hS4, hS5, hS6, hS7, hS8⟩ := hSw; go_simp; try with_reducible rfl)
              try simp only [Act.put, List.setIfInBounds_toArray, List.set_cons_zero, List.set_cons_succ]
              refine wpAnyH_take (i := 9) (oi := { dst := some 93, op := Op.load 45 (Operand.tmp 92), type := 45, pos := "ref.go:780", after := #[{ on := 8, ground := Ground.data }], guard := none }) (v := ?v21) rfl (by kernel_rfl) (by kernel_rfl) (by kernel_rfl) (fun _ _ _ h => h) (Or.inl ⟨by rfl, ?hy21⟩) (by assumption) ?rest21
              case hy21 => (intro w hSw; (try dsimp only at hSw); obtain ⟨hS1, hS2, hS3, hS4, hS5, hS6, hS7, hS8⟩ := hSw; go_simp; try with_reducible rfl)
              try simp only [Act.put, List.setIfInBounds_toArray, List.set_cons_zero, List.set_cons_succ]
              refine wpAnyH_take (i := 10) (oi := { dst := some 94, op := Op.binOp BinOp.neq 45 (Operand.tmp 88) (Operand.tmp 93) 45, type := 4, pos := "ref.go:780", after := #[{ on := 4, ground := Ground.data }, { on := 9, ground := Ground.data }], guard := none }) (v := ?v22) rfl (by kernel_rfl) (by kernel_rfl) (by kernel_rfl) (fun _ _ _ h => h) (Or.inl ⟨by rfl, ?hy22⟩) (by assumption) ?rest22
              case hy22 => (intro w hSw; (try dsimp only at hSw); obtain ⟨hS1, hS2, hS3, hS4, hS5, hS6, hS7, hS8⟩ := hSw; go_simp; try with_reducible rfl)
              try simp only [Act.put, List.setIfInBounds_toArray, List.set_cons_zero, List.set_cons_succ]
              refine wpAnyH_done (by kernel_rfl) ?_ _
              clear hHeld
              go_wp2_with fail
              go_roundw
              case rel => exact ⟨j2 + 1, by omega, by go_num, HN.out⟩
              case measure => simp [intOf]; omega
            · have HN : Hid (Fr nothing w2 wr) := HR4.out.trans hR2.out
              go_wp2_with fail
              go_roundw
              case rel => exact ⟨k + 1, by omega, by go_num, HN.out⟩
              case measure => simp [intOf]; omega
        · have HN : Hid (Fr nothing w wr) := HF2.out.trans hRk.out
          go_wp2_with fail
          go_ret
          exact ⟨rfl, HN.out⟩
end Go.Proofs.YtkmdamljhagogaaDoor
end
section
/- CodeTells: the law's walk. -/
set_option maxHeartbeats 0
set_option maxRecDepth 100000
namespace Go.Proofs.YtkmdamljhagogaaDoor
open Go Go.RowKit
theorem PgOk.fr {w w' : World} {sc sw : Slc} {P : Pg} (h : PgOk w sc sw P) (hf : Fr nothing w w') : PgOk w' sc sw P := by
  obtain ⟨⟨rs, h1, h2⟩, h3, h4, h5⟩ := h
  exact ⟨⟨rs, h1.fr hf (fun _ _ => id), h2.1, fun i r x e1 e2 => cd_stays _ _ _ _ _ _ _ (h2.2 i r x e1 e2) hf (fun _ _ => id) (fun k hk => Nat.lt_of_lt_of_le hk hf.size)⟩, h3.fr hf (fun _ _ => id), fun b hb => Nat.lt_of_lt_of_le (h4 b hb) hf.size, fun b hb => Nat.lt_of_lt_of_le (h5 b hb) hf.size⟩
theorem own_lt {w : World} {s : Slc} {rs : List RawF} (h : Sl encG 3 w s.v rs) (hn : rs.length ≠ 0) : ∀ b, s.v.ownBlock = some b → b < w.heap.size := by
  obtain ⟨b0, off, e, hb, _⟩ := sl_elem3 h (List.getElem?_eq_getElem (Nat.pos_of_ne_zero hn))
  obtain ⟨sa, sn, sc⟩ := s
  simp only at e
  subst e
  intro b hb2
  have : b0 = b := Option.some.inj hb2
  rw [← this]; exact hb
theorem codeTells_law (S : ByteArray) (w : World) (hE : Er w) (hT : Tab w) (hS : S.size ≤ 140737488355328) :
    Calls Tryd.prog 5 #[.string S] w fun e w' => e = .returned (.bool true) ∧ Fr nothing w w' := by
  obtain ⟨s, rfl⟩ : ∃ s, S = bs s := ⟨S.data.toList, rfl⟩
  rw [bs_size] at hS
  have HP := hide (parse_any s w hE hT (by omega))
  have hfine := @pt_fine s
  have hkd := @pt_kd s
  clear hE hT
  generalize hpt : pt s = q at *
  obtain ⟨l, z⟩ := q
  simp only at hfine hkd
  by_cases hz : z = 0
  · obtain ⟨hsh, hfn, _⟩ := hfine hz
    have hke := hkd hz
    subst hz
    have HSH := hide hsh
    have HKE := hide hke
    clear hpt hfine hsh hkd hke
    by_cases hc : checkC l = 0
    · have hR := right_of hc
      have HM := hide (fnM_of hR HSH.out HKE.out)
      have HR := hide (fnR_of hR HSH.out HKE.out)
      have hl5 := hR.n
      have hl0 := hR.n0
      obtain ⟨P, hP⟩ : ∃ P, progK l = P := ⟨_, rfl⟩
      obtain ⟨pg, er⟩ := P
      clear hR
      go_enter Tryd.func5, Tryd.ntmps5
      go_wp2_with (first
        | (go_at_call 9; refine (rcheck_any l sl rs w1 HS1.out (each2 HE1.out).1 (each2 HE1.out).2 HSH.out (by omega)).mono ?_; rintro e w2 ⟨rfl, hf2⟩; rw [hc]; have HF2 := hide (HF1.out.trans hf2); have HS2 := hide (HS1.out.fr hf2 (fun _ _ => id)); have HE2 := hide (each_fr (each2 HE1.out).1 hf2); clear hf2)
        | (go_at_call 13; refine (make_any l sl rs w2 HS2.out HE2.out HM.out (by omega) hl5).mono ?_; rintro e w3 ⟨ps, pw, rfl, hf3, hpg⟩; rw [hP] at hpg ⊢; simp only at hpg ⊢; have HF3 := hide (HF2.out.trans hf3); have HS3 := hide (HS2.out.fr hf3 (fun _ _ => id)); have HE3 := hide (each_fr HE2.out hf3); have HPG := hide hpg; clear hf3 hpg)
        | (go_at_call 7; refine HP.out.mono ?_; rintro e w1 ⟨sl, rfl, hf1, hn1, rs, hs1, he1⟩; have HF1 := hide hf1; have HS1 := hide hs1; have HE1 := hide he1; clear hf1 hs1 he1 hn1))
      have hf4 : Fr nothing w3 (w3.alloc (.cells #[.slice ps.a ps.n ps.c, .slice pw.a pw.n pw.c] 34)) := (Fr.refl _ _).alloc _
      have c4 := made_cells (Fr.refl nothing (w3.alloc (.cells #[.slice ps.a ps.n ps.c, .slice pw.a pw.n pw.c] 34))) id
      have hs4 := HS3.out.fr hf4 (fun _ _ => id)
      have he4 := each_fr HE3.out hf4
      have HRM := hide (rmake l sl rs _ hs4 he4 (own_lt hs4 (by rw [he4.1]; exact hl0)) HR.out (by omega) hl5)
      have HPG4 := hide (HPG.out.fr hf4)
      have HF4 := hide (HF3.out.trans hf4)
      obtain ⟨w4, hw4⟩ : ∃ w4, w4 = w3.alloc (.cells #[.slice ps.a ps.n ps.c, .slice pw.a pw.n pw.c] 34) := ⟨_, rfl⟩
      rw [← hw4] at HRM HPG4 HF4 c4
      have HC4 := hide c4
      rw [← hw4]
      clear hf4 c4 hs4 he4 hw4
      go_wp2_with (go_at_call 14; refine HRM.out.mono ?_; rintro e w5 ⟨qs, qw, rfl, hf5, hpg5⟩; rw [hP] at hpg5 ⊢; simp only at hpg5 ⊢; have g0 := (hf5.cell (p := ⟨w3.heap.size, 0, none⟩) HC4.out.2.2 id).trans (HC4.out.1 0); have g1 := (hf5.cell (p := ⟨w3.heap.size, 1, none⟩) HC4.out.2.2 id).trans (HC4.out.1 1); have gl := Nat.lt_of_lt_of_le HC4.out.2.2 hf5.size; have HF5 := hide (HF4.out.trans hf5); have HPA := hide (HPG4.out.fr hf5); have HPB := hide hpg5; clear hf5 hpg5)
      have hf6 : Fr nothing w5 (w5.alloc (.cells #[.slice qs.a qs.n qs.c, .slice qw.a qw.n qw.c] 34)) := (Fr.refl _ _).alloc _
      have HSM := hide (sameP_any pg ps pw qs qw _ (HPA.out.fr hf6) (HPB.out.fr hf6))
      have HF6 := hide (HF5.out.trans hf6)
      clear hf6
      go_wp2_with (go_at_call 15; refine HSM.out.mono ?_; rintro e w7 ⟨rfl, hf7⟩; have HF7 := hide (HF6.out.trans hf7); clear hf7)
      go_ret
      exact ⟨rfl, HF7.out⟩
    · have hcb := ne_bne hc
      go_enter Tryd.func5, Tryd.ntmps5
      go_wp2_with (first
        | (go_at_call 9; refine (rcheck_any l sl rs w1 HS1.out (each2 HE1.out).1 (each2 HE1.out).2 HSH.out (by omega)).mono ?_; rintro e w2 ⟨rfl, hf2⟩; have HF2 := hide (HF1.out.trans hf2); clear hf2)
        | (go_at_call 7; refine HP.out.mono ?_; rintro e w1 ⟨sl, rfl, hf1, hn1, rs, hs1, he1⟩; have HF1 := hide hf1; have HS1 := hide hs1; have HE1 := hide he1; clear hf1 hs1 he1 hn1))
      go_ret
      exact ⟨rfl, HF2.out⟩
  · have hzb := ne_bne hz
    clear hpt hfine hkd
    go_enter Tryd.func5, Tryd.ntmps5
    go_wp2_with (go_at_call 7; refine HP.out.mono ?_; rintro e w1 ⟨sl, rfl, hf1, hn1, rs, hs1, he1⟩; have HF1 := hide hf1; clear hf1 hs1 he1 hn1)
    go_ret
    exact ⟨rfl, HF1.out⟩
end Go.Proofs.YtkmdamljhagogaaDoor
end
section
/- A world for the witnesses: the settled one, the tables and errors of Go's library holding what their initialisers lay; what a row's list gives. -/
namespace Go.Proofs.YtkmdamljhagogaaDoor
/-- One block's cells put in place. -/
def putCells (l : List Value) : Obj → Obj
  | .cells _ t frozen => .cells l.toArray t frozen
  | o => o
open Go.ChangeShapes Go.WideShapes Go.ChangeAt Go.RowKit Go.ChangeMaps
def pow10s : List Value := [1, 10, 100, 1000, 10000, 100000, 1000000, 10000000, 100000000, 1000000000, 10000000000, 100000000000, 1000000000000, 10000000000000, 100000000000000, 1000000000000000, 10000000000000000, 100000000000000000, 1000000000000000000, 10000000000000000000].map fun n => .int .u64 n
def bruijn32 : List Value := [0, 1, 28, 2, 29, 14, 24, 3, 30, 22, 20, 15, 25, 17, 4, 8, 31, 27, 13, 23, 21, 19, 16, 7, 26, 12, 18, 6, 11, 5, 10, 9].map fun n => .int .u8 n
def bruijn64 : List Value := [0, 1, 56, 2, 57, 49, 28, 3, 61, 58, 42, 50, 38, 29, 17, 4, 62, 47, 59, 36, 45, 43, 51, 22, 53, 39, 33, 30, 24, 18, 12, 5, 63, 55, 48, 27, 60, 41, 37, 16, 46, 35, 44, 21, 52, 32, 23, 11, 54, 26, 40, 15, 34, 20, 31, 10, 25, 14, 19, 9, 13, 8, 7, 6].map fun n => .int .u8 n
def synT : List UInt8 := [105, 110, 118, 97, 108, 105, 100, 32, 115, 121, 110, 116, 97, 120]
def rngT : List UInt8 := [118, 97, 108, 117, 101, 32, 111, 117, 116, 32, 111, 102, 32, 114, 97, 110, 103, 101]
noncomputable def baseWorld (os : Os) : World := World.holding Tryd.prog os ⟨#[], #[], []⟩
noncomputable def laidWorld (os : Os) : World :=
  { baseWorld os with heap := ((((((baseWorld os).heap.modify 0 (putCells [.iface 147 (.pointer (some ⟨(baseWorld os).heap.size, 0, none⟩))])).modify 1 (putCells [.iface 147 (.pointer (some ⟨(baseWorld os).heap.size + 1, 0, none⟩))])).modify 2 (putCells pow10s)).modify 3 (putCells bruijn32)).modify 4 (putCells bruijn64)).push (.cells #[.string ⟨synT.toArray⟩] 149 (0, 0)) |>.push (.cells #[.string ⟨rngT.toArray⟩] 149 (0, 0)) }
theorem own : ownKnob Tryd.prog.godebug = none := by kernel_rfl
theorem laidOut : laidOutB Tryd.prog = true := by kernel_rfl
theorem g0 : Tryd.prog.globalNamed "strconv.ErrSyntax" = some 0 := by kernel_rfl
theorem g1 : Tryd.prog.globalNamed "strconv.ErrRange" = some 1 := by kernel_rfl
theorem gt0 : (Tryd.prog.globals[0]?).map (·.type) = some 111 := by kernel_rfl
theorem gt1 : (Tryd.prog.globals[1]?).map (·.type) = some 111 := by kernel_rfl
theorem err_at {W : World} {n : String} {g : Nat} {nm : String} {d : DataW Unit} (hg : Tryd.prog.globalNamed n = some g) (ht : (Tryd.prog.globals[g]?).map (·.type) = some 111) (h : Lib.VarReads Tryd.prog W n (.iface nm d)) : ∃ ev, W.cell? ⟨g, 0, none⟩ = some ev ∧ (ev = .nilIface ∨ ∃ te pe, ev = .iface te pe) := by
  obtain ⟨g', t', cs, fuel, p, h1, h2, h3, h4⟩ := h
  obtain rfl := Option.some.inj (hg.symm.trans h1)
  obtain rfl := Option.some.inj (ht.symm.trans h2)
  obtain ⟨_, u, v, hcs, _⟩ := iface_of_trod Tryd.underlying111 h4
  refine ⟨.iface u v, ?_, .inr ⟨u, v, rfl⟩⟩
  unfold World.var? at h3
  rw [hg] at h3
  simp only [Option.bind_some] at h3
  unfold World.cell?
  split at h3
  · rename_i cs' t fr he
    cases h3
    rw [he]
    obtain ⟨l⟩ := cs
    simp only at hcs
    subst hcs
    simp
  · cases h3
/-- What the row's list gives: the two errors. -/
theorem errs {W : World} (h : laidMetH Tryd.prog Rows.scopeTellsRow.laid W) : Er W := by
  have h1 : laidMet Tryd.prog Rows.scopeTellsRow.laid W := h
  exact ⟨err_at g0 gt0 (Lib.laidMet.reads h1 (n := "strconv.ErrSyntax") (d := Rows.laid_strconv_ErrSyntax) (by simp [Rows.scopeTellsRow])), err_at g1 gt1 (Lib.laidMet.reads h1 (n := "strconv.ErrRange") (d := Rows.laid_strconv_ErrRange) (by simp [Rows.scopeTellsRow]))⟩
theorem gTab : Tryd.prog.globalNamed "internal/strconv.uint64pow10" = some 2 := by kernel_rfl
theorem gTabType : (Tryd.prog.globals[2]?).map (·.type) = some 151 := by kernel_rfl
theorem cellsA20 : Tryd.prog.cellsOf 151 = 20 := by kernel_rfl
theorem cellsU64 : Tryd.prog.cellsOf 131 = 1 := by kernel_rfl
/-- What the row's list gives: the table that Itoa reads. -/
theorem table {W : World} (h : laidMetH Tryd.prog Rows.scopeTellsRow.laid W) : Tab W := by
  have h1 : laidMet Tryd.prog Rows.scopeTellsRow.laid W := h
  have h2 := h1.filter (fun x => x.1 == "internal/strconv.uint64pow10")
  exact Lib.tabIs_of_head (rest := []) gTab gTabType Tryd.underlying151 Tryd.underlying131 cellsU64 cellsA20 h2
end Go.Proofs.YtkmdamljhagogaaDoor
end
