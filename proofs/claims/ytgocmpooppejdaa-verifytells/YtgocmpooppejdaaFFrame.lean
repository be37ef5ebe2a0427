/- Package verify: what is wrong with a frame but for its values. -/
import Derived.Test.YtgocmpooppejdaaFWaits
import Derived.Test.YtgocmpooppejdaaFFlow
set_option maxHeartbeats 0
set_option maxRecDepth 100000
namespace Go.Proofs.Ytgocmpooppejdaa
open Go Go.RowKit
theorem put3 {w : World} {b : Nat} {u0 u1 u2 : Value} (v0 v1 v2 : Value) (m0 : w.cell? ⟨b, 0, none⟩ = some u0) (m1 : w.cell? ⟨b, 1, none⟩ = some u1) (m2 : w.cell? ⟨b, 2, none⟩ = some u2) :
    ∃ w5, ((w.setCell ⟨b, 0, none⟩ v0).setCell ⟨b, 1, none⟩ v1).setCell ⟨b, 2, none⟩ v2 = w5 ∧ w5.cell? ⟨b, 0, none⟩ = some v0 ∧ w5.cell? ⟨b, 1, none⟩ = some v1 ∧ w5.cell? ⟨b, 2, none⟩ = some v2 ∧ Fr (fun k => k = b) w w5 := by
  obtain ⟨w4, h1, h2, h3, h4⟩ := put2 v0 v1 m0 m1
  have h5 : w4.cell? ⟨b, 2, none⟩ = some u2 := by
    rw [← h1, World.cell?_setCell_other _ ⟨b, 1, none⟩ ⟨b, 2, none⟩ _ (by simp), World.cell?_setCell_other _ ⟨b, 0, none⟩ ⟨b, 2, none⟩ _ (by simp)]
    exact m2
  refine ⟨_, rfl, ?_, ?_, ?_, ?_⟩
  · rw [h1, World.cell?_setCell_other _ ⟨b, 2, none⟩ ⟨b, 0, none⟩ _ (by simp)]; exact h2
  · rw [h1, World.cell?_setCell_other _ ⟨b, 2, none⟩ ⟨b, 1, none⟩ _ (by simp)]; exact h3
  · rw [h1]; exact World.cell?_setCell_same _ _ _ h5
  · rw [h1]; exact h4.setCell (p := ⟨b, 2, none⟩) (.inl rfl) _
theorem sl_elemT {w : World} {s : Slc} {rs : List Slc} (h : Sl encT 1 w s.v rs) {i : Nat} {r : Slc} (hi : rs[i]? = some r) : ∃ b off, s.a = some ⟨b, off, none⟩ ∧ b < w.heap.size ∧ w.cell? ⟨b, off + i, none⟩ = some (.slice r.a r.n r.c) := by
  obtain ⟨ao, cap, he, _, hc⟩ := h
  obtain ⟨b, off, rfl, hb, hcell⟩ := hc i r hi
  simp only [Value.slice.injEq] at he
  have := hcell 0 _ rfl
  rw [Nat.mul_one, Nat.add_zero] at this
  exact ⟨b, off, he.1, hb, this⟩
theorem sl_elemZ' {w : World} {s : Slc} {l : List Int} (h : Sl encZ 1 w s.v l) {i : Nat} {z : Int} (hi : l[i]? = some z) : ∃ b off, s.a = some ⟨b, off, none⟩ ∧ b < w.heap.size ∧ w.cell? ⟨b, off + i, none⟩ = some (.int .i64 z) := by
  obtain ⟨ao, cap, he, _, hc⟩ := h
  obtain ⟨b, off, rfl, hb, hcell⟩ := hc i z hi
  simp only [Value.slice.injEq] at he
  have := hcell 0 _ rfl
  exact ⟨b, off, he.1, hb, by simpa using this⟩
/-- A program with which nothing is wrong. -/
structure FineZ (p : Pz) : Prop where
  h : ∀ c ∈ p.cs, (heightsC c.ins).2 = 0 ∧ c.ins.length ≤ 200 ∧ 0 ≤ c.nv ∧ c.nv ≤ 8
theorem frame_any (p : Pz) (f : Fm) (r : RawM) (q : Int × Int) (sc sw hq : Slc) (w : World) (hP : PzOk w sc sw p) (hH : HsOk w hq (p.cs.map hgtZ)) (hM : FmOk w r f) (hz : FineZ p) (hfn : i64 f.fn ∧ i64 f.at_) :
    Calls Try.prog 15 #[.agg #[.int .i64 r.fn, .int .i64 r.at_, .slice r.v.a r.v.n r.v.c, .slice r.s.a r.s.n r.s.c], .slice sc.a sc.n sc.c, .slice hq.a hq.n hq.c, .agg #[.int .i64 q.1, .int .i64 q.2]] w fun e w' => e = .returned (.int .i64 (frameC p f q)) ∧ Fr nothing w w' := by
  obtain ⟨⟨rs, hrs, hea⟩, -⟩ := hP
  obtain ⟨hs, hhs, heh⟩ := hH
  obtain ⟨n1, m1⟩ := sl_len hrs
  obtain ⟨n2, m2⟩ := sl_len hhs
  rw [hea.1] at n1 m1
  rw [heh.1, List.length_map] at n2 m2
  obtain ⟨sca, scn, scc⟩ := sc
  obtain ⟨hqa, hqn, hqc⟩ := hq
  simp only at n1 n2
  subst n1 n2
  obtain ⟨n3, m3⟩ := sl_len hM.v
  obtain ⟨n4, m4⟩ := sl_len hM.s
  have hfe := hM.fn
  have hate := hM.at_
  obtain ⟨fn, at_, ⟨rva, rvn, rvc⟩, ⟨rsa, rsn, rsc⟩⟩ := r
  obtain ⟨q1, q2⟩ := q
  simp only at n3 n4 hfe hate
  subst n3 n4
  have hd : frameC p f (q1, q2) = if f.fn < 0 ∨ p.cs.length ≤ f.fn then 3
    else if f.at_ < 0 ∨ (p.cs.getD f.fn.toNat cz0).ins.length ≤ f.at_ ∨ (f.vars.length : Int) ≠ (p.cs.getD f.fn.toNat cz0).nv then 3
    else if q1 ≠ 0 ∧ (f.at_ = 0 ∨ heightZ (p.cs.getD f.fn.toNat cz0) (f.at_.toNat - 1) = -1 ∨ ((p.cs.getD f.fn.toNat cz0).ins.getD (f.at_.toNat - 1) in0).op ≠ q1 ∨ ((p.cs.getD f.fn.toNat cz0).ins.getD (f.at_.toNat - 1) in0).a ≠ q2) then 10
    else if (f.stack.length : Int) ≠ heightZ (p.cs.getD f.fn.toNat cz0) f.at_.toNat - (if q1 ≠ 0 then 1 else 0) then 10
    else 0 := rfl
  obtain ⟨R, hR⟩ : ∃ R, frameC p f (q1, q2) = R := ⟨_, rfl⟩
  rw [hR] at hd ⊢
  rw [← hfe, ← hate] at hd
  rw [← hfe, ← hate] at hfn
  clear hR hM hfe hate
  generalize f.vars.length = nvars at *
  generalize f.stack.length = nst at *
  have FA : Fr nothing w (w.alloc (.cells #[.int .i64 fn, .int .i64 at_, .slice rva nvars rvc, .slice rsa nst rsc] 55)) := (Fr.refl _ _).alloc _
  obtain ⟨w1, hw1⟩ : ∃ x, x = w.alloc (.cells #[.int .i64 fn, .int .i64 at_, .slice rva nvars rvc, .slice rsa nst rsc] 55) := ⟨_, rfl⟩
  rw [← hw1] at FA
  have FB : Fr nothing w1 (w1.alloc (.cells #[.int .i64 q1, .int .i64 q2] 58)) := (Fr.refl _ _).alloc _
  have mb := made_cells (Fr.refl nothing (w1.alloc (.cells #[.int .i64 q1, .int .i64 q2] 58))) id
  obtain ⟨w2, hw2⟩ : ∃ x, x = w1.alloc (.cells #[.int .i64 q1, .int .i64 q2] 58) := ⟨_, rfl⟩
  rw [← hw2] at FB mb
  have z1 : w1.heap.size = w.heap.size + 1 := by rw [hw1]; simp
  have z2 : w2.heap.size = w.heap.size + 1 + 1 := by rw [hw2]; simp [z1]
  have ma := made_cells (w := w) (cs := #[.int .i64 fn, .int .i64 at_, .slice rva nvars rvc, .slice rsa nst rsc]) (t := 55) (w1 := w2) (S := nothing) (by rw [← hw1]; exact FB) id
  rw [z1] at mb
  have a0 := ma.1 0
  have a1 := ma.1 1
  have a2 := ma.1 2
  have a3 := ma.1 3
  have al := ma.2.2
  have b0 := mb.1 0
  have b1 := mb.1 1
  have bl := mb.2.2
  have hF2 := FA.trans FB
  have e1' := hw1.symm
  have e2' := hw2.symm
  have HF2 := hide hF2
  have HEA := hide hea
  have HEH := hide heh
  have HRS := hide (hrs.fr hF2 (fun _ _ => id))
  have HHS := hide (hhs.fr hF2 (fun _ _ => id))
  have HZ := hide hz
  have hML : ∀ (c : Cz) (k : Nat), p.cs[k]? = some c → (p.cs.map hgtZ)[k]? = some (heightsC c.ins).1 := fun c k h => by rw [List.getElem?_map, h]; rfl
  have HML := hide hML
  clear FA FB ma mb hw1 hw2 hrs hea hhs heh hz hML
  by_cases hf : fn < 0 ∨ p.cs.length ≤ fn
  · rw [if_pos hf] at hd
    subst hd
    have hbw : betw fn 0 ((p.cs.length : Int) - 1) = false := decide_eq_false (by omega)
    go_enter Try.func15, Try.ntmps15
    go_wp2_with (go_at_call 19; refine (within_any fn p.cs.length w2 (by omega)).mono ?_; rintro e w5 ⟨rfl, hw5⟩; rw [hw5, hbw]; clear hw5)
    go_ret
    exact ⟨rfl, HF2.out⟩
  rw [if_neg hf] at hd
  have hbw : betw fn 0 ((p.cs.length : Int) - 1) = true := decide_eq_true (by omega)
  obtain ⟨k, rfl⟩ : ∃ k : Nat, fn = k := ⟨fn.toNat, by omega⟩
  have hk : k < p.cs.length := by omega
  have hx : p.cs[k]? = some p.cs[k] := List.getElem?_eq_getElem hk
  have hxm : p.cs[k] ∈ p.cs := List.getElem_mem hk
  have hgd : p.cs.getD k cz0 = p.cs[k] := by simp [List.getD, hx]
  rw [Int.toNat_natCast, hgd] at hd
  have hra : rs[k]? = some (rs[k]'(by rw [HEA.out.1]; exact hk)) := List.getElem?_eq_getElem _
  have hha : hs[k]? = some (hs[k]'(by rw [HEH.out.1, List.length_map]; exact hk)) := List.getElem?_eq_getElem _
  generalize p.cs[k] = x at hx hxm hgd hd
  generalize rs[k]'(by rw [HEA.out.1]; exact hk) = xa at hra
  generalize hs[k]'(by rw [HEH.out.1, List.length_map]; exact hk) = ya at hha
  obtain ⟨hz0, hln, hnv0, hnv8⟩ := HZ.out.h x hxm
  obtain ⟨p1, p2, p3⟩ := HEA.out.2 k xa x hra hx
  have y3 := HEH.out.2 k ya _ hha (HML.out x k hx)
  have hHl := heights_len hz0
  have hHr := heights_range x.ins
  have hHZ : ∀ n, heightZ x n = (heightsC x.ins).1.getD n (-1) := fun _ => rfl
  rw [hHZ, hHZ] at hd
  generalize (heightsC x.ins).1 = H at y3 hHl hHr hd hHZ
  obtain ⟨g, o, e1, dg, u0, u1, u2⟩ := sl_elemC (s := ⟨sca, p.cs.length, scc⟩) HRS.out hra
  obtain ⟨gh, oh, e2, dgh, uh⟩ := sl_elemT (s := ⟨hqa, p.cs.length, hqc⟩) HHS.out hha
  simp only at e1 e2
  subst e1 e2
  obtain ⟨c1, -⟩ := sl_len p3
  obtain ⟨d1, -⟩ := sl_len y3
  obtain ⟨xa1, xa2, ⟨xaa, xan, xac⟩⟩ := xa
  obtain ⟨yaa, yan, yac⟩ := ya
  simp only at p1 p2 c1 d1 u0 u1 u2 uh
  rw [hHl] at d1
  subst p1 p2 c1 d1
  have HP3 := hide (p3.fr hF2 (fun _ _ => id))
  have HY3 := hide (y3.fr hF2 (fun _ _ => id))
  have HHL := hide hHl
  have FC : Fr nothing w2 (w2.drew.alloc (.cells #[.int .i64 0, .int .i64 0, .slice none 0 0] 37)) := (Fr.refl _ _).drew.alloc _
  have FD : Fr nothing w2 (w2.alloc (.cells #[.int .i64 x.np, .int .i64 x.nv, .slice xaa x.ins.length xac] 37)).drew := ((Fr.refl _ _).alloc _).drew
  have mc := made_cells (Fr.refl nothing (w2.alloc (.cells #[.int .i64 x.np, .int .i64 x.nv, .slice xaa x.ins.length xac] 37))).drew id
  rw [z2] at mc
  clear hf hx hxm hgd hra hha p3 y3 hz0 hHZ hHl
  go_enter Try.func15, Try.ntmps15
  go_wp2_with (go_at_call 19; refine (within_any (k : Int) p.cs.length w2 (by omega)).mono ?_; rintro e w5 ⟨rfl, hw5⟩; rw [hw5, hbw]; clear hw5)
  refine wp_region_held_drew (S := fun w' => w'.cell? ⟨w.heap.size, 0, none⟩ = some (.int .i64 (k : Nat)) ∧ w'.cell? ⟨g, o + k * 3, none⟩ = some (.int .i64 x.np) ∧ w'.cell? ⟨g, o + k * 3 + 1, none⟩ = some (.int .i64 x.nv) ∧ w'.cell? ⟨g, o + k * 3 + 2, none⟩ = some (.slice xaa x.ins.length xac) ∧ w'.cell? ⟨gh, oh + k, none⟩ = some (.slice yaa x.ins.length yac)) (by kernel_rfl) ?_ (fun hHeld => ?_)
  · exact ⟨a0, u0, u1, u2, uh⟩
  refine wpAnyH_take (i := 0) (oi := { dst := some 19, op := Op.move (Operand.tmp 1), type := 22, pos := "agent.go:42", after := #[], guard := none }) (v := ?v1) rfl (by kernel_rfl) (by kernel_rfl) (by kernel_rfl) (fun _ _ _ h => h) (Or.inl ⟨by rfl, ?hy1⟩) (by assumption) ?rest1
  case hy1 => (intro w hSw; (try dsimp only at hSw); obtain ⟨hS1, hS2, hS3, hS4, hS5⟩ := hSw; go_simp; try with_reducible rfl)
  try simp only [Act.put, List.setIfInBounds_toArray, List.set_cons_zero, List.set_cons_succ]
  refine wpAnyH_take (i := 1) (oi := { dst := some 20, op := Op.fieldAddr 55 (Operand.tmp 4) 0, type := 0, pos := "agent.go:42", after := #[], guard := none }) (v := ?v2) rfl (by kernel_rfl) (by kernel_rfl) (by kernel_rfl) (fun _ _ _ h => h) (Or.inl ⟨by rfl, ?hy2⟩) (by assumption) ?rest2
  case hy2 => (intro w hSw; (try dsimp only at hSw); obtain ⟨hS1, hS2, hS3, hS4, hS5⟩ := hSw; go_simp; try with_reducible rfl)
  try simp only [Act.put, List.setIfInBounds_toArray, List.set_cons_zero, List.set_cons_succ]
  refine wpAnyH_take (i := 2) (oi := { dst := some 21, op := Op.load 3 (Operand.tmp 20), type := 3, pos := "agent.go:42", after := #[{ on := 1, ground := Ground.data }], guard := none }) (v := ?v3) rfl (by kernel_rfl) (by kernel_rfl) (by kernel_rfl) (fun _ _ _ h => h) (Or.inl ⟨by rfl, ?hy3⟩) (by assumption) ?rest3
  case hy3 => (intro w hSw; (try dsimp only at hSw); obtain ⟨hS1, hS2, hS3, hS4, hS5⟩ := hSw; go_simp; try with_reducible rfl)
  try simp only [Act.put, List.setIfInBounds_toArray, List.set_cons_zero, List.set_cons_succ]
  refine wpAnyH_take (i := 3) (oi := { dst := some 22, op := Op.indexAddr 22 (Operand.tmp 19) (Operand.tmp 21), type := 0, pos := "agent.go:42", after := #[{ on := 0, ground := Ground.data }, { on := 2, ground := Ground.data }], guard := none }) (v := ?v4) rfl (by kernel_rfl) (by kernel_rfl) (by kernel_rfl) (fun _ _ _ h => h) (Or.inl ⟨by rfl, ?hy4⟩) (by assumption) ?rest4
  case hy4 => (intro w hSw; (try dsimp only at hSw); obtain ⟨hS1, hS2, hS3, hS4, hS5⟩ := hSw; go_simp; try with_reducible rfl)
  try simp only [Act.put, List.setIfInBounds_toArray, List.set_cons_zero, List.set_cons_succ]
  refine wpAnyH_take (i := 4) (oi := { dst := some 23, op := Op.load 37 (Operand.tmp 22), type := 37, pos := "agent.go:42", after := #[{ on := 3, ground := Ground.data }], guard := none }) (v := ?v5) rfl (by kernel_rfl) (by kernel_rfl) (by kernel_rfl) (fun _ _ _ h => h) (Or.inl ⟨by rfl, ?hy5⟩) (by assumption) ?rest5
  case hy5 => (intro w hSw; (try dsimp only at hSw); obtain ⟨hS1, hS2, hS3, hS4, hS5⟩ := hSw; go_simp; try with_reducible rfl)
  try simp only [Act.put, List.setIfInBounds_toArray, List.set_cons_zero, List.set_cons_succ]
  refine wpAnyH_take (i := 5) (oi := { dst := some 24, op := Op.move (Operand.tmp 2), type := 45, pos := "agent.go:42", after := #[{ on := 11, ground := Ground.gcOnly Departure.lateStores }], guard := none }) (v := ?v6) rfl (by kernel_rfl) (by kernel_rfl) (by kernel_rfl) (fun _ _ _ h => h) (Or.inl ⟨by rfl, ?hy6⟩) (by assumption) ?rest6
  case hy6 => (intro w hSw; (try dsimp only at hSw); obtain ⟨hS1, hS2, hS3, hS4, hS5⟩ := hSw; go_simp; try with_reducible rfl)
  try simp only [Act.put, List.setIfInBounds_toArray, List.set_cons_zero, List.set_cons_succ]
  refine wpAnyH_take (i := 6) (oi := { dst := some 25, op := Op.fieldAddr 55 (Operand.tmp 4) 0, type := 0, pos := "agent.go:42", after := #[{ on := 11, ground := Ground.gcOnly Departure.lateStores }], guard := none }) (v := ?v7) rfl (by kernel_rfl) (by kernel_rfl) (by kernel_rfl) (fun _ _ _ h => h) (Or.inl ⟨by rfl, ?hy7⟩) (by assumption) ?rest7
  case hy7 => (intro w hSw; (try dsimp only at hSw); obtain ⟨hS1, hS2, hS3, hS4, hS5⟩ := hSw; go_simp; try with_reducible rfl)
  try simp only [Act.put, List.setIfInBounds_toArray, List.set_cons_zero, List.set_cons_succ]
  refine wpAnyH_take (i := 7) (oi := { dst := some 26, op := Op.load 3 (Operand.tmp 25), type := 3, pos := "agent.go:42", after := #[{ on := 6, ground := Ground.data }, { on := 11, ground := Ground.gcOnly Departure.lateStores }], guard := none }) (v := ?v8) rfl (by kernel_rfl) (by kernel_rfl) (by kernel_rfl) (fun _ _ _ h => h) (Or.inl ⟨by rfl, ?hy8⟩) (by assumption) ?rest8
  case hy8 => (intro w hSw; (try dsimp only at hSw); obtain ⟨hS1, hS2, hS3, hS4, hS5⟩ := hSw; go_simp; try with_reducible rfl)
  try simp only [Act.put, List.setIfInBounds_toArray, List.set_cons_zero, List.set_cons_succ]
  refine wpAnyH_take (i := 8) (oi := { dst := some 27, op := Op.indexAddr 45 (Operand.tmp 24) (Operand.tmp 26), type := 0, pos := "agent.go:42", after := #[{ on := 5, ground := Ground.data }, { on := 7, ground := Ground.data }, { on := 11, ground := Ground.gcOnly Departure.lateStores }], guard := none }) (v := ?v9) rfl (by kernel_rfl) (by kernel_rfl) (by kernel_rfl) (fun _ _ _ h => h) (Or.inl ⟨by rfl, ?hy9⟩) (by assumption) ?rest9
  case hy9 => (intro w hSw; (try dsimp only at hSw); obtain ⟨hS1, hS2, hS3, hS4, hS5⟩ := hSw; go_simp; try with_reducible rfl)
  try simp only [Act.put, List.setIfInBounds_toArray, List.set_cons_zero, List.set_cons_succ]
  refine wpAnyH_take (i := 9) (oi := { dst := some 28, op := Op.load 38 (Operand.tmp 27), type := 38, pos := "agent.go:42", after := #[{ on := 8, ground := Ground.data }, { on := 11, ground := Ground.gcOnly Departure.lateStores }], guard := none }) (v := ?v10) rfl (by kernel_rfl) (by kernel_rfl) (by kernel_rfl) (fun _ _ _ h => h) (Or.inl ⟨by rfl, ?hy10⟩) (by assumption) ?rest10
  case hy10 => (intro w hSw; (try dsimp only at hSw); obtain ⟨hS1, hS2, hS3, hS4, hS5⟩ := hSw; go_simp; try with_reducible rfl)
  try simp only [Act.put, List.setIfInBounds_toArray, List.set_cons_zero, List.set_cons_succ]
  refine wpAnyH_ready (rs := [10]) (by kernel_rfl) (by simp) ?_
  refine AllReadyH.cons (o := { dst := some 9, op := Op.alloc 37, type := 0, pos := "agent.go:42", after := #[], guard := none }) rfl (fun K hK => ?_) AllReadyH.nil
  go_simp
  have hHeld6 : ∀ w6 : World, Fr nothing w2 w6 → w6.cell? ⟨w.heap.size, 0, none⟩ = some (.int .i64 (k : Nat)) ∧ w6.cell? ⟨g, o + k * 3, none⟩ = some (.int .i64 x.np) ∧ w6.cell? ⟨g, o + k * 3 + 1, none⟩ = some (.int .i64 x.nv) ∧ w6.cell? ⟨g, o + k * 3 + 2, none⟩ = some (.slice xaa x.ins.length xac) ∧ w6.cell? ⟨gh, oh + k, none⟩ = some (.slice yaa x.ins.length yac) := fun w6 hf =>
    ⟨(hf.cell (p := ⟨w.heap.size, 0, none⟩) al id).trans a0, (hf.cell (p := ⟨g, o + k * 3, none⟩) dg id).trans u0, (hf.cell (p := ⟨g, o + k * 3 + 1, none⟩) dg id).trans u1, (hf.cell (p := ⟨g, o + k * 3 + 2, none⟩) dg id).trans u2, (hf.cell (p := ⟨gh, oh + k, none⟩) dgh id).trans uh⟩
  refine hK _ _ (hHeld6 _ FC) (fun _ => ?_)
  clear hK K
  try simp only [Act.put, List.setIfInBounds_toArray, List.set_cons_zero, List.set_cons_succ]
  refine wpAnyH_ready (rs := [11]) (by kernel_rfl) (by simp) ?_
  refine AllReadyH.cons (o := { dst := none, op := Op.store 37 (Operand.tmp 9) (Operand.tmp 23), type := 0, pos := "agent.go:42", after := #[{ on := 10, ground := Ground.data }, { on := 4, ground := Ground.data }, { on := 0, ground := Ground.phase }, { on := 1, ground := Ground.phase }, { on := 2, ground := Ground.phase }, { on := 3, ground := Ground.phase }, { on := 4, ground := Ground.phase }, { on := 5, ground := Ground.textOnly Departure.lateStores }, { on := 6, ground := Ground.textOnly Departure.lateStores }, { on := 7, ground := Ground.textOnly Departure.lateStores }, { on := 8, ground := Ground.textOnly Departure.lateStores }, { on := 9, ground := Ground.textOnly Departure.lateStores }, { on := 10, ground := Ground.phase }], guard := none }) rfl (fun K hK => ?_) AllReadyH.nil
  go_simp
  refine hK _ _ (hHeld6 _ FD) (fun _ => ?_)
  clear hK K
  try simp only [Act.put, List.setIfInBounds_toArray, List.set_cons_zero, List.set_cons_succ]
  refine wpAnyH_take (i := 12) (oi := { dst := some 10, op := Op.assign (Operand.tmp 28), type := 38, pos := "agent.go:42", after := #[{ on := 9, ground := Ground.data }, { on := 11, ground := Ground.chain }, { on := 0, ground := Ground.phase }, { on := 1, ground := Ground.phase }, { on := 2, ground := Ground.phase }, { on := 3, ground := Ground.phase }, { on := 4, ground := Ground.phase }, { on := 5, ground := Ground.phase }, { on := 6, ground := Ground.phase }, { on := 7, ground := Ground.phase }, { on := 8, ground := Ground.phase }, { on := 9, ground := Ground.phase }, { on := 10, ground := Ground.phase }, { on := 11, ground := Ground.phase }], guard := none }) (v := ?v11) rfl (by kernel_rfl) (by kernel_rfl) (by kernel_rfl) (fun _ _ _ h => h) (Or.inl ⟨by rfl, ?hy11⟩) (by assumption) ?rest11
  case hy11 => (intro w hSw; (try dsimp only at hSw); obtain ⟨hS1, hS2, hS3, hS4, hS5⟩ := hSw; go_simp; try with_reducible rfl)
  try simp only [Act.put, List.setIfInBounds_toArray, List.set_cons_zero, List.set_cons_succ]
  refine wpAnyH_done (by kernel_rfl) ?_ _
  have v0 := mc.1 0
  have v1 := mc.1 1
  have v2 := mc.1 2
  have vl := mc.2.2
  have t0 := (FD.cell (p := ⟨w.heap.size, 0, none⟩) al id).trans a0
  have t1 := (FD.cell (p := ⟨w.heap.size, 1, none⟩) al id).trans a1
  have t2 := (FD.cell (p := ⟨w.heap.size, 2, none⟩) al id).trans a2
  have t3 := (FD.cell (p := ⟨w.heap.size, 3, none⟩) al id).trans a3
  have tl := Nat.lt_of_lt_of_le al FD.size
  have s0 := (FD.cell (p := ⟨w.heap.size + 1, 0, none⟩) bl id).trans b0
  have s1 := (FD.cell (p := ⟨w.heap.size + 1, 1, none⟩) bl id).trans b1
  have sl := Nat.lt_of_lt_of_le bl FD.size
  have HFD := hide FD
  have HFF := hide (HF2.out.trans FD)
  clear hHeld hHeld6 FC mc FD a0 a1 a2 a3 al b0 b1 bl u0 u1 u2 uh dg dgh e1' e2' hbw
  generalize (w2.alloc (.cells #[.int .i64 x.np, .int .i64 x.nv, .slice xaa x.ins.length xac] 37)).drew = w3 at *
  have HP4 := hide (HP3.out.fr HFD.out (fun _ _ => id))
  have HY4 := hide (HY3.out.fr HFD.out (fun _ _ => id))
  clear HP3 HY3 HFD HRS HHS z1 z2
  by_cases ha : at_ < 0 ∨ x.ins.length ≤ at_
  · rw [if_pos (by omega)] at hd
    subst hd
    have hb2 : betw at_ 0 ((x.ins.length : Int) - 1) = false := decide_eq_false (by omega)
    go_wp2_with (go_at_call 19; refine (within_any at_ x.ins.length w3 (by omega)).mono ?_; rintro e w5 ⟨rfl, hw5⟩; rw [hw5, hb2]; clear hw5)
    go_ret
    exact ⟨rfl, HFF.out⟩
  have hb2 : betw at_ 0 ((x.ins.length : Int) - 1) = true := decide_eq_true (by omega)
  by_cases hv : (nvars : Int) = x.nv
  case neg =>
    rw [if_pos (.inr (.inr hv))] at hd
    have hvb : ((nvars : Int) != x.nv) = true := by simpa using hv
    subst hd
    go_wp2_with (go_at_call 19; refine (within_any at_ x.ins.length w3 (by omega)).mono ?_; rintro e w5 ⟨rfl, hw5⟩; rw [hw5, hb2]; clear hw5)
    go_ret
    exact ⟨rfl, HFF.out⟩
  rw [if_neg (by omega)] at hd
  have hvb : ((nvars : Int) != x.nv) = false := by simpa using hv
  obtain ⟨j, rfl⟩ : ∃ j : Nat, at_ = j := ⟨at_.toNat, by omega⟩
  have hj : j < x.ins.length := by omega
  rw [Int.toNat_natCast] at hd
  have hHj : H[j]? = some (H[j]'(by rw [HHL.out]; exact hj)) := List.getElem?_eq_getElem _
  have hHg : H.getD j (-1) = H[j]'(by rw [HHL.out]; exact hj) := by simp [List.getD, hHj]
  rw [hHg] at hd
  generalize H[j]'(by rw [HHL.out]; exact hj) = n at hHj hHg hd
  obtain ⟨gz, oz, e3, dgz, uz⟩ := sl_elemZ' (s := ⟨yaa, x.ins.length, yac⟩) HY4.out hHj
  simp only at e3
  subst e3
  have hnr := hHr n (List.mem_of_getElem? hHj)
  have HH := hide hHr
  clear hHr
  by_cases hq : q1 = 0
  · subst hq
    have e0 : (if (0 : Int) ≠ 0 then (1 : Int) else 0) = 0 := by simp
    rw [if_neg (fun e => e.1 rfl), e0, Int.sub_zero] at hd
    clear e0
    by_cases hs : (nst : Int) = n
    · rw [if_neg (by simpa using hs)] at hd
      have hsb : ((nst : Int) != n) = false := by simpa using hs
      subst hd
      clear hs
      go_wp2_with (go_at_call 19; refine (within_any (j : Int) x.ins.length w3 (by omega)).mono ?_; rintro e w5 ⟨rfl, hw5⟩; rw [hw5, hb2]; clear hw5)
      go_ret
      exact ⟨rfl, HFF.out⟩
    · rw [if_pos hs] at hd
      have hsb : ((nst : Int) != n) = true := by simpa using hs
      subst hd
      go_wp2_with (go_at_call 19; refine (within_any (j : Int) x.ins.length w3 (by omega)).mono ?_; rintro e w5 ⟨rfl, hw5⟩; rw [hw5, hb2]; clear hw5)
      go_ret
      exact ⟨rfl, HFF.out⟩
  have hqb : (q1 != 0) = true := by simpa using hq
  by_cases hj0 : j = 0
  · rw [if_pos ⟨hq, .inl (by omega)⟩] at hd
    subst hd
    subst hj0
    have t1' : w3.cell? ⟨w.heap.size, 1, none⟩ = some (.int .i64 0) := t1
    have hb2' : betw 0 0 ((x.ins.length : Int) - 1) = true := hb2
    have uz' : w3.cell? ⟨gz, oz, none⟩ = some (.int .i64 n) := uz
    clear t1 hb2 uz
    go_wp2_with (go_at_call 19; refine (within_any 0 x.ins.length w3 (by omega)).mono ?_; rintro e w5 ⟨rfl, hw5⟩; rw [hw5, hb2']; clear hw5)
    go_ret
    exact ⟨rfl, HFF.out⟩
  obtain ⟨m, rfl⟩ : ∃ m, j = m + 1 := ⟨j - 1, by omega⟩
  have hjz : (((m + 1 : Nat) : Int) == 0) = false := beq_eq_false_iff_ne.2 (by omega)
  have hjm : ((m + 1 : Nat) : Int) - 1 = (m : Int) := by omega
  have hN : IntKind.i64.wrap (((m + 1 : Nat) : Int) - 1) = (m : Int) := by rw [wrap_in _ (by omega) (by omega)]; exact hjm
  have hN2 : IntKind.i64.wrap (n - 1) = n - 1 := wrap_in _ (by omega) (by omega)
  have hml : m < x.ins.length := by omega
  rw [show m + 1 - 1 = m by omega] at hd
  have hHm : H[m]? = some (H[m]'(by rw [HHL.out]; exact hml)) := List.getElem?_eq_getElem _
  have hHgm : H.getD m (-1) = H[m]'(by rw [HHL.out]; exact hml) := by simp [List.getD, hHm]
  have him : x.ins[m]? = some x.ins[m] := List.getElem?_eq_getElem hml
  have higm : x.ins.getD m in0 = x.ins[m] := by simp [List.getD, him]
  rw [hHgm, higm] at hd
  generalize H[m]'(by rw [HHL.out]; exact hml) = n' at hHm hHgm hd
  generalize x.ins[m] = y at him higm hd
  obtain ⟨gz', oz', e4, dgz', uz'⟩ := sl_elemZ' (s := ⟨some ⟨gz, oz, none⟩, x.ins.length, yac⟩) HY4.out hHm
  simp only [Option.some.injEq, Addr.mk.injEq, and_true] at e4
  obtain ⟨rfl, rfl⟩ := e4
  obtain ⟨gi, oi, e5, dgi, y0, y1, y2⟩ := sl_elemI (s := ⟨xaa, x.ins.length, xac⟩) HP4.out him
  simp only at e5
  subst e5
  obtain ⟨op, ia, ib⟩ := y
  simp only at y0 y1 y2 hd
  have HFI : Hid (Fr nothing w (w3.alloc (.cells #[.int .i64 op, .int .i64 ia, .int .i64 ib] 44))) := HFF.out.alloc _
  clear hHm hHgm him higm hHj hHg hjm
  by_cases hn' : n' = -1
  · rw [if_pos ⟨hq, .inr (.inl hn')⟩] at hd
    subst hd hn'
    go_wp2_with (go_at_call 19; refine (within_any ((m + 1 : Nat) : Int) x.ins.length w3 (by omega)).mono ?_; rintro e w5 ⟨rfl, hw5⟩; rw [hw5, hb2]; clear hw5)
    go_ret
    exact ⟨rfl, HFF.out⟩
  have hnb' : (n' == -1) = false := by simpa using hn'
  by_cases hop : op = q1
  case neg =>
    rw [if_pos ⟨hq, .inr (.inr (.inl hop))⟩] at hd
    have hopb : (op != q1) = true := by simpa using hop
    subst hd
    go_wp2_with (go_at_call 19; refine (within_any ((m + 1 : Nat) : Int) x.ins.length w3 (by omega)).mono ?_; rintro e w5 ⟨rfl, hw5⟩; rw [hw5, hb2]; clear hw5)
    go_ret
    exact ⟨rfl, HFI.out⟩
  subst hop
  by_cases hia : ia = q2
  case neg =>
    rw [if_pos ⟨hq, .inr (.inr (.inr hia))⟩] at hd
    have hiab : (ia != q2) = true := by simpa using hia
    subst hd
    go_wp2_with (go_at_call 19; refine (within_any ((m + 1 : Nat) : Int) x.ins.length w3 (by omega)).mono ?_; rintro e w5 ⟨rfl, hw5⟩; rw [hw5, hb2]; clear hw5)
    go_ret
    exact ⟨rfl, HFI.out⟩
  subst hia
  rw [if_neg (by
    rintro ⟨-, h1 | h1 | h1 | h1⟩
    · omega
    · exact hn' h1
    · exact h1 rfl
    · exact h1 rfl), if_pos hq] at hd
  by_cases hs : (nst : Int) = n - 1
  · rw [if_neg (by simpa using hs)] at hd
    have hsb : ((nst : Int) != n - 1) = false := by simpa using hs
    subst hd
    clear hs
    go_wp2_with (go_at_call 19; refine (within_any ((m + 1 : Nat) : Int) x.ins.length w3 (by omega)).mono ?_; rintro e w5 ⟨rfl, hw5⟩; rw [hw5, hb2]; clear hw5)
    go_ret
    exact ⟨rfl, HFI.out⟩
  · rw [if_pos hs] at hd
    have hsb : ((nst : Int) != n - 1) = true := by simpa using hs
    subst hd
    go_wp2_with (go_at_call 19; refine (within_any ((m + 1 : Nat) : Int) x.ins.length w3 (by omega)).mono ?_; rintro e w5 ⟨rfl, hw5⟩; rw [hw5, hb2]; clear hw5)
    go_ret
    exact ⟨rfl, HFI.out⟩
end Go.Proofs.Ytgocmpooppejdaa
