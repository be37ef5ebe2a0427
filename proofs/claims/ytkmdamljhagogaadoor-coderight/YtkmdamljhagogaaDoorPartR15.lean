/- KStmt; KStmt2; KStmt3. -/
import Derived.Test.YtkmdamljhagogaaDoorPartR14
section
/- Package code: a statement. -/
set_option maxHeartbeats 0
set_option maxRecDepth 100000
namespace Go.Proofs.YtkmdamljhagogaaDoor
open Go Go.RowKit
theorem nextK {c : Wk} {G : Bs → Int} {T Ti : Nat → Prop} {w wi w' : World} {s' : Ks} (hK : KP c G Ti wi s' w') (hF : Fr T w wi) (hT : ∀ k, Ti k → T k ∨ w.heap.size ≤ k) {bx : Nat} (hb : ¬ Ti bx) (hl : bx < wi.heap.size) :
    ∃ T', KI c G T' s' w' ∧ Fr T w w' ∧ (∀ k, T' k → T k ∨ w.heap.size ≤ k) ∧ Fr Ti wi w' ∧ (∀ k, T' k → Ti k ∨ wi.heap.size ≤ k) ∧ (¬ T' bx ∧ bx < w'.heap.size) ∧ (∀ j, w'.cell? ⟨bx, j, none⟩ = wi.cell? ⟨bx, j, none⟩) := by
  obtain ⟨T', k, f, t⟩ := hK
  refine ⟨T', k, hF.then f (fun k hk e => (hT k e).elim id (fun h => by omega)), fun k hk => ?_, f, t, ⟨fun e => (t _ e).elim hb (fun h => by omega), Nat.lt_of_lt_of_le hl f.size⟩, fun j => f.cell (p := ⟨bx, j, none⟩) hl hb⟩
  rcases t k hk with h | h
  · exact hT k h
  · exact .inr (Nat.le_trans hF.size h)
/-- What is there behind a statement's expressions. -/
structure Pre (c : Wk) (G : Bs → Int) (T : Nat → Prop) (s : Ks) (w : World) (a : List Ex) (bx : Nat) (v0 v1 v3 v4 : Value) (T2 : Nat → Prop) (w2 : World) : Prop where
  k : KI c G T2 (finX G s a 0) w2
  f : Fr T w w2
  t : ∀ k, T2 k → T k ∨ w.heap.size ≤ k
  b : ¬ T2 bx
  l : bx < w2.heap.size
  z0 : w2.cell? ⟨bx, 0, none⟩ = some v0
  z1 : w2.cell? ⟨bx, 1, none⟩ = some v1
  z3 : w2.cell? ⟨bx, 3, none⟩ = some v3
  z4 : w2.cell? ⟨bx, 4, none⟩ = some v4
theorem pre_any (a : List Ex) (iha : WExs a) (c : Wk) (G : Bs → Int) (T : Nat → Prop) (s : Ks) (w : World) (hK : KI c G T s w) (r : RawS) (ra : List RawE) (hS : Sl encE 4 w r.a.v ra) (hP : ∀ k, r.a.v.ownBlock = some k → ap T w k) (hE : Each (ExOk w (ap T w)) ra a) (hU : exsU (fun _ _ => True) s.nm a) (hI : s.ins.length + exsN a ≤ 200000) (hW : s.ws.length + exsN a ≤ 100000) (hB : exsN a ≤ 100000) :
    Calls Tryd.prog 60 #[.pointer (some ⟨c.wb, 0, none⟩), .slice r.a.a r.a.n r.a.c, .int .i64 0] (w.alloc (so r)) fun e w2 => e = .returned (.tuple #[]) ∧ ∃ T2, Pre c G T s w a w.heap.size (.int .i64 r.k) (.string (bs r.t)) (.slice r.x.a r.x.n r.x.c) (.slice r.y.a r.y.n r.y.c) T2 w2 := by
  have hFA : Fr nothing w (w.alloc (so r)) := (Fr.refl _ _).alloc _
  have hFT : Fr T w (w.alloc (so r)) := hFA.mono (fun _ _ e => e.elim)
  have nx : ∀ k, ap T w k → ap T (w.alloc (so r)) k := fun k hk => ⟨hk.1, Nat.lt_of_lt_of_le hk.2 hFA.size⟩
  refine (iha c G T s r.a ra 0 (w.alloc (so r)) (hK.new hFA) (hS.keep hFA hP (fun _ _ => id)) (fun k hk => nx k (hP k hk)) ⟨hE.1, fun i x y hx hy => ex_stays _ _ nothing _ _ _ _ (hE.2 i x y hx hy) hFA (fun _ _ => id) nx⟩ hU hI hW (by omega)).mono ?_
  rintro e w2 ⟨rfl, hk⟩
  have nb : ¬ T w.heap.size := fun e => by have := hK.tl _ e; omega
  obtain ⟨T2, k2, f2, t2, g2, _, ⟨b2, l2⟩, q2⟩ := nextK hk hFT (fun k hk => .inl hk) nb (by simp)
  obtain ⟨m0, m1, m2, m3, m4, mf, ml⟩ := so_cells (Fr.refl nothing (w.alloc (so r))) id
  exact ⟨rfl, T2, k2, f2, t2, b2, l2, (q2 0).trans m0, (q2 1).trans m1, (q2 3).trans m3, (q2 4).trans m4⟩
theorem stepS_let (G : Bs → Int) (s : Ks) (t : Bs) (a : List Ex) : stepS G s (.mk 1 t a [] []) = { finX G s a 0 with v := s.v + 1, E := upd s.E t s.v, nm := s.nm ++ [t], ins := (finX G s a 0).ins ++ [⟨4, (s.v : Nat), 0⟩] } := by
  unfold stepS finX
  rw [stK_let rfl]
  simp [highK, highsK, stN1, kindS, nameS]
theorem stepS_set (G : Bs → Int) (s : Ks) (t : Bs) (a : List Ex) : stepS G s (.mk 2 t a [] []) = { finX G s a 0 with ins := (finX G s a 0).ins ++ [⟨4, s.E t, 0⟩] } := by
  unfold stepS finX
  rw [stK_set rfl]
  simp [highK, highsK, stN1, kindS]
theorem stepS_plain (G : Bs → Int) (s : Ks) (k : Int) (t : Bs) (a : List Ex) (h1 : k ≠ 1) (h2 : k ≠ 2) (h3 : k ≠ 3) (h4 : k ≠ 4) : stepS G s (.mk k t a [] []) = { finX G s a 0 with ins := (finX G s a 0).ins ++ [⟨stOp k, 0, 0⟩] } := by
  unfold stepS finX
  rw [stK_plain rfl h1 h2 h3 h4]
  simp [highK, highsK, stN1, kindS, h1]
theorem wstmt_plain (k op : Int) (hop : stOp k = op) (hk : k = 5 ∧ op = 14 ∨ k = 6 ∧ op = 18 ∨ k = 7 ∧ op = 9 ∨ k = 8 ∧ op = 10 ∨ k = 9 ∧ op = 19) (t : Bs) (a : List Ex) (iha : WExs a) : WSt (.mk k t a [] []) := by
  intro c G T s r w hK hX hU hI hW hV
  obtain ⟨rk, rt, sa, sx, sy⟩ := r
  cases hX with
  | mk _ _ _ _ _ ra rx ry la lx ly ha hPa ha2 hx hPx hx1 hx2 hy hPy hy1 hy2 =>
  rw [stU] at hU
  rw [stN] at hI hW hV
  have HPRE := hide (pre_any a iha c G T s w hK ⟨k, t, sa, sx, sy⟩ ra ha hPa ha2 hU.1 (by omega) (by omega) (by omega))
  have HEQ := hide (stepS_plain G s k t a (by omega) (by omega) (by omega) (by omega))
  rw [hop] at HEQ
  obtain ⟨qa, qc, h5, own, hbw⟩ := hK.row2
  have hwl := hK.wl
  have hil : (finX G s a 0).ins.length ≤ 200000 := by
    show (s.ins ++ (exsK G s.E a s.ws).ins).length ≤ _
    rw [List.length_append, exsK_len]; omega
  have HPUT := hide (fun T2 w2 (h : KI c G T2 (finX G s a 0) w2) op => put_any c G T2 (finX G s a 0) w2 h op 0 hil)
  clear hK hU own hbw ha hPa ha2 hx hPx hx1 hx2 hy hPy hy1 hy2 hop
  rcases hk with ⟨rfl, rfl⟩ | ⟨rfl, rfl⟩ | ⟨rfl, rfl⟩ | ⟨rfl, rfl⟩ | ⟨rfl, rfl⟩
  all_goals
    go_enter Tryd.func55, Tryd.ntmps55
    go_wp2_with (first
      | (go_at_call 44; refine (HPUT.out T2 w2 HKK.out _).mono ?_; rintro e w3 ⟨rfl, hk3⟩; have HK3 := hide (hk3.after HFF.out HTT.out); clear hk3)
      | (go_at_call 60; refine HPRE.out.mono ?_; rintro e w2 ⟨rfl, T2, hp⟩; have z0 := hp.z0; have zl := hp.l; have HKK := hide hp.k; have HFF := hide hp.f; have HTT := hide hp.t; clear hp))
    go_end0
    refine ⟨rfl, ?_⟩
    rw [HEQ.out]
    exact HK3.out
theorem wstmt_let (t : Bs) (a : List Ex) (iha : WExs a) (ht : t.length ≤ 1500) : WSt (.mk 1 t a [] []) := by
  intro c G T s r w hK hX hU hI hW hV
  obtain ⟨rk, rt, sa, sx, sy⟩ := r
  cases hX with
  | mk _ _ _ _ _ ra rx ry la lx ly ha hPa ha2 hx hPx hx1 hx2 hy hPy hy1 hy2 =>
  rw [stU] at hU
  rw [stN] at hI hW hV
  have HPRE := hide (pre_any a iha c G T s w hK ⟨1, t, sa, sx, sy⟩ ra ha hPa ha2 hU.1 (by omega) (by omega) (by omega))
  obtain ⟨qa, qc, h5, own, hbw⟩ := hK.row2
  have hwl := hK.wl
  have hil : (finX G s a 0).ins.length ≤ 200000 := by
    show (s.ins ++ (exsK G s.E a s.ws).ins).length ≤ _
    rw [List.length_append, exsK_len]; omega
  have HEQ := hide (stepS_let G s t a)
  have HLET := hide (fun T2 w2 (h : KI c G T2 (finX G s a 0) w2) => wlet_any c G T2 (finX G s a 0) w2 h t ht (by show s.v ≤ _; omega))
  have HPUT := hide (fun T2 w2 (h : KI c G T2 { finX G s a 0 with v := s.v + 1, E := upd s.E t s.v, nm := s.nm ++ [t] } w2) op a' => put_any c G T2 { finX G s a 0 with v := s.v + 1, E := upd s.E t s.v, nm := s.nm ++ [t] } w2 h op a' hil)
  clear hK hU own hbw ha hPa ha2 hx hPx hx1 hx2 hy hPy hy1 hy2
  go_enter Tryd.func55, Tryd.ntmps55
  go_wp2_with (first
    | (go_at_call 44; refine (HPUT.out T3 w3 HK3.out _ _).mono ?_; rintro e w4 ⟨rfl, hk4⟩; have HK4 := hide (hk4.after HF3.out HT3.out); clear hk4)
    | (go_at_call 42; refine (HLET.out T2 w2 HKK.out).mono ?_; rintro e w3 ⟨rfl, hk3⟩; obtain ⟨T3, K3, F3, N3, G3, M3, ⟨b3, l3⟩, q3⟩ := nextK hk3 HFF.out HTT.out HBB.out zl; have HK3 := hide K3; have HF3 := hide F3; have HT3 := hide N3; clear hk3 K3 F3 N3 G3 M3 b3 q3)
    | (go_at_call 60; refine HPRE.out.mono ?_; rintro e w2 ⟨rfl, T2, hp⟩; have z0 := hp.z0; have z1 := hp.z1; have zl := hp.l; have HKK := hide hp.k; have HFF := hide hp.f; have HTT := hide hp.t; have HBB := hide hp.b; clear hp))
  go_end0
  refine ⟨rfl, ?_⟩
  rw [HEQ.out]
  exact HK4.out
theorem wstmt_set (t : Bs) (a : List Ex) (iha : WExs a) (ht : t.length ≤ 1500) : WSt (.mk 2 t a [] []) := by
  intro c G T s r w hK hX hU hI hW hV
  obtain ⟨rk, rt, sa, sx, sy⟩ := r
  cases hX with
  | mk _ _ _ _ _ ra rx ry la lx ly ha hPa ha2 hx hPx hx1 hx2 hy hPy hy1 hy2 =>
  rw [stU] at hU
  rw [stN] at hI hW hV
  have HPRE := hide (pre_any a iha c G T s w hK ⟨2, t, sa, sx, sy⟩ ra ha hPa ha2 hU.1 (by omega) (by omega) (by omega))
  obtain ⟨qa, qc, h5, own, hbw⟩ := hK.row2
  have hwl := hK.wl
  have hil : (finX G s a 0).ins.length ≤ 200000 := by
    show (s.ins ++ (exsK G s.E a s.ws).ins).length ≤ _
    rw [List.length_append, exsK_len]; omega
  have HEQ := hide (stepS_set G s t a)
  have HPUT := hide (fun T2 w2 (h : KI c G T2 (finX G s a 0) w2) op a' => put_any c G T2 (finX G s a 0) w2 h op a' hil)
  have hmem := hU.2.2.1 rfl
  clear hK hU own hbw ha hPa ha2 hx hPx hx1 hx2 hy hPy hy1 hy2
  go_enter Tryd.func55, Tryd.ntmps55
  go_wp2_with (go_at_call 60; refine HPRE.out.mono ?_; rintro e w2 ⟨rfl, T2, hp⟩; have z0 := hp.z0; have z1 := hp.z1; have zl := hp.l; have HKK := hide hp.k; have HFF := hide hp.f; have HTT := hide hp.t; have HBB := hide hp.b; clear hp)
  have c2 := HKK.out.c2
  have hSI : ∀ T3 w3 s3, KI c G T3 s3 w3 → s3.nm = s.nm → s3.E = s.E → ∃ B, SI c.vb B w3 ∧ (B.f t).getD 0 = s.E t := fun T3 w3 s3 h h1 h2 => by
    obtain ⟨B, b1, b2, b3⟩ := h.vm
    exact ⟨B, b1, by rw [b2 t (by rw [h1]; exact hmem), h2]⟩
  have HSI := hide hSI
  clear hSI
  refine wp_region_held_drew (S := fun w' => w'.cell? ⟨c.wb, 2, none⟩ = some (.map (some c.vb)) ∧ w'.cell? ⟨w.heap.size, 1, none⟩ = some (.string (bs t)) ∧ ∃ B, SI c.vb B w' ∧ (B.f t).getD 0 = s.E t) (by kernel_rfl) ?_ (fun hHeld => ?_)
  · exact ⟨c2, z1, HSI.out T2 w2.drew (finX G s a 0) (HKK.out.new (Fr.refl nothing w2).drew) rfl rfl⟩
  refine wpAnyH_take (i := 0) (oi := { dst := some 29, op := Op.move (Operand.tmp 0), type := 72, pos := "writer.go:60", after := #[], guard := none }) (v := ?v1) rfl (by kernel_rfl) (by kernel_rfl) (by kernel_rfl) (fun _ _ _ h => h) (Or.inl ⟨by rfl, ?hy1⟩) (by assumption) ?rest1
  case hy1 => (intro w hSw; (try dsimp only at hSw); obtain ⟨hS1, hS2, B, hS3, hS4⟩ := hSw; have hlk := hS3.look t (by omega); rw [hS4] at hlk; go_simp; try with_reducible rfl)
  try simp only [Act.put, List.setIfInBounds_toArray, List.set_cons_zero, List.set_cons_succ]
  refine wpAnyH_take (i := 1) (oi := { dst := some 30, op := Op.move (Operand.tmp 0), type := 72, pos := "writer.go:60", after := #[], guard := none }) (v := ?v2) rfl (by kernel_rfl) (by kernel_rfl) (by kernel_rfl) (fun _ _ _ h => h) (Or.inl ⟨by rfl, ?hy2⟩) (by assumption) ?rest2
  case hy2 => (intro w hSw; (try dsimp only at hSw); obtain ⟨hS1, hS2, B, hS3, hS4⟩ := hSw; have hlk := hS3.look t (by omega); rw [hS4] at hlk; go_simp; try with_reducible rfl)
  try simp only [Act.put, List.setIfInBounds_toArray, List.set_cons_zero, List.set_cons_succ]
  refine wpAnyH_take (i := 2) (oi := { dst := some 31, op := Op.nilCheck (Operand.tmp 30), type := 0, pos := "writer.go:60", after := #[{ on := 1, ground := Ground.data }], guard := none }) (v := ?v3) rfl (by kernel_rfl) (by kernel_rfl) (by kernel_rfl) (fun _ _ _ h => h) (Or.inl ⟨by rfl, ?hy3⟩) (by assumption) ?rest3
  case hy3 => (intro w hSw; (try dsimp only at hSw); obtain ⟨hS1, hS2, B, hS3, hS4⟩ := hSw; have hlk := hS3.look t (by omega); rw [hS4] at hlk; go_simp; try with_reducible rfl)
  try simp only [Act.put, List.setIfInBounds_toArray, List.set_cons_zero, List.set_cons_succ]
  refine wpAnyH_take (i := 3) (oi := { dst := some 32, op := Op.fieldAddr 74 (Operand.tmp 31) 2, type := 0, pos := "writer.go:60", after := #[{ on := 2, ground := Ground.data }], guard := none }) (v := ?v4) rfl (by kernel_rfl) (by kernel_rfl) (by kernel_rfl) (fun _ _ _ h => h) (Or.inl ⟨by rfl, ?hy4⟩) (by assumption) ?rest4
  case hy4 => (intro w hSw; (try dsimp only at hSw); obtain ⟨hS1, hS2, B, hS3, hS4⟩ := hSw; have hlk := hS3.look t (by omega); rw [hS4] at hlk; go_simp; try with_reducible rfl)
  try simp only [Act.put, List.setIfInBounds_toArray, List.set_cons_zero, List.set_cons_succ]
  refine wpAnyH_take (i := 4) (oi := { dst := some 33, op := Op.load 55 (Operand.tmp 32), type := 55, pos := "writer.go:60", after := #[{ on := 3, ground := Ground.data }], guard := none }) (v := ?v5) rfl (by kernel_rfl) (by kernel_rfl) (by kernel_rfl) (fun _ _ _ h => h) (Or.inl ⟨by rfl, ?hy5⟩) (by assumption) ?rest5
  case hy5 => (intro w hSw; (try dsimp only at hSw); obtain ⟨hS1, hS2, B, hS3, hS4⟩ := hSw; have hlk := hS3.look t (by omega); rw [hS4] at hlk; go_simp; try with_reducible rfl)
  try simp only [Act.put, List.setIfInBounds_toArray, List.set_cons_zero, List.set_cons_succ]
  refine wpAnyH_take (i := 5) (oi := { dst := some 34, op := Op.fieldAddr 88 (Operand.tmp 3) 1, type := 0, pos := "writer.go:60", after := #[], guard := none }) (v := ?v6) rfl (by kernel_rfl) (by kernel_rfl) (by kernel_rfl) (fun _ _ _ h => h) (Or.inl ⟨by rfl, ?hy6⟩) (by assumption) ?rest6
  case hy6 => (intro w hSw; (try dsimp only at hSw); obtain ⟨hS1, hS2, B, hS3, hS4⟩ := hSw; have hlk := hS3.look t (by omega); rw [hS4] at hlk; go_simp; try with_reducible rfl)
  try simp only [Act.put, List.setIfInBounds_toArray, List.set_cons_zero, List.set_cons_succ]
  refine wpAnyH_take (i := 6) (oi := { dst := some 35, op := Op.load 9 (Operand.tmp 34), type := 9, pos := "writer.go:60", after := #[{ on := 5, ground := Ground.data }], guard := none }) (v := ?v7) rfl (by kernel_rfl) (by kernel_rfl) (by kernel_rfl) (fun _ _ _ h => h) (Or.inl ⟨by rfl, ?hy7⟩) (by assumption) ?rest7
  case hy7 => (intro w hSw; (try dsimp only at hSw); obtain ⟨hS1, hS2, B, hS3, hS4⟩ := hSw; have hlk := hS3.look t (by omega); rw [hS4] at hlk; go_simp; try with_reducible rfl)
  try simp only [Act.put, List.setIfInBounds_toArray, List.set_cons_zero, List.set_cons_succ]
  refine wpAnyH_take (i := 7) (oi := { dst := some 36, op := Op.lookup 55 (Operand.tmp 33) (Operand.tmp 35) false, type := 3, pos := "writer.go:60", after := #[{ on := 4, ground := Ground.data }, { on := 6, ground := Ground.data }], guard := none }) (v := ?v8) rfl (by kernel_rfl) (by kernel_rfl) (by kernel_rfl) (fun _ _ _ h => h) (Or.inl ⟨by rfl, ?hy8⟩) (by assumption) ?rest8
  case hy8 => (intro w hSw; (try dsimp only at hSw); obtain ⟨hS1, hS2, B, hS3, hS4⟩ := hSw; have hlk := hS3.look t (by omega); rw [hS4] at hlk; go_simp; try with_reducible rfl)
  try simp only [Act.put, List.setIfInBounds_toArray, List.set_cons_zero, List.set_cons_succ]
  refine wpAnyH_ready (rs := [8]) (by kernel_rfl) (by simp) ?_
  refine AllReadyH.cons (o := { dst := some 37, op := Op.call { callee := Callee.value (Operand.func 44), args := #[Operand.tmp 29, Operand.const (Value.int IntKind.i64 4), Operand.tmp 36], argTypes := #[72, 3, 3] }, type := 0, pos := "writer.go:60", after := #[{ on := 0, ground := Ground.data }, { on := 7, ground := Ground.data }], guard := none }) rfl (fun K hK => ?_) AllReadyH.nil
  refine step_call (by rfl) 44 Tryd.f44 #[.tmp 29, .const (.int .i64 4), .tmp 36] #[72, 3, 3] rfl Tryd.func44 (by kernel_rfl) (by kernel_rfl) #[.pointer (some ⟨c.wb, 0, none⟩), .int .i64 4, .int .i64 (s.E t)] (by simp [Act.eval]) _ (HPUT.out T2 w2.drew (HKK.out.new (Fr.refl nothing w2).drew) 4 (s.E t)) ?_
  rintro e w3 ⟨rfl, hk3⟩
  refine ⟨_, rfl, ?_⟩
  obtain ⟨T3, K3, F3, N3, G3, M3, ⟨b3, l3⟩, q3⟩ := nextK hk3 HFF.out.drew HTT.out HBB.out zl
  refine hK _ _ ⟨K3.c2, (q3 1).trans z1, HSI.out T3 w3 _ K3 rfl rfl⟩ (fun _ => ?_)
  have HK4 := hide (show KP c G T w _ w3 from ⟨T3, K3, F3, N3⟩)
  clear hK K hHeld hk3 K3 F3 N3 G3 M3 b3 l3 q3
  try simp only [Act.put, List.setIfInBounds_toArray, List.set_cons_zero, List.set_cons_succ]
  refine wpAnyH_done (by kernel_rfl) ?_ _
  go_wp2_with fail
  go_end0
  refine ⟨rfl, ?_⟩
  rw [HEQ.out]
  exact HK4.out
end Go.Proofs.YtkmdamljhagogaaDoor
end
section
/- Package code: while and if. -/
set_option maxHeartbeats 0
set_option maxRecDepth 100000
namespace Go.Proofs.YtkmdamljhagogaaDoor
open Go Go.RowKit
theorem stepS_while (G : Bs → Int) (s : Ks) (t : Bs) (a : List Ex) (x : List St) {s3 : Ks} (h3 : s3 = { finX G s a 0 with ins := (finX G s a 0).ins ++ [⟨16, 0, 0⟩] }) {s4 : Ks} (h4 : s4 = finS G s3.E s3.nm s3 x) :
    stepS G s (.mk 4 t a x []) = { s4 with ins := (finX G s a 0).ins ++ ⟨16, ((s4.ins.length + 1 : Nat) : Int), 0⟩ :: ((stsK G x s.E s.v (finX G s a 0).ws ((finX G s a 0).ins.length + 1)).ins ++ [⟨15, (s.ins.length : Nat), 0⟩]) } ∧ s4.ins = (finX G s a 0).ins ++ ⟨16, 0, 0⟩ :: (stsK G x s.E s.v (finX G s a 0).ws ((finX G s a 0).ins.length + 1)).ins := by
  subst h3
  subst h4
  unfold stepS finX finS
  rw [stK_while rfl rfl]
  simp only [List.length_append, List.length_cons, List.length_nil, highK, highsK, stN1, kindS, Nat.max_assoc]
  have e1 : s.ins.length + ((exsK G s.E a s.ws).ins.length + 1) = s.ins.length + (exsK G s.E a s.ws).ins.length + 1 := by omega
  refine ⟨?_, ?_⟩
  · simp
    omega
  · simp
theorem nextT {T Ti T' : Nat → Prop} {w wi w' : World} (f : Fr Ti wi w') (t : ∀ k, T' k → Ti k ∨ wi.heap.size ≤ k) (hF : Fr T w wi) (hT : ∀ k, Ti k → T k ∨ w.heap.size ≤ k) {bx : Nat} (hb : ¬ Ti bx) (hl : bx < wi.heap.size) :
    Fr T w w' ∧ (∀ k, T' k → T k ∨ w.heap.size ≤ k) ∧ (¬ T' bx ∧ bx < w'.heap.size) ∧ (∀ j, w'.cell? ⟨bx, j, none⟩ = wi.cell? ⟨bx, j, none⟩) := by
  refine ⟨hF.then f (fun k hk e => (hT k e).elim id (fun h => by omega)), fun k hk => ?_, ⟨fun e => (t _ e).elim hb (fun h => by omega), Nat.lt_of_lt_of_le hl f.size⟩, fun j => f.cell (p := ⟨bx, j, none⟩) hl hb⟩
  rcases t k hk with h | h
  · exact hT k h
  · exact .inr (Nat.le_trans hF.size h)
/-- A variable of a closure stays. -/
theorem stayC {Ti T' : Nat → Prop} {wi w' : World} (f : Fr Ti wi w') (t : ∀ k, T' k → Ti k ∨ wi.heap.size ≤ k) {b : Nat} {u : Value} (hc : wi.cell? ⟨b, 0, none⟩ = some u) (hb : ¬ Ti b) : w'.cell? ⟨b, 0, none⟩ = some u ∧ ¬ T' b := by
  have hl := lt_of_cell hc
  simp only at hl
  exact ⟨(f.cell (p := ⟨b, 0, none⟩) hl hb).trans hc, fun e => (t _ e).elim hb (fun h => by omega)⟩
theorem stmts_kp {c : Wk} {G : Bs → Int} {T Ti : Nat → Prop} {s : Ks} {w wi : World} (hK : KI c G Ti s wi) (hF : Fr T w wi) (hT : ∀ k, Ti k → T k ∨ w.heap.size ≤ k) {x : List St} (ih : WSts x) {sx : Slc} {rx : List RawS} (hx : Sl encS 5 w sx.v rx) (hPx : ∀ k, sx.v.ownBlock = some k → ap T w k) (hE : Each (StOk w (ap T w)) rx x) (hU : stsU (fun _ _ => True) x s.nm) (hI : s.ins.length + 2 * stsN x ≤ 200000) (hW : s.ws.length + stsN x ≤ 100000) (hV : s.v + stsN x ≤ 100000) :
    Calls Tryd.prog 43 #[.pointer (some ⟨c.wb, 0, none⟩), .slice sx.a sx.n sx.c] wi fun e w' => e = .returned (.tuple #[]) ∧ KP c G Ti wi (finS G s.E s.nm s x) w' :=
  ih c G Ti s sx rx wi hK (hx.keep hF hPx (fun _ hk => hk.1)) (fun k hk => ap_next hF hT k (hPx k hk)) ⟨hE.1, fun i r z h1 h2 => st_stays _ _ T _ _ _ _ (hE.2 i r z h1 h2) hF (fun _ hk => hk.1) (ap_next hF hT)⟩ hU hI hW hV
theorem wstmt_while (t : Bs) (a : List Ex) (x : List St) (iha : WExs a) (ihx : WSts x) : WSt (.mk 4 t a x []) := by
  intro c G T s r w hK hX hU hI hW hV
  obtain ⟨rk, rt, sa, sx, sy⟩ := r
  cases hX with
  | mk _ _ _ _ _ ra rx ry la lx ly ha hPa ha2 hx hPx hx1 hx2 hy hPy hy1 hy2 =>
  rw [stU] at hU
  rw [stN] at hI hW hV
  have HPRE := hide (pre_any a iha c G T s w hK ⟨4, t, sa, sx, sy⟩ ra ha hPa ha2 hU.1 (by omega) (by omega) (by omega))
  obtain ⟨qa, qc, h5, own, hbw⟩ := hK.row2
  have hwl := hK.wl
  have hlA : (finX G s a 0).ins.length = s.ins.length + exsN a := by
    show (s.ins ++ (exsK G s.E a s.ws).ins).length = _
    rw [List.length_append, exsK_len]
  have hwA : (finX G s a 0).ws.length ≤ s.ws.length + exsN a := exsK_ws G s.E a s.ws
  have hvA : (finX G s a 0).v = s.v := rfl
  obtain ⟨s3, hs3⟩ : ∃ s3 : Ks, s3 = { finX G s a 0 with ins := (finX G s a 0).ins ++ [⟨16, 0, 0⟩] } := ⟨_, rfl⟩
  obtain ⟨s4, hs4⟩ : ∃ s4 : Ks, s4 = finS G s3.E s3.nm s3 x := ⟨_, rfl⟩
  obtain ⟨heq, hi4⟩ := stepS_while G s t a x hs3 hs4
  have HEQ := hide heq
  have l3 : s3.ins.length = s.ins.length + exsN a + 1 := by rw [hs3]; show ((finX G s a 0).ins ++ [_]).length = _; rw [List.length_append, hlA]; rfl
  have w3 : s3.ws.length ≤ s.ws.length + exsN a := by rw [hs3]; exact hwA
  have v3 : s3.v = s.v := by rw [hs3]; rfl
  have hle := stsK_le G x s3.E s3.v s3.ws s3.ins.length
  have l4 : s4.ins.length ≤ s.ins.length + exsN a + 1 + 2 * stsN x := by rw [hs4]; show (s3.ins ++ _).length ≤ _; rw [List.length_append]; have := hle.i; omega
  have HAH := hide (fun T2 w2 (h : KI c G T2 (finX G s a 0) w2) op => ahead_any c G T2 (finX G s a 0) w2 h op (by omega))
  have HST := hide (fun T3 wv (h : KI c G T3 s3 wv) (hf : Fr T w wv) ht => stmts_kp h hf ht ihx hx hPx ⟨hx1, hx2⟩ (show stsU (fun _ _ => True) x s3.nm by rw [hs3]; exact hU.2.2.2.1) (by omega) (by omega) (by omega))
  rw [← hs4] at HST
  have HPUT := hide (fun T4 w4 (h : KI c G T4 s4 w4) op a' => put_any c G T4 s4 w4 h op a' (by omega))
  have HHS3 := hide hs3
  have HI4 := hide hi4
  clear heq hi4 hs3 hs4 hK hU own hbw ha hPa ha2 hx hPx hx1 hx2 hy hPy hy1 hy2 hle
  have HPAT := hide (fun T5 w5 ab bb (h : KI c G T5 { s4 with ins := s4.ins ++ [⟨15, (s.ins.length : Nat), 0⟩] } w5) ha hb => aheadC_any c G T5 _ w5 h ab bb ha (finX G s a 0).ins ((stsK G x s.E s.v (finX G s a 0).ws ((finX G s a 0).ins.length + 1)).ins ++ [⟨15, (s.ins.length : Nat), 0⟩]) ⟨16, 0, 0⟩ hb (by simp only; rw [HI4.out]; simp))
  have HZ := hide (show (s4.ins ++ [(⟨15, (s.ins.length : Nat), 0⟩ : In)]).length = s4.ins.length + 1 by simp)
  go_enter Tryd.func55, Tryd.ntmps55
  go_wp2_with (first
    | (go_at_call 67; refine (HPAT.out T5 w5 ab bb HK5.out ca5 cb5).mono ?_; rintro e w6 ⟨rfl, hk6⟩; have HK6 := hide (hk6.after HF5.out HT5.out); clear hk6)
    | (go_at_call 44; refine (HPUT.out T4 w4 HK4.out _ _).mono ?_; rintro e w5 ⟨rfl, T5, K5, f5, t5⟩; obtain ⟨F5, N5, _, _⟩ := nextT f5 t5 HF4.out HT4.out nb4 lb4; have ca5 := (stayC f5 t5 ca4 na4).1; have cb5 := (stayC f5 t5 cb4 nc4).1; have HK5 := hide K5; have HF5 := hide F5; have HT5 := hide N5; clear K5 F5 N5 f5 t5)
    | (go_at_call 43; refine (HST.out T3 w3 HK3.out HF3.out HT3.out).mono ?_; rintro e w4 ⟨rfl, T4, K4, f4, t4⟩; obtain ⟨F4, N4, ⟨nb4, lb4⟩, _⟩ := nextT f4 t4 HF3.out HT3.out nb3 lb3; obtain ⟨ca4, na4⟩ := stayC f4 t4 ca3 na3; obtain ⟨cb4, nc4⟩ := stayC f4 t4 cb3 nc3; have HK4 := hide K4; have HF4 := hide F4; have HT4 := hide N4; clear K4 F4 N4 f4 t4)
    | (go_at_call 61; refine (HAH.out T2 w2 HKK.out _).mono ?_; rintro e w3 ⟨ab, bb, T3, rfl, K3, f3, t3, na3, nc3, ca3, cb3⟩; obtain ⟨F3, N3, ⟨nb3, lb3⟩, q3⟩ := nextT f3 t3 HFF.out HTT.out HBB.out zl; have y3 := (q3 3).trans z3; have HK3 := hide (HHS3.out ▸ K3 : KI c G T3 s3 w3); have HF3 := hide F3; have HT3 := hide N3; clear K3 F3 N3 f3 t3 q3)
    | (go_at_call 60; refine HPRE.out.mono ?_; rintro e w2 ⟨rfl, T2, hp⟩; have z0 := hp.z0; have z3 := hp.z3; have zl := hp.l; have HKK := hide hp.k; have HFF := hide hp.f; have HTT := hide hp.t; have HBB := hide hp.b; clear hp))
  go_end0
  refine ⟨rfl, ?_⟩
  rw [HEQ.out]
  have h6 := HK6.out
  simp only [HZ.out] at h6
  exact h6
end Go.Proofs.YtkmdamljhagogaaDoor
end
section
/- Package code: if; any statement. -/
set_option maxHeartbeats 0
set_option maxRecDepth 100000
namespace Go.Proofs.YtkmdamljhagogaaDoor
open Go Go.RowKit
/-- The states on the way through an if. -/
structure IfW (G : Bs → Int) (s : Ks) (a : List Ex) (x y : List St) (s1 s3 s4 s5 s6 s7 : Ks) : Prop where
  h1 : s1 = finX G s a 0
  h3 : s3 = { s1 with ins := s1.ins ++ [⟨16, 0, 0⟩] }
  h4 : s4 = finS G s3.E s3.nm s3 x
  h5 : s5 = { s4 with ins := s4.ins ++ [⟨15, 0, 0⟩] }
  h6 : s6 = { s5 with ins := s1.ins ++ ⟨16, (s5.ins.length : Nat), 0⟩ :: ((stsK G x s3.E s3.v s3.ws s3.ins.length).ins ++ [⟨15, 0, 0⟩]) }
  h7 : s7 = finS G s6.E s6.nm s6 y
theorem IfW.facts {G : Bs → Int} {s : Ks} {a : List Ex} {x y : List St} {s1 s3 s4 s5 s6 s7 : Ks} (h : IfW G s a x y s1 s3 s4 s5 s6 s7) (t : Bs) :
    s5.ins = s1.ins ++ ⟨16, 0, 0⟩ :: ((stsK G x s3.E s3.v s3.ws s3.ins.length).ins ++ [⟨15, 0, 0⟩]) ∧
    s7.ins = (s1.ins ++ ⟨16, (s5.ins.length : Nat), 0⟩ :: (stsK G x s3.E s3.v s3.ws s3.ins.length).ins) ++ ⟨15, 0, 0⟩ :: (stsK G y s6.E s6.v s6.ws s6.ins.length).ins ∧
    s4.ins.length = (s1.ins ++ (⟨16, (s5.ins.length : Nat), 0⟩ : In) :: (stsK G x s3.E s3.v s3.ws s3.ins.length).ins).length ∧
    stepS G s (.mk 3 t a x y) = { s7 with ins := (s1.ins ++ ⟨16, (s5.ins.length : Nat), 0⟩ :: (stsK G x s3.E s3.v s3.ws s3.ins.length).ins) ++ ⟨15, (s7.ins.length : Nat), 0⟩ :: (stsK G y s6.E s6.v s6.ws s6.ins.length).ins } := by
  obtain ⟨h1, h3, h4, h5, h6, h7⟩ := h
  have i4 : s4.ins = s1.ins ++ ⟨16, 0, 0⟩ :: (stsK G x s3.E s3.v s3.ws s3.ins.length).ins := by rw [h4, finS]; simp [h3]
  have i5 : s5.ins = s1.ins ++ ⟨16, 0, 0⟩ :: ((stsK G x s3.E s3.v s3.ws s3.ins.length).ins ++ [⟨15, 0, 0⟩]) := by rw [h5]; simp only; rw [i4]; simp
  have i6 : s6.ins = s1.ins ++ ⟨16, (s5.ins.length : Nat), 0⟩ :: ((stsK G x s3.E s3.v s3.ws s3.ins.length).ins ++ [⟨15, 0, 0⟩]) := by rw [h6]
  have i7 : s7.ins = (s1.ins ++ ⟨16, (s5.ins.length : Nat), 0⟩ :: (stsK G x s3.E s3.v s3.ws s3.ins.length).ins) ++ ⟨15, 0, 0⟩ :: (stsK G y s6.E s6.v s6.ws s6.ins.length).ins := by rw [h7, finS]; simp only; rw [i6]; simp
  refine ⟨i5, i7, by rw [i4]; simp, ?_⟩
  have e3 : s3.E = s.E ∧ s3.v = s.v ∧ s3.ws = (exsK G s.E a s.ws).ws ∧ s3.nm = s.nm ∧ s3.hi = max s.hi (dpsK 0 a) := by rw [h3, h1]; exact ⟨rfl, rfl, rfl, rfl, rfl⟩
  have l1 : s1.ins = s.ins ++ (exsK G s.E a s.ws).ins := by rw [h1]; rfl
  have l3 : s3.ins.length = s.ins.length + (exsK G s.E a s.ws).ins.length + 1 := by rw [h3]; simp only; rw [l1]; simp; omega
  have hX : stsK G x s3.E s3.v s3.ws s3.ins.length = stsK G x s.E s.v (exsK G s.E a s.ws).ws (s.ins.length + (exsK G s.E a s.ws).ins.length + 1) := by rw [e3.1, e3.2.1, e3.2.2.1, l3]
  have l5 : s5.ins.length = s.ins.length + (exsK G s.E a s.ws).ins.length + (stsK G x s3.E s3.v s3.ws s3.ins.length).ins.length + 2 := by rw [i5, l1]; simp; omega
  have l6 : s6.ins.length = s5.ins.length := by rw [i6, i5]; simp
  have e6 : s6.E = s.E ∧ s6.v = (stsK G x s3.E s3.v s3.ws s3.ins.length).v ∧ s6.ws = (stsK G x s3.E s3.v s3.ws s3.ins.length).ws ∧ s6.nm = s.nm ∧ s6.hi = max s3.hi (highsK x) := by
    rw [h6, h5, h4]
    exact ⟨e3.1, rfl, rfl, e3.2.2.2.1, rfl⟩
  have hY : stsK G y s6.E s6.v s6.ws s6.ins.length = stsK G y s.E (stsK G x s3.E s3.v s3.ws s3.ins.length).v (stsK G x s3.E s3.v s3.ws s3.ins.length).ws (s.ins.length + (exsK G s.E a s.ws).ins.length + (stsK G x s3.E s3.v s3.ws s3.ins.length).ins.length + 2) := by rw [e6.1, e6.2.1, e6.2.2.1, l6, l5]
  have l7 : s7.ins.length = s.ins.length + (exsK G s.E a s.ws).ins.length + (stsK G x s3.E s3.v s3.ws s3.ins.length).ins.length + 2 + (stsK G y s6.E s6.v s6.ws s6.ins.length).ins.length := by rw [i7, l1]; simp; omega
  unfold stepS
  rw [stK_if (X := stsK G x s3.E s3.v s3.ws s3.ins.length) (Y := stsK G y s6.E s6.v s6.ws s6.ins.length) rfl hX.symm hY.symm]
  have v7 : s7.v = (stsK G y s6.E s6.v s6.ws s6.ins.length).v ∧ s7.ws = (stsK G y s6.E s6.v s6.ws s6.ins.length).ws ∧ s7.E = s.E ∧ s7.nm = s.nm ∧ s7.hi = max (max (max s.hi (dpsK 0 a)) (highsK x)) (highsK y) := by
    rw [h7]
    refine ⟨rfl, rfl, e6.1, e6.2.2.2.1, ?_⟩
    show max s6.hi (highsK y) = _
    rw [e6.2.2.2.2, e3.2.2.2.2]
  rw [v7.1, v7.2.1, v7.2.2.1, v7.2.2.2.1, v7.2.2.2.2, l7, l5, l1]
  simp [highK, stN1, kindS, Nat.max_assoc]
theorem wstmt_if (t : Bs) (a : List Ex) (x y : List St) (iha : WExs a) (ihx : WSts x) (ihy : WSts y) : WSt (.mk 3 t a x y) := by
  intro c G T s r w hK hX hU hI hW hV
  obtain ⟨rk, rt, sa, sx, sy⟩ := r
  cases hX with
  | mk _ _ _ _ _ ra rx ry la lx ly ha hPa ha2 hx hPx hx1 hx2 hy hPy hy1 hy2 =>
  rw [stU] at hU
  rw [stN] at hI hW hV
  have HPRE := hide (pre_any a iha c G T s w hK ⟨3, t, sa, sx, sy⟩ ra ha hPa ha2 hU.1 (by omega) (by omega) (by omega))
  obtain ⟨qa, qc, h5, own, hbw⟩ := hK.row2
  have hwl := hK.wl
  obtain ⟨s1, hs1⟩ : ∃ s1 : Ks, s1 = finX G s a 0 := ⟨_, rfl⟩
  obtain ⟨s3, hs3⟩ : ∃ s3 : Ks, s3 = { s1 with ins := s1.ins ++ [⟨16, 0, 0⟩] } := ⟨_, rfl⟩
  obtain ⟨s4, hs4⟩ : ∃ s4 : Ks, s4 = finS G s3.E s3.nm s3 x := ⟨_, rfl⟩
  obtain ⟨s5, hs5⟩ : ∃ s5 : Ks, s5 = { s4 with ins := s4.ins ++ [⟨15, 0, 0⟩] } := ⟨_, rfl⟩
  obtain ⟨s6, hs6⟩ : ∃ s6 : Ks, s6 = { s5 with ins := s1.ins ++ ⟨16, (s5.ins.length : Nat), 0⟩ :: ((stsK G x s3.E s3.v s3.ws s3.ins.length).ins ++ [⟨15, 0, 0⟩]) } := ⟨_, rfl⟩
  obtain ⟨s7, hs7⟩ : ∃ s7 : Ks, s7 = finS G s6.E s6.nm s6 y := ⟨_, rfl⟩
  obtain ⟨f1, f2, f3, f4⟩ := IfW.facts ⟨hs1, hs3, hs4, hs5, hs6, hs7⟩ t
  have HEQ := hide f4
  have l1 : s1.ins.length = s.ins.length + exsN a := by
    rw [hs1]; show (s.ins ++ (exsK G s.E a s.ws).ins).length = _; rw [List.length_append, exsK_len]
  have w1 : s1.ws.length ≤ s.ws.length + exsN a := by rw [hs1]; exact exsK_ws G s.E a s.ws
  have n1 : s1.nm = s.nm ∧ s1.v = s.v := by rw [hs1]; exact ⟨rfl, rfl⟩
  have hle := stsK_le G x s3.E s3.v s3.ws s3.ins.length
  have l3 : s3.ins.length = s.ins.length + exsN a + 1 := by rw [hs3]; simp only [List.length_append]; rw [l1]; rfl
  have b3 : s3.ws.length ≤ s.ws.length + exsN a ∧ s3.v = s.v ∧ s3.nm = s.nm := by rw [hs3]; exact ⟨w1, n1.2, n1.1⟩
  have l4 : s4.ins.length ≤ s.ins.length + exsN a + 1 + 2 * stsN x := by rw [hs4]; show (s3.ins ++ _).length ≤ _; rw [List.length_append]; have := hle.i; omega
  have b4 : s4.ws.length ≤ s.ws.length + exsN a + stsN x ∧ s4.v ≤ s.v + stsN x ∧ s4.nm = s.nm := by
    rw [hs4]
    exact ⟨by have := hle.w; show (stsK G x s3.E s3.v s3.ws s3.ins.length).ws.length ≤ _; omega, by have := hle.v; show (stsK G x s3.E s3.v s3.ws s3.ins.length).v ≤ _; omega, b3.2.2⟩
  have l6 : s6.ins.length ≤ s.ins.length + exsN a + 1 + 2 * stsN x + 1 := by
    have e : s6.ins.length = s4.ins.length + 1 := by
      rw [hs6]; simp only; rw [f3]; simp
      omega
    omega
  have b6 : s6.ws = s4.ws ∧ s6.v = s4.v ∧ s6.nm = s4.nm := by rw [hs6, hs5]; exact ⟨rfl, rfl, rfl⟩
  have HAH := hide (fun T2 w2 (h : KI c G T2 s1 w2) op => ahead_any c G T2 s1 w2 h op (by omega))
  have HAH2 := hide (fun T2 w2 (h : KI c G T2 s4 w2) op => ahead_any c G T2 s4 w2 h op (by omega))
  have HST := hide (fun T3 wv (h : KI c G T3 s3 wv) (hf : Fr T w wv) ht => stmts_kp h hf ht ihx hx hPx ⟨hx1, hx2⟩ (show stsU (fun _ _ => True) x s3.nm by rw [b3.2.2]; exact hU.2.2.2.1) (by omega) (by omega) (by omega))
  rw [← hs4] at HST
  have HST2 := hide (fun T3 wv (h : KI c G T3 s6 wv) (hf : Fr T w wv) ht => stmts_kp h hf ht ihy hy hPy ⟨hy1, hy2⟩ (show stsU (fun _ _ => True) y s6.nm by rw [b6.2.2, b4.2.2]; exact hU.2.2.2.2) (by omega) (by rw [b6.1]; omega) (by rw [b6.2.1]; omega))
  rw [← hs7] at HST2
  have HP1 := hide (fun T5 w5 ab bb (h : KI c G T5 s5 w5) ha hb => aheadC_any c G T5 s5 w5 h ab bb ha s1.ins _ ⟨16, 0, 0⟩ hb f1)
  have HP2 := hide (fun T5 w5 ab bb (h : KI c G T5 s7 w5) ha hb => aheadC_any c G T5 s7 w5 h ab bb ha _ _ ⟨15, 0, 0⟩ hb f2)
  have HS1 := hide hs1
  have HS3 := hide hs3
  have HS5 := hide hs5
  have HS6 := hide hs6
  have HF3' := hide f3
  clear f1 f2 f3 f4 hs1 hs3 hs4 hs5 hs6 hs7 hK hU own hbw ha hPa ha2 hx hPx hx1 hx2 hy hPy hy1 hy2 hle n1 b3 b4 b6
  go_enter Tryd.func55, Tryd.ntmps55
  go_wp2_with (first
    | (go_at_call 67; first
      | (refine (HP2.out T7 w7 ab2 bb2 HK7.out ca7 cb7).mono ?_; rintro e w8 ⟨rfl, hk8⟩; have HK8 := hide (hk8.after HF7.out HT7.out); clear hk8)
      | (refine (HP1.out T5 w5 ab bb HK5.out ca5 cb5).mono ?_; rintro e w6 ⟨rfl, T6, K6, f6, t6⟩; obtain ⟨F6, N6, ⟨nb6, lb6⟩, q6⟩ := nextT f6 t6 HF5.out HT5.out nb5 lb5; obtain ⟨cc6, nd6⟩ := stayC f6 t6 cc5 nd5; obtain ⟨ce6, nf6⟩ := stayC f6 t6 ce5 nf5; have y46 := (q6 4).trans y45; have HK6 := hide (HS6.out ▸ K6 : KI c G T6 s6 w6); have HF6 := hide F6; have HT6 := hide N6; clear K6 F6 N6 f6 t6 q6))
    | (go_at_call 43; first
      | (refine (HST2.out T6 w6 HK6.out HF6.out HT6.out).mono ?_; rintro e w7 ⟨rfl, T7, K7, f7, t7⟩; obtain ⟨F7, N7, _, _⟩ := nextT f7 t7 HF6.out HT6.out nb6 lb6; have ca7 := (stayC f7 t7 cc6 nd6).1; have cb7 := (stayC f7 t7 ce6 nf6).1; rw [HF3'.out] at cb7; have HK7 := hide K7; have HF7 := hide F7; have HT7 := hide N7; clear K7 F7 N7 f7 t7)
      | (refine (HST.out T3 w3 HK3.out HF3.out HT3.out).mono ?_; rintro e w4 ⟨rfl, T4, K4, f4, t4⟩; obtain ⟨F4, N4, ⟨nb4, lb4⟩, q4⟩ := nextT f4 t4 HF3.out HT3.out nb3 lb3; obtain ⟨ca4, na4⟩ := stayC f4 t4 ca3 na3; obtain ⟨cb4, nc4⟩ := stayC f4 t4 cb3 nc3; have y44 := (q4 4).trans y43; have HK4 := hide K4; have HF4 := hide F4; have HT4 := hide N4; clear K4 F4 N4 f4 t4 q4))
    | (go_at_call 61; first
      | (refine (HAH2.out T4 w4 HK4.out _).mono ?_; rintro e w5 ⟨ab2, bb2, T5, rfl, K5, f5, t5, nd5, nf5, cc5, ce5⟩; obtain ⟨F5, N5, ⟨nb5, lb5⟩, q5⟩ := nextT f5 t5 HF4.out HT4.out nb4 lb4; have y45 := (q5 4).trans y44; have ca5 := (stayC f5 t5 ca4 na4).1; have cb5 := (stayC f5 t5 cb4 nc4).1; have HK5 := hide (HS5.out ▸ K5 : KI c G T5 s5 w5); have HF5 := hide F5; have HT5 := hide N5; clear K5 F5 N5 f5 t5 q5)
      | (refine (HAH.out T2 w2 HKK.out _).mono ?_; rintro e w3 ⟨ab, bb, T3, rfl, K3, f3, t3, na3, nc3, ca3, cb3⟩; obtain ⟨F3, N3, ⟨nb3, lb3⟩, q3⟩ := nextT f3 t3 HFF.out HTT.out HBB.out zl; have y3 := (q3 3).trans z3; have y43 := (q3 4).trans z4; have HK3 := hide (HS3.out ▸ K3 : KI c G T3 s3 w3); have HF3 := hide F3; have HT3 := hide N3; clear K3 F3 N3 f3 t3 q3))
    | (go_at_call 60; refine HPRE.out.mono ?_; rintro e w2 ⟨rfl, T2, hp⟩; have z0 := hp.z0; have z3 := hp.z3; have z4 := hp.z4; have zl := hp.l; have HKK := hide (HS1.out ▸ hp.k : KI c G T2 s1 w2); have HFF := hide hp.f; have HTT := hide hp.t; have HBB := hide hp.b; clear hp))
  go_end0
  refine ⟨rfl, ?_⟩
  rw [HEQ.out]
  exact HK8.out
theorem wstmt_step (k : Int) (t : Bs) (a : List Ex) (x y : List St) (iha : WExs a) (ihx : WSts x) (ihy : WSts y) (hk : 1 ≤ k ∧ k ≤ 9) (h1 : k ≠ 3 → k ≠ 4 → x = []) (h2 : k ≠ 3 → y = []) (ht : t.length ≤ 1500) : WSt (.mk k t a x y) := by
  by_cases k3 : k = 3
  · subst k3; exact wstmt_if t a x y iha ihx ihy
  rw [h2 k3]
  by_cases k4 : k = 4
  · subst k4; exact wstmt_while t a x iha ihx
  rw [h1 k3 k4]
  by_cases k1 : k = 1
  · subst k1; exact wstmt_let t a iha ht
  by_cases k2 : k = 2
  · subst k2; exact wstmt_set t a iha ht
  have hc : k = 5 ∨ k = 6 ∨ k = 7 ∨ k = 8 ∨ k = 9 := by omega
  rcases hc with rfl | rfl | rfl | rfl | rfl
  · exact wstmt_plain 5 14 rfl (by simp) t a iha
  · exact wstmt_plain 6 18 rfl (by simp) t a iha
  · exact wstmt_plain 7 9 rfl (by simp) t a iha
  · exact wstmt_plain 8 10 rfl (by simp) t a iha
  · exact wstmt_plain 9 19 rfl (by simp) t a iha
theorem wstmts_all' : ∀ (n : Nat) (l : List St), stsN l ≤ n → (∀ s ∈ l, StSh s) → stsKd l → WSts l
  | 0, l, hn, _, _ => wstmts_any l (fun s h => by have := stN_mem h; have := stN_pos s; omega)
  | n + 1, l, hn, hs, hk => wstmts_any l (fun s h => by
      have h1 := stN_mem h
      have h2 := stsKd_mem hk s h
      cases hs _ h with
      | @mk k t a x y q1 q2 h3 h4 h5 h6 =>
        rw [stN] at h1
        rw [stKd] at h2
        exact wstmt_step k t a x y (wexprs_any a (fun e he => wexpr_any e (h4 e he))) (wstmts_all' n x (by omega) h5 h2.2.2.1) (wstmts_all' n y (by omega) h6 h2.2.2.2) ⟨h2.1, h2.2.1⟩ q1 q2 h3)
theorem wstmts_all (l : List St) (hs : ∀ s ∈ l, StSh s) (hk : stsKd l) : WSts l := wstmts_all' _ l (Nat.le_refl _) hs hk
end Go.Proofs.YtkmdamljhagogaaDoor
end
