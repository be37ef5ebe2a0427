/- RSts1; RSts2; RSts3; RSts4; RSts5. -/
import Derived.Test.YtkmdamljhagogaaDoorPartT19
section
/- The document's own answer: a map is copied; the closure that puts an instruction behind. -/
set_option maxHeartbeats 0
set_option maxRecDepth 100000
namespace Go.Proofs.YtkmdamljhagogaaDoor
open Go Go.RowKit
theorem keyOf_str_inv {key : Value} {kl : Lit} (h : keyOf Tryd.prog 9 key = some kl) : ∃ x : Bs, key = .string (bs x) ∧ kl = .string x := by
  cases key <;> simp [keyOf, Tryd.underlying9, mapKey] at h
  rename_i s
  refine ⟨s.data.toList, ?_, ?_⟩
  · unfold bs
    simp
  · obtain ⟨_, rfl⟩ := h
    first | rfl | simp
theorem SI.storeK {b : Nat} {A : AMap} {w : World} (h : SI b A w) (k : Bs) (hk : keyOf Tryd.prog 9 (.string (bs k)) = some (.string k)) (v : Int) (hn : A.n ≤ 200000) (hw : (Lit.int .i64 v).wf = true) :
    ∃ w', (Instr.mapUpdate 55 (.map (some b)) (.string (bs k)) (.int .i64 v)).run Tryd.prog w = .ok () w' ∧ SI b (A.put k v) w' ∧ w.grownBy w' (some b) := by
  obtain ⟨D, g1, g2, g3, g4⟩ := h
  obtain ⟨w', hrun, ho, hg⟩ := g1.update law9 Tryd.underlying55 (by unfold maxLen; omega) hk (plainElem_int Tryd.underlying3 hw)
  have hmap := isMap_of g1
  have hkey : WideAt.IsKeyLit (.string k) := by trivial
  have htd := World.ownsMap.tidy g1 law9
  have hsz : Maps.size (D.put (.string k) (.lit (.int .i64 v))) = (A.put k v).n := by
    rw [Maps.size_put htd, g3, g4]
    rfl
  refine ⟨w', hrun, ⟨D.put (.string k) (.lit (.int .i64 v)), ?_, fun x => ?_, fun x => ?_, hsz⟩, hg⟩
  · rw [← hsz]; exact owns_map_tight ho
  · by_cases hx : x = k
    · subst hx
      rw [Maps.atKey_put_same hmap hkey]
      simp [AMap.put]
    · rw [Maps.atKey_put_other (by intro e; exact hx (by cases e; rfl)), g2]
      simp [AMap.put, hx]
  · by_cases hx : x = k
    · subst hx
      rw [Maps.has_put_same hmap hkey]
      simp [AMap.put]
    · rw [Maps.has_put_other (by intro e; exact hx (by cases e; rfl)), g3]
      simp [AMap.put, hx]
theorem wpList_next_run {P : Program} {w : World} {ops : Array Oper} {rest : List Oper} {o : Oper} {a : Act} {Q : Exit → Act → World → Prop} (hg : o.guard = none) (it : Operand) (hop : o.op = Op.next it false) (p : Value) (hit : a.eval it = p) {v : Value} {w' : World} (hrun : (Instr.next p false o.type).run P w = .ok v w') (h : wpList P ops Q rest (a.put o.dst v) w') : wpList P ops Q (o :: rest) a w := by
  refine wpList_plain hg fun K' hK' => ?_
  unfold Oper.wp
  simp [execOp, hop, hit, hrun, Result.andThen]
  exact hK' _ _ h
/-- A map is being copied. -/
structure Cp (ab ib r : Nat) (A : AMap) (w : World) : Prop where
  s : ∃ (D : DataW Unit) (left : Lit → Bool) (cnt : Nat) (B : AMap), w.ranges Tryd.prog 9 (plainElem Tryd.prog 3) ab r A.n D left cnt ∧ (∀ k, D.atKey (.string k) (.lit (.int .i64 0)) = .lit (.int .i64 ((A.f k).getD 0))) ∧ (∀ k, left (.string k) = true → (A.f k).isSome = true) ∧ SI ib B w ∧ (∀ k, B.f k = if left (.string k) then none else A.f k) ∧ B.n + cnt ≤ A.n
theorem Cp.start {ab : Nat} {A : AMap} {w : World} (h : SI ab A w) (o : Nat) (hm : SI o AMap.empty w) : ∃ w', (Instr.range 55 (.map (some ab))).run Tryd.prog w = .ok (.pointer (some ⟨w.heap.size, 0, none⟩)) w' ∧ Cp ab o w.heap.size A w' ∧ Fr nothing w w' ∧ w'.heap.size = w.heap.size + 1 := by
  obtain ⟨D, h1, h2, h3, h4⟩ := h
  obtain ⟨w', hrun, hr, hg, hs⟩ := h1.range law9 Tryd.underlying55
  have hf : Fr nothing w w' := (Fr.refl nothing w).grown hg (fun k hk => by cases hk)
  refine ⟨w', hrun, ⟨D, _, _, AMap.empty, hr, h2, fun k hk => by rw [← h3]; exact hk, hm.fr hf id, fun k => ?_, ?_⟩, hf, hs⟩
  · rw [h3]
    cases hA : A.f k <;> simp [AMap.empty]
  · rw [h4]; simp [AMap.empty]
theorem Cp.step {ab ib r : Nat} {A : AMap} {w : World} (h : Cp ab ib r A w) (ty : TypeId) (hA : A.n ≤ 200000) (hne : ab ≠ ib) (hri : r ≠ ib) :
    ((Instr.next (.pointer (some ⟨r, 0, none⟩)) false ty).run Tryd.prog w = .ok (.tuple #[.bool false]) w ∧ ∃ B : AMap, SI ib B w ∧ B.f = A.f ∧ B.n ≤ A.n) ∨
    ∃ (x : Bs) (c : Int) (w1 w2 : World), (Instr.next (.pointer (some ⟨r, 0, none⟩)) false ty).run Tryd.prog w = .ok (.tuple #[.bool true, .string (bs x), .int .i64 c]) w1 ∧
      (Instr.entry (.pointer (some ⟨r, 0, none⟩))).run Tryd.prog w1 = .ok (.tuple #[.string (bs x), .int .i64 c]) w1 ∧ (Instr.mapUpdate 55 (.map (some ib)) (.string (bs x)) (.int .i64 c)).run Tryd.prog w1 = .ok () w2 ∧
      Cp ab ib r A w2 ∧ Fr (fun k => k = r ∨ k = ib) w w2 ∧ w2.rangeLeft ab r < w.rangeLeft ab r := by
  obtain ⟨D, left, cnt, B, hr, h2, h3, hB, h5, h6⟩ := h.s
  rcases hr.next law9 ty with ⟨h0, hl, hrun⟩ | ⟨key, v, kl, y, w1, cnt1, hkey, hlk, hv, hat, hrun, hr1, hlt, hgr, hsz, hen⟩
  · refine .inl ⟨hrun, B, hB, ?_, by omega⟩
    funext k
    rw [h5, hl]
    simp
  · obtain ⟨x, rfl, rfl⟩ := keyOf_str_inv hkey
    obtain ⟨c, rfl, rfl, hwc⟩ := plainElem_int_inv Tryd.underlying3 hv
    have hat0 := hat (.lit (.int .i64 0))
    rw [h2] at hat0
    simp only [DataW.lit.injEq, Lit.int.injEq, true_and] at hat0
    have hsome := h3 x hlk
    have hAx : A.f x = some c := by
      cases e : A.f x with
      | none => rw [e] at hsome; cases hsome
      | some d => rw [e] at hat0; simp only [Option.getD_some] at hat0; rw [hat0]
    have hF1 : Fr (fun k => k = r) w w1 := (Fr.refl _ w).grown hgr (fun k hk => .inl (by simpa using hk.symm))
    have hB1 := hB.fr hF1 (fun e => hri e.symm)
    obtain ⟨w2, hrun2, hB2, hg2⟩ := hB1.storeK x hkey c (by omega) hwc
    have hF2 : Fr (fun k => k = ib) w1 w2 := (Fr.refl _ w1).grown hg2 (fun k hk => .inl (by simpa using hk.symm))
    have hr2 := hr1.kept hg2 (by simpa using hne) (by simpa using hri)
    refine .inr ⟨x, c, w1, w2, hrun, hen, hrun2, ⟨D, _, cnt1, B.put x c, hr2, h2, fun k hk => h3 k (by simp only [Bool.and_eq_true] at hk; exact hk.1), hB2, fun k => ?_, ?_⟩, (hF1.mono (fun _ _ e => .inl e)).trans (hF2.mono (fun _ _ e => .inr e)), by rw [hr2.left_eq, hr.left_eq]; exact hlt⟩
    · by_cases hk : k = x
      · subst hk
        have : (Lit.string k).sameKey (.string k) = true := WideAt.sameKey_self (by trivial)
        simp [AMap.put, this, hAx]
      · have : (Lit.string k).sameKey (.string x) = false := by
          rw [Bool.eq_false_iff]
          intro e
          exact hk (by have := WideAt.sameKey_eq e; cases this; rfl)
        simp [AMap.put, hk, this, h5]
    · have : (B.put x c).n ≤ B.n + 1 := by unfold AMap.put; simp only; split <;> omega
      omega
/-- An instruction is put behind, and all that behind what is there. -/
theorem one_any (ob gb base basea : Nat) (q qa : Slc) (la args : List In) (w : World) (op a : Int) (h1 : w.cell? ⟨ob, 0, none⟩ = some q.v) (h2 : OwnI base q la w) (h3 : w.cell? ⟨gb, 0, none⟩ = some qa.v) (h4 : OwnI basea qa args w) (hb4 : basea ≤ w.heap.size)
    (hne : ∀ b, qa.v.ownBlock = some b → b ≠ ob ∧ b ≠ gb ∧ ¬ q.v.ownBlock = some b) (hz : w.frozen? ⟨ob, 0, none⟩ = false) (hl1 : la.length ≤ 300000) (hl2 : args.length ≤ 300000) (hJ : NoJ (args ++ [⟨op, a, 0⟩])) :
    Calls Tryd.prog 46 #[.int .i64 op, .int .i64 a, .pointer (some ⟨ob, 0, none⟩), .pointer (some ⟨gb, 0, none⟩)] w fun e w' => e = .returned (.tuple #[]) ∧ ∃ q' : Slc, w'.cell? ⟨ob, 0, none⟩ = some q'.v ∧ OwnI w.heap.size q' (la ++ (args ++ [⟨op, a, 0⟩])) w' ∧ Fr (fun k => k = ob ∨ qa.v.ownBlock = some k) w w' ∧ w'.frozen? ⟨ob, 0, none⟩ = false := by
  obtain ⟨qx, qn, qc⟩ := q
  obtain ⟨ax, an, ac⟩ := qa
  have hol := lt_of_cell h1
  have hgl := lt_of_cell h3
  have FA : Fr nothing w (w.alloc (.cells #[.int .i64 op, .int .i64 a, .int .i64 0] 45)).drew := ((Fr.refl nothing w).alloc _).drew
  have hSL : Sl encI 3 (w.alloc (.cells #[.int .i64 op, .int .i64 a, .int .i64 0] 45)).drew (Slc.v ⟨some ⟨w.heap.size, 0, none⟩, 1, 1⟩) [⟨op, a, 0⟩] := (sl_litI w ⟨op, a, 0⟩).fr (Fr.refl nothing _).drew (fun _ _ => id)
  obtain ⟨q2, w2, hrun, own2, hF2, hat2⟩ := (h4.fr FA (fun _ _ => id)).app (x := ⟨some ⟨w.heap.size, 0, none⟩, 1, 1⟩) hSL (Nat.le_trans hb4 FA.size) (by simp only [List.length_singleton]; omega)
  have F02 : Fr (fun k => (Slc.v ⟨ax, an, ac⟩).ownBlock = some k) w w2 := (FA.mono (fun _ _ e => e.elim)).trans hF2
  have hJo := join_any ⟨qx, qn, qc⟩ q2 la (args ++ [⟨op, a, 0⟩]) w2 (h2.fr F02 (fun k hk e => (hne k e).2.2 hk)).sl own2.sl (by simp only [List.length_append, List.length_singleton]; omega) (fun x hx e => absurd e (by have := hJ x hx; omega))
  rw [shiftI_no hJ] at hJo
  have k1 := (F02.cell (p := ⟨ob, 0, none⟩) hol (fun e => (hne _ e).1 rfl)).trans h1
  have k3 := (F02.cell (p := ⟨gb, 0, none⟩) hgl (fun e => (hne _ e).2.1 rfl)).trans h3
  have kz := (F02.frozen (p := ⟨ob, 0, none⟩) hol (fun e => (hne _ e).1 rfl)).trans hz
  have kl := Nat.lt_of_lt_of_le hol F02.size
  have a1 := (FA.cell (p := ⟨ob, 0, none⟩) hol id).trans h1
  have a3 := (FA.cell (p := ⟨gb, 0, none⟩) hgl id).trans h3
  have gl2 := Nat.lt_of_lt_of_le hgl F02.size
  have HJo := hide hJo
  have HF := hide F02
  clear FA hSL own2 hF2 hat2 F02 hJo h2 h4 hne hJ
  go_enter Tryd.func46, Tryd.ntmps46
  refine wp_region_T (S := fun w' => w'.cell? ⟨ob, 0, none⟩ = some (.slice qx qn qc) ∧ w'.cell? ⟨gb, 0, none⟩ = some (.slice ax an ac)) (by kernel_rfl) [8] ?_ (fun hHeld => ?_)
  · exact ⟨h1, h3⟩
  refine wpAnyT_take (i := 0) (oi := { dst := some 6, op := Op.load 38 (Operand.tmp 2), type := 38, pos := "ref.go:699", after := #[], guard := none }) (v := ?v1) rfl (by kernel_rfl) (by kernel_rfl) (by kernel_rfl) (by kernel_rfl) (by kernel_rfl) (fun _ _ _ h => h) (Or.inl ⟨by rfl, ?hy1⟩) (by assumption) ?rest1
  case hy1 => (intro w hSw; (try dsimp only at hSw); obtain ⟨hS1, hS2⟩ := hSw; go_simp; try with_reducible rfl)
  try simp only [Act.put, List.setIfInBounds_toArray, List.set_cons_zero, List.set_cons_succ]
  refine wpAnyT_take (i := 1) (oi := { dst := some 7, op := Op.load 38 (Operand.tmp 3), type := 38, pos := "ref.go:699", after := #[], guard := none }) (v := ?v2) rfl (by kernel_rfl) (by kernel_rfl) (by kernel_rfl) (by kernel_rfl) (by kernel_rfl) (fun _ _ _ h => h) (Or.inl ⟨by rfl, ?hy2⟩) (by assumption) ?rest2
  case hy2 => (intro w hSw; (try dsimp only at hSw); obtain ⟨hS1, hS2⟩ := hSw; go_simp; try with_reducible rfl)
  try simp only [Act.put, List.setIfInBounds_toArray, List.set_cons_zero, List.set_cons_succ]
  refine wpAnyT_take (i := 2) (oi := { dst := some 8, op := Op.move (Operand.tmp 0), type := 3, pos := "ref.go:699", after := #[], guard := none }) (v := ?v3) rfl (by kernel_rfl) (by kernel_rfl) (by kernel_rfl) (by kernel_rfl) (by kernel_rfl) (fun _ _ _ h => h) (Or.inl ⟨by rfl, ?hy3⟩) (by assumption) ?rest3
  case hy3 => (intro w hSw; (try dsimp only at hSw); obtain ⟨hS1, hS2⟩ := hSw; go_simp; try with_reducible rfl)
  try simp only [Act.put, List.setIfInBounds_toArray, List.set_cons_zero, List.set_cons_succ]
  refine wpAnyT_take (i := 3) (oi := { dst := some 9, op := Op.move (Operand.tmp 1), type := 3, pos := "ref.go:699", after := #[], guard := none }) (v := ?v4) rfl (by kernel_rfl) (by kernel_rfl) (by kernel_rfl) (by kernel_rfl) (by kernel_rfl) (fun _ _ _ h => h) (Or.inl ⟨by rfl, ?hy4⟩) (by assumption) ?rest4
  case hy4 => (intro w hSw; (try dsimp only at hSw); obtain ⟨hS1, hS2⟩ := hSw; go_simp; try with_reducible rfl)
  try simp only [Act.put, List.setIfInBounds_toArray, List.set_cons_zero, List.set_cons_succ]
  refine wpAnyT_take (i := 4) (oi := { dst := some 10, op := Op.build 45 #[(0, Operand.tmp 8), (1, Operand.tmp 9)], type := 45, pos := "ref.go:699", after := #[{ on := 2, ground := Ground.data }, { on := 3, ground := Ground.data }], guard := none }) (v := ?v5) rfl (by kernel_rfl) (by kernel_rfl) (by kernel_rfl) (by kernel_rfl) (by kernel_rfl) (fun _ _ _ h => h) (Or.inl ⟨by rfl, ?hy5⟩) (by assumption) ?rest5
  case hy5 => (intro w hSw; (try dsimp only at hSw); obtain ⟨hS1, hS2⟩ := hSw; go_simp; try with_reducible rfl)
  try simp only [Act.put, List.setIfInBounds_toArray, List.set_cons_zero, List.set_cons_succ]
  refine wpAnyT_ready (rs := [5]) (by kernel_rfl) (by simp) ?_
  refine AllReadyT.cons (o := { dst := some 11, op := Op.buildSlice 38 1 #[(0, Operand.tmp 10)], type := 38, pos := "ref.go:699", after := #[{ on := 4, ground := Ground.data }], guard := none }) rfl (fun K hK => ?_) AllReadyT.nil
  go_simp
  refine hK.out _ _ ⟨a1, a3⟩ ?_
  clear hK K hHeld
  try simp only [Act.put, List.setIfInBounds_toArray, List.set_cons_zero, List.set_cons_succ]
  refine wpAnyT_ready (rs := [6]) (by kernel_rfl) (by simp) ?_
  refine AllReadyT.cons (o := { dst := some 12, op := Op.call { callee := Callee.builtin Builtin.append, args := #[Operand.tmp 7, Operand.tmp 11], argTypes := #[38, 38] }, type := 38, pos := "ref.go:699", after := #[{ on := 1, ground := Ground.data }, { on := 5, ground := Ground.data }], guard := none }) rfl (fun K hK => ?_) AllReadyT.nil
  refine step_run rfl _ _ 38 rfl _ _ (by simp [Act.eval]) (by simp [Act.eval]) hrun ?_
  refine hK.out _ _ ⟨k1, k3⟩ ?_
  clear hK K hrun
  try simp only [Act.put, List.setIfInBounds_toArray, List.set_cons_zero, List.set_cons_succ]
  refine wpAnyT_ready (rs := [7]) (by kernel_rfl) (by simp) ?_
  refine AllReadyT.cons (o := { dst := some 13, op := Op.call { callee := Callee.value (Operand.func 47), args := #[Operand.tmp 6, Operand.tmp 12], argTypes := #[38, 38] }, type := 38, pos := "ref.go:699", after := #[{ on := 0, ground := Ground.data }, { on := 6, ground := Ground.data }, { on := 6, ground := Ground.chain }], guard := none }) rfl (fun K hK => ?_) AllReadyT.nil
  refine step_call (by rfl) 47 Tryd.f47 #[.tmp 6, .tmp 12] #[38, 38] rfl Tryd.func47 (by kernel_rfl) (by kernel_rfl) #[.slice qx qn qc, .slice q2.a q2.n q2.c] (by simp [Act.eval]) _ HJo.out ?_
  rintro e w3 ⟨q3, rfl, own3, F3⟩
  refine ⟨_, rfl, ?_⟩
  have l1 := (F3.cell (p := ⟨ob, 0, none⟩) kl id).trans k1
  have l3 := (F3.cell (p := ⟨gb, 0, none⟩) gl2 id).trans k3
  have lz := (F3.frozen (p := ⟨ob, 0, none⟩) kl id).trans kz
  have ll := Nat.lt_of_lt_of_le kl F3.size
  have HF3 := hide F3
  have HO3 := hide own3
  clear F3 own3
  refine hK.out _ _ ⟨l1, l3⟩ ?_
  clear hK K
  try simp only [Act.put, List.setIfInBounds_toArray, List.set_cons_zero, List.set_cons_succ]
  refine wpAnyT_ready (rs := [8]) (by kernel_rfl) (by simp) ?_
  refine AllReadyT.last (o := { dst := none, op := Op.store 38 (Operand.tmp 2) (Operand.tmp 13), type := 0, pos := "ref.go:699", after := #[{ on := 7, ground := Ground.data }, { on := 7, ground := Ground.chain }, { on := 0, ground := Ground.phase }, { on := 1, ground := Ground.phase }, { on := 2, ground := Ground.phase }, { on := 3, ground := Ground.phase }, { on := 4, ground := Ground.phase }, { on := 5, ground := Ground.phase }, { on := 6, ground := Ground.phase }, { on := 7, ground := Ground.phase }], guard := none }) rfl (by kernel_rfl) (fun K hK => ?_) AllReadyT.nil
  go_simp
  refine hK.out _ _ ?_
  clear hK K
  try simp only [Act.put, List.setIfInBounds_toArray, List.set_cons_zero, List.set_cons_succ]
  refine wpAny_done (by kernel_rfl) ?_ _
  go_wp2_with fail
  go_end0
  obtain ⟨e1, e2, hf⟩ := set_one w3 ob 0 (.slice q3.a q3.n q3.c) l1
  have hne3 : ¬ q3.v.ownBlock = some ob := fun e => by have := (HO3.out.lt e).1; omega
  refine ⟨rfl, q3, e1, ?_, ?_, by rw [World.frozen?_setCell]; exact lz⟩
  · have := HO3.out.fr hf (fun k hk e => hne3 (e ▸ hk))
    exact ⟨this.n, this.row.mono HF.out.size⟩
  · exact ((HF.out.mono (fun _ _ e => .inr e)).trans (HF3.out.mono (fun _ _ e => e.elim))).trans (hf.mono (fun _ _ e => .inl e))
end Go.Proofs.YtkmdamljhagogaaDoor
end
section
/- The document's own answer: code of statements: what lies there on the way. -/
set_option maxHeartbeats 0
set_option maxRecDepth 100000
namespace Go.Proofs.YtkmdamljhagogaaDoor
open Go Go.RowKit
structure AtN (ab : Nat) (E : Bs → Int) (nm : List Bs) (n : Nat) (T : Nat → Prop) (w : World) : Prop where
  m : ∃ A : AMap, SI ab A w ∧ (∀ t ∈ nm, (A.f t).getD 0 = E t) ∧ A.n ≤ n
  t : ¬ T ab
theorem AtN.fr {ab n n' : Nat} {E : Bs → Int} {nm : List Bs} {T T' S : Nat → Prop} {w w' : World} (h : AtN ab E nm n T w) (hf : Fr S w w') (hs : ¬ S ab) (ht : ¬ T' ab) (hn : n ≤ n') : AtN ab E nm n' T' w' := by
  obtain ⟨A, a1, a2, a3⟩ := h.m
  exact ⟨⟨A, a1.fr hf hs, a2, Nat.le_trans a3 hn⟩, ht⟩
theorem AtN.ok {ab n : Nat} {E : Bs → Int} {nm : List Bs} {T : Nat → Prop} {w : World} (h : AtN ab E nm n T w) : AtOk ab E nm T w := by
  obtain ⟨A, a1, a2, _⟩ := h.m
  exact ⟨⟨A, a1, a2⟩, h.t⟩
theorem AtN.lt {ab n : Nat} {E : Bs → Int} {nm : List Bs} {T : Nat → Prop} {w : World} (h : AtN ab E nm n T w) : ab < w.heap.size := h.ok.lt
/-- What lies there between two statements: w where the call began. -/
structure SG (c : Rk) (T : Nat → Prop) (w : World) (ob ib : Nat) (R : KR) (nm : List Bs) (T' : Nat → Prop) (q : Slc) (wr : World) : Prop where
  rp : RP c T w R.v R.ws T' wr
  fl : ∀ b, c.fs.v.ownBlock = some b → b < w.heap.size
  o : wr.cell? ⟨ob, 0, none⟩ = some q.v
  oz : wr.frozen? ⟨ob, 0, none⟩ = false
  ow : OwnI w.heap.size q R.ins wr
  a : AtN ib R.E nm R.v T' wr
  ot : ¬ T' ob
  on : w.heap.size ≤ ob ∧ w.heap.size ≤ ib ∧ ob ≠ ib
  qt : ∀ b, q.v.ownBlock = some b → ¬ T' b ∧ b ≠ ob ∧ b ≠ ib
section
variable {c : Rk} {T T' S : Nat → Prop} {w wr w2 : World} {ob ib : Nat} {R : KR} {nm : List Bs} {q : Slc}
theorem SG.ol (h : SG c T w ob ib R nm T' q wr) : ob < wr.heap.size := lt_of_cell h.o
theorem SG.il (h : SG c T w ob ib R nm T' q wr) : ib < wr.heap.size := h.a.lt
theorem SG.fr (h : SG c T w ob ib R nm T' q wr) (hf : Fr S wr w2) (hT : ∀ k, T' k → ¬ S k) (hO : ¬ S ob) (hI : ¬ S ib) (hq : ∀ b, q.v.ownBlock = some b → ¬ S b) (hS : ∀ k, S k → w.heap.size ≤ k) : SG c T w ob ib R nm T' q w2 := by
  obtain ⟨k1, k2, k3⟩ := h.rp
  exact ⟨⟨k1.fr hf hT (fun b hb e => by have := h.fl b hb; have := hS b e; omega), k2.then hf (fun k hk e => by have := hS k e; omega), k3⟩, h.fl, (hf.cell (p := ⟨ob, 0, none⟩) h.ol hO).trans h.o, (hf.frozen (p := ⟨ob, 0, none⟩) h.ol hO).trans h.oz, h.ow.fr hf hq, h.a.fr hf hI h.a.t (Nat.le_refl _), h.ot, h.on, h.qt⟩
theorem SG.new (h : SG c T w ob ib R nm T' q wr) (hf : Fr nothing wr w2) : SG c T w ob ib R nm T' q w2 := h.fr hf (fun _ _ => id) id id (fun _ _ => id) (fun _ e => e.elim)
/-- A call that is given the maker. -/
theorem SG.call (h : SG c T w ob ib R nm T' q wr) {w1 : World} (hf : Fr nothing wr w1) {v2 : Nat} {ws2 : List Bs} {T2 : Nat → Prop} (hR : RP c T' w1 v2 ws2 T2 w2) (hv : R.v ≤ v2) : SG c T w ob ib { R with v := v2, ws := ws2 } nm T2 q w2 := by
  have h1 := h.new hf
  have nT : ∀ b, ¬ T' b → b < w1.heap.size → ¬ T2 b := fun b hb hl e => (hR.2.2 b e).elim hb (fun h => by omega)
  refine ⟨hR.after h1.rp.2.1 h1.rp.2.2, h.fl, (hR.2.1.cell (p := ⟨ob, 0, none⟩) h1.ol h1.ot).trans h1.o, (hR.2.1.frozen (p := ⟨ob, 0, none⟩) h1.ol h1.ot).trans h1.oz, h1.ow.fr hR.2.1 (fun b hb => (h1.qt b hb).1), h1.a.fr hR.2.1 h1.a.t (nT _ h1.a.t h1.il) hv, nT _ h1.ot h1.ol, h.on, fun b hb => ⟨nT _ (h1.qt b hb).1 (h1.ow.lt hb).2, (h1.qt b hb).2⟩⟩
end
/-- What lies there while a statement is turned into code. -/
structure SA (c : Rk) (T : Nat → Prop) (w : World) (ob ib gb sb : Nat) (R : KR) (nm : List Bs) (T' : Nat → Prop) (q qa : Slc) (args : List In) (vs : List Value) (wr : World) : Prop where
  g : SG c T w ob ib R nm T' q wr
  gc : wr.cell? ⟨gb, 0, none⟩ = some qa.v
  gz : wr.frozen? ⟨gb, 0, none⟩ = false
  ga : OwnI w.heap.size qa args wr
  gt : ¬ T' gb
  gn : w.heap.size ≤ gb ∧ gb ≠ ob ∧ gb ≠ ib ∧ ¬ q.v.ownBlock = some gb
  qt : ∀ b, qa.v.ownBlock = some b → ¬ T' b ∧ b ≠ ob ∧ b ≠ ib ∧ b ≠ gb ∧ b ≠ sb ∧ ¬ q.v.ownBlock = some b
  st : ¬ T' sb
  sn : w.heap.size ≤ sb ∧ sb ≠ ob ∧ sb ≠ ib ∧ sb ≠ gb ∧ ¬ q.v.ownBlock = some sb
  s : ∀ j v, vs[j]? = some v → wr.cell? ⟨sb, j, none⟩ = some v
  sl : sb < wr.heap.size
section
variable {c : Rk} {T T' S : Nat → Prop} {w wr w2 : World} {ob ib gb sb : Nat} {R : KR} {nm : List Bs} {q qa : Slc} {args : List In} {vs : List Value}
theorem SA.gl (h : SA c T w ob ib gb sb R nm T' q qa args vs wr) : gb < wr.heap.size := lt_of_cell h.gc
theorem SA.fr (h : SA c T w ob ib gb sb R nm T' q qa args vs wr) (hf : Fr S wr w2) (hT : ∀ k, T' k → ¬ S k) (hO : ¬ S ob) (hI : ¬ S ib) (hG : ¬ S gb) (hB : ¬ S sb) (hq : ∀ b, q.v.ownBlock = some b → ¬ S b) (ha : ∀ b, qa.v.ownBlock = some b → ¬ S b) (hS : ∀ k, S k → w.heap.size ≤ k) : SA c T w ob ib gb sb R nm T' q qa args vs w2 :=
  ⟨h.g.fr hf hT hO hI hq hS, (hf.cell (p := ⟨gb, 0, none⟩) h.gl hG).trans h.gc, (hf.frozen (p := ⟨gb, 0, none⟩) h.gl hG).trans h.gz, h.ga.fr hf ha, h.gt, h.gn, h.qt, h.st, h.sn, fun j v hv => (hf.cell (p := ⟨sb, j, none⟩) h.sl hB).trans (h.s j v hv), Nat.lt_of_lt_of_le h.sl hf.size⟩
theorem SA.new (h : SA c T w ob ib gb sb R nm T' q qa args vs wr) (hf : Fr nothing wr w2) : SA c T w ob ib gb sb R nm T' q qa args vs w2 := h.fr hf (fun _ _ => id) id id id id (fun _ _ => id) (fun _ _ => id) (fun _ e => e.elim)
theorem SA.call (h : SA c T w ob ib gb sb R nm T' q qa args vs wr) {w1 : World} (hf : Fr nothing wr w1) {v2 : Nat} {ws2 : List Bs} {T2 : Nat → Prop} (hR : RP c T' w1 v2 ws2 T2 w2) (hv : R.v ≤ v2) : SA c T w ob ib gb sb { R with v := v2, ws := ws2 } nm T2 q qa args vs w2 := by
  have h1 := h.new hf
  have nT : ∀ b, ¬ T' b → b < w1.heap.size → ¬ T2 b := fun b hb hl e => (hR.2.2 b e).elim hb (fun h => by omega)
  exact ⟨h.g.call hf hR hv, (hR.2.1.cell (p := ⟨gb, 0, none⟩) h1.gl h1.gt).trans h1.gc, (hR.2.1.frozen (p := ⟨gb, 0, none⟩) h1.gl h1.gt).trans h1.gz, h1.ga.fr hR.2.1 (fun b hb => (h1.qt b hb).1), nT _ h1.gt h1.gl, h.gn, fun b hb => ⟨nT _ (h1.qt b hb).1 (h1.ga.lt hb).2, (h1.qt b hb).2⟩, nT _ h1.st h1.sl, h.sn, fun j v hv => (hR.2.1.cell (p := ⟨sb, j, none⟩) h1.sl h1.st).trans (h1.s j v hv), Nat.lt_of_lt_of_le h1.sl hR.2.1.size⟩
/-- A statement's list of instructions begins. -/
theorem SG.begin (h : SG c T w ob ib R nm T' q wr) {a0 : Value} (O : Obj) (hO : ∃ t cs, O = .cells cs t ∧ vs = cs.toList) (gt : TypeId) (_ : a0 = .slice none 0 0) : SA c T w ob ib (wr.heap.size + 1) wr.heap.size R nm T' q nilS [] vs ((wr.alloc O).alloc (.cells #[a0] gt)) := by
  subst a0
  have hf1 : Fr nothing wr (wr.alloc O) := (Fr.refl _ _).alloc _
  have hf2 : Fr nothing (wr.alloc O) ((wr.alloc O).alloc (.cells #[.slice none 0 0] gt)) := (Fr.refl _ _).alloc _
  have hm := made_cells (cs := #[.slice none 0 0]) (t := gt) (w := wr.alloc O) (Fr.refl nothing _) id
  have hsz : (wr.alloc O).heap.size = wr.heap.size + 1 := by simp
  rw [hsz] at hm
  have hn := h.rp.1.tl
  have hw := h.rp.2.1.size
  have ho := h.ol
  have hi := h.il
  obtain ⟨t, cs, rfl, rfl⟩ := hO
  have hs := made_cells (cs := cs) (t := t) (w := wr) hf2 id
  refine ⟨(h.new hf1).new hf2, hm.1 0, hm.2.1 0, OwnI.nil _ _, fun e => by have := hn _ e; omega, ⟨by omega, by omega, by omega, fun e => by have := (h.ow.lt e).2; omega⟩, fun b hb => (by cases hb), fun e => by have := hn _ e; omega, ⟨by omega, by omega, by omega, by omega, fun e => by have := (h.ow.lt e).2; omega⟩, fun j v hv => ?_, hs.2.2⟩
  rw [hs.1 j]
  simpa using hv
/-- A piece more. -/
theorem SA.put (h : SA c T w ob ib gb sb R nm T' q qa args vs wr) {q3 : Slc} {ys : List In} (hs : Sl encI 3 wr q3.v ys) (hl : args.length + ys.length ≤ 1000000) :
    ∃ (q4 : Slc) (w4 : World), (Builtin.append_ #[38, 38] 38 #[.slice qa.a qa.n qa.c, .slice q3.a q3.n q3.c]).run Tryd.prog wr = .ok (.slice q4.a q4.n q4.c) w4 ∧ Fr (fun k => qa.v.ownBlock = some k) wr w4 ∧ SA c T w ob ib gb sb R nm T' q q4 (args ++ ys) vs (w4.setCell ⟨gb, 0, none⟩ (.slice q4.a q4.n q4.c)) := by
  obtain ⟨q4, w4, hrun, own4, hF4, hat4⟩ := h.ga.app hs h.g.rp.2.1.size hl
  have hg4 := (hF4.cell (p := ⟨gb, 0, none⟩) h.gl (fun e => (h.qt _ e).2.2.2.1 rfl)).trans h.gc
  have hz4 := (hF4.frozen (p := ⟨gb, 0, none⟩) h.gl (fun e => (h.qt _ e).2.2.2.1 rfl)).trans h.gz
  obtain ⟨e1, e2, hf5⟩ := set_one w4 gb 0 (.slice q4.a q4.n q4.c) hg4
  have hS : Fr (fun k => qa.v.ownBlock = some k ∨ k = gb) wr (w4.setCell ⟨gb, 0, none⟩ (.slice q4.a q4.n q4.c)) := (hF4.mono (fun _ _ e => .inl e)).trans (hf5.mono (fun _ _ e => .inr e))
  have hq4 : ∀ b, q4.v.ownBlock = some b → ¬ T' b ∧ b ≠ ob ∧ b ≠ ib ∧ b ≠ gb ∧ b ≠ sb ∧ ¬ q.v.ownBlock = some b := fun b hb => by
    rcases hat4 b hb with e | e
    · exact h.qt b e
    · have := h.g.ol
      have := h.g.il
      have := h.gl
      have := h.sl
      exact ⟨fun e => by have := h.g.rp.1.tl b e; omega, by omega, by omega, by omega, by omega, fun e => by have := (h.g.ow.lt e).2; omega⟩
  refine ⟨q4, w4, hrun, hF4, h.g.fr hS ?_ ?_ ?_ ?_ ?_, e1, by rw [World.frozen?_setCell]; exact hz4, own4.fr hf5 (fun b hb e => (hq4 b hb).2.2.2.1 e), h.gt, h.gn, hq4, h.st, h.sn, fun j v hv => (hS.cell (p := ⟨sb, j, none⟩) h.sl ?_).trans (h.s j v hv), Nat.lt_of_lt_of_le h.sl hS.size⟩
  · rintro k hk (e | e)
    · exact (h.qt k e).1 hk
    · exact h.gt (e ▸ hk)
  · rintro (e | e)
    · exact (h.qt _ e).2.1 rfl
    · exact h.gn.2.1 e.symm
  · rintro (e | e)
    · exact (h.qt _ e).2.2.1 rfl
    · exact h.gn.2.2.1 e.symm
  · rintro b hb (e | e)
    · exact (h.qt _ e).2.2.2.2.2 hb
    · exact h.gn.2.2.2 (e ▸ hb)
  · rintro k (e | e)
    · exact (h.ga.lt e).1
    · rw [e]; exact h.gn.1
  · rintro (e | e)
    · exact (h.qt _ e).2.2.2.2.1 rfl
    · exact h.sn.2.2.2.1 e
/-- The statement's end: something new is what there is. -/
theorem SA.out (h : SA c T w ob ib gb sb R nm T' q qa args vs wr) {q' : Slc} {is : List In} (hf : Fr (fun k => k = ob ∨ qa.v.ownBlock = some k) wr w2) (hc : w2.cell? ⟨ob, 0, none⟩ = some q'.v) (hz : w2.frozen? ⟨ob, 0, none⟩ = false) (ho : OwnI wr.heap.size q' is w2) : SG c T w ob ib { R with ins := is } nm T' q' w2 := by
  obtain ⟨k1, k2, k3⟩ := h.g.rp
  have n1 : ∀ k, w.heap.size ≤ k ∨ ¬ (k = ob ∨ qa.v.ownBlock = some k) := fun k => by
    by_cases hk : w.heap.size ≤ k
    · exact .inl hk
    · refine .inr ?_
      rintro (e | e)
      · have := h.g.on.1; omega
      · have := (h.ga.lt e).1; omega
  refine ⟨⟨k1.fr hf ?_ ?_, k2.then hf (fun k hk e => by rcases n1 k with h | h; omega; exact absurd e h), k3⟩, h.g.fl, hc, hz, ⟨ho.n, ho.row.mono k2.size⟩, h.g.a.fr hf ?_ h.g.a.t (Nat.le_refl _), h.g.ot, h.g.on, fun b hb => ?_⟩
  · rintro k hk (e | e)
    · exact h.g.ot (e ▸ hk)
    · exact (h.qt k e).1 hk
  · intro b hb e
    rcases n1 b with h1 | h1
    · have := h.g.fl b hb; omega
    · exact h1 e
  · rintro (e | e)
    · exact h.g.on.2.2 e.symm
    · exact (h.qt _ e).2.2.1 rfl
  · have := (ho.lt hb).1
    have := h.g.ol
    have := h.g.il
    exact ⟨fun e => by have := k1.tl b e; omega, by omega, by omega⟩
end
end Go.Proofs.YtkmdamljhagogaaDoor
end
section
/- The document's own answer: code of statements: steps. -/
set_option maxHeartbeats 0
set_option maxRecDepth 100000
namespace Go.Proofs.YtkmdamljhagogaaDoor
open Go Go.RowKit
section
variable {c : Rk} {T T' S : Nat → Prop} {w wr w2 : World} {ob ib gb sb : Nat} {R : KR} {nm : List Bs} {q qa : Slc} {args : List In} {vs : List Value}
theorem SA.one (h : SA c T w ob ib gb sb R nm T' q qa args vs wr) (op a : Int) (hop : op ≠ 15 ∧ op ≠ 16) (hno : NoJ args) (hl1 : R.ins.length ≤ 300000) (hl2 : args.length ≤ 300000) :
    Calls Tryd.prog 46 #[.int .i64 op, .int .i64 a, .pointer (some ⟨ob, 0, none⟩), .pointer (some ⟨gb, 0, none⟩)] wr fun e w' => e = .returned (.tuple #[]) ∧ ∃ q' : Slc, SG c T w ob ib { R with ins := R.ins ++ (args ++ [⟨op, a, 0⟩]) } nm T' q' w' := by
  refine (one_any ob gb w.heap.size w.heap.size q qa R.ins args wr op a h.g.o h.g.ow h.gc h.ga h.g.rp.2.1.size (fun b hb => ⟨(h.qt b hb).2.1, (h.qt b hb).2.2.2.1, (h.qt b hb).2.2.2.2.2⟩) h.g.oz hl1 hl2 (hno.app (fun x hx => by rw [List.mem_singleton.1 hx]; exact hop))).mono ?_
  rintro e w' ⟨rfl, q', h1, h2, h3, h4⟩
  exact ⟨rfl, q', h.out h3 h1 h4 h2⟩
theorem AtN.look {n : Nat} {E : Bs → Int} (h : AtN ib E nm n T w) {t : Bs} (hm : t ∈ nm) (ht : t.length ≤ 1500) : (Instr.lookup 55 (.map (some ib)) (.string (bs t)) false).run Tryd.prog w = .ok (.int .i64 (E t)) w := by
  obtain ⟨A, a1, a2, _⟩ := h.m
  rw [a1.look t (by omega), a2 t hm]
theorem SA.let_ (h : SA c T w ob ib gb sb R nm T' q qa args vs wr) (t : Bs) (ht : t.length ≤ 1500) (hv : R.v ≤ 100000) :
    ∃ w1, (Instr.mapUpdate 55 (.map (some ib)) (.string (bs t)) (.int .i64 (R.v : Nat))).run Tryd.prog wr = .ok () w1 ∧ Fr (fun k => k = ib) wr w1 ∧ w1.cell? ⟨c.mb, 2, none⟩ = some (.int .i64 (R.v : Nat)) ∧ w1.frozen? ⟨c.mb, 2, none⟩ = false ∧ c.mb < w1.heap.size ∧
      SA c T w ob ib gb sb { R with E := upd R.E t R.v, v := R.v + 1 } (nm ++ [t]) T' q qa args vs (w1.setCell ⟨c.mb, 2, none⟩ (.int .i64 (R.v + 1 : Nat))) := by
  obtain ⟨A, a1, a2, a3⟩ := h.g.a.m
  obtain ⟨w1, hrun, b1, hf⟩ := a1.store t (by omega) R.v (by omega) (by omega) (by omega)
  obtain ⟨k1, k2, k3⟩ := h.g.rp
  have niT : ∀ k, T' k → ¬ k = ib := fun k hk e => h.g.a.t (e ▸ hk)
  have k1' := k1.fr hf niT (fun b hb e => by have := h.g.fl b hb; have := h.g.on.2.1; omega)
  obtain ⟨v1, v2⟩ := k1'.vars (R.v + 1)
  have hF : Fr (fun k => k = ib ∨ k = c.mb) wr (w1.setCell ⟨c.mb, 2, none⟩ (.int .i64 (R.v + 1 : Nat))) := (hf.mono (fun _ _ e => .inl e)).trans (v2.mono (fun _ _ e => .inr e))
  have nm' : ∀ b, ¬ T' b → b ≠ c.mb := fun b hb e => hb (e ▸ k1.tm)
  refine ⟨w1, hrun, hf, k1'.c2, k1'.fz 2, k1'.ml, ⟨⟨v1, (k2.then hf (fun k hk e => by have := h.g.on.2.1; omega)).then v2 ?_, k3⟩, h.g.fl, ?_, ?_, h.g.ow.fr hF ?_, ⟨⟨A.put t R.v, b1.fr v2 (nm' _ h.g.a.t), fun u hu => ?_, ?_⟩, h.g.a.t⟩, h.g.ot, h.g.on, h.g.qt⟩, ?_, ?_, h.ga.fr hF ?_, h.gt, h.gn, h.qt, h.st, h.sn, fun j v hv => ?_, Nat.lt_of_lt_of_le h.sl hF.size⟩
  · intro k hk e
    rcases k3 c.mb k1.tm with h1 | h1
    · exact e ▸ h1
    · omega
  · refine (hF.cell (p := ⟨ob, 0, none⟩) h.g.ol ?_).trans h.g.o
    rintro (e | e)
    · exact h.g.on.2.2 e
    · exact nm' _ h.g.ot e
  · refine (hF.frozen (p := ⟨ob, 0, none⟩) h.g.ol ?_).trans h.g.oz
    rintro (e | e)
    · exact h.g.on.2.2 e
    · exact nm' _ h.g.ot e
  · rintro b hb (e | e)
    · exact (h.g.qt b hb).2.2 e
    · exact nm' _ (h.g.qt b hb).1 e
  · simp only [AMap.put, upd]
    by_cases hx : u = t
    · simp [hx]
    · rcases List.mem_append.1 hu with hu | hu
      · simp [hx, a2 u hu]
      · exact absurd (List.mem_singleton.1 hu) hx
  · unfold AMap.put
    simp only
    split <;> omega
  · refine (hF.cell (p := ⟨gb, 0, none⟩) h.gl ?_).trans h.gc
    rintro (e | e)
    · exact h.gn.2.2.1 e
    · exact nm' _ h.gt e
  · refine (hF.frozen (p := ⟨gb, 0, none⟩) h.gl ?_).trans h.gz
    rintro (e | e)
    · exact h.gn.2.2.1 e
    · exact nm' _ h.gt e
  · rintro b hb (e | e)
    · exact (h.qt b hb).2.2.1 e
    · exact nm' _ (h.qt b hb).1 e
  · refine (hF.cell (p := ⟨sb, j, none⟩) h.sl ?_).trans (h.s j v hv)
    rintro (e | e)
    · exact h.sn.2.2.1 e
    · exact nm' _ h.st e
end
/-- What statements' code is called for. -/
def SP (c : Rk) (T : Nat → Prop) (w : World) (R : KR) (e : Ending) (w' : World) : Prop :=
  ∃ (q : Slc) (T' : Nat → Prop), e = .returned (.slice q.a q.n q.c) ∧ OwnI w.heap.size q R.ins w' ∧ RP c T w R.v R.ws T' w' ∧ ∀ b, q.v.ownBlock = some b → ¬ T' b
mutual
def stKe : St → Prop
  | .mk k _ a x y => 1 ≤ k ∧ k ≤ 9 ∧ exsKd a ∧ stsKe x ∧ stsKe y
def stsKe : List St → Prop
  | [] => True
  | s :: l => stKe s ∧ stsKe l
end
theorem stsKe_mem : ∀ {l : List St}, stsKe l → ∀ x ∈ l, stKe x
  | y :: l, h, x, hx => by
    rw [stsKe] at h
    rcases List.mem_cons.1 hx with rfl | hx
    · exact h.1
    · exact stsKe_mem h.2 x hx
def RSts (l : List Fn) (L : List St) : Prop := ∀ (c : Rk) (T : Nat → Prop) (v : Nat) (ws : List Bs) (E : Bs → Int) (nm : List Bs) (ab : Nat) (sl : Slc) (rs : List RawS) (w : World), RI c T v ws w → FnNames c l → AtN ab E nm v T w → Sl encS 5 w sl.v rs → (∀ k, sl.v.ownBlock = some k → ap T w k) → Each (StOk w (ap T w)) rs L → stsU (HasN l) L nm → v + stsN L ≤ 100000 → ws.length + stsN L ≤ 100000 → stsN L ≤ 100000 → (∀ s ∈ L, StSh s) → stsKe L →
  Calls Tryd.prog 31 #[.pointer (some ⟨c.mb, 0, none⟩), .slice sl.a sl.n sl.c, .map (some ab)] w (SP c T w (stsK (gOf l) L E v ws 0))
theorem stsN_take_le (l : List St) (j : Nat) (hj : j < l.length) : stsN (l.take j) + stN l[j] ≤ stsN l := by
  induction l generalizing j with
  | nil => simp at hj
  | cons x l ih =>
    cases j with
    | zero => simp [stsN]
    | succ j =>
      have := ih j (by simpa using hj)
      rw [List.take_succ_cons, stsN, stsN]
      simp only [List.getElem_cons_succ]
      omega
mutual
theorem stK_v (G : Bs → Int) : ∀ (s : St) (E : Bs → Int) (v : Nat) (ws : List Bs) (o : Nat), v ≤ (stK G s E v ws o).v
  | .mk k t a x y, E, v, ws, o => by
    by_cases h1 : k = 1
    · subst h1; rw [stK_let rfl]; exact Nat.le_succ _
    by_cases h2 : k = 2
    · subst h2; rw [stK_set rfl]; exact Nat.le_refl _
    by_cases h3 : k = 3
    · subst h3
      rw [stK_if rfl rfl rfl]
      exact Nat.le_trans (stsK_v G x _ _ _ _) (stsK_v G y _ _ _ _)
    by_cases h4 : k = 4
    · subst h4
      rw [stK_while rfl rfl]
      exact stsK_v G x _ _ _ _
    · rw [stK_plain rfl h1 h2 h3 h4]; exact Nat.le_refl _
theorem stsK_v (G : Bs → Int) : ∀ (l : List St) (E : Bs → Int) (v : Nat) (ws : List Bs) (o : Nat), v ≤ (stsK G l E v ws o).v
  | [], E, v, ws, o => by rw [stsK_nil]; exact Nat.le_refl _
  | s :: l, E, v, ws, o => by
    rw [stsK_cons rfl rfl]
    exact Nat.le_trans (stK_v G s _ _ _ _) (stsK_v G l _ _ _ _)
end
end Go.Proofs.YtkmdamljhagogaaDoor
end
section
/- The document's own answer: code of statements: a copy of a list with an instruction behind it, in its three orders. -/
set_option maxHeartbeats 0
set_option maxRecDepth 100000
namespace Go.Proofs.YtkmdamljhagogaaDoor
open Go Go.RowKit
abbrev litO (i : In) : Obj := .cells #[.int .i64 i.op, .int .i64 i.a, .int .i64 i.b] 45
noncomputable abbrev appR (a b : Slc) (w : World) := (Builtin.append_ #[38, 38] 38 #[.slice a.a a.n a.c, .slice b.a b.n b.c]).run Tryd.prog w
theorem ordA (w : World) (qa : Slc) (xs : List In) (i : In) (hs : Sl encI 3 w qa.v xs) (hl : xs.length ≤ 900000) : ∃ (q5 : Slc) (W2 : World) (q7 : Slc) (W4 : World),
    appR ⟨some ⟨w.heap.size, 0, none⟩, 0, 0⟩ qa (w.alloc (.cells #[] 45)).drew = .ok (.slice q5.a q5.n q5.c) W2 ∧ Fr nothing w W2 ∧ appR q5 ⟨some ⟨W2.heap.size, 0, none⟩, 1, 1⟩ (W2.alloc (litO i)) = .ok (.slice q7.a q7.n q7.c) W4 ∧ Fr nothing w W4 ∧ OwnI w.heap.size q7 (xs ++ [i]) W4 := by
  have FA : Fr nothing w (w.alloc (.cells #[] 45)).drew := ((Fr.refl nothing w).alloc _).drew
  obtain ⟨q5, W2, r1, o1, F1, t1⟩ := ((OwnI.lit w (Nat.le_refl _)).fr (Fr.refl nothing _).drew (fun _ _ => id)).app (x := qa) (hs.fr FA (fun _ _ => id)) FA.size (by simp; omega)
  have F02 : Fr nothing w W2 := FA.then F1 (fun k hk e => by have : w.heap.size = k := Option.some.inj e; omega)
  have FB : Fr nothing W2 (W2.alloc (litO i)) := (Fr.refl _ _).alloc _
  obtain ⟨q7, W4, r2, o2, F2, t2⟩ := (o1.fr FB (fun _ _ => id)).app (x := ⟨some ⟨W2.heap.size, 0, none⟩, 1, 1⟩) (sl_litI W2 i) (Nat.le_trans F02.size FB.size) (by simp; omega)
  exact ⟨q5, W2, q7, W4, r1, F02, r2, (F02.trans FB).then F2 (fun k hk e => by have := (o1.lt e).1; omega), by simpa using o2⟩
theorem ordB (w : World) (qa : Slc) (xs : List In) (i : In) (hs : Sl encI 3 w qa.v xs) (hl : xs.length ≤ 900000) : ∃ (q5 : Slc) (W2 : World) (q7 : Slc) (W4 : World),
    appR ⟨some ⟨w.heap.size, 0, none⟩, 0, 0⟩ qa ((w.alloc (.cells #[] 45)).alloc (litO i)).drew = .ok (.slice q5.a q5.n q5.c) W2 ∧ Fr nothing w W2 ∧ appR q5 ⟨some ⟨w.heap.size + 1, 0, none⟩, 1, 1⟩ W2 = .ok (.slice q7.a q7.n q7.c) W4 ∧ Fr nothing w W4 ∧ OwnI w.heap.size q7 (xs ++ [i]) W4 := by
  have F1a : Fr nothing (w.alloc (.cells #[] 45)) ((w.alloc (.cells #[] 45)).alloc (litO i)).drew := ((Fr.refl nothing _).alloc _).drew
  have FA : Fr nothing w ((w.alloc (.cells #[] 45)).alloc (litO i)).drew := (((Fr.refl nothing w).alloc _).alloc _).drew
  have hl1 := (sl_litI (w.alloc (.cells #[] 45)) i).fr (Fr.refl nothing _).drew (fun _ _ => id)
  have hsz : (w.alloc (.cells #[] 45)).heap.size = w.heap.size + 1 := by simp
  rw [hsz] at hl1
  obtain ⟨q5, W2, r1, o1, F1, t1⟩ := ((OwnI.lit w (Nat.le_refl _)).fr F1a (fun _ _ => id)).app (x := qa) (hs.fr FA (fun _ _ => id)) FA.size (by simp; omega)
  have F02 : Fr nothing w W2 := FA.then F1 (fun k hk e => by have : w.heap.size = k := Option.some.inj e; omega)
  have hl2 := hl1.keep F1 (P := fun k => k = w.heap.size + 1) (fun b hb => by have : w.heap.size + 1 = b := Option.some.inj hb; exact this.symm) (fun k hk e => by have : w.heap.size = k := Option.some.inj e; omega)
  obtain ⟨q7, W4, r2, o2, F2, t2⟩ := o1.app (x := ⟨some ⟨w.heap.size + 1, 0, none⟩, 1, 1⟩) hl2 F02.size (by simp; omega)
  exact ⟨q5, W2, q7, W4, r1, F02, r2, F02.then F2 (fun k hk e => by have := (o1.lt e).1; omega), by simpa using o2⟩
theorem ordC (w : World) (qa : Slc) (xs : List In) (i : In) (hs : Sl encI 3 w qa.v xs) (hl : xs.length ≤ 900000) : ∃ (q5 : Slc) (W2 : World) (q7 : Slc) (W4 : World),
    appR ⟨some ⟨w.heap.size + 1, 0, none⟩, 0, 0⟩ qa ((w.alloc (litO i)).alloc (.cells #[] 45)).drew = .ok (.slice q5.a q5.n q5.c) W2 ∧ Fr nothing w W2 ∧ appR q5 ⟨some ⟨w.heap.size, 0, none⟩, 1, 1⟩ W2 = .ok (.slice q7.a q7.n q7.c) W4 ∧ Fr nothing w W4 ∧ OwnI w.heap.size q7 (xs ++ [i]) W4 := by
  have F1a : Fr nothing (w.alloc (litO i)) ((w.alloc (litO i)).alloc (.cells #[] 45)).drew := ((Fr.refl nothing _).alloc _).drew
  have FA : Fr nothing w ((w.alloc (litO i)).alloc (.cells #[] 45)).drew := (((Fr.refl nothing w).alloc _).alloc _).drew
  have hl1 := (sl_litI w i).fr F1a (fun _ _ => id)
  have hsz : (w.alloc (litO i)).heap.size = w.heap.size + 1 := by simp
  have hown := (OwnI.lit (base := w.heap.size) (w.alloc (litO i)) (by rw [hsz]; omega)).fr (Fr.refl nothing _).drew (fun _ _ => id)
  rw [hsz] at hown
  obtain ⟨q5, W2, r1, o1, F1, t1⟩ := hown.app (x := qa) (hs.fr FA (fun _ _ => id)) FA.size (by simp; omega)
  have F02 : Fr nothing w W2 := FA.then F1 (fun k hk e => by have : w.heap.size + 1 = k := Option.some.inj e; omega)
  have hl2 := hl1.keep F1 (P := fun k => k = w.heap.size) (fun b hb => by have : w.heap.size = b := Option.some.inj hb; exact this.symm) (fun k hk e => by have : w.heap.size + 1 = k := Option.some.inj e; omega)
  have nown : ∀ b, q5.v.ownBlock = some b → w.heap.size ≤ b := fun b hb => (o1.lt hb).1
  obtain ⟨q7, W4, r2, o2, F2, t2⟩ := o1.app (x := ⟨some ⟨w.heap.size, 0, none⟩, 1, 1⟩) hl2 F02.size (by simp; omega)
  exact ⟨q5, W2, q7, W4, r1, F02, r2, F02.then F2 (fun k hk e => by have := nown k e; omega), by simpa using o2⟩
theorem while_is (G E : Bs → Int) (v : Nat) (ws : List Bs) (t : Bs) (a : List Ex) (x y : List St) (A : XR) (X : KR) (hA : exsK G E a ws = A) (hX : stsK G x E v A.ws 0 = X) (o : Nat) :
    stK G (.mk 4 t a x y) E v ws o = ⟨shiftI (o : Nat) (((A.ins ++ [⟨16, ((A.ins.length : Nat) : Int) + ((X.ins.length : Nat) : Int) + 2, 0⟩]) ++ shiftI ((A.ins ++ [In.mk 16 (((A.ins.length : Nat) : Int) + ((X.ins.length : Nat) : Int) + 2) 0]).length : Nat) X.ins) ++ [⟨15, 0, 0⟩]), E, X.v, X.ws⟩ := by
  have h0 := stK_from G (.mk 4 t a x y) E v ws o
  have hx := stsK_from G x E v A.ws (0 + A.ins.length + 1)
  rw [hX] at hx
  have hw := stK_while (G := G) (E := E) (t := t) (a := a) (x := x) (y := y) (v := v) (ws := ws) (o := 0) hA rfl
  have hl : (stsK G x E v A.ws (0 + A.ins.length + 1)).ins.length = X.ins.length := by rw [hx.i, shiftI_len]
  rw [hl, hx.i, hx.v, hx.w] at hw
  rw [hw] at h0
  have e1 : ((0 + A.ins.length + X.ins.length + 2 : Nat) : Int) = ((A.ins.length : Nat) : Int) + ((X.ins.length : Nat) : Int) + 2 := by omega
  have e2 : 0 + A.ins.length + 1 = (A.ins ++ [(⟨16, ((A.ins.length : Nat) : Int) + ((X.ins.length : Nat) : Int) + 2, 0⟩ : In)]).length := by simp
  rw [e1, e2] at h0
  obtain ⟨i1, i2, i3, i4⟩ := h0
  generalize stK G (.mk 4 t a x y) E v ws o = Q at *
  obtain ⟨q1, q2, q3, q4⟩ := Q
  simp only at i1 i2 i3 i4
  subst i2 i3 i4
  rw [i1]
  simp
theorem if_is (G E : Bs → Int) (v : Nat) (ws : List Bs) (t : Bs) (a : List Ex) (x y : List St) (A : XR) (X Y : KR) (hA : exsK G E a ws = A) (hX : stsK G x E v A.ws 0 = X) (hY : stsK G y E X.v X.ws 0 = Y) (o : Nat) (P1 P2 P3 : List In) (h1 : P1 = A.ins ++ [⟨16, ((A.ins.length : Nat) : Int) + ((X.ins.length : Nat) : Int) + 2, 0⟩]) (h2 : P2 = P1 ++ shiftI (P1.length : Nat) X.ins) (h3 : P3 = P2 ++ [⟨15, ((A.ins.length : Nat) : Int) + ((X.ins.length : Nat) : Int) + 2 + ((Y.ins.length : Nat) : Int), 0⟩]) :
    stK G (.mk 3 t a x y) E v ws o = ⟨shiftI (o : Nat) (P3 ++ shiftI (P3.length : Nat) Y.ins), E, Y.v, Y.ws⟩ := by
  have h0 := stK_from G (.mk 3 t a x y) E v ws o
  have hx := stsK_from G x E v A.ws (0 + A.ins.length + 1)
  rw [hX] at hx
  have hw := stK_if (G := G) (E := E) (t := t) (a := a) (x := x) (y := y) (v := v) (ws := ws) (o := 0) hA rfl rfl
  have hl : (stsK G x E v A.ws (0 + A.ins.length + 1)).ins.length = X.ins.length := by rw [hx.i, shiftI_len]
  rw [hl, hx.i, hx.v, hx.w] at hw
  have hy := stsK_from G y E X.v X.ws (0 + A.ins.length + X.ins.length + 2)
  rw [hY] at hy
  have hm : (stsK G y E X.v X.ws (0 + A.ins.length + X.ins.length + 2)).ins.length = Y.ins.length := by rw [hy.i, shiftI_len]
  rw [hm, hy.i, hy.v, hy.w] at hw
  rw [hw] at h0
  have e1 : ((0 + A.ins.length + X.ins.length + 2 : Nat) : Int) = ((A.ins.length : Nat) : Int) + ((X.ins.length : Nat) : Int) + 2 := by omega
  have e3 : ((0 + A.ins.length + X.ins.length + 2 + Y.ins.length : Nat) : Int) = ((A.ins.length : Nat) : Int) + ((X.ins.length : Nat) : Int) + 2 + ((Y.ins.length : Nat) : Int) := by omega
  have e2 : 0 + A.ins.length + 1 = P1.length := by rw [h1]; simp
  have e4 : ((P3.length : Nat) : Int) = ((A.ins.length : Nat) : Int) + ((X.ins.length : Nat) : Int) + 2 := by
    have : P3.length = A.ins.length + X.ins.length + 2 := by rw [h3, h2, h1]; simp [shiftI_len]; omega
    omega
  rw [e3, e1, e2] at h0
  obtain ⟨i1, i2, i3, i4⟩ := h0
  generalize stK G (.mk 3 t a x y) E v ws o = Q at *
  obtain ⟨q1, q2, q3, q4⟩ := Q
  simp only at i1 i2 i3 i4
  subst i2 i3 i4
  rw [i1]
  rw [e4]
  rw [h3, h2]
  generalize P1.length = n1
  rw [h1]
  simp
end Go.Proofs.YtkmdamljhagogaaDoor
end
section
/- The document's own answer: code of statements: the end of an if and of a while. -/
set_option maxHeartbeats 0
set_option maxRecDepth 100000
namespace Go.Proofs.YtkmdamljhagogaaDoor
open Go Go.RowKit
/-- What is stored in the end. -/
theorem SA.stored {c : Rk} {T T' : Nat → Prop} {w W0 W4 W5 : World} {ob ib gb sb : Nat} {R Q : KR} {nm : List Bs} {q qa q8 : Slc} {args is : List In} {vs : List Value} (h : SA c T w ob ib gb sb R nm T' q qa args vs W0) (hF : Fr nothing W0 W4) (hfo : Fr (fun k => k = ob) W4 W5) (hc : W5.cell? ⟨ob, 0, none⟩ = some q8.v) (hz : W5.frozen? ⟨ob, 0, none⟩ = false) {b : Nat} (hb : W0.heap.size ≤ b) (own : OwnI b q8 is W4) (hQ : Q = { R with ins := is }) : SG c T w ob ib Q nm T' q8 W5 := by
  subst hQ
  refine h.out ((hF.mono (fun _ _ e => e.elim)).trans (hfo.mono (fun _ _ e => .inl e))) hc hz ?_
  have hne : ∀ k, q8.v.ownBlock = some k → ¬ k = ob := fun k hk e => by
    have := (own.lt hk).1
    have := h.g.ol
    omega
  have o2 := own.fr hfo hne
  exact ⟨o2.n, o2.row.mono hb⟩
theorem JOk.app {a b : List In} (ha : ∀ x ∈ a, JOk x) (hb : ∀ x ∈ b, JOk x) : ∀ x ∈ a ++ b, JOk x := fun x hx => by
  rcases List.mem_append.1 hx with h | h
  · exact ha x h
  · exact hb x h
theorem JOk.no {a : List In} (ha : NoJ a) : ∀ x ∈ a, JOk x := fun x hx e => by have := ha x hx; omega
theorem JOk.shift {l : List In} {n m : Nat} (h : JIn 0 n l) (hn : n + m ≤ 1000000) : ∀ x ∈ shiftI (m : Nat) l, JOk x := fun x hx => by
  unfold shiftI at hx
  obtain ⟨y, hy, rfl⟩ := List.mem_map.1 hx
  unfold shI
  by_cases e : y.op = 15 ∨ y.op = 16
  · rw [if_pos e]
    intro _
    have := h y hy e
    simp only
    omega
  · rw [if_neg e]
    exact fun e2 => absurd e2 e
theorem JOk.one {op a : Int} (h : 0 ≤ a ∧ a ≤ 1000000) : ∀ x ∈ [In.mk op a 0], JOk x := fun x hx => by
  rw [List.mem_singleton.1 hx]
  exact fun _ => h
end Go.Proofs.YtkmdamljhagogaaDoor
end
