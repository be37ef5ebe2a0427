/- The document's own answer: what an op takes and leaves. -/
import Derived.Test.YtgocmpooppejdaaRB
import Derived.Deep.RegionHeld3
set_option maxHeartbeats 0
set_option maxRecDepth 100000
namespace Go.Proofs.Ytgocmpooppejdaa
open Go Go.RowKit
abbrev pv (p : Int × Int) : Value := .agg #[.int .i64 p.1, .int .i64 p.2]
def pL : List Value → Option (DataW Unit × List MemPlace)
  | [.int .i64 a, .int .i64 b] => some (.agg [.lit (.int .i64 a), .lit (.int .i64 b)], [])
  | _ => none
def pE : Value → Option (DataW Unit × List MemPlace)
  | .agg cs => pL cs.toList
  | _ => none
def pD (p : Int × Int) : DataW Unit := .agg [.lit (.int .i64 p.1), .lit (.int .i64 p.2)]
theorem pE_pv (p : Int × Int) : pE (pv p) = some (pD p, []) := rfl
theorem pL_inv {l : List Value} {p : Int × Int} {ps : List MemPlace} (h : pL l = some (pD p, ps)) : l = [.int .i64 p.1, .int .i64 p.2] := by
  unfold pL at h
  split at h
  · simp only [pD, Option.some.injEq, Prod.mk.injEq, DataW.agg.injEq, List.cons.injEq, DataW.lit.injEq, Lit.int.injEq, true_and, and_true] at h
    obtain ⟨⟨h1, h2⟩, _⟩ := h
    rw [h1, h2]
  · cases h
theorem pE_inv {v : Value} {p : Int × Int} {ps : List MemPlace} (h : pE v = some (pD p, ps)) : v = pv p := by
  unfold pE at h
  split at h
  · have := pL_inv h
    rename_i cs
    obtain ⟨l⟩ := cs
    simp only at this
    subst this
    rfl
  · cases h
def PD : List (Int × Int × Int) → DataW Unit
  | [] => .map []
  | p :: l => (PD l).put (.int .i64 p.1) (pD p.2)
theorem PD_map : ∀ l, Maps.IsMap (PD l)
  | [] => ⟨[], rfl⟩
  | _ :: l => (PD_map l).put _ _
theorem PD_at (k : Int) : ∀ l, (PD l).atKey (.int .i64 k) (pD (0, 0)) = pD (((l.find? fun p => p.1 == k).map Prod.snd).getD (0, 0))
  | [] => rfl
  | p :: l => by
    by_cases h : p.1 = k
    · subst h
      show ((PD l).put _ _).atKey _ _ = _
      rw [Maps.atKey_put_same (PD_map l) (by trivial)]
      simp
    · show ((PD l).put _ _).atKey _ _ = _
      rw [Maps.atKey_put_other (by intro e; exact h (by cases e; rfl)), PD_at k l]
      have : (p.1 == k) = false := by simpa using h
      simp [this]
theorem zeroA2 (w : World) : (zeroValue 62).run Try.prog w = .ok (pv (0, 0)) w := by
  kernel_rfl
def shapesL : List (Int × Int × Int) := [(19, 1, 0), (18, 1, 0), (16, 1, 0), (15, 0, 0), (14, 1, 0), (13, 1, 1), (12, 0, 1), (11, 1, 1), (10, 2, 0), (9, 2, 0), (8, 1, 1), (7, 1, 1), (6, 2, 1), (5, 2, 1), (4, 1, 0), (3, 0, 1), (2, 0, 1), (1, 0, 1)]
/-- What an op takes, and leaves. -/
def shapeC (i : In) : Int × Int := if i.op = 17 then (i.b, 1) else ((shapesL.find? fun p => p.1 == i.op).map Prod.snd).getD (0, 0)
theorem shape_any (i : In) (w : World) (h0 : -9223372036854775808 ≤ i.op) (h1 : i.op ≤ 9223372036854775807) :
    Calls Try.prog 21 #[.agg #[.int .i64 i.op, .int .i64 i.a, .int .i64 i.b]] w fun e w' => e = .returned (.tuple #[.int .i64 (shapeC i).1, .int .i64 (shapeC i).2]) ∧ Fr nothing w w' := by
  have hmm := @run_makeMap Try.prog
  have hF0 : Fr nothing w (w.alloc (.cells #[.int .i64 i.op, .int .i64 i.a, .int .i64 i.b] 44)) := (Fr.refl _ _).alloc _
  have hc := made_cells (Fr.refl nothing (w.alloc (.cells #[.int .i64 i.op, .int .i64 i.a, .int .i64 i.b] 44))) id
  have c0 := hc.1 0
  have c1 := hc.1 1
  have c2 := hc.1 2
  have cl := hc.2.2
  by_cases h17 : i.op = 17
  · have e : shapeC i = (i.b, 1) := by unfold shapeC; rw [if_pos h17]
    rw [e]
    have HF := hide hF0
    rw [h17] at c0 c1 c2 cl HF ⊢
    clear hF0 hc e hmm
    go_enter Try.func21, Try.ntmps21
    go_wp2
    exact bodyPost_ret (v := .tuple #[.int .i64 i.b, .int .i64 1]) (by simp [results, Try.results21, go_sem]) rfl ⟨rfl, HF.out⟩
  have e : shapeC i = ((shapesL.find? fun p => p.1 == i.op).map Prod.snd).getD (0, 0) := by unfold shapeC; rw [if_neg h17]
  have h17b : (i.op == 17) = false := by simpa using h17
  obtain ⟨w0, hw0⟩ : ∃ w0, w0 = w.alloc (.cells #[.int .i64 i.op, .int .i64 i.a, .int .i64 i.b] 44) := ⟨_, rfl⟩
  rw [← hw0] at hF0 c0 c1 c2 cl
  have s1 : w0.heap.size = w.heap.size + 1 := by rw [hw0]; simp
  have m0 := World.ownsMap_made w0 Try.prog 3 pE
  obtain ⟨w1, r1, m1, g1⟩ := World.ownsMap.update m0 law3 Try.underlying75 (by unfold maxLen; omega) (key3 1 (by decide) (by decide)) (show pE (.agg #[.int .i64 0, .int .i64 1]) = some (pD (0, 1), []) from rfl)
  obtain ⟨w2, r2, m2, g2⟩ := World.ownsMap.update m1 law3 Try.underlying75 (by unfold maxLen; omega) (key3 2 (by decide) (by decide)) (show pE (.agg #[.int .i64 0, .int .i64 1]) = some (pD (0, 1), []) from rfl)
  obtain ⟨w3, r3, m3, g3⟩ := World.ownsMap.update m2 law3 Try.underlying75 (by unfold maxLen; omega) (key3 3 (by decide) (by decide)) (show pE (.agg #[.int .i64 0, .int .i64 1]) = some (pD (0, 1), []) from rfl)
  obtain ⟨w4, r4, m4, g4⟩ := World.ownsMap.update m3 law3 Try.underlying75 (by unfold maxLen; omega) (key3 4 (by decide) (by decide)) (show pE (.agg #[.int .i64 1, .int .i64 0]) = some (pD (1, 0), []) from rfl)
  obtain ⟨w5, r5, m5, g5⟩ := World.ownsMap.update m4 law3 Try.underlying75 (by unfold maxLen; omega) (key3 5 (by decide) (by decide)) (show pE (.agg #[.int .i64 2, .int .i64 1]) = some (pD (2, 1), []) from rfl)
  obtain ⟨w6, r6, m6, g6⟩ := World.ownsMap.update m5 law3 Try.underlying75 (by unfold maxLen; omega) (key3 6 (by decide) (by decide)) (show pE (.agg #[.int .i64 2, .int .i64 1]) = some (pD (2, 1), []) from rfl)
  obtain ⟨w7, r7, m7, g7⟩ := World.ownsMap.update m6 law3 Try.underlying75 (by unfold maxLen; omega) (key3 7 (by decide) (by decide)) (show pE (.agg #[.int .i64 1, .int .i64 1]) = some (pD (1, 1), []) from rfl)
  obtain ⟨w8, r8, m8, g8⟩ := World.ownsMap.update m7 law3 Try.underlying75 (by unfold maxLen; omega) (key3 8 (by decide) (by decide)) (show pE (.agg #[.int .i64 1, .int .i64 1]) = some (pD (1, 1), []) from rfl)
  obtain ⟨w9, r9, m9, g9⟩ := World.ownsMap.update m8 law3 Try.underlying75 (by unfold maxLen; omega) (key3 9 (by decide) (by decide)) (show pE (.agg #[.int .i64 2, .int .i64 0]) = some (pD (2, 0), []) from rfl)
  obtain ⟨w10, r10, m10, g10⟩ := World.ownsMap.update m9 law3 Try.underlying75 (by unfold maxLen; omega) (key3 10 (by decide) (by decide)) (show pE (.agg #[.int .i64 2, .int .i64 0]) = some (pD (2, 0), []) from rfl)
  obtain ⟨w11, r11, m11, g11⟩ := World.ownsMap.update m10 law3 Try.underlying75 (by unfold maxLen; omega) (key3 11 (by decide) (by decide)) (show pE (.agg #[.int .i64 1, .int .i64 1]) = some (pD (1, 1), []) from rfl)
  obtain ⟨w12, r12, m12, g12⟩ := World.ownsMap.update m11 law3 Try.underlying75 (by unfold maxLen; omega) (key3 12 (by decide) (by decide)) (show pE (.agg #[.int .i64 0, .int .i64 1]) = some (pD (0, 1), []) from rfl)
  obtain ⟨w13, r13, m13, g13⟩ := World.ownsMap.update m12 law3 Try.underlying75 (by unfold maxLen; omega) (key3 13 (by decide) (by decide)) (show pE (.agg #[.int .i64 1, .int .i64 1]) = some (pD (1, 1), []) from rfl)
  obtain ⟨w14, r14, m14, g14⟩ := World.ownsMap.update m13 law3 Try.underlying75 (by unfold maxLen; omega) (key3 14 (by decide) (by decide)) (show pE (.agg #[.int .i64 1, .int .i64 0]) = some (pD (1, 0), []) from rfl)
  obtain ⟨w15, r15, m15, g15⟩ := World.ownsMap.update m14 law3 Try.underlying75 (by unfold maxLen; omega) (key3 15 (by decide) (by decide)) (show pE (.agg #[.int .i64 0, .int .i64 0]) = some (pD (0, 0), []) from rfl)
  obtain ⟨w16, r16, m16, g16⟩ := World.ownsMap.update m15 law3 Try.underlying75 (by unfold maxLen; omega) (key3 16 (by decide) (by decide)) (show pE (.agg #[.int .i64 1, .int .i64 0]) = some (pD (1, 0), []) from rfl)
  obtain ⟨w17, r17, m17, g17⟩ := World.ownsMap.update m16 law3 Try.underlying75 (by unfold maxLen; omega) (key3 18 (by decide) (by decide)) (show pE (.agg #[.int .i64 1, .int .i64 0]) = some (pD (1, 0), []) from rfl)
  obtain ⟨w18, r18, m18, g18⟩ := World.ownsMap.update m17 law3 Try.underlying75 (by unfold maxLen; omega) (key3 19 (by decide) (by decide)) (show pE (.agg #[.int .i64 1, .int .i64 0]) = some (pD (1, 0), []) from rfl)
  have HF : Hid (Fr nothing w w18) := by
    have F0 : Fr (fun j => j = w0.heap.size) (w0.alloc (.map #[] 0)) (w0.alloc (.map #[] 0)) := Fr.refl _ _
    have F1 := F0.grown g1 (fun k hk => .inl (by simpa using hk.symm))
    have F2 := F1.grown g2 (fun k hk => .inl (by simpa using hk.symm))
    have F3 := F2.grown g3 (fun k hk => .inl (by simpa using hk.symm))
    have F4 := F3.grown g4 (fun k hk => .inl (by simpa using hk.symm))
    have F5 := F4.grown g5 (fun k hk => .inl (by simpa using hk.symm))
    have F6 := F5.grown g6 (fun k hk => .inl (by simpa using hk.symm))
    have F7 := F6.grown g7 (fun k hk => .inl (by simpa using hk.symm))
    have F8 := F7.grown g8 (fun k hk => .inl (by simpa using hk.symm))
    have F9 := F8.grown g9 (fun k hk => .inl (by simpa using hk.symm))
    have F10 := F9.grown g10 (fun k hk => .inl (by simpa using hk.symm))
    have F11 := F10.grown g11 (fun k hk => .inl (by simpa using hk.symm))
    have F12 := F11.grown g12 (fun k hk => .inl (by simpa using hk.symm))
    have F13 := F12.grown g13 (fun k hk => .inl (by simpa using hk.symm))
    have F14 := F13.grown g14 (fun k hk => .inl (by simpa using hk.symm))
    have F15 := F14.grown g15 (fun k hk => .inl (by simpa using hk.symm))
    have F16 := F15.grown g16 (fun k hk => .inl (by simpa using hk.symm))
    have F17 := F16.grown g17 (fun k hk => .inl (by simpa using hk.symm))
    have F18 := F17.grown g18 (fun k hk => .inl (by simpa using hk.symm))
    exact (hF0.alloc _).then F18 (fun k hk e => by omega)
  have hF0n : Fr nothing w0 w18 := by
    have F0 : Fr (fun j => j = w0.heap.size) (w0.alloc (.map #[] 0)) (w0.alloc (.map #[] 0)) := Fr.refl _ _
    have F1 := F0.grown g1 (fun k hk => .inl (by simpa using hk.symm))
    have F2 := F1.grown g2 (fun k hk => .inl (by simpa using hk.symm))
    have F3 := F2.grown g3 (fun k hk => .inl (by simpa using hk.symm))
    have F4 := F3.grown g4 (fun k hk => .inl (by simpa using hk.symm))
    have F5 := F4.grown g5 (fun k hk => .inl (by simpa using hk.symm))
    have F6 := F5.grown g6 (fun k hk => .inl (by simpa using hk.symm))
    have F7 := F6.grown g7 (fun k hk => .inl (by simpa using hk.symm))
    have F8 := F7.grown g8 (fun k hk => .inl (by simpa using hk.symm))
    have F9 := F8.grown g9 (fun k hk => .inl (by simpa using hk.symm))
    have F10 := F9.grown g10 (fun k hk => .inl (by simpa using hk.symm))
    have F11 := F10.grown g11 (fun k hk => .inl (by simpa using hk.symm))
    have F12 := F11.grown g12 (fun k hk => .inl (by simpa using hk.symm))
    have F13 := F12.grown g13 (fun k hk => .inl (by simpa using hk.symm))
    have F14 := F13.grown g14 (fun k hk => .inl (by simpa using hk.symm))
    have F15 := F14.grown g15 (fun k hk => .inl (by simpa using hk.symm))
    have F16 := F15.grown g16 (fun k hk => .inl (by simpa using hk.symm))
    have F17 := F16.grown g17 (fun k hk => .inl (by simpa using hk.symm))
    have F18 := F17.grown g18 (fun k hk => .inl (by simpa using hk.symm))
    exact ((Fr.refl nothing w0).alloc _).then F18 (fun k hk e => by omega)
  have hlk : (Instr.lookup 75 (.map (some w0.heap.size)) (.int .i64 i.op) false).run Try.prog w18 = .ok (pv (shapeC i)) w18 := by
    obtain ⟨v, ps, hrun, hv⟩ := World.ownsMap.lookup m18 law3 Try.underlying75 (zeroA2 w18) (pE_pv (0, 0)) (key3 i.op h0 h1)
    have hv' : pE v = some (pD (shapeC i), ps) := by
      rw [e]
      rw [← PD_at]
      exact hv
    rw [hrun, pE_inv hv']
  obtain ⟨sp, hsp⟩ : ∃ sp, shapeC i = sp := ⟨_, rfl⟩
  rw [hsp] at hlk ⊢
  have x0 := (hF0n.cell (p := ⟨w.heap.size, 0, none⟩) cl id).trans c0
  have xl := Nat.lt_of_lt_of_le cl hF0n.size
  have hm2 := made_cells (Fr.refl nothing (w18.alloc (.cells #[.int .i64 sp.1, .int .i64 sp.2] 62))) id
  have hF3 : Hid (Fr nothing w (w18.alloc (.cells #[.int .i64 sp.1, .int .i64 sp.2] 62))) := HF.out.alloc _
  have y0 := hm2.1 0
  have y1 := hm2.1 1
  have yl := hm2.2.2
  have hw0' : w.alloc (.cells #[.int .i64 i.op, .int .i64 i.a, .int .i64 i.b] 44) = w0 := hw0.symm
  clear hF0 hc e HF hF0n hm2 s1 hw0 m0 m1 m2 m3 m4 m5 m6 m7 m8 m9 m10 m11 m12 m13 m14 m15 m16 m17 m18 g1 g2 g3 g4 g5 g6 g7 g8 g9 g10 g11 g12 g13 g14 g15 g16 g17 g18
  go_enter Try.func21, Try.ntmps21
  go_wp2
  refine wp_region_held_drew (S := fun w' => w'.cell? ⟨w18.heap.size, 0, none⟩ = some (.int .i64 sp.1) ∧ w'.cell? ⟨w18.heap.size, 1, none⟩ = some (.int .i64 sp.2)) (by kernel_rfl) ⟨y0, y1⟩ (fun hHeld => ?_)
  refine wpAnyH_take (i := 0) (oi := { dst := some 33, op := Op.indexAddr 62 (Operand.tmp 4) (Operand.const (Value.int IntKind.i64 0)), type := 0, pos := "ref.go:15", after := #[], guard := none }) (v := ?v1) rfl (by kernel_rfl) (by kernel_rfl) (by kernel_rfl) (fun _ _ _ h => h) (Or.inl ⟨by rfl, ?hy1⟩) (by assumption) ?rest1
  case hy1 => (intro w hSw; (try dsimp only at hSw); obtain ⟨hS1, hS2⟩ := hSw; go_simp; try with_reducible rfl)
  try simp only [Act.put, List.setIfInBounds_toArray, List.set_cons_zero, List.set_cons_succ]
  refine wpAnyH_take (i := 1) (oi := { dst := some 34, op := Op.load 3 (Operand.tmp 33), type := 3, pos := "ref.go:15", after := #[{ on := 0, ground := Ground.data }], guard := none }) (v := ?v2) rfl (by kernel_rfl) (by kernel_rfl) (by kernel_rfl) (fun _ _ _ h => h) (Or.inl ⟨by rfl, ?hy2⟩) (by assumption) ?rest2
  case hy2 => (intro w hSw; (try dsimp only at hSw); obtain ⟨hS1, hS2⟩ := hSw; go_simp; try with_reducible rfl)
  try simp only [Act.put, List.setIfInBounds_toArray, List.set_cons_zero, List.set_cons_succ]
  refine wpAnyH_take (i := 2) (oi := { dst := some 35, op := Op.indexAddr 62 (Operand.tmp 4) (Operand.const (Value.int IntKind.i64 1)), type := 0, pos := "ref.go:15", after := #[{ on := 4, ground := Ground.gcOnly Departure.lateStores }], guard := none }) (v := ?v3) rfl (by kernel_rfl) (by kernel_rfl) (by kernel_rfl) (fun _ _ _ h => h) (Or.inl ⟨by rfl, ?hy3⟩) (by assumption) ?rest3
  case hy3 => (intro w hSw; (try dsimp only at hSw); obtain ⟨hS1, hS2⟩ := hSw; go_simp; try with_reducible rfl)
  try simp only [Act.put, List.setIfInBounds_toArray, List.set_cons_zero, List.set_cons_succ]
  refine wpAnyH_take (i := 3) (oi := { dst := some 36, op := Op.load 3 (Operand.tmp 35), type := 3, pos := "ref.go:15", after := #[{ on := 2, ground := Ground.data }, { on := 4, ground := Ground.gcOnly Departure.lateStores }], guard := none }) (v := ?v4) rfl (by kernel_rfl) (by kernel_rfl) (by kernel_rfl) (fun _ _ _ h => h) (Or.inl ⟨by rfl, ?hy4⟩) (by assumption) ?rest4
  case hy4 => (intro w hSw; (try dsimp only at hSw); obtain ⟨hS1, hS2⟩ := hSw; go_simp; try with_reducible rfl)
  try simp only [Act.put, List.setIfInBounds_toArray, List.set_cons_zero, List.set_cons_succ]
  refine wpAnyH_take (i := 4) (oi := { dst := some 2, op := Op.assign (Operand.tmp 34), type := 3, pos := "ref.go:15", after := #[{ on := 1, ground := Ground.data }, { on := 0, ground := Ground.phase }, { on := 1, ground := Ground.phase }, { on := 2, ground := Ground.textOnly Departure.lateStores }, { on := 3, ground := Ground.textOnly Departure.lateStores }], guard := none }) (v := ?v5) rfl (by kernel_rfl) (by kernel_rfl) (by kernel_rfl) (fun _ _ _ h => h) (Or.inl ⟨by rfl, ?hy5⟩) (by assumption) ?rest5
  case hy5 => (intro w hSw; (try dsimp only at hSw); obtain ⟨hS1, hS2⟩ := hSw; go_simp; try with_reducible rfl)
  try simp only [Act.put, List.setIfInBounds_toArray, List.set_cons_zero, List.set_cons_succ]
  refine wpAnyH_take (i := 5) (oi := { dst := some 3, op := Op.assign (Operand.tmp 36), type := 3, pos := "ref.go:15", after := #[{ on := 3, ground := Ground.data }, { on := 4, ground := Ground.chain }, { on := 0, ground := Ground.phase }, { on := 1, ground := Ground.phase }, { on := 2, ground := Ground.phase }, { on := 3, ground := Ground.phase }, { on := 4, ground := Ground.phase }], guard := none }) (v := ?v6) rfl (by kernel_rfl) (by kernel_rfl) (by kernel_rfl) (fun _ _ _ h => h) (Or.inl ⟨by rfl, ?hy6⟩) (by assumption) ?rest6
  case hy6 => (intro w hSw; (try dsimp only at hSw); obtain ⟨hS1, hS2⟩ := hSw; go_simp; try with_reducible rfl)
  try simp only [Act.put, List.setIfInBounds_toArray, List.set_cons_zero, List.set_cons_succ]
  refine wpAnyH_done (by kernel_rfl) ?_ _
  go_wp2_with fail
  exact bodyPost_ret (v := .tuple #[.int .i64 sp.1, .int .i64 sp.2]) (by simp [results, Try.results21, go_sem]) rfl ⟨rfl, hF3.out.drew⟩
end Go.Proofs.Ytgocmpooppejdaa
