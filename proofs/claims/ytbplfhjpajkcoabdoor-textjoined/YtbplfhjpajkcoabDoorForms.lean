/- The words of the language: the map of forms. -/
import Derived.Test.YtbplfhjpajkcoabDoorBase
import Derived.Deep.RegionHeld3
import Derived.Maps.Views
import Derived.StringKeys
namespace Go.Proofs.YtbplfhjpajkcoabDoor
open Go.RowKit
def bs (l : Bs) : ByteArray := ⟨l.toArray⟩
theorem bs_list (l : Bs) : (bs l).data.toList = l := rfl
theorem bs_size (l : Bs) : (bs l).size = l.length := by simp [bs, ByteArray.size]
abbrev fv (f : Form) : Value := .agg #[.int .i64 f.s, .int .i64 f.x, .int .i64 f.o, .int .i64 f.n]
def fL : List Value → Option (DataW Unit × List MemPlace)
  | [.int .i64 a, .int .i64 b, .int .i64 c, .int .i64 d] => some (.agg [.lit (.int .i64 a), .lit (.int .i64 b), .lit (.int .i64 c), .lit (.int .i64 d)], [])
  | _ => none
def fE : Value → Option (DataW Unit × List MemPlace)
  | .agg cs => fL cs.toList
  | _ => none
def fD (f : Form) : DataW Unit := .agg [.lit (.int .i64 f.s), .lit (.int .i64 f.x), .lit (.int .i64 f.o), .lit (.int .i64 f.n)]
theorem fE_fv (f : Form) : fE (fv f) = some (fD f, []) := rfl
theorem fL_inv {l : List Value} {f : Form} {ps : List MemPlace} (h : fL l = some (fD f, ps)) : l = [.int .i64 f.s, .int .i64 f.x, .int .i64 f.o, .int .i64 f.n] := by
  unfold fL at h
  split at h
  · simp only [fD, Option.some.injEq, Prod.mk.injEq, DataW.agg.injEq, List.cons.injEq, DataW.lit.injEq, Lit.int.injEq, true_and, and_true] at h
    obtain ⟨⟨rfl, rfl, rfl, rfl⟩, _⟩ := h
    rfl
  · cases h
theorem fE_inv {v : Value} {f : Form} {ps : List MemPlace} (h : fE v = some (fD f, ps)) : v = fv f := by
  unfold fE at h
  split at h
  · have := fL_inv h
    rename_i cs
    obtain ⟨l⟩ := cs
    simp only at this
    subst this
    rfl
  · cases h
def DD : List (Bs × Form) → DataW Unit
  | [] => .map []
  | p :: l => (DD l).put (.string p.1) (fD p.2)
theorem DD_map : ∀ l, Maps.IsMap (DD l)
  | [] => ⟨[], rfl⟩
  | _ :: l => (DD_map l).put _ _
theorem DD_at (k : Bs) : ∀ l, (DD l).atKey (.string k) (fD form0) = fD (((l.find? fun p => p.1 == k).map Prod.snd).getD form0)
  | [] => rfl
  | p :: l => by
    by_cases h : p.1 = k
    · subst h
      show ((DD l).put _ _).atKey _ _ = _
      rw [Maps.atKey_put_same (DD_map l) (by trivial)]
      simp
    · show ((DD l).put _ _).atKey _ _ = _
      rw [Maps.atKey_put_other (by intro e; exact h (by cases e; rfl)), DD_at k l]
      have : (p.1 == k) = false := by simpa using h
      simp [this]
/-- The block b holds the words of the language. -/
def FM (b : Nat) (w : World) : Prop := w.ownsMap Tryd.prog 9 fE b 20 (DD formsL)
theorem FM.fr {b : Nat} {w w' : World} {S : Nat → Prop} (h : FM b w) (hf : Fr S w w') (hs : ¬ S b) : FM b w' := by
  have hlt := World.ownsMap.lt h
  obtain ⟨es, clock, hb, F, hz, hD⟩ := h
  exact ⟨es, clock, (hf.block b hlt hs).trans hb, F, hz, hD⟩
theorem law9 : Maps.Keyed Tryd.prog 9 := Maps.string_keyed Tryd.underlying9
theorem zero80 (w : World) : (zeroValue 80).run Tryd.prog w = .ok (fv form0) w := by
  kernel_rfl
theorem FM.look {b : Nat} {w : World} (h : FM b w) (k : Bs) (hk : k.length ≤ maxLen) : (Instr.lookup 45 (.map (some b)) (.string (bs k)) false).run Tryd.prog w = .ok (fv (formOf k)) w := by
  obtain ⟨v, ps, hrun, hv⟩ := World.ownsMap.lookup h law9 Tryd.underlying45 (zero80 w) (fE_fv form0) (WideMaps.keyOf_string_mk Tryd.underlying9 (s := bs k) (by rw [bs_size]; exact hk))
  rw [bs_list, DD_at] at hv
  rw [hrun, fE_inv (f := formOf k) hv]
set_option maxHeartbeats 1000000 in
set_option maxRecDepth 20000 in
theorem forms_any (w : World) : Calls Tryd.prog 16 #[] w fun e w' => e = .returned (.map (some w.heap.size)) ∧ FM w.heap.size w' ∧ Below w.heap.size w w' := by
  have hmm := @run_makeMap Tryd.prog
  have h0 := World.ownsMap_made w Tryd.prog 9 fE
  obtain ⟨w1, r1, h1, g1⟩ := World.ownsMap.update h0 law9 Tryd.underlying45 (by unfold maxLen; omega) (WideMaps.keyOf_string_mk Tryd.underlying9 (s := ⟨#[108, 101, 116]⟩) (by decide)) (show fE (.agg #[.int .i64 1, .int .i64 0, .int .i64 0, .int .i64 1]) = some (fD ⟨1, 0, 0, 1⟩, []) from rfl)
  obtain ⟨w2, r2, h2, g2⟩ := World.ownsMap.update h1 law9 Tryd.underlying45 (by unfold maxLen; omega) (WideMaps.keyOf_string_mk Tryd.underlying9 (s := ⟨#[115, 101, 116]⟩) (by decide)) (show fE (.agg #[.int .i64 2, .int .i64 0, .int .i64 0, .int .i64 1]) = some (fD ⟨2, 0, 0, 1⟩, []) from rfl)
  obtain ⟨w3, r3, h3, g3⟩ := World.ownsMap.update h2 law9 Tryd.underlying45 (by unfold maxLen; omega) (WideMaps.keyOf_string_mk Tryd.underlying9 (s := ⟨#[105, 102]⟩) (by decide)) (show fE (.agg #[.int .i64 3, .int .i64 0, .int .i64 0, .int .i64 1]) = some (fD ⟨3, 0, 0, 1⟩, []) from rfl)
  obtain ⟨w4, r4, h4, g4⟩ := World.ownsMap.update h3 law9 Tryd.underlying45 (by unfold maxLen; omega) (WideMaps.keyOf_string_mk Tryd.underlying9 (s := ⟨#[119, 104, 105, 108, 101]⟩) (by decide)) (show fE (.agg #[.int .i64 4, .int .i64 0, .int .i64 0, .int .i64 1]) = some (fD ⟨4, 0, 0, 1⟩, []) from rfl)
  obtain ⟨w5, r5, h5, g5⟩ := World.ownsMap.update h4 law9 Tryd.underlying45 (by unfold maxLen; omega) (WideMaps.keyOf_string_mk Tryd.underlying9 (s := ⟨#[115, 97, 121]⟩) (by decide)) (show fE (.agg #[.int .i64 5, .int .i64 0, .int .i64 0, .int .i64 1]) = some (fD ⟨5, 0, 0, 1⟩, []) from rfl)
  obtain ⟨w6, r6, h6, g6⟩ := World.ownsMap.update h5 law9 Tryd.underlying45 (by unfold maxLen; omega) (WideMaps.keyOf_string_mk Tryd.underlying9 (s := ⟨#[114, 101, 116, 117, 114, 110]⟩) (by decide)) (show fE (.agg #[.int .i64 6, .int .i64 0, .int .i64 0, .int .i64 1]) = some (fD ⟨6, 0, 0, 1⟩, []) from rfl)
  obtain ⟨w7, r7, h7, g7⟩ := World.ownsMap.update h6 law9 Tryd.underlying45 (by unfold maxLen; omega) (WideMaps.keyOf_string_mk Tryd.underlying9 (s := ⟨#[112, 117, 116, 108]⟩) (by decide)) (show fE (.agg #[.int .i64 7, .int .i64 0, .int .i64 0, .int .i64 2]) = some (fD ⟨7, 0, 0, 2⟩, []) from rfl)
  obtain ⟨w8, r8, h8, g8⟩ := World.ownsMap.update h7 law9 Tryd.underlying45 (by unfold maxLen; omega) (WideMaps.keyOf_string_mk Tryd.underlying9 (s := ⟨#[112, 117, 116, 114]⟩) (by decide)) (show fE (.agg #[.int .i64 8, .int .i64 0, .int .i64 0, .int .i64 2]) = some (fD ⟨8, 0, 0, 2⟩, []) from rfl)
  obtain ⟨w9, r9, h9, g9⟩ := World.ownsMap.update h8 law9 Tryd.underlying45 (by unfold maxLen; omega) (WideMaps.keyOf_string_mk Tryd.underlying9 (s := ⟨#[100, 111]⟩) (by decide)) (show fE (.agg #[.int .i64 9, .int .i64 0, .int .i64 0, .int .i64 1]) = some (fD ⟨9, 0, 0, 1⟩, []) from rfl)
  obtain ⟨w10, r10, h10, g10⟩ := World.ownsMap.update h9 law9 Tryd.underlying45 (by unfold maxLen; omega) (WideMaps.keyOf_string_mk Tryd.underlying9 (s := ⟨#[99, 101, 108, 108]⟩) (by decide)) (show fE (.agg #[.int .i64 0, .int .i64 5, .int .i64 0, .int .i64 2]) = some (fD ⟨0, 5, 0, 2⟩, []) from rfl)
  obtain ⟨w11, r11, h11, g11⟩ := World.ownsMap.update h10 law9 Tryd.underlying45 (by unfold maxLen; omega) (WideMaps.keyOf_string_mk Tryd.underlying9 (s := ⟨#[108, 101, 102, 116]⟩) (by decide)) (show fE (.agg #[.int .i64 0, .int .i64 6, .int .i64 0, .int .i64 1]) = some (fD ⟨0, 6, 0, 1⟩, []) from rfl)
  obtain ⟨w12, r12, h12, g12⟩ := World.ownsMap.update h11 law9 Tryd.underlying45 (by unfold maxLen; omega) (WideMaps.keyOf_string_mk Tryd.underlying9 (s := ⟨#[114, 105, 103, 104, 116]⟩) (by decide)) (show fE (.agg #[.int .i64 0, .int .i64 7, .int .i64 0, .int .i64 1]) = some (fD ⟨0, 7, 0, 1⟩, []) from rfl)
  obtain ⟨w13, r13, h13, g13⟩ := World.ownsMap.update h12 law9 Tryd.underlying45 (by unfold maxLen; omega) (WideMaps.keyOf_string_mk Tryd.underlying9 (s := ⟨#[97, 115, 107]⟩) (by decide)) (show fE (.agg #[.int .i64 0, .int .i64 8, .int .i64 0, .int .i64 1]) = some (fD ⟨0, 8, 0, 1⟩, []) from rfl)
  obtain ⟨w14, r14, h14, g14⟩ := World.ownsMap.update h13 law9 Tryd.underlying45 (by unfold maxLen; omega) (WideMaps.keyOf_string_mk Tryd.underlying9 (s := ⟨#[104, 101, 114, 101]⟩) (by decide)) (show fE (.agg #[.int .i64 0, .int .i64 9, .int .i64 0, .int .i64 0]) = some (fD ⟨0, 9, 0, 0⟩, []) from rfl)
  obtain ⟨w15, r15, h15, g15⟩ := World.ownsMap.update h14 law9 Tryd.underlying45 (by unfold maxLen; omega) (WideMaps.keyOf_string_mk Tryd.underlying9 (s := ⟨#[103, 111]⟩) (by decide)) (show fE (.agg #[.int .i64 0, .int .i64 10, .int .i64 0, .int .i64 1]) = some (fD ⟨0, 10, 0, 1⟩, []) from rfl)
  obtain ⟨w16, r16, h16, g16⟩ := World.ownsMap.update h15 law9 Tryd.underlying45 (by unfold maxLen; omega) (WideMaps.keyOf_string_mk Tryd.underlying9 (s := ⟨#[43]⟩) (by decide)) (show fE (.agg #[.int .i64 0, .int .i64 4, .int .i64 1, .int .i64 2]) = some (fD ⟨0, 4, 1, 2⟩, []) from rfl)
  obtain ⟨w17, r17, h17, g17⟩ := World.ownsMap.update h16 law9 Tryd.underlying45 (by unfold maxLen; omega) (WideMaps.keyOf_string_mk Tryd.underlying9 (s := ⟨#[45]⟩) (by decide)) (show fE (.agg #[.int .i64 0, .int .i64 4, .int .i64 2, .int .i64 2]) = some (fD ⟨0, 4, 2, 2⟩, []) from rfl)
  obtain ⟨w18, r18, h18, g18⟩ := World.ownsMap.update h17 law9 Tryd.underlying45 (by unfold maxLen; omega) (WideMaps.keyOf_string_mk Tryd.underlying9 (s := ⟨#[42]⟩) (by decide)) (show fE (.agg #[.int .i64 0, .int .i64 4, .int .i64 3, .int .i64 2]) = some (fD ⟨0, 4, 3, 2⟩, []) from rfl)
  obtain ⟨w19, r19, h19, g19⟩ := World.ownsMap.update h18 law9 Tryd.underlying45 (by unfold maxLen; omega) (WideMaps.keyOf_string_mk Tryd.underlying9 (s := ⟨#[60]⟩) (by decide)) (show fE (.agg #[.int .i64 0, .int .i64 4, .int .i64 4, .int .i64 2]) = some (fD ⟨0, 4, 4, 2⟩, []) from rfl)
  obtain ⟨w20, r20, h20, g20⟩ := World.ownsMap.update h19 law9 Tryd.underlying45 (by unfold maxLen; omega) (WideMaps.keyOf_string_mk Tryd.underlying9 (s := ⟨#[61]⟩) (by decide)) (show fE (.agg #[.int .i64 0, .int .i64 4, .int .i64 5, .int .i64 2]) = some (fD ⟨0, 4, 5, 2⟩, []) from rfl)
  have HB : Hid (Below w.heap.size w w20) := by
    have F0 : Fr (fun j => j = w.heap.size) (w.alloc (.map #[] 0)) (w.alloc (.map #[] 0)) := Fr.refl _ _
    have F1 := F0.grown g1 (fun k hk => .inl (by simpa using hk.symm))
    have F2 := F1.grown g2 (fun k hk => .inl (by simpa using hk.symm))
    have F3 := F2.grown g3 (fun k hk => .inl (by simpa using hk.symm))
    have F4 := F3.grown g4 (fun k hk => .inl (by simpa using hk.symm))
    have F5 := F4.grown g5 (fun k hk => .inl (by simpa using hk.symm))
    have F6 := F5.grown g6 (fun k hk => .inl (by simpa using hk.symm))
    have F7 := F6.grown g7 (fun k hk => .inl (by simpa using hk.symm))
    have F8 := F7.grown g8 (fun k hk => .inl (by simpa using hk.symm))
    have F9 := F8.grown g9 (fun k hk => .inl (by simpa using hk.symm))
    have F10 := F9.grown g10 (fun k hk => .inl (by simpa using hk.symm))
    have F11 := F10.grown g11 (fun k hk => .inl (by simpa using hk.symm))
    have F12 := F11.grown g12 (fun k hk => .inl (by simpa using hk.symm))
    have F13 := F12.grown g13 (fun k hk => .inl (by simpa using hk.symm))
    have F14 := F13.grown g14 (fun k hk => .inl (by simpa using hk.symm))
    have F15 := F14.grown g15 (fun k hk => .inl (by simpa using hk.symm))
    have F16 := F15.grown g16 (fun k hk => .inl (by simpa using hk.symm))
    have F17 := F16.grown g17 (fun k hk => .inl (by simpa using hk.symm))
    have F18 := F17.grown g18 (fun k hk => .inl (by simpa using hk.symm))
    have F19 := F18.grown g19 (fun k hk => .inl (by simpa using hk.symm))
    have F20 := F19.grown g20 (fun k hk => .inl (by simpa using hk.symm))
    exact ((Below.refl _ w).alloc (Nat.le_refl _) _).trans (F20.below (by simp) (fun j hj e => by omega))
  have HM : Hid (FM w.heap.size w20) := h20
  clear g1 g2 g3 g4 g5 g6 g7 g8 g9 g10 g11 g12 g13 g14 g15 g16 g17 g18 g19 g20 h0 h1 h2 h3 h4 h5 h6 h7 h8 h9 h10 h11 h12 h13 h14 h15 h16 h17 h18 h19 h20
  go_enter Tryd.func16, Tryd.ntmps16
  go_wp2
  go_ret
  exact ⟨rfl, HM.out, HB.out⟩
end Go.Proofs.YtbplfhjpajkcoabDoor
