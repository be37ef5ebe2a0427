/- Elements of lists in memory; the checker of the document's own answer. -/
import Derived.Test.YtkmdamljhagogaaDoorParse
import Derived.Test.YtkmdamljhagogaaDoorSpec
namespace Go.Proofs.YtkmdamljhagogaaDoor
open Go.RowKit

theorem sl_elem4 {w : World} {s : Slc} {rs : List RawE} (h : Sl encE 4 w s.v rs) {i : Nat} {r : RawE} (hi : rs[i]? = some r) : ∃ b off, s.a = some ⟨b, off, none⟩ ∧ s.n = rs.length ∧ b < w.heap.size ∧ w.cell? ⟨b, off + i * 4, none⟩ = some (.int .i64 r.k) ∧ w.cell? ⟨b, off + i * 4 + 1, none⟩ = some (.int .i64 r.n) ∧ w.cell? ⟨b, off + i * 4 + 2, none⟩ = some (.string (bs r.t)) ∧ w.cell? ⟨b, off + i * 4 + 3, none⟩ = some (.slice r.s.a r.s.n r.s.c) := by
  obtain ⟨ao, cap, he, _, hc⟩ := h
  obtain ⟨b, off, rfl, hb, hcell⟩ := hc i r hi
  simp only [Value.slice.injEq] at he
  obtain ⟨h1, h2, _⟩ := he
  exact ⟨b, off, h1, h2, hb, hcell 0 _ rfl, hcell 1 _ rfl, hcell 2 _ rfl, hcell 3 _ rfl⟩
theorem sl_len {α : Type} {enc : α → List Value} {sz : Nat} {w : World} {s : Slc} {rs : List α} (h : Sl enc sz w s.v rs) : s.n = rs.length ∧ rs.length ≤ 9223372036854775807 := by
  obtain ⟨ao, cap, he, hm, _⟩ := h
  simp only [Value.slice.injEq] at he
  exact ⟨he.2.1, by unfold maxLen at hm; omega⟩
theorem sl_elem5 {w : World} {s : Slc} {rs : List RawS} (h : Sl encS 5 w s.v rs) {i : Nat} {r : RawS} (hi : rs[i]? = some r) : ∃ b off, s.a = some ⟨b, off, none⟩ ∧ b < w.heap.size ∧ w.cell? ⟨b, off + i * 5, none⟩ = some (.int .i64 r.k) ∧ w.cell? ⟨b, off + i * 5 + 1, none⟩ = some (.string (bs r.t)) ∧ w.cell? ⟨b, off + i * 5 + 2, none⟩ = some (.slice r.a.a r.a.n r.a.c) ∧ w.cell? ⟨b, off + i * 5 + 3, none⟩ = some (.slice r.x.a r.x.n r.x.c) ∧ w.cell? ⟨b, off + i * 5 + 4, none⟩ = some (.slice r.y.a r.y.n r.y.c) := by
  obtain ⟨ao, cap, he, _, hc⟩ := h
  obtain ⟨b, off, rfl, hb, hcell⟩ := hc i r hi
  simp only [Value.slice.injEq] at he
  exact ⟨b, off, he.1, hb, hcell 0 _ rfl, hcell 1 _ rfl, hcell 2 _ rfl, hcell 3 _ rfl, hcell 4 _ rfl⟩
theorem sl_elem3 {w : World} {s : Slc} {rs : List RawF} (h : Sl encG 3 w s.v rs) {i : Nat} {r : RawF} (hi : rs[i]? = some r) : ∃ b off, s.a = some ⟨b, off, none⟩ ∧ b < w.heap.size ∧ w.cell? ⟨b, off + i * 3, none⟩ = some (.string (bs r.t)) ∧ w.cell? ⟨b, off + i * 3 + 1, none⟩ = some (.slice r.p.a r.p.n r.p.c) ∧ w.cell? ⟨b, off + i * 3 + 2, none⟩ = some (.slice r.b.a r.b.n r.b.c) := by
  obtain ⟨ao, cap, he, _, hc⟩ := h
  obtain ⟨b, off, rfl, hb, hcell⟩ := hc i r hi
  simp only [Value.slice.injEq] at he
  exact ⟨b, off, he.1, hb, hcell 0 _ rfl, hcell 1 _ rfl, hcell 2 _ rfl⟩
theorem sl_elem1 {w : World} {s : Slc} {rs : List Bs} (h : Sl encN 1 w s.v rs) {i : Nat} {r : Bs} (hi : rs[i]? = some r) : ∃ b off, s.a = some ⟨b, off, none⟩ ∧ b < w.heap.size ∧ w.cell? ⟨b, off + i, none⟩ = some (.string (bs r)) := by
  obtain ⟨ao, cap, he, _, hc⟩ := h
  obtain ⟨b, off, rfl, hb, hcell⟩ := hc i r hi
  simp only [Value.slice.injEq] at he
  have := hcell 0 _ rfl
  rw [Nat.mul_one, Nat.add_zero] at this
  exact ⟨b, off, he.1, hb, this⟩
abbrev eo (a : RawE) : Obj := .cells #[.int .i64 a.k, .int .i64 a.n, .string (bs a.t), .slice a.s.a a.s.n a.s.c] 93
theorem has_step {nm : List Bs} {v : Bs} {k : Nat} (h : k < nm.length) (h1 : v ∉ nm.take k) (h2 : ¬ nm[k] = v) : v ∉ nm.take (k + 1) := by
  rw [List.take_succ_eq_append_getElem h, List.mem_append]
  rintro (h3 | h3)
  · exact h1 h3
  · exact h2 (by simpa using (List.mem_singleton.1 h3).symm)
set_option maxHeartbeats 400000 in
theorem has_any (s : Slc) (nm : List Bs) (v : Bs) (w : World) (h : Sl encN 1 w s.v nm) :
    Calls Tryd.prog 27 #[.slice s.a s.n s.c, .string (bs v)] w fun e w' => e = .returned (.bool (nm.contains v)) ∧ w' = w := by
  obtain ⟨hn, hmax⟩ := sl_len h
  obtain ⟨sa, sn, sc⟩ := s
  simp only at hn
  subst hn
  have HS := hide h
  generalize hr : nm.contains v = r
  have HR := hide hr
  clear h hr
  go_enter Tryd.func27, Tryd.ntmps27
  go_wp2
  go_loop [9, 6] (fun i _ => ∃ k : Nat, k ≤ nm.length ∧ i = .int .i64 k ∧ Hid (v ∉ nm.take k)) (fun i _ => nm.length - (intOf i).toNat)
  case atStart => exact ⟨0, Nat.zero_le _, rfl, by simp [Hid]⟩
  case round =>
    obtain ⟨k, hk, rfl, hno⟩ := hrel
    by_cases hlt : k < nm.length
    · obtain ⟨b, off, rfl, hb, hc⟩ := sl_elem1 (s := ⟨sa, nm.length, sc⟩) HS.out (List.getElem?_eq_getElem hlt)
      by_cases hq : nm[k] = v
      · have hr : r = true := by
          rw [← HR.out, List.contains_iff_mem, ← hq]
          exact List.getElem_mem hlt
        subst hr
        rw [hq] at hc
        go_wp2
        all_goals go_ret
        all_goals exact ⟨rfl, rfl⟩
      · have HN := hide (has_step hlt hno.out hq)
        have q1 := bs_ne hq
        generalize nm[k] = u at hc q1
        clear hq
        go_wp2
        go_round
        case rel => exact ⟨k + 1, by omega, by go_num, HN⟩
        case measure => simp [intOf]; omega
    · have hr : r = false := by
        have := hno.out
        rw [List.take_of_length_le (by omega)] at this
        rw [← HR.out]
        simpa using this
      subst hr
      go_wp2
      all_goals go_ret
      all_goals exact ⟨rfl, rfl⟩
/-- The checker's state. -/
structure CI (cb fb wb : Nat) (F : AMap) (v : Int) (W : WS) (w : World) : Prop where
  c0 : w.cell? ⟨cb, 0, none⟩ = some (.map (some fb))
  c1 : w.cell? ⟨cb, 1, none⟩ = some (.int .i64 v)
  c2 : w.cell? ⟨cb, 2, none⟩ = some (.map (some wb))
  f1 : w.frozen? ⟨cb, 1, none⟩ = false
  lt : cb < w.heap.size
  fm : SI fb F w
  wm : ∃ A, SB wb A w ∧ (∀ k, (A.f k).isSome = W.f k) ∧ A.n = W.n
  ne : cb ≠ fb ∧ cb ≠ wb ∧ fb ≠ wb
theorem CI.fr {cb fb wb : Nat} {F : AMap} {v : Int} {W : WS} {w w' : World} {S : Nat → Prop} (h : CI cb fb wb F v W w) (hf : Fr S w w') (h1 : ¬ S cb) (h2 : ¬ S fb) (h3 : ¬ S wb) : CI cb fb wb F v W w' := by
  obtain ⟨A, a1, a2, a3⟩ := h.wm
  exact ⟨(hf.cell (p := ⟨cb, 0, none⟩) h.lt h1).trans h.c0, (hf.cell (p := ⟨cb, 1, none⟩) h.lt h1).trans h.c1, (hf.cell (p := ⟨cb, 2, none⟩) h.lt h1).trans h.c2, (hf.frozen (p := ⟨cb, 1, none⟩) h.lt h1).trans h.f1, Nat.lt_of_lt_of_le h.lt hf.size, h.fm.fr hf h2, ⟨A, a1.fr hf h3, a2, a3⟩, h.ne⟩
/-- A text more. -/
theorem CI.text {cb fb wb : Nat} {F : AMap} {v : Int} {W : WS} {w : World} (h : CI cb fb wb F v W w) (t : Bs) (ht : t.length ≤ 100000) (hn : W.n ≤ 100000) :
    ∃ w', (Instr.mapUpdate 63 (.map (some wb)) (.string (bs t)) (.bool true)).run Tryd.prog w = .ok () w' ∧ CI cb fb wb F v (W.add t) w' ∧ Fr (fun j => j = wb) w w' := by
  obtain ⟨A, a1, a2, a3⟩ := h.wm
  obtain ⟨w', r, s, f⟩ := a1.store t ht 1 (by omega)
  have hne := h.ne
  have g := h.fm.fr f (by omega)
  refine ⟨w', r, ⟨(f.cell (p := ⟨cb, 0, none⟩) h.lt hne.2.1).trans h.c0, (f.cell (p := ⟨cb, 1, none⟩) h.lt hne.2.1).trans h.c1, (f.cell (p := ⟨cb, 2, none⟩) h.lt hne.2.1).trans h.c2, (f.frozen (p := ⟨cb, 1, none⟩) h.lt hne.2.1).trans h.f1, Nat.lt_of_lt_of_le h.lt f.size, g, ⟨A.put t 1, s, fun k => ?_, ?_⟩, hne⟩, f⟩
  · unfold AMap.put WS.add
    dsimp only
    by_cases hk : k = t
    · simp [hk]
    · simp [hk, a2]
  · unfold AMap.put WS.add
    dsimp only
    rw [a2, a3]
end Go.Proofs.YtkmdamljhagogaaDoor
