/- Package scope: names, calls, lets. -/
import Derived.Test.YtkmdamljhagogaaDoorElem
namespace Go.Proofs.YtkmdamljhagogaaDoor
open Go.RowKit

/-- The state of a function that is gone through: the names nm are there. -/
structure BI (bb pb wb tb : Nat) (F : AMap) (nm : List Bs) (v : Int) (W : WS) (w : World) : Prop where
  c0 : w.cell? ⟨bb, 0, none⟩ = some (.map (some pb))
  c1 : w.cell? ⟨bb, 1, none⟩ = some (.map (some wb))
  c2 : w.cell? ⟨bb, 2, none⟩ = some (.map (some tb))
  c3 : w.cell? ⟨bb, 3, none⟩ = some (.int .i64 v)
  f3 : w.frozen? ⟨bb, 3, none⟩ = false
  lt : bb < w.heap.size
  pm : SI pb F w
  wm : ∃ A, SI wb A w ∧ (∀ k, (A.f k).isSome = W.f k) ∧ A.n = W.n
  tm : ∃ A, SI tb A w ∧ (∀ k, (A.f k).isSome = nm.contains k) ∧ A.n ≤ nm.length
  ne : bb ≠ pb ∧ bb ≠ wb ∧ bb ≠ tb ∧ pb ≠ wb ∧ pb ≠ tb ∧ wb ≠ tb
theorem BI.fr {bb pb wb tb : Nat} {F : AMap} {nm : List Bs} {v : Int} {W : WS} {w w' : World} {S : Nat → Prop} (h : BI bb pb wb tb F nm v W w) (hf : Fr S w w') (h1 : ¬ S bb) (h2 : ¬ S pb) (h3 : ¬ S wb) (h4 : ¬ S tb) : BI bb pb wb tb F nm v W w' := by
  obtain ⟨A, a1, a2⟩ := h.wm
  obtain ⟨B, b1, b2⟩ := h.tm
  exact ⟨(hf.cell (p := ⟨bb, 0, none⟩) h.lt h1).trans h.c0, (hf.cell (p := ⟨bb, 1, none⟩) h.lt h1).trans h.c1, (hf.cell (p := ⟨bb, 2, none⟩) h.lt h1).trans h.c2, (hf.cell (p := ⟨bb, 3, none⟩) h.lt h1).trans h.c3, (hf.frozen (p := ⟨bb, 3, none⟩) h.lt h1).trans h.f3, Nat.lt_of_lt_of_le h.lt hf.size, h.pm.fr hf h2, ⟨A, a1.fr hf h3, a2⟩, ⟨B, b1.fr hf h4, b2⟩, h.ne⟩
def knownE (nm : List Bs) (t : Bs) : Int := if nm.contains t then 0 else 6
set_option maxHeartbeats 400000 in
theorem known_any (bb pb wb tb : Nat) (F : AMap) (nm : List Bs) (v : Int) (W : WS) (t : Bs) (w : World) (h : BI bb pb wb tb F nm v W w) (ht : t.length ≤ 1500) :
    Calls Tryd.prog 54 #[.pointer (some ⟨bb, 0, none⟩), .string (bs t)] w fun e w' => e = .returned (.int .i64 (knownE nm t)) ∧ w' = w := by
  obtain ⟨B, b1, b2, b3⟩ := h.tm
  have hl := b1.look2 t (by omega)
  rw [b2 t] at hl
  have c2 := h.c2
  have hlt := h.lt
  clear h b1 b2 b3
  cases hc : nm.contains t with
  | true =>
    rw [hc] at hl
    have e : knownE nm t = 0 := by unfold knownE; rw [hc]; rfl
    rw [e]
    go_enter Tryd.func54, Tryd.ntmps54
    go_wp2
    all_goals go_ret
    all_goals exact ⟨rfl, rfl⟩
  | false =>
    rw [hc] at hl
    have e : knownE nm t = 6 := by unfold knownE; rw [hc]; rfl
    rw [e]
    go_enter Tryd.func54, Tryd.ntmps54
    go_wp2
    all_goals go_ret
    all_goals exact ⟨rfl, rfl⟩
def callE (F : Bs → Option Int) (t : Bs) (n : Nat) : Int := match F t with | none => 6 | some m => if m = n then 0 else 5
set_option maxHeartbeats 400000 in
theorem call_any (bb pb wb tb : Nat) (F : AMap) (nm : List Bs) (v : Int) (W : WS) (t : Bs) (n : Nat) (w : World) (h : BI bb pb wb tb F nm v W w) (ht : t.length ≤ 1500) :
    Calls Tryd.prog 65 #[.pointer (some ⟨bb, 0, none⟩), .string (bs t), .int .i64 n] w fun e w' => e = .returned (.int .i64 (callE F.f t n)) ∧ w' = w := by
  have hl := h.pm.look2 t (by omega)
  have c0 := h.c0
  have hlt := h.lt
  clear h
  cases hc : F.f t with
  | none =>
    rw [hc] at hl
    have e : callE F.f t n = 6 := by unfold callE; rw [hc]
    rw [e]
    go_enter Tryd.func65, Tryd.ntmps65
    go_wp2
    all_goals go_ret
    all_goals exact ⟨rfl, rfl⟩
  | some m =>
    rw [hc] at hl
    by_cases hm : m = n
    · have e : callE F.f t n = 0 := by unfold callE; rw [hc]; simp [hm]
      rw [e]
      subst hm
      go_enter Tryd.func65, Tryd.ntmps65
      go_wp2
      all_goals go_ret
      all_goals exact ⟨rfl, rfl⟩
    · have e : callE F.f t n = 5 := by unfold callE; rw [hc]; simp [hm]
      rw [e]
      have m2 := ne_bne hm
      go_enter Tryd.func65, Tryd.ntmps65
      go_wp2
      all_goals go_ret
      all_goals exact ⟨rfl, rfl⟩
abbrev bw (bb wb tb : Nat) : Nat → Prop := fun k => k = bb ∨ k = wb ∨ k = tb
theorem contains_snoc (nm : List Bs) (t k : Bs) : (nm ++ [t]).contains k = (decide (k = t) || nm.contains k) := by
  rw [List.contains_append, Bool.or_comm]
  congr 1
  simp
/-- A name more. -/
theorem BI.name {bb pb wb tb : Nat} {F : AMap} {nm : List Bs} {v : Int} {W : WS} {w : World} (h : BI bb pb wb tb F nm v W w) (t : Bs) (ht : t.length ≤ 1500) (hn : nm.length ≤ 100000) (hc : nm.contains t = false) :
    (Instr.lookup 55 (.map (some tb)) (.string (bs t)) false).run Tryd.prog w = .ok (.int .i64 0) w ∧ ∃ w', (Instr.mapUpdate 55 (.map (some tb)) (.string (bs t)) (.int .i64 1)).run Tryd.prog w = .ok () w' ∧ BI bb pb wb tb F (nm ++ [t]) v W w' ∧ Fr (fun j => j = tb) w w' := by
  obtain ⟨B, b1, b2, b3⟩ := h.tm
  have hl := b1.look t (by omega)
  have hnone : B.f t = none := by have := b2 t; rw [hc] at this; simpa using this
  rw [hnone] at hl
  obtain ⟨w', r, s, f⟩ := b1.store t (by omega) 1 (by omega) (by decide) (by decide)
  have hne := h.ne
  obtain ⟨A, a1, a2⟩ := h.wm
  refine ⟨hl, w', r, ⟨(f.cell (p := ⟨bb, 0, none⟩) h.lt (by show ¬ bb = tb; omega)).trans h.c0, (f.cell (p := ⟨bb, 1, none⟩) h.lt (by show ¬ bb = tb; omega)).trans h.c1, (f.cell (p := ⟨bb, 2, none⟩) h.lt (by show ¬ bb = tb; omega)).trans h.c2, (f.cell (p := ⟨bb, 3, none⟩) h.lt (by show ¬ bb = tb; omega)).trans h.c3, (f.frozen (p := ⟨bb, 3, none⟩) h.lt (by show ¬ bb = tb; omega)).trans h.f3, Nat.lt_of_lt_of_le h.lt f.size, h.pm.fr f (by omega), ⟨A, a1.fr f (by omega), a2⟩, ⟨B.put t 1, s, fun k => ?_, ?_⟩, hne⟩, f⟩
  · rw [contains_snoc]
    unfold AMap.put
    dsimp only
    by_cases hk : k = t
    · simp [hk]
    · rw [if_neg hk, b2 k]; simp [hk]
  · unfold AMap.put
    dsimp only
    rw [hnone]
    simp
    omega
/-- A text more. -/
theorem BI.text {bb pb wb tb : Nat} {F : AMap} {nm : List Bs} {v : Int} {W : WS} {w : World} (h : BI bb pb wb tb F nm v W w) (t : Bs) (ht : t.length ≤ 1500) (hn : W.n ≤ 100000) :
    ∃ c : Int, (Instr.lookup 55 (.map (some wb)) (.string (bs t)) false).run Tryd.prog w = .ok (.int .i64 c) w ∧ ∃ w', (Instr.mapUpdate 55 (.map (some wb)) (.string (bs t)) (.int .i64 (wrap64 (c + 1)))).run Tryd.prog w = .ok () w' ∧ BI bb pb wb tb F nm v (W.add t) w' ∧ Fr (fun j => j = wb) w w' := by
  obtain ⟨A, a1, a2, a3⟩ := h.wm
  have hl := a1.look t (by omega)
  refine ⟨_, hl, ?_⟩
  obtain ⟨w', r, s, f⟩ := a1.store t (by omega) (wrap64 ((A.f t).getD 0 + 1)) (by omega) (by unfold wrap64; omega) (by unfold wrap64; omega)
  have hne := h.ne
  obtain ⟨B, b1, b2⟩ := h.tm
  refine ⟨w', r, ⟨(f.cell (p := ⟨bb, 0, none⟩) h.lt (by show ¬ bb = wb; omega)).trans h.c0, (f.cell (p := ⟨bb, 1, none⟩) h.lt (by show ¬ bb = wb; omega)).trans h.c1, (f.cell (p := ⟨bb, 2, none⟩) h.lt (by show ¬ bb = wb; omega)).trans h.c2, (f.cell (p := ⟨bb, 3, none⟩) h.lt (by show ¬ bb = wb; omega)).trans h.c3, (f.frozen (p := ⟨bb, 3, none⟩) h.lt (by show ¬ bb = wb; omega)).trans h.f3, Nat.lt_of_lt_of_le h.lt f.size, h.pm.fr f (by omega), ⟨A.put t _, s, fun k => ?_, ?_⟩, ⟨B, b1.fr f (by omega), b2⟩, hne⟩, f⟩
  · unfold AMap.put WS.add
    dsimp only
    by_cases hk : k = t
    · simp [hk]
    · simp [hk, a2]
  · unfold AMap.put WS.add
    dsimp only
    rw [a2, a3]
theorem BI.vars {bb pb wb tb : Nat} {F : AMap} {nm : List Bs} {v : Int} {W : WS} {w : World} (h : BI bb pb wb tb F nm v W w) (v' : Int) : BI bb pb wb tb F nm v' W (w.setCell ⟨bb, 3, none⟩ (.int .i64 v')) := by
  have hf : Fr (fun k => k = bb) w (w.setCell ⟨bb, 3, none⟩ (.int .i64 v')) := (Fr.refl (fun k => k = bb) w).setCell (p := ⟨bb, 3, none⟩) (.inl rfl) _
  obtain ⟨A, a1, a2⟩ := h.wm
  obtain ⟨B, b1, b2⟩ := h.tm
  have hne := h.ne
  exact ⟨(World.cell?_setCell_other w ⟨bb, 3, none⟩ ⟨bb, 0, none⟩ _ (by simp)).trans h.c0, (World.cell?_setCell_other w ⟨bb, 3, none⟩ ⟨bb, 1, none⟩ _ (by simp)).trans h.c1, (World.cell?_setCell_other w ⟨bb, 3, none⟩ ⟨bb, 2, none⟩ _ (by simp)).trans h.c2, World.cell?_setCell_same _ _ _ h.c3, by rw [World.frozen?_setCell]; exact h.f3, Nat.lt_of_lt_of_le h.lt hf.size, h.pm.fr hf (by omega), ⟨A, a1.fr hf (by omega), a2⟩, ⟨B, b1.fr hf (by omega), b2⟩, hne⟩
set_option maxHeartbeats 400000 in
set_option maxRecDepth 20000 in
theorem let_any (bb pb wb tb : Nat) (F : AMap) (nm : List Bs) (v : Int) (W : WS) (t : Bs) (w : World) (h : BI bb pb wb tb F nm v W w) (ht : t.length ≤ 1500) (hn : nm.length ≤ 100000) (hv0 : 0 ≤ v) (hv8 : v ≤ 8) :
    Calls Tryd.prog 53 #[.pointer (some ⟨bb, 0, none⟩), .string (bs t)] w fun e w' => e = .returned (.int .i64 (stE nm v 1 t)) ∧ Fr (bw bb wb tb) w w' ∧ (stE nm v 1 t = 0 → BI bb pb wb tb F (nm ++ [t]) (v + 1) W w') := by
  have HK := hide (known_any bb pb wb tb F nm v W t w h ht)
  have c2 := h.c2
  have c3 := h.c3
  have f3 := h.f3
  have hlt := h.lt
  cases hc : nm.contains t with
  | true =>
    have e : stE nm v 1 t = 7 := by unfold stE; rw [if_pos rfl, hc]; rfl
    have e2 : knownE nm t = 0 := by unfold knownE; rw [hc]; rfl
    rw [e]
    rw [e2] at HK
    clear h
    go_enter Tryd.func53, Tryd.ntmps53
    go_wp2_with (go_at_call 54; refine HK.out.mono ?_; rintro e w4 ⟨rfl, hw4⟩; have hw4' := hw4.symm; subst hw4'; clear hw4)
    all_goals go_ret
    all_goals exact ⟨rfl, Fr.refl _ _, fun h0 => by cases h0⟩
  | false =>
    have e2 : knownE nm t = 6 := by unfold knownE; rw [hc]; rfl
    rw [e2] at HK
    by_cases h8 : 8 ≤ v
    · have e : stE nm v 1 t = 4 := by unfold stE; rw [if_pos rfl, hc]; simp [h8]
      rw [e]
      clear h
      go_enter Tryd.func53, Tryd.ntmps53
      go_wp2_with (go_at_call 54; refine HK.out.mono ?_; rintro e w4 ⟨rfl, hw4⟩; have hw4' := hw4.symm; subst hw4'; clear hw4)
      all_goals go_ret
      all_goals exact ⟨rfl, Fr.refl _ _, fun h0 => by cases h0⟩
    · have e : stE nm v 1 t = 0 := by unfold stE; rw [if_pos rfl, hc]; simp [h8]
      rw [e]
      obtain ⟨hl, w', r, hB, hf⟩ := (h.vars (v + 1)).name t ht hn hc
      have HB := hide hB
      have HF := hide hf
      clear h hB hf
      go_enter Tryd.func53, Tryd.ntmps53
      go_wp2_with (go_at_call 54; refine HK.out.mono ?_; rintro e w4 ⟨rfl, hw4⟩; have hw4' := hw4.symm; subst hw4'; clear hw4)
      all_goals go_ret
      exact ⟨rfl, ((Fr.refl (bw bb wb tb) w).setCell (p := ⟨bb, 3, none⟩) (.inl (.inl rfl)) _).trans (HF.out.mono (fun _ _ e => .inr (.inr e))), fun _ => HB.out⟩
end Go.Proofs.YtkmdamljhagogaaDoor
