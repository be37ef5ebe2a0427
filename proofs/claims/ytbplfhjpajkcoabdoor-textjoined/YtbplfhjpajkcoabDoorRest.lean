/- What a statement has behind its expressions. -/
import Derived.Test.YtbplfhjpajkcoabDoorStmts
namespace Go.Proofs.YtbplfhjpajkcoabDoor
open Go.RowKit

/-- A slice of statements that are so, made since w. -/
def LsOk (w w' : World) (s : Slc) (xs : List St) : Prop := ∃ rs, Sl encS 5 w' s.v rs ∧ (∀ b, s.v.ownBlock = some b → w.heap.size ≤ b ∧ b < w'.heap.size) ∧ Each (StOk w' (fun k => w.heap.size ≤ k ∧ k < w'.heap.size)) rs xs
theorem LsOk.nil (w w' : World) : LsOk w w' nilS [] := ⟨[], ⟨none, 0, rfl, by unfold maxLen; simp, fun i x h => by simp at h⟩, (fun b h => by cases h), rfl, fun i r x h => by simp at h⟩
theorem LsOk.move {w w1 w2 : World} {s : Slc} {xs : List St} {S : Nat → Prop} (h : LsOk w w1 s xs) (hf : Fr S w1 w2) (hs : ∀ k, S k → k < w.heap.size) : LsOk w w2 s xs := by
  obtain ⟨rs, h1, h2, h3, h4⟩ := h
  refine ⟨rs, h1.keep hf (P := fun k => w.heap.size ≤ k ∧ k < w1.heap.size) h2 (fun k hk e => by have := hs k e; omega), fun b hb => ⟨(h2 b hb).1, Nat.lt_of_lt_of_le (h2 b hb).2 hf.size⟩, h3, fun i r x k1 k2 => st_stays _ _ S _ _ r x (h4 i r x k1 k2) hf (fun k hk e => by have := hs k e; omega) (fun k hk => ⟨hk.1, Nat.lt_of_lt_of_le hk.2 hf.size⟩)⟩
theorem LsOk.since {w0 w w' : World} {s : Slc} {xs : List St} (h : LsOk w w' s xs) (hw : w0.heap.size ≤ w.heap.size) : LsOk w0 w' s xs := by
  obtain ⟨rs, h1, h2, h3, h4⟩ := h
  exact ⟨rs, h1, fun b hb => ⟨Nat.le_trans hw (h2 b hb).1, (h2 b hb).2⟩, h3, fun i r x k1 k2 => st_stays _ _ nothing _ _ r x (h4 i r x k1 k2) (Fr.refl _ _) (fun _ _ => id) (fun k hk => ⟨Nat.le_trans hw hk.1, hk.2⟩)⟩
theorem lpost_bad {T : ByteArray} {mb rb : Nat} {w : World} {z : Int} {e : Ending} {w' : World} (h : LPost encS 5 StOk T mb rb w (.bad z) e w') : ∃ s : Slc, e = .returned (.tuple #[.slice s.a s.n s.c, .int .i64 z]) ∧ Fr (fun k => k = rb) w w' ∧ z ≠ 0 := by
  obtain ⟨s, z', rfl, hF, ⟨_, _, _, h, _⟩ | ⟨h, hz⟩⟩ := h
  · cases h
  · cases h
    exact ⟨s, rfl, hF, hz⟩
theorem lpost_ok {T : ByteArray} {mb rb : Nat} {w : World} {xs : List St} {l : Bs} {e : Ending} {w' : World} (h : LPost encS 5 StOk T mb rb w (.ok xs l) e w') : ∃ (s : Slc) (p : Nat), e = .returned (.tuple #[.slice s.a s.n s.c, .int .i64 0]) ∧ Fr (fun k => k = rb) w w' ∧ At T p l ∧ Ry T mb rb p w' ∧ LsOk w w' s xs := by
  obtain ⟨s, z', rfl, hF, ⟨_, _, p, h, rfl, h1, h2, h3⟩ | ⟨h, hz⟩⟩ := h
  · cases h
    exact ⟨s, p, rfl, hF, h1, h2, h3⟩
  · cases h
theorem go_assoc {α β γ : Type} (r : R α) (f : α → Bs → R β) (g : β → Bs → R γ) : (r.go f).go g = r.go fun a l => (f a l).go g := by cases r <;> rfl
structure Bt (bst : Nat) (rb mb : Nat) (s : Int) (w : World) : Prop where
  k : w.cell? ⟨bst, 0, none⟩ = some (.int .i64 s)
  x : w.cell? ⟨bst, 3, none⟩ = some (.slice none 0 0)
  y : w.cell? ⟨bst, 4, none⟩ = some (.slice none 0 0)
  fx : w.frozen? ⟨bst, 3, none⟩ = false
  fy : w.frozen? ⟨bst, 4, none⟩ = false
  ne : bst ≠ rb ∧ bst ≠ mb ∧ 2 ≤ bst
def XPost (T : ByteArray) (mb rb bst : Nat) (w : World) (res : R (List St × List St)) (e : Ending) (w' : World) : Prop :=
  ∃ (z : Int) (x y : Slc), e = .returned (.int .i64 z) ∧ Fr (fun k => k = rb ∨ k = bst) w w' ∧ (∀ j, j < 3 → w'.cell? ⟨bst, j, none⟩ = w.cell? ⟨bst, j, none⟩) ∧ w'.cell? ⟨bst, 3, none⟩ = some x.v ∧ w'.cell? ⟨bst, 4, none⟩ = some y.v ∧
    ((∃ xy l p, res = .ok xy l ∧ z = 0 ∧ At T p l ∧ Ry T mb rb p w' ∧ LsOk w w' x xy.1 ∧ LsOk w w' y xy.2) ∨ (res = .bad z ∧ z ≠ 0))
/-- The statement's own block, behind a call. -/
theorem Bt.fr {bst rb mb : Nat} {s : Int} {w w1 : World} (h : Bt bst rb mb s w) (hf : Fr (fun k => k = rb) w w1) : (∀ j, w1.cell? ⟨bst, j, none⟩ = w.cell? ⟨bst, j, none⟩) ∧ (∀ j, w1.frozen? ⟨bst, j, none⟩ = w.frozen? ⟨bst, j, none⟩) ∧ bst < w1.heap.size := by
  have hl : bst < w.heap.size := lt_of_cell h.k
  exact ⟨fun j => hf.cell (p := ⟨bst, j, none⟩) hl h.ne.1, fun j => hf.frozen (p := ⟨bst, j, none⟩) hl h.ne.1, Nat.lt_of_lt_of_le hl hf.size⟩
set_option maxHeartbeats 400000 in
set_option maxRecDepth 20000 in
theorem rest_else (T : ByteArray) (mb rb p bst : Nat) (w : World) (deep s : Int) (h : Ry T mb rb p w) (hB : Bt bst rb mb s w) (h3 : s ≠ 3) (h4 : s ≠ 4) (nest : Bs → R (List St)) :
    Calls Tryd.prog 56 #[.pointer (some ⟨rb, 0, none⟩), .pointer (some ⟨bst, 0, none⟩), .int .i64 deep] w (XPost T mb rb bst w (restP nest s (T.data.toList.drop p))) := by
  have e1 : restP nest s (T.data.toList.drop p) = (bracketP 41 (T.data.toList.drop p)).go fun _ l => .ok ([], []) l := by simp [restP, h3, h4]
  rw [e1]
  have i3 : (s == 3) = false := by simpa using h3
  have i4 : (s == 4) = false := by simpa using h4
  have k0 := hB.k
  have hl : bst < w.heap.size := lt_of_cell k0
  have HB := hide hB
  cases hbr : bracketP 41 (T.data.toList.drop p) with
  | bad z =>
    have HC := hide (bracket_bad T _ rb p _ h.rx.rd h.le h.big 41 hbr)
    clear h hbr hB e1
    go_enter Tryd.func56, Tryd.ntmps56
    go_wp2_with (go_at_call 31; refine HC.out.mono ?_; rintro e w1 ⟨rfl, hz, hF1⟩; have HF := hide hF1; clear hF1)
    all_goals go_ret
    obtain ⟨q1, q2, q3⟩ := HB.out.fr HF.out
    exact ⟨z, nilS, nilS, rfl, HF.out.mono (fun _ _ e => .inl e), fun j _ => q1 j, (q1 3).trans HB.out.x, (q1 4).trans HB.out.y, .inr ⟨rfl, hz⟩⟩
  | ok u l =>
    have HC := hide (bracket_ok T _ rb p _ h.rx.rd h.le h.big 41 hbr)
    have H0 := hide h
    clear h hbr hB e1
    go_enter Tryd.func56, Tryd.ntmps56
    go_wp2_with (go_at_call 31; refine HC.out.mono ?_; rintro e w1 ⟨p1, rfl, hat, hR1, hF1⟩; have HY := hide (H0.out.of hR1 hat.1 hF1); have HA := hide hat; have HF := hide hF1; clear hF1 hat hR1)
    all_goals go_ret
    obtain ⟨q1, q2, q3⟩ := HB.out.fr HF.out
    exact ⟨0, nilS, nilS, rfl, HF.out.mono (fun _ _ e => .inl e), fun j _ => q1 j, (q1 3).trans HB.out.x, (q1 4).trans HB.out.y, .inl ⟨_, l, p1, rfl, rfl, HA.out, HY.out, LsOk.nil _ _, LsOk.nil _ _⟩⟩
theorem put_at {w : World} {b o : Nat} {v u : Value} (h : w.cell? ⟨b, o, none⟩ = some v) : (w.setCell ⟨b, o, none⟩ u).cell? ⟨b, o, none⟩ = some u ∧ (∀ j, j ≠ o → (w.setCell ⟨b, o, none⟩ u).cell? ⟨b, j, none⟩ = w.cell? ⟨b, j, none⟩) ∧ (∀ j, (w.setCell ⟨b, o, none⟩ u).frozen? ⟨b, j, none⟩ = w.frozen? ⟨b, j, none⟩) :=
  ⟨World.cell?_setCell_same _ _ _ h, fun j hj => World.cell?_setCell_other _ ⟨b, o, none⟩ ⟨b, j, none⟩ _ (fun e => hj (by cases e; rfl)), fun j => World.frozen?_setCell ..⟩
set_option maxHeartbeats 400000 in
set_option maxRecDepth 20000 in
theorem rest_while (T : ByteArray) (mb rb p bst : Nat) (w : World) (deep : Int) (hd0 : 0 ≤ deep) (hd1 : deep ≤ 100) (h : Ry T mb rb p w) (hB : Bt bst rb mb 4 w) (nest : Bs → R (List St))
    (hnest : ∀ p w, Ry T mb rb p w → Calls Tryd.prog 34 #[.pointer (some ⟨rb, 0, none⟩), .int .i64 (deep + 1)] w (LPost encS 5 StOk T mb rb w (nest (T.data.toList.drop p)))) :
    Calls Tryd.prog 56 #[.pointer (some ⟨rb, 0, none⟩), .pointer (some ⟨bst, 0, none⟩), .int .i64 deep] w (XPost T mb rb bst w (restP nest 4 (T.data.toList.drop p))) := by
  have e1 : restP nest 4 (T.data.toList.drop p) = (nest (T.data.toList.drop p)).go fun x l => .ok (x, []) l := by simp [restP]
  rw [e1]
  have k0 := hB.k
  have hl : bst < w.heap.size := lt_of_cell k0
  have hlr : rb < w.heap.size := h.rx.rd.lt
  have HB := hide hB
  have hN := hnest p w h
  cases hn : nest (T.data.toList.drop p) with
  | bad z =>
    rw [hn] at hN
    have HN := hide hN
    clear h hB e1 hnest hN
    go_enter Tryd.func56, Tryd.ntmps56
    go_wp2_with (go_at_call 34; refine HN.out.mono ?_; intro e w1 hl1; obtain ⟨s, rfl, hF1, hz⟩ := lpost_bad hl1; obtain ⟨q1, q2, q3⟩ := HB.out.fr hF1; have b3 := (q1 3).trans HB.out.x; have z3 := (q2 3).trans HB.out.fx; have HF := hide hF1; have Q1 := hide q1; clear hF1 hl1 q1 q2)
    all_goals go_ret
    obtain ⟨r1, r2, r3⟩ := put_at (u := .slice s.a s.n s.c) b3
    exact ⟨z, s, nilS, rfl, (HF.out.mono (fun _ _ e => .inl e)).setCell (p := ⟨bst, 3, none⟩) (.inl (.inr rfl)) _, fun j hj => (r2 j (by omega)).trans (Q1.out j), r1, (r2 4 (by decide)).trans ((Q1.out 4).trans HB.out.y), .inr ⟨rfl, hz⟩⟩
  | ok xs l =>
    rw [hn] at hN
    have HN := hide hN
    have H0 := hide h
    clear h hB e1 hnest hN
    go_enter Tryd.func56, Tryd.ntmps56
    go_wp2_with (go_at_call 34; refine HN.out.mono ?_; intro e w1 hl1; obtain ⟨s, p1, rfl, hF1, hat, hY1, hL1⟩ := lpost_ok hl1; obtain ⟨q1, q2, q3⟩ := HB.out.fr hF1; have b3 := (q1 3).trans HB.out.x; have z3 := (q2 3).trans HB.out.fx; have HF := hide hF1; have Q1 := hide q1; have HA := hide hat; have HY := hide hY1; have HL := hide hL1; clear hF1 hl1 q1 q2 hat hY1 hL1)
    all_goals go_ret
    obtain ⟨r1, r2, r3⟩ := put_at (u := .slice s.a s.n s.c) b3
    have hf : Fr (fun k => k = bst) w1 (w1.setCell ⟨bst, 3, none⟩ (.slice s.a s.n s.c)) := (Fr.refl (fun k => k = bst) w1).setCell (p := ⟨bst, 3, none⟩) (.inl rfl) _
    have hne := HB.out.ne
    exact ⟨0, s, nilS, rfl, (HF.out.mono (fun _ _ e => .inl e)).setCell (p := ⟨bst, 3, none⟩) (.inl (.inr rfl)) _, fun j hj => (r2 j (by omega)).trans (Q1.out j), r1, (r2 4 (by decide)).trans ((Q1.out 4).trans HB.out.y), .inl ⟨_, l, p1, rfl, rfl, HA.out, HY.out.frS hf (by omega) (by omega) (by omega) (by omega), HL.out.move hf (fun k e => by subst e; omega), LsOk.nil _ _⟩⟩
def blockP (nest : Bs → R (List St)) (l : Bs) : R (List St) := (bracketP 40 l).go fun _ l => nest l
theorem rest_three (nest : Bs → R (List St)) (l : Bs) : restP nest 3 l = (blockP nest l).go fun x l => (blockP nest l).go fun y l => (bracketP 41 l).go fun _ l => .ok (x, y) l := by
  simp [restP, blockP, go_assoc]
section
variable (T : ByteArray) (mb rb p bst : Nat) (w : World) (deep : Int) (hd0 : 0 ≤ deep) (hd1 : deep ≤ 100) (h : Ry T mb rb p w) (hB : Bt bst rb mb 3 w) (nest : Bs → R (List St))
  (hblock : ∀ p w, Ry T mb rb p w → Calls Tryd.prog 64 #[.pointer (some ⟨rb, 0, none⟩), .int .i64 (deep + 1)] w (LPost encS 5 StOk T mb rb w (blockP nest (T.data.toList.drop p))))
include hd0 hd1 h hB hblock
set_option maxHeartbeats 400000 in
set_option maxRecDepth 20000 in
theorem rest_if1 {z : Int} (hn : blockP nest (T.data.toList.drop p) = .bad z) {res : R (List St × List St)} (hres : res = .bad z) :
    Calls Tryd.prog 56 #[.pointer (some ⟨rb, 0, none⟩), .pointer (some ⟨bst, 0, none⟩), .int .i64 deep] w (XPost T mb rb bst w res) := by
  have k0 := hB.k
  have hl : bst < w.heap.size := lt_of_cell k0
  have hlr : rb < w.heap.size := h.rx.rd.lt
  have hne := hB.ne
  have HB := hide hB
  have hN := hblock p w h
  rw [hn] at hN
  have HN := hide hN
  clear h hB hblock hN
  go_enter Tryd.func56, Tryd.ntmps56
  go_wp2_with (go_at_call 64; refine HN.out.mono ?_; intro e w1 hl1; obtain ⟨s, rfl, hF1, hz⟩ := lpost_bad hl1; obtain ⟨q1, q2, q3⟩ := HB.out.fr hF1; have b3 := (q1 3).trans HB.out.x; have z3 := (q2 3).trans HB.out.fx; have HF := hide hF1; have Q1 := hide q1; clear hF1 hl1 q1 q2)
  all_goals go_ret
  obtain ⟨r1, r2, r3⟩ := put_at (u := .slice s.a s.n s.c) b3
  exact ⟨z, s, nilS, rfl, (HF.out.mono (fun _ _ e => .inl e)).setCell (p := ⟨bst, 3, none⟩) (.inl (.inr rfl)) _, fun j hj => (r2 j (by omega)).trans (Q1.out j), r1, (r2 4 (by decide)).trans ((Q1.out 4).trans HB.out.y), .inr ⟨hres, hz⟩⟩
set_option maxHeartbeats 400000 in
set_option maxRecDepth 20000 in
theorem rest_if2 {x : List St} {l : Bs} (hn : blockP nest (T.data.toList.drop p) = .ok x l) {z : Int} (hn2 : blockP nest l = .bad z) {res : R (List St × List St)} (hres : res = .bad z) :
    Calls Tryd.prog 56 #[.pointer (some ⟨rb, 0, none⟩), .pointer (some ⟨bst, 0, none⟩), .int .i64 deep] w (XPost T mb rb bst w res) := by
  have k0 := hB.k
  have hl : bst < w.heap.size := lt_of_cell k0
  have hlr : rb < w.heap.size := h.rx.rd.lt
  have hne := hB.ne
  have HB := hide hB
  have hN := hblock p w h
  rw [hn] at hN
  have HN := hide hN
  have HNB : Hid (∀ p w, Ry T mb rb p w → ∀ l, At T p l → Calls Tryd.prog 64 #[.pointer (some ⟨rb, 0, none⟩), .int .i64 (deep + 1)] w (LPost encS 5 StOk T mb rb w (blockP nest l))) := fun p w h l hl => by
    have := hblock p w h
    rw [hl.2] at this
    exact this
  clear h hB hblock hN
  go_enter Tryd.func56, Tryd.ntmps56
  go_wp2_with (first | (go_at_call 64; refine HN.out.mono ?_; intro e w1 hl1; obtain ⟨s, p1, rfl, hF1, hat, hY1, hL1⟩ := lpost_ok hl1; obtain ⟨q1, q2, q3⟩ := HB.out.fr hF1; have b3 := (q1 3).trans HB.out.x; have z3 := (q2 3).trans HB.out.fx; have hf := ((Fr.refl (fun k => k = bst) w1).setCell (p := ⟨bst, 3, none⟩) (.inl rfl) (.slice s.a s.n s.c)); have HY1 := hide (hY1.frS hf (by omega) (by omega) (by omega) (by omega)); have HN2 := hide (HNB.out p1 _ HY1.out l hat); obtain ⟨r1, r2, r3⟩ := put_at (u := .slice s.a s.n s.c) b3; have HL1 := hide (hL1.move hf (fun k e => by subst e; omega)); have HG : Hid (Fr (fun k => k = rb ∨ k = bst) w (w1.setCell ⟨bst, 3, none⟩ (.slice s.a s.n s.c)) ∧ (∀ j, j ≠ 3 → (w1.setCell ⟨bst, 3, none⟩ (.slice s.a s.n s.c)).cell? ⟨bst, j, none⟩ = w.cell? ⟨bst, j, none⟩) ∧ (w1.setCell ⟨bst, 3, none⟩ (.slice s.a s.n s.c)).cell? ⟨bst, 3, none⟩ = some s.v ∧ (∀ j, (w1.setCell ⟨bst, 3, none⟩ (.slice s.a s.n s.c)).frozen? ⟨bst, j, none⟩ = w.frozen? ⟨bst, j, none⟩)) := ⟨(hF1.mono (fun _ _ e => .inl e)).setCell (p := ⟨bst, 3, none⟩) (.inl (.inr rfl)) _, fun j hj => (r2 j hj).trans (q1 j), r1, fun j => (r3 j).trans (q2 j)⟩; have hbz : bst < (w1.setCell ⟨bst, 3, none⟩ (.slice s.a s.n s.c)).heap.size := (by have := hf.size; omega); clear hF1 hl1 q1 q2 hat hY1 hL1 r1 r2 r3 hf))
  rw [hn2] at HN2
  refine HN2.out.mono ?_
  intro e w2 hl2
  obtain ⟨s2, rfl, hF2, hz⟩ := lpost_bad hl2
  have m4 : w2.cell? ⟨bst, 4, none⟩ = some (.slice none 0 0) := (hF2.cell (p := ⟨bst, 4, none⟩) hbz hne.1).trans ((HG.out.2.1 4 (by decide)).trans HB.out.y)
  have mz : w2.frozen? ⟨bst, 4, none⟩ = false := (hF2.frozen (p := ⟨bst, 4, none⟩) hbz hne.1).trans ((HG.out.2.2.2 4).trans HB.out.fy)
  have ml : bst < w2.heap.size := Nat.lt_of_lt_of_le hbz hF2.size
  have HF2 := hide hF2
  clear hF2 hl2
  go_wp2
  all_goals go_ret
  obtain ⟨t1, t2, t3⟩ := put_at (u := .slice s2.a s2.n s2.c) m4
  exact ⟨z, s, s2, rfl, (HG.out.1.trans (HF2.out.mono (fun _ _ e => .inl e))).setCell (p := ⟨bst, 4, none⟩) (.inl (.inr rfl)) _, fun j hj => (t2 j (by omega)).trans ((HF2.out.cell (p := ⟨bst, j, none⟩) hbz hne.1).trans (HG.out.2.1 j (by omega))), (t2 3 (by decide)).trans ((HF2.out.cell (p := ⟨bst, 3, none⟩) hbz hne.1).trans HG.out.2.2.1), t1, .inr ⟨hres, hz⟩⟩
set_option maxHeartbeats 400000 in
set_option maxRecDepth 20000 in
theorem rest_if3 {x : List St} {l : Bs} (hn : blockP nest (T.data.toList.drop p) = .ok x l) {y : List St} {l2 : Bs} (hn2 : blockP nest l = .ok y l2) {z : Int} (hn3 : bracketP 41 l2 = .bad z) {res : R (List St × List St)} (hres : res = .bad z) :
    Calls Tryd.prog 56 #[.pointer (some ⟨rb, 0, none⟩), .pointer (some ⟨bst, 0, none⟩), .int .i64 deep] w (XPost T mb rb bst w res) := by
  have k0 := hB.k
  have hl : bst < w.heap.size := lt_of_cell k0
  have hlr : rb < w.heap.size := h.rx.rd.lt
  have hne := hB.ne
  have HB := hide hB
  have hN := hblock p w h
  rw [hn] at hN
  have HN := hide hN
  have HNB : Hid (∀ p w, Ry T mb rb p w → ∀ l, At T p l → Calls Tryd.prog 64 #[.pointer (some ⟨rb, 0, none⟩), .int .i64 (deep + 1)] w (LPost encS 5 StOk T mb rb w (blockP nest l))) := fun p w h l hl => by
    have := hblock p w h
    rw [hl.2] at this
    exact this
  clear h hB hblock hN
  go_enter Tryd.func56, Tryd.ntmps56
  go_wp2_with (first | (go_at_call 64; refine HN.out.mono ?_; intro e w1 hl1; obtain ⟨s, p1, rfl, hF1, hat, hY1, hL1⟩ := lpost_ok hl1; obtain ⟨q1, q2, q3⟩ := HB.out.fr hF1; have b3 := (q1 3).trans HB.out.x; have z3 := (q2 3).trans HB.out.fx; have hf := ((Fr.refl (fun k => k = bst) w1).setCell (p := ⟨bst, 3, none⟩) (.inl rfl) (.slice s.a s.n s.c)); have HY1 := hide (hY1.frS hf (by omega) (by omega) (by omega) (by omega)); have HN2 := hide (HNB.out p1 _ HY1.out l hat); obtain ⟨r1, r2, r3⟩ := put_at (u := .slice s.a s.n s.c) b3; have HL1 := hide (hL1.move hf (fun k e => by subst e; omega)); have HG : Hid (Fr (fun k => k = rb ∨ k = bst) w (w1.setCell ⟨bst, 3, none⟩ (.slice s.a s.n s.c)) ∧ (∀ j, j ≠ 3 → (w1.setCell ⟨bst, 3, none⟩ (.slice s.a s.n s.c)).cell? ⟨bst, j, none⟩ = w.cell? ⟨bst, j, none⟩) ∧ (w1.setCell ⟨bst, 3, none⟩ (.slice s.a s.n s.c)).cell? ⟨bst, 3, none⟩ = some s.v ∧ (∀ j, (w1.setCell ⟨bst, 3, none⟩ (.slice s.a s.n s.c)).frozen? ⟨bst, j, none⟩ = w.frozen? ⟨bst, j, none⟩)) := ⟨(hF1.mono (fun _ _ e => .inl e)).setCell (p := ⟨bst, 3, none⟩) (.inl (.inr rfl)) _, fun j hj => (r2 j hj).trans (q1 j), r1, fun j => (r3 j).trans (q2 j)⟩; have hbz : bst < (w1.setCell ⟨bst, 3, none⟩ (.slice s.a s.n s.c)).heap.size := (by have := hf.size; omega); clear hF1 hl1 q1 q2 hat hY1 hL1 r1 r2 r3 hf))
  rw [hn2] at HN2
  refine HN2.out.mono ?_
  intro e w2 hl2
  obtain ⟨s2, p2, rfl, hF2, hat2, hY2, hL2⟩ := lpost_ok hl2
  have m4 : w2.cell? ⟨bst, 4, none⟩ = some (.slice none 0 0) := (hF2.cell (p := ⟨bst, 4, none⟩) hbz hne.1).trans ((HG.out.2.1 4 (by decide)).trans HB.out.y)
  have mz : w2.frozen? ⟨bst, 4, none⟩ = false := (hF2.frozen (p := ⟨bst, 4, none⟩) hbz hne.1).trans ((HG.out.2.2.2 4).trans HB.out.fy)
  have ml : bst < w2.heap.size := Nat.lt_of_lt_of_le hbz hF2.size
  obtain ⟨t1, t2, t3⟩ := put_at (u := .slice s2.a s2.n s2.c) m4
  have hf2 := (Fr.refl (fun k => k = bst) w2).setCell (p := ⟨bst, 4, none⟩) (.inl rfl) (.slice s2.a s2.n s2.c)
  have HY2 := hide (hY2.frS hf2 (by omega) (by omega) (by omega) (by omega))
  have hsw : w.heap.size ≤ (w1.setCell ⟨bst, 3, none⟩ (.slice s.a s.n s.c)).heap.size := HG.out.1.size
  have HL2 := hide ((hL2.since hsw).move hf2 (fun k e => by subst e; omega))
  have HL1' := hide ((HL1.out.move hF2 (fun k e => by subst e; omega)).move hf2 (fun k e => by subst e; omega))
  have HG2 : Hid (Fr (fun k => k = rb ∨ k = bst) w (w2.setCell ⟨bst, 4, none⟩ (.slice s2.a s2.n s2.c)) ∧ (∀ j, j < 3 → (w2.setCell ⟨bst, 4, none⟩ (.slice s2.a s2.n s2.c)).cell? ⟨bst, j, none⟩ = w.cell? ⟨bst, j, none⟩) ∧ (w2.setCell ⟨bst, 4, none⟩ (.slice s2.a s2.n s2.c)).cell? ⟨bst, 3, none⟩ = some s.v ∧ (w2.setCell ⟨bst, 4, none⟩ (.slice s2.a s2.n s2.c)).cell? ⟨bst, 4, none⟩ = some s2.v) :=
    ⟨(HG.out.1.trans (hF2.mono (fun _ _ e => .inl e))).setCell (p := ⟨bst, 4, none⟩) (.inl (.inr rfl)) _, fun j hj => (t2 j (by omega)).trans ((hF2.cell (p := ⟨bst, j, none⟩) hbz hne.1).trans (HG.out.2.1 j (by omega))), (t2 3 (by decide)).trans ((hF2.cell (p := ⟨bst, 3, none⟩) hbz hne.1).trans HG.out.2.2.1), t1⟩
  have hl9 : bst < (w2.setCell ⟨bst, 4, none⟩ (.slice s2.a s2.n s2.c)).heap.size := by have := hf2.size; omega
  have HA2 := hide hat2
  clear hF2 hl2 hat2 hY2 hL2 hf2 t1 t2 t3
  have HC := hide (bracket_bad T _ rb p2 _ HY2.out.rx.rd HY2.out.le HY2.out.big 41 (by rw [HA2.out.2]; exact hn3))
  go_wp2_with (go_at_call 31; refine HC.out.mono ?_; rintro e w3 ⟨rfl, hz, hF3⟩; have HF3 := hide hF3; clear hF3)
  all_goals go_ret
  exact ⟨z, s, s2, rfl, HG2.out.1.trans (HF3.out.mono (fun _ _ e => .inl e)), fun j hj => (HF3.out.cell (p := ⟨bst, j, none⟩) hl9 hne.1).trans (HG2.out.2.1 j hj), (HF3.out.cell (p := ⟨bst, 3, none⟩) hl9 hne.1).trans HG2.out.2.2.1, (HF3.out.cell (p := ⟨bst, 4, none⟩) hl9 hne.1).trans HG2.out.2.2.2, .inr ⟨hres, hz⟩⟩
set_option maxHeartbeats 400000 in
set_option maxRecDepth 20000 in
theorem rest_if4 {x : List St} {l : Bs} (hn : blockP nest (T.data.toList.drop p) = .ok x l) {y : List St} {l2 : Bs} (hn2 : blockP nest l = .ok y l2) {l3 : Bs} (hn3 : bracketP 41 l2 = .ok () l3) {res : R (List St × List St)} (hres : res = .ok (x, y) l3) :
    Calls Tryd.prog 56 #[.pointer (some ⟨rb, 0, none⟩), .pointer (some ⟨bst, 0, none⟩), .int .i64 deep] w (XPost T mb rb bst w res) := by
  have k0 := hB.k
  have hl : bst < w.heap.size := lt_of_cell k0
  have hlr : rb < w.heap.size := h.rx.rd.lt
  have hne := hB.ne
  have HB := hide hB
  have hN := hblock p w h
  rw [hn] at hN
  have HN := hide hN
  have HNB : Hid (∀ p w, Ry T mb rb p w → ∀ l, At T p l → Calls Tryd.prog 64 #[.pointer (some ⟨rb, 0, none⟩), .int .i64 (deep + 1)] w (LPost encS 5 StOk T mb rb w (blockP nest l))) := fun p w h l hl => by
    have := hblock p w h
    rw [hl.2] at this
    exact this
  clear h hB hblock hN
  go_enter Tryd.func56, Tryd.ntmps56
  go_wp2_with (first | (go_at_call 64; refine HN.out.mono ?_; intro e w1 hl1; obtain ⟨s, p1, rfl, hF1, hat, hY1, hL1⟩ := lpost_ok hl1; obtain ⟨q1, q2, q3⟩ := HB.out.fr hF1; have b3 := (q1 3).trans HB.out.x; have z3 := (q2 3).trans HB.out.fx; have hf := ((Fr.refl (fun k => k = bst) w1).setCell (p := ⟨bst, 3, none⟩) (.inl rfl) (.slice s.a s.n s.c)); have HY1 := hide (hY1.frS hf (by omega) (by omega) (by omega) (by omega)); have HN2 := hide (HNB.out p1 _ HY1.out l hat); obtain ⟨r1, r2, r3⟩ := put_at (u := .slice s.a s.n s.c) b3; have HL1 := hide (hL1.move hf (fun k e => by subst e; omega)); have HG : Hid (Fr (fun k => k = rb ∨ k = bst) w (w1.setCell ⟨bst, 3, none⟩ (.slice s.a s.n s.c)) ∧ (∀ j, j ≠ 3 → (w1.setCell ⟨bst, 3, none⟩ (.slice s.a s.n s.c)).cell? ⟨bst, j, none⟩ = w.cell? ⟨bst, j, none⟩) ∧ (w1.setCell ⟨bst, 3, none⟩ (.slice s.a s.n s.c)).cell? ⟨bst, 3, none⟩ = some s.v ∧ (∀ j, (w1.setCell ⟨bst, 3, none⟩ (.slice s.a s.n s.c)).frozen? ⟨bst, j, none⟩ = w.frozen? ⟨bst, j, none⟩)) := ⟨(hF1.mono (fun _ _ e => .inl e)).setCell (p := ⟨bst, 3, none⟩) (.inl (.inr rfl)) _, fun j hj => (r2 j hj).trans (q1 j), r1, fun j => (r3 j).trans (q2 j)⟩; have hbz : bst < (w1.setCell ⟨bst, 3, none⟩ (.slice s.a s.n s.c)).heap.size := (by have := hf.size; omega); clear hF1 hl1 q1 q2 hat hY1 hL1 r1 r2 r3 hf))
  rw [hn2] at HN2
  refine HN2.out.mono ?_
  intro e w2 hl2
  obtain ⟨s2, p2, rfl, hF2, hat2, hY2, hL2⟩ := lpost_ok hl2
  have m4 : w2.cell? ⟨bst, 4, none⟩ = some (.slice none 0 0) := (hF2.cell (p := ⟨bst, 4, none⟩) hbz hne.1).trans ((HG.out.2.1 4 (by decide)).trans HB.out.y)
  have mz : w2.frozen? ⟨bst, 4, none⟩ = false := (hF2.frozen (p := ⟨bst, 4, none⟩) hbz hne.1).trans ((HG.out.2.2.2 4).trans HB.out.fy)
  have ml : bst < w2.heap.size := Nat.lt_of_lt_of_le hbz hF2.size
  obtain ⟨t1, t2, t3⟩ := put_at (u := .slice s2.a s2.n s2.c) m4
  have hf2 := (Fr.refl (fun k => k = bst) w2).setCell (p := ⟨bst, 4, none⟩) (.inl rfl) (.slice s2.a s2.n s2.c)
  have HY2 := hide (hY2.frS hf2 (by omega) (by omega) (by omega) (by omega))
  have hsw : w.heap.size ≤ (w1.setCell ⟨bst, 3, none⟩ (.slice s.a s.n s.c)).heap.size := HG.out.1.size
  have HL2 := hide ((hL2.since hsw).move hf2 (fun k e => by subst e; omega))
  have HL1' := hide ((HL1.out.move hF2 (fun k e => by subst e; omega)).move hf2 (fun k e => by subst e; omega))
  have HG2 : Hid (Fr (fun k => k = rb ∨ k = bst) w (w2.setCell ⟨bst, 4, none⟩ (.slice s2.a s2.n s2.c)) ∧ (∀ j, j < 3 → (w2.setCell ⟨bst, 4, none⟩ (.slice s2.a s2.n s2.c)).cell? ⟨bst, j, none⟩ = w.cell? ⟨bst, j, none⟩) ∧ (w2.setCell ⟨bst, 4, none⟩ (.slice s2.a s2.n s2.c)).cell? ⟨bst, 3, none⟩ = some s.v ∧ (w2.setCell ⟨bst, 4, none⟩ (.slice s2.a s2.n s2.c)).cell? ⟨bst, 4, none⟩ = some s2.v) :=
    ⟨(HG.out.1.trans (hF2.mono (fun _ _ e => .inl e))).setCell (p := ⟨bst, 4, none⟩) (.inl (.inr rfl)) _, fun j hj => (t2 j (by omega)).trans ((hF2.cell (p := ⟨bst, j, none⟩) hbz hne.1).trans (HG.out.2.1 j (by omega))), (t2 3 (by decide)).trans ((hF2.cell (p := ⟨bst, 3, none⟩) hbz hne.1).trans HG.out.2.2.1), t1⟩
  have hl9 : bst < (w2.setCell ⟨bst, 4, none⟩ (.slice s2.a s2.n s2.c)).heap.size := by have := hf2.size; omega
  have HA2 := hide hat2
  clear hF2 hl2 hat2 hY2 hL2 hf2 t1 t2 t3
  have HC := hide (bracket_ok T _ rb p2 _ HY2.out.rx.rd HY2.out.le HY2.out.big 41 (by rw [HA2.out.2]; exact hn3))
  go_wp2_with (go_at_call 31; refine HC.out.mono ?_; rintro e w3 ⟨p3, rfl, hat3, hR3, hF3⟩; have HF3 := hide hF3; have HY3 := hide (HY2.out.of hR3 hat3.1 hF3); have HA3 := hide hat3; clear hF3 hat3 hR3)
  all_goals go_ret
  exact ⟨0, s, s2, rfl, HG2.out.1.trans (HF3.out.mono (fun _ _ e => .inl e)), fun j hj => (HF3.out.cell (p := ⟨bst, j, none⟩) hl9 hne.1).trans (HG2.out.2.1 j hj), (HF3.out.cell (p := ⟨bst, 3, none⟩) hl9 hne.1).trans HG2.out.2.2.1, (HF3.out.cell (p := ⟨bst, 4, none⟩) hl9 hne.1).trans HG2.out.2.2.2, .inl ⟨_, l3, p3, hres, rfl, HA3.out, HY3.out, HL1'.out.move HF3.out (fun k e => by subst e; omega), HL2.out.move HF3.out (fun k e => by subst e; omega)⟩⟩
end
/-- What a statement has behind its expressions. -/
theorem rest_any (T : ByteArray) (mb rb p bst : Nat) (w : World) (deep s : Int) (hd0 : 0 ≤ deep) (hd1 : deep ≤ 100) (h : Ry T mb rb p w) (hB : Bt bst rb mb s w) (nest : Bs → R (List St))
    (hnest : ∀ p w, Ry T mb rb p w → Calls Tryd.prog 34 #[.pointer (some ⟨rb, 0, none⟩), .int .i64 (deep + 1)] w (LPost encS 5 StOk T mb rb w (nest (T.data.toList.drop p)))) :
    Calls Tryd.prog 56 #[.pointer (some ⟨rb, 0, none⟩), .pointer (some ⟨bst, 0, none⟩), .int .i64 deep] w (XPost T mb rb bst w (restP nest s (T.data.toList.drop p))) := by
  by_cases h4 : s = 4
  · subst h4
    exact rest_while T mb rb p bst w deep hd0 hd1 h hB nest hnest
  · by_cases h3 : s = 3
    · subst h3
      have hblock : ∀ p w, Ry T mb rb p w → Calls Tryd.prog 64 #[.pointer (some ⟨rb, 0, none⟩), .int .i64 (deep + 1)] w (LPost encS 5 StOk T mb rb w (blockP nest (T.data.toList.drop p))) := fun p w h => block_any T mb rb p w (deep + 1) h nest hnest
      have e1 := rest_three nest (T.data.toList.drop p)
      cases hn : blockP nest (T.data.toList.drop p) with
      | bad z => exact rest_if1 T mb rb p bst w deep hd0 hd1 h hB nest hblock hn (by rw [e1, hn]; rfl)
      | ok x l =>
        cases hn2 : blockP nest l with
        | bad z => exact rest_if2 T mb rb p bst w deep hd0 hd1 h hB nest hblock hn hn2 (by rw [e1, hn]; simp [R.go, hn2])
        | ok y l2 =>
          cases hn3 : bracketP 41 l2 with
          | bad z => exact rest_if3 T mb rb p bst w deep hd0 hd1 h hB nest hblock hn hn2 hn3 (by rw [e1, hn]; simp [R.go, hn2, hn3])
          | ok u l3 => exact rest_if4 T mb rb p bst w deep hd0 hd1 h hB nest hblock hn hn2 hn3 (by rw [e1, hn]; simp [R.go, hn2, hn3])
    · exact rest_else T mb rb p bst w deep s h hB h3 h4 nest
end Go.Proofs.YtbplfhjpajkcoabDoor
