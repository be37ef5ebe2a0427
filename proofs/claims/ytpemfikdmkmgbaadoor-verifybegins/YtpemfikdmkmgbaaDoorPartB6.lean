/- Orders; FAgent; FNew. -/
import Derived.OrdersHeld
import Derived.RegionTactic
import Derived.WalkKit
import Derived.Test.YtpemfikdmkmgbaaDoorPartB5
section
/- A region that draws its order, and in which a last part (T) comes behind all that is read: what is read may be taken first where it stays till then. (No program.) -/
namespace Go.Proofs.YtpemfikdmkmgbaaDoor
open Go Go.RowKit

section
variable {P : Program} {ops : Array Oper} {Q : Exit → Act → World → Prop} {md : Region.Mode} {S : World → Prop} {T : List Nat}

/-- None of T has come up yet. -/
def Before (T : List Nat) (listed : Array Bool) : Prop := ∀ k ∈ T, listed.getD k true = false
/-- Whatever comes up: S holds as long as none of T has. -/
def wpAnyT (P : Program) (md : Region.Mode) (ops : Array Oper) (Q : Exit → Act → World → Prop) (S : World → Prop) (T : List Nat) : Nat → Array Bool → Act → World → Prop
  | 0, listed, a, w => Region.ready md ops listed = [] ∧ Q .normal a w
  | n + 1, listed, a, w => (Region.ready md ops listed = [] → Q .normal a w) ∧
    ∀ i ∈ Region.ready md ops listed, wpOp P ops Q i (fun a' w' => (Before T (listed.setIfInBounds i true) → S w') ∧ wpAnyT P md ops Q S T n (listed.setIfInBounds i true) a' w') a w
theorem wpAny_of_T : ∀ (n : Nat) (listed : Array Bool) (a : Act) (w : World), wpAnyT P md ops Q S T n listed a w → wpAny P md ops Q n listed a w
  | 0, _, _, _, h => h
  | n + 1, _, _, _, h => ⟨h.1, fun i hi => wpOp_mono (fun a' w' h' => wpAny_of_T n _ a' w' h'.2) (h.2 i hi)⟩
/-- Once one of T has come up nothing is asked of S any more. -/
theorem wpAnyT_of_any : ∀ (n : Nat) (listed : Array Bool) (a : Act) (w : World), ¬ Before T listed → wpAny P md ops Q n listed a w → wpAnyT P md ops Q S T n listed a w
  | 0, _, _, _, _, h => h
  | n + 1, listed, _, _, hb, h => by
    have hb' : ∀ i, ¬ Before T (listed.setIfInBounds i true) := fun i hB => hb fun k hk => by
      have := hB k hk
      by_cases hik : i = k
      · subst hik
        rcases Nat.lt_or_ge i listed.size with h' | h'
        · simp [Array.getD_eq_getD_getElem?, h'] at this
        · simp [Array.getD_eq_getD_getElem?, h'] at this
      · rw [getD_set_ne true hik] at this
        exact this
    exact ⟨h.1, fun i hi => wpOp_mono (fun a' w' h' => ⟨fun hB => absurd hB (hb' i), wpAnyT_of_any n _ a' w' (hb' i) h'⟩) (h.2 i hi)⟩
/-- What yields in every world that meets S, and for which all of T wait, may be taken first. -/
theorem wpAnyT_first {i : Nat} {oi : Oper} {v : Value} (hi : ops[i]? = some oi) (hsel : ∀ (j : Nat) (o : Oper) cs b, ops[j]? = some o → o.op ≠ .select cs b)
    (hQ : ∀ c a w, Q (.panic c) (a.put oi.dst v) w → Q (.panic c) a w) (hT : ∀ k ∈ T, ∃ ok, ops[k]? = some ok ∧ ∃ e ∈ ok.after, Region.binds md e = true ∧ e.on = i) :
    ∀ (n : Nat) (listed : Array Bool) (a : Act) (w : World),
      (∀ j oj, ops[j]? = some oj → j ≠ i → listed.getD j true = false → (∀ e ∈ oj.after, Region.binds md e = true → e.on ≠ i) → oi.apart ops oj = true) →
      i ∈ Region.ready md ops listed → YieldsIf P ops S oi v a → S w → Before T listed →
      wpAnyT P md ops Q S T n (listed.setIfInBounds i true) (a.put oi.dst v) w → wpAnyT P md ops Q S T (n + 1) listed a w := by
  intro n
  have waits : ∀ (listed : Array Bool) (j : Nat) (oj : Oper), i ∈ Region.ready md ops listed → ops[j]? = some oj → j ∈ Region.ready md ops listed → ∀ e ∈ oj.after, Region.binds md e = true → e.on ≠ i := by
    intro listed j oj hr hoj hj e he hb heq
    obtain ⟨_, oj', hoj', hall⟩ := mem_ready.1 hj
    rw [hoj] at hoj'
    cases hoj'
    have h1 := hall e he hb
    have h0 := (mem_ready.1 hr).1
    rw [heq] at h1
    rcases Nat.lt_or_ge i listed.size with h' | h'
    · simp [h'] at h0 h1; rw [h0] at h1; cases h1
    · simp [Array.getElem?_eq_none h'] at h1
  induction n with
  | zero =>
    intro listed a w _ hr hy hS _ H
    refine ⟨fun h => (by rw [h] at hr; cases hr), fun j hj => ?_⟩
    by_cases hji : j = i
    · subst hji; exact hy.wpOp hi hS ⟨fun _ => hS, H⟩
    · have := ready_mono hj hji
      rw [H.1] at this
      cases this
  | succ n ih =>
    intro listed a w hfree hr hy hS hB H
    refine ⟨fun h => (by rw [h] at hr; cases hr), fun j hj => ?_⟩
    by_cases hji : j = i
    · subst hji; exact hy.wpOp hi hS ⟨fun _ => hS, H⟩
    · have h1 := H.2 j (ready_mono hj hji)
      obtain ⟨hjun, oj, hoj, _⟩ := mem_ready.1 hj
      have hnot := waits listed j oj hr hoj hj
      have h2 := wpOp_putIf hoj (hfree j oj hoj hji hjun hnot) (fun cs b => hsel i oi cs b hi) (fun cs b => hsel j oj cs b hoj) hQ hy h1
      have hjT : ∀ k ∈ T, j ≠ k := fun k hk e => by
        subst e
        obtain ⟨ok, hok, e, he, hb, hon⟩ := hT j hk
        rw [hoj] at hok
        cases hok
        exact hnot e he hb hon
      have hiT : ∀ k ∈ T, i ≠ k := fun k hk e => by
        subst e
        obtain ⟨ok, hok, e, he, hb, hon⟩ := hT i hk
        exact waits listed i ok hr hok hr e he hb hon
      have hBj : Before T (listed.setIfInBounds j true) := fun k hk => by rw [getD_set_ne true (hjT k hk)]; exact hB k hk
      have hBij : Before T ((listed.setIfInBounds i true).setIfInBounds j true) := fun k hk => by
        rw [getD_set_ne true (hjT k hk), getD_set_ne true (hiT k hk)]; exact hB k hk
      refine wpOp_mono (fun a' w' h3 => ⟨fun _ => h3.2.1 hBij, ih (listed.setIfInBounds j true) a' w' ?_ (ready_mono hr (Ne.symm hji)) h3.1 (h3.2.1 hBij) hBj ?_⟩) h2
      · intro k ok hk hki hun hno
        refine hfree k ok hk hki ?_ hno
        by_cases hjk : j = k
        · subst hjk; exact hjun
        · rw [getD_set_ne true hjk] at hun; exact hun
      · rw [Array.setIfInBounds_comm _ _ hji]
        exact h3.2.2
def waitsB (md : Region.Mode) (ops : Array Oper) (T : List Nat) (i : Nat) : Bool :=
  T.all fun k => match ops[k]? with
    | some ok => ok.after.any fun e => Region.binds md e && e.on == i
    | none => false
def beforeB (T : List Nat) (listed : Array Bool) : Bool := T.all fun k => !(listed.getD k true)
theorem before_of {listed : Array Bool} (h : beforeB T listed = true) : Before T listed := fun k hk => by
  have := List.all_eq_true.1 h k hk
  simpa using this
theorem not_before {listed : Array Bool} (h : beforeB T listed = false) : ¬ Before T listed := fun hB => by
  have : beforeB T listed = true := List.all_eq_true.2 fun k hk => by simp [hB k hk]
  rw [this] at h; cases h
theorem wpAnyT_take {i : Nat} {oi : Oper} {v : Value} {n : Nat} {listed : Array Bool} {a : Act} {w : World} (hi : ops[i]? = some oi)
    (hs : Region.noSelect ops = true) (hf : Region.free md ops listed i = true) (hr : (Region.ready md ops listed).contains i = true) (hw : waitsB md ops T i = true) (hb : beforeB T listed = true)
    (hQ : ∀ c a w, Q (.panic c) (a.put oi.dst v) w → Q (.panic c) a w) (hy : YieldsIf P ops S oi v a) (hS : S w)
    (h : wpAnyT P md ops Q S T n (listed.setIfInBounds i true) (a.put oi.dst v) w) : wpAnyT P md ops Q S T (n + 1) listed a w := by
  refine wpAnyT_first hi (Region.noSelect_spec hs) hQ (fun k hk => ?_) n listed a w (Region.free_spec hi hf) (by simpa using hr) hy hS (before_of hb) h
  have h1 := List.all_eq_true.1 hw k hk
  cases hk2 : ops[k]? with
  | none => rw [hk2] at h1; cases h1
  | some ok =>
    rw [hk2] at h1
    simp only [Array.any_eq_true, Bool.and_eq_true, beq_iff_eq] at h1
    obtain ⟨q, hq, h2, h3⟩ := h1
    exact ⟨ok, rfl, _, Array.getElem_mem hq, h2, h3⟩
def AllReadyT (P : Program) (md : Region.Mode) (ops : Array Oper) (Q : Exit → Act → World → Prop) (S : World → Prop) (T : List Nat) (n : Nat) (listed : Array Bool) (a : Act) (w : World) (rs : List Nat) : Prop :=
  ∀ i ∈ rs, wpOp P ops Q i (fun a' w' => (Before T (listed.setIfInBounds i true) → S w') ∧ wpAnyT P md ops Q S T n (listed.setIfInBounds i true) a' w') a w
theorem AllReadyT.nil {n : Nat} {listed : Array Bool} {a : Act} {w : World} : AllReadyT P md ops Q S T n listed a w [] := fun _ h => by cases h
/-- One that comes up while none of T has. -/
theorem AllReadyT.cons {n : Nat} {listed : Array Bool} {a : Act} {w : World} {i : Nat} {o : Oper} {rs : List Nat} (ho : ops[i]? = some o)
    (h : ∀ K' : Act → World → Prop, Hid (∀ a w, S w → wpAnyT P md ops Q S T n (listed.setIfInBounds i true) a w → K' a w) → if Region.wanted o (yielded ops a.tmps) = true then Oper.wp P o a w K' Q else K' (a.put o.dst undef) w)
    (hs : AllReadyT P md ops Q S T n listed a w rs) : AllReadyT P md ops Q S T n listed a w (i :: rs) := fun j hj => by
  rcases List.mem_cons.1 hj with rfl | hj
  · exact wpOp_step ho (fun K' hK => h K' (fun a w hS hW => hK a w ⟨fun _ => hS, hW⟩))
  · exact hs j hj
/-- The first one of T. -/
theorem AllReadyT.last {n : Nat} {listed : Array Bool} {a : Act} {w : World} {i : Nat} {o : Oper} {rs : List Nat} (ho : ops[i]? = some o) (hb : beforeB T (listed.setIfInBounds i true) = false)
    (h : ∀ K' : Act → World → Prop, Hid (∀ a w, wpAny P md ops Q n (listed.setIfInBounds i true) a w → K' a w) → if Region.wanted o (yielded ops a.tmps) = true then Oper.wp P o a w K' Q else K' (a.put o.dst undef) w)
    (hs : AllReadyT P md ops Q S T n listed a w rs) : AllReadyT P md ops Q S T n listed a w (i :: rs) := fun j hj => by
  rcases List.mem_cons.1 hj with rfl | hj
  · exact wpOp_step ho (fun K' hK => h K' (fun a w hW => hK a w ⟨fun hB => absurd hB (not_before hb), wpAnyT_of_any _ _ _ _ (not_before hb) hW⟩))
  · exact hs j hj
theorem wpAnyT_ready {rs : List Nat} {n : Nat} {listed : Array Bool} {a : Act} {w : World} (hr : Region.ready md ops listed = rs) (hne : rs ≠ [])
    (h : AllReadyT P md ops Q S T n listed a w rs) : wpAnyT P md ops Q S T (n + 1) listed a w :=
  ⟨fun h0 => absurd (hr ▸ h0) hne, hr ▸ h⟩
theorem wp_region_T {id : Nat} {a : Act} {w : World} (hm : P.follows .mixedOrders = true) (T : List Nat) (hS : S w.drew)
    (h : S w.drew → wpAnyT P .any ops Q S T ops.size (Array.replicate ops.size false) a w.drew) : (Code.region id ops true).wp P Q a w :=
  wp_region_any hm (wpAny_of_T _ _ _ _ (h hS))
end
theorem execOp_fn {o : Oper} {a : Act} {f : FuncId} {xs : Array Operand} {ats : Array TypeId} (ho : o.op = .call { callee := .value (.func f), args := xs, argTypes := ats }) : execOp a.eval o = callFunc f (#[] ++ xs.map a.eval ++ #[]) := by
  obtain ⟨dst, op, ty, pos, after, guard⟩ := o
  simp only at ho
  subst ho
  rfl
/-- A call of a named function, as a step of a region that draws its order. -/
theorem step_call {P : Program} {w : World} {ops : Array Oper} {o : Oper} {a : Act} {K : Act → World → Prop} {Q : Exit → Act → World → Prop} {E : Prop} (hgd : Region.wanted o (yielded ops a.tmps) = true) (f : FuncId) (fn : Func) (xs : Array Operand) (ats : Array TypeId)
    (ho : o.op = .call { callee := .value (.func f), args := xs, argTypes := ats }) (hf : P.funcs[f]? = some fn) (hname : (fn.name == "runtime.NumGoroutine") = false) (hbody : fn.body.isNone = false) (args : Array Value) (hx : xs.map a.eval = args)
    (R : Ending → World → Prop) (hc : Calls P f args w R) (h : ∀ e w', R e w' → ∃ v, e = .returned v ∧ K (a.put o.dst v) w') :
    if Region.wanted o (yielded ops a.tmps) = true then Oper.wp P o a w K Q else E := by
  rw [if_pos hgd]
  unfold Oper.wp
  rw [execOp_fn ho]
  have hr : (callFunc f (#[] ++ xs.map a.eval ++ #[])).run P w = .ok (.enter f args) w := by
    have h1 : fn.name ≠ "runtime.NumGoroutine" := by simpa using hname
    have h2 : fn.body ≠ none := by intro e; rw [e] at hbody; cases hbody
    simp [callFunc, hf, h1, h2, hx, run_program]
  rw [hr, Oper.upon_enter]
  refine hc.mono fun e w' hR => ?_
  obtain ⟨v, rfl, hk⟩ := h e w' hR
  exact hk

end Go.Proofs.YtpemfikdmkmgbaaDoor
end
section
/- Package verify: what is wrong with an agent. -/
set_option maxHeartbeats 0
set_option maxRecDepth 100000
namespace Go.Proofs.YtpemfikdmkmgbaaDoor
open Go Go.RowKit
theorem vProgram_any (p : Pz) (sc sw : Slc) (w : World) (hP : PzOk w sc sw p) (hW : WfZ p) :
    Calls Tryd.prog 10 #[.agg #[.slice sc.a sc.n sc.c, .slice sw.a sw.n sw.c]] w fun e w' => e = .returned (.int .i64 (programC p)) ∧ Fr nothing w w' := by
  have hF1 : Fr nothing w (w.alloc (.cells #[.slice sc.a sc.n sc.c, .slice sw.a sw.n sw.c] 25)) := (Fr.refl _ _).alloc _
  have HPR := hide (program_any p sc sw _ (hP.fr hF1) hW)
  have HF1 := hide hF1
  clear hF1 hP
  go_enter Tryd.func10, Tryd.ntmps10
  go_wp2_with (go_at_call 14; refine HPR.out.mono ?_; rintro e w2 ⟨q, rfl, hf2, hh2⟩; have HF2 := hide (HF1.out.trans hf2); clear hf2 hh2)
  go_ret
  exact ⟨rfl, HF2.out⟩
theorem fine_of {p : Pz} (h : programC p = 0) : FineZ p := by
  unfold programC at h
  split at h
  · rename_i h1; exact absurd h h1
  rename_i h1
  have hz := hed_zero (Classical.not_not.1 h1)
  refine ⟨fun c hc => ?_⟩
  have hb := hz.2.2.2.2.2 c hc
  refine ⟨?_, hb.2.2.2.2.2, by omega, by omega⟩
  have hc0 := firstE_zero h c hc
  unfold codeC at hc0
  split at hc0
  · rename_i h2; exact absurd hc0 h2
  · exact hc0
theorem firstN_step {f : Nat → Int} {n k : Nat} (hk : k < n) : firstN f (n - k) k = if f k ≠ 0 then f k else firstN f (n - (k + 1)) (k + 1) := by
  obtain ⟨m, hm⟩ : ∃ m, n - k = m + 1 := ⟨n - k - 1, by omega⟩
  rw [hm, firstN, show n - (k + 1) = m by omega]
theorem cell_two (n : Int) (c : Cel) : firstE (wrongV n) [c.l, c.r] = cellC n c := by
  unfold cellC
  rw [firstE, firstE, firstE]
  by_cases h1 : wrongV n c.l = 0
  · by_cases h2 : wrongV n c.r = 0 <;> simp [h1, h2]
  · simp [h1]
theorem vAgent_any (a : Ag) (sc sw sf sh : Slc) (away : Bool) (w : World) (hA : AgOk w sc sw sf sh a) (hW : WfA a) :
    Calls Tryd.prog 6 #[.agg (agC a sc sw sf sh), .bool away] w fun e w' => e = .returned (.int .i64 (agentC a away)) ∧ Fr nothing w w' := by
  obtain ⟨rs, hrs, hea⟩ := hA.fr
  obtain ⟨n1, m1⟩ := sl_len hrs
  obtain ⟨n2, m2⟩ := sl_len hA.hp
  rw [hea.1] at n1 m1
  obtain ⟨sfa, sfn, sfc⟩ := sf
  obtain ⟨sha, shn, shc⟩ := sh
  simp only at n1 n2
  subst n1 n2
  have hl := hW.l
  have hFA : Fr nothing w (w.alloc (.cells (agC a sc sw ⟨sfa, a.fr.length, sfc⟩ ⟨sha, a.hp.length, shc⟩) 31)) := (Fr.refl _ _).alloc _
  have ma := made_cells (Fr.refl nothing (w.alloc (.cells (agC a sc sw ⟨sfa, a.fr.length, sfc⟩ ⟨sha, a.hp.length, shc⟩) 31))) id
  obtain ⟨w1, hw1⟩ : ∃ x, x = w.alloc (.cells (agC a sc sw ⟨sfa, a.fr.length, sfc⟩ ⟨sha, a.hp.length, shc⟩) 31) := ⟨_, rfl⟩
  rw [← hw1] at hFA ma
  obtain ⟨ab, hab⟩ : ∃ x, x = w.heap.size := ⟨_, rfl⟩
  have HCC : Hid (∀ w', Fr nothing w1 w' → (w'.cell? ⟨ab, 0, none⟩ = some (.int .i64 a.id) ∧ w'.cell? ⟨ab, 1, none⟩ = some (.int .i64 a.trip) ∧ w'.cell? ⟨ab, 2, none⟩ = some (.slice sc.a sc.n sc.c) ∧ w'.cell? ⟨ab, 3, none⟩ = some (.slice sw.a sw.n sw.c) ∧ w'.cell? ⟨ab, 4, none⟩ = some (.slice sfa a.fr.length sfc)) ∧ (w'.cell? ⟨ab, 5, none⟩ = some (.slice sha a.hp.length shc) ∧ w'.cell? ⟨ab, 6, none⟩ = some (.int .i64 a.fuel) ∧ w'.cell? ⟨ab, 7, none⟩ = some (.int .i64 a.cells) ∧ w'.cell? ⟨ab, 8, none⟩ = some (.int .i64 a.hops)) ∧ ab < w'.heap.size) := by
    rw [hab]
    intro w' hf
    have hc : ∀ j, w'.cell? ⟨w.heap.size, j, none⟩ = w1.cell? ⟨w.heap.size, j, none⟩ := fun j => hf.cell (p := ⟨w.heap.size, j, none⟩) ma.2.2 id
    exact ⟨⟨(hc 0).trans (ma.1 0), (hc 1).trans (ma.1 1), (hc 2).trans (ma.1 2), (hc 3).trans (ma.1 3), (hc 4).trans (ma.1 4)⟩, ⟨(hc 5).trans (ma.1 5), (hc 6).trans (ma.1 6), (hc 7).trans (ma.1 7), (hc 8).trans (ma.1 8)⟩, Nat.lt_of_lt_of_le ma.2.2 hf.size⟩
  have HA1 := hide (hA.fr' hFA)
  have HRS := hide (hrs.fr hFA (fun _ _ => id))
  have HEA : Hid (Each (FmOk w1) rs a.fr) := ⟨hea.1, fun i r x e1 e2 => (hea.2 i r x e1 e2).fr hFA⟩
  have HF1 := hide hFA
  have HW := hide hW
  have HPR := hide (program_any a.pg sc sw w1 HA1.out.pg hW.pg)
  have HCT := hide (fun w2 => counts_any a sc sw ⟨sfa, a.fr.length, sfc⟩ ⟨sha, a.hp.length, shc⟩ w2 rfl rfl ⟨hl.2, hl.1⟩)
  have hd : agentC a away = if programC a.pg ≠ 0 then programC a.pg else if countsC a ≠ 0 then countsC a else if firstN (frameE a away) a.fr.length 0 ≠ 0 then firstN (frameE a away) a.fr.length 0 else firstE (cellC a.hp.length) a.hp := rfl
  obtain ⟨R, hR⟩ : ∃ R, agentC a away = R := ⟨_, rfl⟩
  rw [hR] at hd ⊢
  have hfin := @fine_of a.pg
  unfold PrP at HPR
  obtain ⟨pe, hpe⟩ : ∃ x, programC a.pg = x := ⟨_, rfl⟩
  rw [hpe] at hd HPR hfin
  have a0 := ma.1 0
  have a1 := ma.1 1
  have a2 := ma.1 2
  have a3 := ma.1 3
  have al := ma.2.2
  have e1' := hw1.symm
  have HAB := hide hab
  clear hrs hea hA hFA ma hW hR hpe hw1
  by_cases h0 : pe = 0
  case neg =>
    rw [if_pos h0] at hd
    subst hd
    have h0b : (R != 0) = true := by simpa using h0
    go_enter Tryd.func6, Tryd.ntmps6
    go_wp2_with (go_at_call 14; refine HPR.out.mono ?_; rintro e w2 ⟨q, rfl, hf2, hh2⟩; have HF2 := hide (HF1.out.trans hf2); clear hf2 hh2)
    go_ret
    exact ⟨rfl, HF2.out⟩
  rw [if_neg (by simpa using h0)] at hd
  have HFI := hide (hfin h0)
  subst h0
  obtain ⟨ce, hce⟩ : ∃ x, countsC a = x := ⟨_, rfl⟩
  rw [hce] at hd HCT
  have hcz : ce = 0 → a.fr.length ≤ 12 ∧ a.hp.length ≤ 60 := fun e => by
    have h : countsC a = 0 := hce.trans e
    unfold countsC at h
    split at h
    · cases h
    split at h
    · cases h
    split at h
    · cases h
    split at h
    · cases h
    omega
  clear hce hfin
  by_cases h1 : ce = 0
  case neg =>
    rw [if_pos h1] at hd
    subst hd
    have h1b : (R != 0) = true := by simpa using h1
    go_enter Tryd.func6, Tryd.ntmps6
    go_wp2_with (first
      | (go_at_call 14; refine HPR.out.mono ?_; rintro e w2 ⟨q, rfl, hf2, hh2⟩; have HF2 := hide (HF1.out.trans hf2); obtain ⟨⟨x0, x1, x2, x3, x4⟩, ⟨x5, x6, x7, x8⟩, xl⟩ := HCC.out w2 hf2; rw [hab] at x0 x1 x2 x3 x4 x5 x6 x7 x8 xl; clear hf2 hh2)
      | (go_at_call 15; refine (HCT.out w2).mono ?_; rintro e w3 ⟨rfl, hf3⟩; have HF3 := hide (HF2.out.trans hf3); clear hf3))
    go_ret
    exact ⟨rfl, HF3.out⟩
  rw [if_neg (by simpa using h1)] at hd
  obtain ⟨hf12, hh60⟩ := hcz h1
  subst h1
  have HDD := hide hd
  clear hd hcz hl
  go_enter Tryd.func6, Tryd.ntmps6
  go_wp2_with (first
    | (go_at_call 14; refine HPR.out.mono ?_; rintro e w2 ⟨q, rfl, hf2, hh2⟩; obtain ⟨⟨x0, x1, x2, x3, x4⟩, ⟨x5, x6, x7, x8⟩, xl⟩ := HCC.out w2 hf2; rw [hab] at x0 x1 x2 x3 x4 x5 x6 x7 x8 xl; have HF2 := hide hf2; have HH2 := hide hh2; clear hf2 hh2)
    | (go_at_call 15; refine (HCT.out w2).mono ?_; rintro e w3 ⟨rfl, hf3⟩; obtain ⟨⟨-, -, -, -, y4⟩, -, yl⟩ := HCC.out w3 (HF2.out.trans hf3); rw [hab] at y4 yl; have HF3 := hide (HF2.out.trans hf3); have HH3 : Hid (HsOk w3 q (a.pg.cs.map hgtZ)) := (HH2.out (by trivial)).fr hf3; clear hf3))
  rw [← hab]
  clear a0 a1 a2 a3 al e1' x0 x1 x2 x3 x4 x5 x6 x7 x8 xl y4 yl hab HPR HCT HH2
  go_loopw [35, 9, 10, 11, 12, 13] (fun i _ _ _ _ _ wv => ∃ (k : Nat), k ≤ a.fr.length ∧ i = .int .i64 k ∧ Hid (Fr nothing w3 wv ∧ firstN (frameE a away) (a.fr.length - k) k = firstN (frameE a away) a.fr.length 0)) (fun i _ _ _ _ _ _ => a.fr.length - (intOf i).toNat)
  case atStart => exact ⟨0, Nat.zero_le _, rfl, Fr.refl _ _, rfl⟩
  case round =>
    obtain ⟨k, hk, rfl, hRk⟩ := hrel
    obtain ⟨hfk, hek⟩ := hRk.out
    by_cases hkl : k < a.fr.length
    · have hx : a.fr[k]? = some a.fr[k] := List.getElem?_eq_getElem hkl
      have hxm : a.fr[k] ∈ a.fr := List.getElem_mem hkl
      have hgd : a.fr.getD k fm0 = a.fr[k] := by simp [List.getD, hx]
      have hst := firstN_step (f := frameE a away) hkl
      have hfE : frameE a away k = if frameC a.pg (a.fr.getD k fm0) (waitC a k away) ≠ 0 then frameC a.pg (a.fr.getD k fm0) (waitC a k away) else if firstE (wrongV a.hp.length) (a.fr.getD k fm0).vars ≠ 0 then firstE (wrongV a.hp.length) (a.fr.getD k fm0).vars else firstE (wrongV a.hp.length) (a.fr.getD k fm0).stack := rfl
      rw [hgd] at hfE
      rw [hek] at hst
      have hra : rs[k]? = some (rs[k]'(by rw [HEA.out.1]; exact hkl)) := List.getElem?_eq_getElem _
      generalize a.fr[k] = f at hx hxm hgd hfE
      generalize rs[k]'(by rw [HEA.out.1]; exact hkl) = r at hra
      have hwm := HW.out.fr f hxm
      have hok := HEA.out.2 k r f hra hx
      obtain ⟨g, o, e1, dg, u0, u1, u2, u3⟩ := sl_elemM (s := ⟨sfa, a.fr.length, sfc⟩) HRS.out hra
      simp only at e1
      subst e1
      have hF3 := HF3.out.trans hfk
      have dg' := Nat.lt_of_lt_of_le dg hF3.size
      rw [← hF3.cell (p := ⟨g, _, none⟩) dg id] at u0 u1 u2 u3
      have hFB : Fr nothing wr (wr.alloc (.cells #[.int .i64 r.fn, .int .i64 r.at_, .slice r.v.a r.v.n r.v.c, .slice r.s.a r.s.n r.s.c] 57)) := (Fr.refl _ _).alloc _
      have mb := made_cells (Fr.refl nothing (wr.alloc (.cells #[.int .i64 r.fn, .int .i64 r.at_, .slice r.v.a r.v.n r.v.c, .slice r.s.a r.s.n r.s.c] 57))) id
      obtain ⟨w4, hw4⟩ : ∃ x, x = wr.alloc (.cells #[.int .i64 r.fn, .int .i64 r.at_, .slice r.v.a r.v.n r.v.c, .slice r.s.a r.s.n r.s.c] 57) := ⟨_, rfl⟩
      rw [← hw4] at hFB mb
      obtain ⟨fb, hfb⟩ : ∃ x, x = wr.heap.size := ⟨_, rfl⟩
      rw [← hfb] at mb
      have hF4 := hF3.trans hFB
      have HF4 : Hid (Fr nothing w3 w4) := hfk.trans hFB
      have HS4 : Hid (∀ w', Fr nothing w4 w' → (w'.cell? ⟨fb, 0, none⟩ = some (.int .i64 r.fn) ∧ w'.cell? ⟨fb, 1, none⟩ = some (.int .i64 r.at_) ∧ w'.cell? ⟨fb, 2, none⟩ = some (.slice r.v.a r.v.n r.v.c) ∧ w'.cell? ⟨fb, 3, none⟩ = some (.slice r.s.a r.s.n r.s.c)) ∧ fb < w'.heap.size) := fun w' hf => by
        have hc : ∀ j, w'.cell? ⟨fb, j, none⟩ = w4.cell? ⟨fb, j, none⟩ := fun j => hf.cell (p := ⟨fb, j, none⟩) mb.2.2 id
        exact ⟨⟨(hc 0).trans (mb.1 0), (hc 1).trans (mb.1 1), (hc 2).trans (mb.1 2), (hc 3).trans (mb.1 3)⟩, Nat.lt_of_lt_of_le mb.2.2 hf.size⟩
      have HC4 : Hid (∀ w', Fr nothing w4 w' → Fr nothing w1 w') := fun w' hf => HF3.out.trans ((hfk.trans hFB).trans hf)
      have HOK := hide hok
      have HWM := hide hwm
      have HST := hide hst
      have HFE := hide hfE
      have hw4' := hw4.symm
      clear hRk hfk hek hx hxm hgd hst hfE hra hwm hok hF3 hF4 hFB mb hw4
      go_wp2_with fail
      rw [← hfb]
      clear u0 u1 u2 u3 dg dg' hw4' hfb
      obtain ⟨⟨i0, i1, i2, i3, i4⟩, ⟨i5, i6, i7, i8⟩, il⟩ := HCC.out _ (HC4.out _ (Fr.refl _ _))
      obtain ⟨⟨j0, j1, j2, j3⟩, jl⟩ := HS4.out _ (Fr.refl _ _)
      refine wp_region_held_drew (S := fun w' => (w'.cell? ⟨ab, 0, none⟩ = some (.int .i64 a.id) ∧ w'.cell? ⟨ab, 1, none⟩ = some (.int .i64 a.trip) ∧ w'.cell? ⟨ab, 2, none⟩ = some (.slice sc.a sc.n sc.c) ∧ w'.cell? ⟨ab, 3, none⟩ = some (.slice sw.a sw.n sw.c) ∧ w'.cell? ⟨ab, 4, none⟩ = some (.slice (some ⟨g, o, none⟩) a.fr.length sfc)) ∧ (w'.cell? ⟨ab, 5, none⟩ = some (.slice sha a.hp.length shc) ∧ w'.cell? ⟨ab, 6, none⟩ = some (.int .i64 a.fuel) ∧ w'.cell? ⟨ab, 7, none⟩ = some (.int .i64 a.cells) ∧ w'.cell? ⟨ab, 8, none⟩ = some (.int .i64 a.hops)) ∧ (w'.cell? ⟨fb, 0, none⟩ = some (.int .i64 r.fn) ∧ w'.cell? ⟨fb, 1, none⟩ = some (.int .i64 r.at_) ∧ w'.cell? ⟨fb, 2, none⟩ = some (.slice r.v.a r.v.n r.v.c) ∧ w'.cell? ⟨fb, 3, none⟩ = some (.slice r.s.a r.s.n r.s.c))) (by kernel_rfl) ?_ (fun hHeld => ?_)
      · exact ⟨⟨i0, i1, i2, i3, i4⟩, ⟨i5, i6, i7, i8⟩, j0, j1, j2, j3⟩
      refine wpAnyH_take (i := 0) (oi := { dst := some 40, op := Op.load 57 (Operand.tmp 10), type := 57, pos := "verify.go:61", after := #[], guard := none }) (v := ?v1) rfl (by kernel_rfl) (by kernel_rfl) (by kernel_rfl) (fun _ _ _ h => h) (Or.inl ⟨by rfl, ?hy1⟩) (by assumption) ?rest1
      case hy1 => (intro w hSw; (try dsimp only at hSw); obtain ⟨⟨s0, s1, s2, s3, s4⟩, ⟨s5, s6, s7, s8⟩, s9, s10, s11, s12⟩ := hSw; go_simp; try with_reducible rfl)
      try simp only [Act.put, List.setIfInBounds_toArray, List.set_cons_zero, List.set_cons_succ]
      refine wpAnyH_take (i := 1) (oi := { dst := some 41, op := Op.fieldAddr 31 (Operand.tmp 2) 2, type := 0, pos := "verify.go:61", after := #[], guard := none }) (v := ?v2) rfl (by kernel_rfl) (by kernel_rfl) (by kernel_rfl) (fun _ _ _ h => h) (Or.inl ⟨by rfl, ?hy2⟩) (by assumption) ?rest2
      case hy2 => (intro w hSw; (try dsimp only at hSw); obtain ⟨⟨s0, s1, s2, s3, s4⟩, ⟨s5, s6, s7, s8⟩, s9, s10, s11, s12⟩ := hSw; go_simp; try with_reducible rfl)
      try simp only [Act.put, List.setIfInBounds_toArray, List.set_cons_zero, List.set_cons_succ]
      refine wpAnyH_take (i := 2) (oi := { dst := some 42, op := Op.fieldAddr 25 (Operand.tmp 41) 0, type := 0, pos := "verify.go:61", after := #[{ on := 1, ground := Ground.data }], guard := none }) (v := ?v3) rfl (by kernel_rfl) (by kernel_rfl) (by kernel_rfl) (fun _ _ _ h => h) (Or.inl ⟨by rfl, ?hy3⟩) (by assumption) ?rest3
      case hy3 => (intro w hSw; (try dsimp only at hSw); obtain ⟨⟨s0, s1, s2, s3, s4⟩, ⟨s5, s6, s7, s8⟩, s9, s10, s11, s12⟩ := hSw; go_simp; try with_reducible rfl)
      try simp only [Act.put, List.setIfInBounds_toArray, List.set_cons_zero, List.set_cons_succ]
      refine wpAnyH_take (i := 3) (oi := { dst := some 43, op := Op.load 22 (Operand.tmp 42), type := 22, pos := "verify.go:61", after := #[{ on := 2, ground := Ground.data }], guard := none }) (v := ?v4) rfl (by kernel_rfl) (by kernel_rfl) (by kernel_rfl) (fun _ _ _ h => h) (Or.inl ⟨by rfl, ?hy4⟩) (by assumption) ?rest4
      case hy4 => (intro w hSw; (try dsimp only at hSw); obtain ⟨⟨s0, s1, s2, s3, s4⟩, ⟨s5, s6, s7, s8⟩, s9, s10, s11, s12⟩ := hSw; go_simp; try with_reducible rfl)
      try simp only [Act.put, List.setIfInBounds_toArray, List.set_cons_zero, List.set_cons_succ]
      refine wpAnyH_take (i := 4) (oi := { dst := some 44, op := Op.move (Operand.tmp 5), type := 60, pos := "verify.go:61", after := #[], guard := none }) (v := ?v5) rfl (by kernel_rfl) (by kernel_rfl) (by kernel_rfl) (fun _ _ _ h => h) (Or.inl ⟨by rfl, ?hy5⟩) (by assumption) ?rest5
      case hy5 => (intro w hSw; (try dsimp only at hSw); obtain ⟨⟨s0, s1, s2, s3, s4⟩, ⟨s5, s6, s7, s8⟩, s9, s10, s11, s12⟩ := hSw; go_simp; try with_reducible rfl)
      try simp only [Act.put, List.setIfInBounds_toArray, List.set_cons_zero, List.set_cons_succ]
      refine wpAnyH_take (i := 5) (oi := { dst := some 45, op := Op.load 31 (Operand.tmp 2), type := 31, pos := "verify.go:61", after := #[], guard := none }) (v := ?v6) rfl (by kernel_rfl) (by kernel_rfl) (by kernel_rfl) (fun _ _ _ h => h) (Or.inl ⟨by rfl, ?hy6⟩) (by assumption) ?rest6
      case hy6 => (intro w hSw; (try dsimp only at hSw); obtain ⟨⟨s0, s1, s2, s3, s4⟩, ⟨s5, s6, s7, s8⟩, s9, s10, s11, s12⟩ := hSw; go_simp; try with_reducible rfl)
      try simp only [Act.put, List.setIfInBounds_toArray, List.set_cons_zero, List.set_cons_succ]
      refine wpAnyH_take (i := 6) (oi := { dst := some 46, op := Op.move (Operand.tmp 9), type := 3, pos := "verify.go:61", after := #[], guard := none }) (v := ?v7) rfl (by kernel_rfl) (by kernel_rfl) (by kernel_rfl) (fun _ _ _ h => h) (Or.inl ⟨by rfl, ?hy7⟩) (by assumption) ?rest7
      case hy7 => (intro w hSw; (try dsimp only at hSw); obtain ⟨⟨s0, s1, s2, s3, s4⟩, ⟨s5, s6, s7, s8⟩, s9, s10, s11, s12⟩ := hSw; go_simp; try with_reducible rfl)
      try simp only [Act.put, List.setIfInBounds_toArray, List.set_cons_zero, List.set_cons_succ]
      refine wpAnyH_take (i := 7) (oi := { dst := some 47, op := Op.move (Operand.tmp 1), type := 4, pos := "verify.go:61", after := #[], guard := none }) (v := ?v8) rfl (by kernel_rfl) (by kernel_rfl) (by kernel_rfl) (fun _ _ _ h => h) (Or.inl ⟨by rfl, ?hy8⟩) (by assumption) ?rest8
      case hy8 => (intro w hSw; (try dsimp only at hSw); obtain ⟨⟨s0, s1, s2, s3, s4⟩, ⟨s5, s6, s7, s8⟩, s9, s10, s11, s12⟩ := hSw; go_simp; try with_reducible rfl)
      try simp only [Act.put, List.setIfInBounds_toArray, List.set_cons_zero, List.set_cons_succ]
      have HHS : Hid (∀ w', Fr nothing w4 w' → (w'.cell? ⟨ab, 0, none⟩ = some (.int .i64 a.id) ∧ w'.cell? ⟨ab, 1, none⟩ = some (.int .i64 a.trip) ∧ w'.cell? ⟨ab, 2, none⟩ = some (.slice sc.a sc.n sc.c) ∧ w'.cell? ⟨ab, 3, none⟩ = some (.slice sw.a sw.n sw.c) ∧ w'.cell? ⟨ab, 4, none⟩ = some (.slice (some ⟨g, o, none⟩) a.fr.length sfc)) ∧ (w'.cell? ⟨ab, 5, none⟩ = some (.slice sha a.hp.length shc) ∧ w'.cell? ⟨ab, 6, none⟩ = some (.int .i64 a.fuel) ∧ w'.cell? ⟨ab, 7, none⟩ = some (.int .i64 a.cells) ∧ w'.cell? ⟨ab, 8, none⟩ = some (.int .i64 a.hops)) ∧ (w'.cell? ⟨fb, 0, none⟩ = some (.int .i64 r.fn) ∧ w'.cell? ⟨fb, 1, none⟩ = some (.int .i64 r.at_) ∧ w'.cell? ⟨fb, 2, none⟩ = some (.slice r.v.a r.v.n r.v.c) ∧ w'.cell? ⟨fb, 3, none⟩ = some (.slice r.s.a r.s.n r.s.c))) := fun w' hf => by
        have x := HCC.out _ (HC4.out _ hf)
        have y := HS4.out _ hf
        exact ⟨x.1, x.2.1, y.1⟩
      have HWT := hide (waits_any a sc sw ⟨some ⟨g, o, none⟩, a.fr.length, sfc⟩ ⟨sha, a.hp.length, shc⟩ k away rs w4.drew (HRS.out.fr (HC4.out _ (Fr.refl nothing w4).drew) (fun _ _ => id)) ⟨HEA.out.1, fun i r x e1 e2 => (HEA.out.2 i r x e1 e2).fr (HC4.out _ (Fr.refl nothing w4).drew)⟩ (by omega))
      have HFM : Hid (∀ w5, Fr nothing w4 w5 → Calls Tryd.prog 18 #[.agg #[.int .i64 r.fn, .int .i64 r.at_, .slice r.v.a r.v.n r.v.c, .slice r.s.a r.s.n r.s.c], .slice sc.a sc.n sc.c, .slice q.a q.n q.c, .agg #[.int .i64 (waitC a k away).1, .int .i64 (waitC a k away).2]] w5 fun e w' => e = .returned (.int .i64 (frameC a.pg f (waitC a k away))) ∧ Fr nothing w5 w') := fun w5 hf =>
        frame_any a.pg f r (waitC a k away) sc sw q w5 (HA1.out.pg.fr (HC4.out _ hf)) (HH3.out.fr (HF4.out.trans hf)) (HOK.out.fr (HC4.out _ hf)) HFI.out ⟨HWM.out.fn, HWM.out.at_⟩
      have HV : Hid (∀ w6, Fr nothing w4 w6 → Calls Tryd.prog 16 #[.slice r.v.a r.v.n r.v.c, .pointer (some ⟨ab, 0, none⟩)] w6 fun e w' => e = .returned (.int .i64 (firstE (wrongV a.hp.length) f.vars)) ∧ Fr nothing w6 w') := fun w6 hf =>
        wrongs_any f.vars r.v ab a.hp.length sha shc w6 (HOK.out.v.fr (HC4.out _ hf) (fun _ _ => id)) HWM.out.v (HHS.out _ hf).2.1.1
      have HSS : Hid (∀ w6, Fr nothing w4 w6 → Calls Tryd.prog 16 #[.slice r.s.a r.s.n r.s.c, .pointer (some ⟨ab, 0, none⟩)] w6 fun e w' => e = .returned (.int .i64 (firstE (wrongV a.hp.length) f.stack)) ∧ Fr nothing w6 w') := fun w6 hf =>
        wrongs_any f.stack r.s ab a.hp.length sha shc w6 (HOK.out.s.fr (HC4.out _ hf) (fun _ _ => id)) HWM.out.s (HHS.out _ hf).2.1.1
      clear i0 i1 i2 i3 i4 i5 i6 i7 i8 il j0 j1 j2 j3 jl
      refine wpAnyH_ready (rs := [8]) (by kernel_rfl) (by simp) ?_
      refine AllReadyH.cons (o := { dst := some 48, op := Op.call { callee := Callee.value (Operand.func 19), args := #[Operand.tmp 45, Operand.tmp 46, Operand.tmp 47], argTypes := #[31, 3, 4] }, type := 70, pos := "verify.go:61", after := #[{ on := 5, ground := Ground.data }, { on := 6, ground := Ground.data }, { on := 7, ground := Ground.data }], guard := none }) rfl (fun K hK => ?_) AllReadyH.nil
      refine step_call (by rfl) 19 Tryd.f19 #[.tmp 45, .tmp 46, .tmp 47] #[31, 3, 4] rfl Tryd.func19 (by kernel_rfl) (by kernel_rfl) #[.agg (agC a sc sw ⟨some ⟨g, o, none⟩, a.fr.length, sfc⟩ ⟨sha, a.hp.length, shc⟩), .int .i64 (k : Nat), .bool away] (by simp [Act.eval]) _ HWT.out ?_
      rintro e w5 ⟨rfl, hf5⟩
      have F5 : Fr nothing w4 w5 := (Fr.refl nothing w4).drew.trans hf5
      refine ⟨_, rfl, hK _ _ (HHS.out _ F5) (fun _ => ?_)⟩
      clear hK K hHeld
      try simp only [Act.put, List.setIfInBounds_toArray, List.set_cons_zero, List.set_cons_succ]
      refine wpAnyH_ready (rs := [9]) (by kernel_rfl) (by simp) ?_
      refine AllReadyH.cons (o := { dst := some 49, op := Op.call { callee := Callee.value (Operand.func 18), args := #[Operand.tmp 40, Operand.tmp 43, Operand.tmp 44, Operand.tmp 48], argTypes := #[57, 22, 60, 70] }, type := 36, pos := "verify.go:61", after := #[{ on := 0, ground := Ground.data }, { on := 3, ground := Ground.data }, { on := 4, ground := Ground.data }, { on := 8, ground := Ground.data }, { on := 8, ground := Ground.chain }], guard := none }) rfl (fun K hK => ?_) AllReadyH.nil
      refine step_call (by rfl) 18 Tryd.f18 #[.tmp 40, .tmp 43, .tmp 44, .tmp 48] #[57, 22, 60, 70] rfl Tryd.func18 (by kernel_rfl) (by kernel_rfl) #[.agg #[.int .i64 r.fn, .int .i64 r.at_, .slice r.v.a r.v.n r.v.c, .slice r.s.a r.s.n r.s.c], .slice sc.a sc.n sc.c, .slice q.a q.n q.c, .agg #[.int .i64 (waitC a k away).1, .int .i64 (waitC a k away).2]] (by simp [Act.eval]) _ (HFM.out w5 F5) ?_
      rintro e w6 ⟨rfl, hf6⟩
      have F6 : Fr nothing w4 w6 := F5.trans hf6
      refine ⟨_, rfl, hK _ _ (HHS.out _ F6) (fun _ => ?_)⟩
      clear hK K
      try simp only [Act.put, List.setIfInBounds_toArray, List.set_cons_zero, List.set_cons_succ]
      have hHeld := HHS.out _ F6
      refine wpAnyH_take (i := 10) (oi := { dst := some 11, op := Op.assign (Operand.tmp 49), type := 36, pos := "verify.go:61", after := #[{ on := 9, ground := Ground.data }, { on := 9, ground := Ground.chain }, { on := 0, ground := Ground.phase }, { on := 1, ground := Ground.phase }, { on := 2, ground := Ground.phase }, { on := 3, ground := Ground.phase }, { on := 4, ground := Ground.phase }, { on := 5, ground := Ground.phase }, { on := 6, ground := Ground.phase }, { on := 7, ground := Ground.phase }, { on := 8, ground := Ground.phase }, { on := 9, ground := Ground.phase }], guard := none }) (v := ?v9) rfl (by kernel_rfl) (by kernel_rfl) (by kernel_rfl) (fun _ _ _ h => h) (Or.inl ⟨by rfl, ?hy9⟩) (by assumption) ?rest9
      case hy9 => (intro w hSw; (try dsimp only at hSw); obtain ⟨⟨s0, s1, s2, s3, s4⟩, ⟨s5, s6, s7, s8⟩, s9, s10, s11, s12⟩ := hSw; go_simp; try with_reducible rfl)
      try simp only [Act.put, List.setIfInBounds_toArray, List.set_cons_zero, List.set_cons_succ]
      refine wpAnyH_done (by kernel_rfl) ?_ _
      have HF6 := hide F6
      obtain ⟨⟨k0, k1, k2, k3⟩, kl⟩ := HS4.out w6 F6
      obtain ⟨fe, hfe⟩ : ∃ x, frameC a.pg f (waitC a k away) = x := ⟨_, rfl⟩
      obtain ⟨ve, hve⟩ : ∃ x, firstE (wrongV a.hp.length) f.vars = x := ⟨_, rfl⟩
      obtain ⟨se, hse⟩ : ∃ x, firstE (wrongV a.hp.length) f.stack = x := ⟨_, rfl⟩
      rw [hfe, hve, hse] at HFE
      rw [hfe]
      clear hHeld hf5 hf6 F5 F6 HWT HFM hfe
      by_cases h1 : fe = 0
      case neg =>
        have h1b : (fe != 0) = true := by simpa using h1
        have HR : Hid (R = fe) := by
          have e1 := HFE.out
          rw [if_pos h1] at e1
          have e2 := HST.out
          rw [e1, if_pos h1] at e2
          have e3 := HDD.out
          rw [e2, if_pos h1] at e3
          exact e3
        have HFF := hide (HF1.out.trans (HC4.out _ HF6.out))
        go_wp2_with fail
        go_ret
        exact ⟨by rw [HR.out]; rfl, HFF.out⟩
      subst h1
      by_cases h2 : ve = 0
      case neg =>
        have h2b : (ve != 0) = true := by simpa using h2
        have HR : Hid (R = ve) := by
          have e1 := HFE.out
          rw [if_neg (by simp), if_pos h2] at e1
          have e2 := HST.out
          rw [e1, if_pos h2] at e2
          have e3 := HDD.out
          rw [e2, if_pos h2] at e3
          exact e3
        go_wp2_with (go_at_call 16; refine (HV.out w6 HF6.out).mono ?_; rintro e w7 ⟨rfl, hf7⟩; rw [hve]; have HF7 := hide (HF6.out.trans hf7); obtain ⟨⟨l0, l1, l2, l3⟩, ll⟩ := HS4.out w7 HF7.out; clear hf7)
        go_ret
        exact ⟨by rw [HR.out]; rfl, HF1.out.trans (HC4.out _ HF7.out)⟩
      subst h2
      by_cases h3 : se = 0
      case neg =>
        have h3b : (se != 0) = true := by simpa using h3
        have HR : Hid (R = se) := by
          have e1 := HFE.out
          rw [if_neg (by simp), if_neg (by simp)] at e1
          have e2 := HST.out
          rw [e1, if_pos h3] at e2
          have e3 := HDD.out
          rw [e2, if_pos h3] at e3
          exact e3
        go_wp2_with (first | (go_at_call 16; refine (HSS.out w7 HF7.out).mono ?_; rintro e w8 ⟨rfl, hf8⟩; rw [hse]; have HF8 := hide (HF7.out.trans hf8); clear hf8) | (go_at_call 16; refine (HV.out w6 HF6.out).mono ?_; rintro e w7 ⟨rfl, hf7⟩; rw [hve]; have HF7 := hide (HF6.out.trans hf7); obtain ⟨⟨l0, l1, l2, l3⟩, ll⟩ := HS4.out w7 HF7.out; clear hf7))
        go_ret
        exact ⟨by rw [HR.out]; rfl, HF1.out.trans (HC4.out _ HF8.out)⟩
      subst h3
      have HE : Hid (firstN (frameE a away) (a.fr.length - (k + 1)) (k + 1) = firstN (frameE a away) a.fr.length 0) := by
        have e1 := HFE.out
        rw [if_neg (by simp), if_neg (by simp)] at e1
        have e2 := HST.out
        rw [e1, if_neg (by simp)] at e2
        exact e2.symm
      go_wp2_with (first | (go_at_call 16; refine (HSS.out w7 HF7.out).mono ?_; rintro e w8 ⟨rfl, hf8⟩; rw [hse]; have HF8 := hide (HF7.out.trans hf8); clear hf8) | (go_at_call 16; refine (HV.out w6 HF6.out).mono ?_; rintro e w7 ⟨rfl, hf7⟩; rw [hve]; have HF7 := hide (HF6.out.trans hf7); obtain ⟨⟨l0, l1, l2, l3⟩, ll⟩ := HS4.out w7 HF7.out; clear hf7))
      go_roundw
      case rel => exact ⟨k + 1, by omega, by go_num, HF4.out.trans HF8.out, HE.out⟩
      case measure => simp [intOf]; omega
    · have hz : firstN (frameE a away) a.fr.length 0 = 0 := by
        rw [← hek, show a.fr.length - k = 0 by omega, firstN]
      have hd := HDD.out
      rw [hz, if_neg (by simp)] at hd
      have HD2 := hide hd
      have HF4 : Hid (Fr nothing w3 wr) := hfk
      obtain ⟨⟨-, -, -, -, -⟩, ⟨i5, -, -, -⟩, il⟩ := HCC.out _ (HF3.out.trans hfk)
      have HHP := hide (HA1.out.hp)
      obtain ⟨w4, hw4⟩ : ∃ x, x = wr := ⟨_, rfl⟩
      subst hw4
      clear hRk hfk hek hz hd HDD
      go_wp2_with fail
      clear i5 il
      go_loopw [71, 15, 16] (fun i _ _ wv => ∃ (j : Nat), j ≤ a.hp.length ∧ i = .int .i64 j ∧ Hid (Fr nothing w4 wv ∧ firstE (cellC a.hp.length) (a.hp.drop j) = firstE (cellC a.hp.length) a.hp)) (fun i _ _ _ => a.hp.length - (intOf i).toNat)
      case atStart => exact ⟨0, Nat.zero_le _, rfl, Fr.refl _ _, rfl⟩
      case round =>
        obtain ⟨j, hj, rfl, hRj⟩ := hrel
        obtain ⟨hfj, hej⟩ := hRj.out
        have hFj := HF3.out.trans (HF4.out.trans hfj)
        by_cases hjl : j < a.hp.length
        · have hx : a.hp[j]? = some a.hp[j] := List.getElem?_eq_getElem hjl
          have hxm : a.hp[j] ∈ a.hp := List.getElem_mem hjl
          have hst := firstE_drop (cellC a.hp.length) a.hp hx
          rw [hej] at hst
          generalize a.hp[j] = c at hx hxm hst
          have hwc := HW.out.hp c hxm
          obtain ⟨g, o, e1, dg, u0, u1, u2, u3, u4, u5⟩ := sl_elemL (s := ⟨sha, a.hp.length, shc⟩) HHP.out hx
          simp only at e1
          subst e1
          have dg' := Nat.lt_of_lt_of_le dg hFj.size
          rw [← hFj.cell (p := ⟨g, _, none⟩) dg id] at u0 u1 u2 u3 u4 u5
          obtain ⟨cl, cr⟩ := c
          obtain ⟨lk, ln, lt⟩ := cl
          obtain ⟨rk, rn, rt⟩ := cr
          simp only at u0 u1 u2 u3 u4 u5 hwc
          have hFB : Fr nothing wr (wr.alloc (.cells #[.int .i64 lk, .int .i64 ln, .string (bs lt), .int .i64 rk, .int .i64 rn, .string (bs rt)] 73)) := (Fr.refl _ _).alloc _
          obtain ⟨w5, hw5⟩ : ∃ x, x = wr.alloc (.cells #[.int .i64 lk, .int .i64 ln, .string (bs lt), .int .i64 rk, .int .i64 rn, .string (bs rt)] 73) := ⟨_, rfl⟩
          have z5 : w5.heap.size = wr.heap.size + 1 := by rw [hw5]; simp
          rw [← hw5] at hFB
          have hFC : Fr nothing w5 (w5.alloc (.cells #[.int .i64 lk, .int .i64 ln, .string (bs lt), .int .i64 rk, .int .i64 rn, .string (bs rt)] 65)) := (Fr.refl _ _).alloc _
          have hsl := (Own.lit (enc := encV) (T := 65) (base := 0) w5 #[.int .i64 lk, .int .i64 ln, .string (bs lt), .int .i64 rk, .int .i64 rn, .string (bs rt)] [⟨lk, ln, lt⟩, ⟨rk, rn, rt⟩] rfl encV_len (Nat.zero_le _) (by unfold maxLen; simp)).sl encV_len
          rw [z5] at hsl
          have mb := made_cells (w := wr) (cs := #[.int .i64 lk, .int .i64 ln, .string (bs lt), .int .i64 rk, .int .i64 rn, .string (bs rt)]) (t := 73) (w1 := w5) (S := nothing) (by rw [← hw5]; exact Fr.refl _ _) id
          have m0 := mb.1 0
          have m1 := mb.1 1
          have m2 := mb.1 2
          have m3 := mb.1 3
          have m4 := mb.1 4
          have m5 := mb.1 5
          have ml := mb.2.2
          have HWR := hide (wrongs_any [⟨lk, ln, lt⟩, ⟨rk, rn, rt⟩] ⟨some ⟨wr.heap.size + 1, 0, none⟩, 2, 2⟩ ab a.hp.length (some ⟨g, o, none⟩) shc (w5.alloc (.cells #[.int .i64 lk, .int .i64 ln, .string (bs lt), .int .i64 rk, .int .i64 rn, .string (bs rt)] 65)) hsl (fun v hv => by
            rcases List.mem_cons.1 hv with rfl | hv
            · exact hwc.1
            · rw [List.mem_singleton.1 hv]; exact hwc.2) (HCC.out _ (hFj.trans (hFB.trans hFC))).2.1.1)
          have hct := cell_two a.hp.length ⟨⟨lk, ln, lt⟩, ⟨rk, rn, rt⟩⟩
          simp only at hct
          rw [hct] at HWR
          obtain ⟨er, her⟩ : ∃ x, cellC a.hp.length ⟨⟨lk, ln, lt⟩, ⟨rk, rn, rt⟩⟩ = x := ⟨_, rfl⟩
          rw [her] at HWR hst
          have HST := hide hst
          have HFF := hide (hFB.trans hFC)
          have HFJ := hide hFj
          have HFj := hide hfj
          have hw5' := hw5.symm
          clear hRj hfj hej hx hxm hst hwc hFj hFB hFC hsl mb hct her hw5
          by_cases h1 : er = 0
          · subst h1
            have HE : Hid (firstE (cellC a.hp.length) (a.hp.drop (j + 1)) = firstE (cellC a.hp.length) a.hp) := by
              have := HST.out
              rw [if_neg (by simp)] at this
              exact this.symm
            go_wp2_with (go_at_call 16; refine HWR.out.mono ?_; rintro e w7 ⟨rfl, hf7⟩; have HF7 := hide (HFj.out.trans (HFF.out.trans hf7)); clear hf7)
            go_roundw
            case rel => exact ⟨j + 1, by omega, by go_num, HF7.out, HE.out⟩
            case measure => simp [intOf]; omega
          · have h1b : (er != 0) = true := by simpa using h1
            have HR : Hid (R = er) := by
              have := HST.out
              rw [if_pos h1] at this
              exact HD2.out.trans this
            go_wp2_with (go_at_call 16; refine HWR.out.mono ?_; rintro e w7 ⟨rfl, hf7⟩; have HF7 := hide (HF1.out.trans (HFJ.out.trans (HFF.out.trans hf7))); clear hf7)
            go_ret
            exact ⟨by rw [HR.out]; rfl, HF7.out⟩
        · have hR0 : R = 0 := by rw [HD2.out, ← hej]; exact firstE_end _ _ (by omega)
          have HFF := hide (HF1.out.trans hFj)
          subst hR0
          clear hRj hfj hej hFj
          go_wp2_with fail
          go_ret
          exact ⟨rfl, HFF.out⟩
end Go.Proofs.YtpemfikdmkmgbaaDoor
end
section
/- The document's own answer: an agent that begins. -/
set_option maxHeartbeats 0
set_option maxRecDepth 100000
namespace Go.Proofs.YtpemfikdmkmgbaaDoor
open Go Go.RowKit
abbrev v0 : Val := ⟨0, 0, []⟩
/-- An agent that begins. -/
def newA (idn : Int) (p : Pz) (n : Nat) (fuel cells hops : Int) : Ag := ⟨idn, 0, p, [⟨0, 0, List.replicate n v0, []⟩], [], fuel, cells, hops⟩
theorem sizeV : (Tryd.prog.info? 65).map (fun i => (i.zero, i.size, i.bytes)) = some (some (.agg #[.int .i64 0, .int .i64 0, .string ⟨#[]⟩]), 3, 32) := by kernel_rfl
theorem made_vals0 : (madeCells (Value.cells (.agg #[.int .i64 0, .int .i64 0, .string ⟨#[]⟩])) (0 * 3)).toList = (List.replicate 0 v0).flatMap encV := by kernel_rfl
theorem made_vals1 : (madeCells (Value.cells (.agg #[.int .i64 0, .int .i64 0, .string ⟨#[]⟩])) (1 * 3)).toList = (List.replicate 1 v0).flatMap encV := by kernel_rfl
theorem made_vals2 : (madeCells (Value.cells (.agg #[.int .i64 0, .int .i64 0, .string ⟨#[]⟩])) (2 * 3)).toList = (List.replicate 2 v0).flatMap encV := by kernel_rfl
theorem made_vals3 : (madeCells (Value.cells (.agg #[.int .i64 0, .int .i64 0, .string ⟨#[]⟩])) (3 * 3)).toList = (List.replicate 3 v0).flatMap encV := by kernel_rfl
theorem made_vals4 : (madeCells (Value.cells (.agg #[.int .i64 0, .int .i64 0, .string ⟨#[]⟩])) (4 * 3)).toList = (List.replicate 4 v0).flatMap encV := by kernel_rfl
theorem made_vals5 : (madeCells (Value.cells (.agg #[.int .i64 0, .int .i64 0, .string ⟨#[]⟩])) (5 * 3)).toList = (List.replicate 5 v0).flatMap encV := by kernel_rfl
theorem made_vals6 : (madeCells (Value.cells (.agg #[.int .i64 0, .int .i64 0, .string ⟨#[]⟩])) (6 * 3)).toList = (List.replicate 6 v0).flatMap encV := by kernel_rfl
theorem made_vals7 : (madeCells (Value.cells (.agg #[.int .i64 0, .int .i64 0, .string ⟨#[]⟩])) (7 * 3)).toList = (List.replicate 7 v0).flatMap encV := by kernel_rfl
theorem made_vals8 : (madeCells (Value.cells (.agg #[.int .i64 0, .int .i64 0, .string ⟨#[]⟩])) (8 * 3)).toList = (List.replicate 8 v0).flatMap encV := by kernel_rfl
theorem made_vals (n : Nat) (hn : n ≤ 8) : (madeCells (Value.cells (.agg #[.int .i64 0, .int .i64 0, .string ⟨#[]⟩])) (n * 3)).toList = (List.replicate n v0).flatMap encV :=
  match n, hn with
  | 0, _ => made_vals0
  | 1, _ => made_vals1
  | 2, _ => made_vals2
  | 3, _ => made_vals3
  | 4, _ => made_vals4
  | 5, _ => made_vals5
  | 6, _ => made_vals6
  | 7, _ => made_vals7
  | 8, _ => made_vals8
theorem set_fn {w : World} {b n j : Nat} {f : Nat → Value} {v : Value} (h : ∀ i, i < n → w.cell? ⟨b, i, none⟩ = some (f i)) (hj : j < n) : ∀ i, i < n → (w.setCell ⟨b, j, none⟩ v).cell? ⟨b, i, none⟩ = some (if i = j then v else f i) := by
  intro i hi
  by_cases e : i = j
  · subst e
    rw [if_pos rfl]
    exact World.cell?_setCell_same _ _ _ (h i hi)
  · rw [if_neg e, World.cell?_setCell_other _ ⟨b, j, none⟩ ⟨b, i, none⟩ _ (by simp only [ne_eq, Addr.mk.injEq, not_and]; omega)]
    exact h i hi
/-- Nine cells of a block. -/
theorem put9 {w : World} {b : Nat} {f : Nat → Value} (x0 x1 x2 x3 x4 x5 x6 x7 x8 : Value) (h : ∀ i, i < 9 → w.cell? ⟨b, i, none⟩ = some (f i)) :
    ∃ w5, ((((((((w.setCell ⟨b, 0, none⟩ x0).setCell ⟨b, 1, none⟩ x1).setCell ⟨b, 2, none⟩ x2).setCell ⟨b, 3, none⟩ x3).setCell ⟨b, 4, none⟩ x4).setCell ⟨b, 5, none⟩ x5).setCell ⟨b, 6, none⟩ x6).setCell ⟨b, 7, none⟩ x7).setCell ⟨b, 8, none⟩ x8 = w5 ∧
      (w5.cell? ⟨b, 0, none⟩ = some x0 ∧ w5.cell? ⟨b, 1, none⟩ = some x1 ∧ w5.cell? ⟨b, 2, none⟩ = some x2 ∧ w5.cell? ⟨b, 3, none⟩ = some x3 ∧ w5.cell? ⟨b, 4, none⟩ = some x4) ∧ (w5.cell? ⟨b, 5, none⟩ = some x5 ∧ w5.cell? ⟨b, 6, none⟩ = some x6 ∧ w5.cell? ⟨b, 7, none⟩ = some x7 ∧ w5.cell? ⟨b, 8, none⟩ = some x8) ∧ Fr (fun k => k = b) w w5 := by
  have h0 := set_fn (v := x0) h (j := 0) (by decide)
  have h1 := set_fn (v := x1) h0 (j := 1) (by decide)
  have h2 := set_fn (v := x2) h1 (j := 2) (by decide)
  have h3 := set_fn (v := x3) h2 (j := 3) (by decide)
  have h4 := set_fn (v := x4) h3 (j := 4) (by decide)
  have h5 := set_fn (v := x5) h4 (j := 5) (by decide)
  have h6 := set_fn (v := x6) h5 (j := 6) (by decide)
  have h7 := set_fn (v := x7) h6 (j := 7) (by decide)
  have h8 := set_fn (v := x8) h7 (j := 8) (by decide)
  refine ⟨_, rfl, ⟨h8 0 (by decide), h8 1 (by decide), h8 2 (by decide), h8 3 (by decide), h8 4 (by decide)⟩, ⟨h8 5 (by decide), h8 6 (by decide), h8 7 (by decide), h8 8 (by decide)⟩, ?_⟩
  exact (((((((((Fr.refl (fun k => k = b) w).setCell (p := ⟨b, 0, none⟩) (.inl rfl) _).setCell (p := ⟨b, 1, none⟩) (.inl rfl) _).setCell (p := ⟨b, 2, none⟩) (.inl rfl) _).setCell (p := ⟨b, 3, none⟩) (.inl rfl) _).setCell (p := ⟨b, 4, none⟩) (.inl rfl) _).setCell (p := ⟨b, 5, none⟩) (.inl rfl) _).setCell (p := ⟨b, 6, none⟩) (.inl rfl) _).setCell (p := ⟨b, 7, none⟩) (.inl rfl) _).setCell (p := ⟨b, 8, none⟩) (.inl rfl) _
theorem new_any (idn : Int) (p : Pz) (n : Nat) (fuel cells hops : Int) (sc sw : Slc) (w : World) (hP : PzOk w sc sw p) (hn : n ≤ 8) (h0 : (p.cs[0]?).map Cz.nv = some (n : Int)) :
    Calls Tryd.prog 11 #[.int .i64 idn, .agg #[.slice sc.a sc.n sc.c, .slice sw.a sw.n sw.c], .agg #[.int .i64 fuel, .int .i64 cells, .int .i64 hops]] w fun e w' => ∃ sf : Slc, e = .returned (.agg (agC (newA idn p n fuel cells hops) sc sw sf nilS)) ∧ Fr nothing w w' ∧ AgOk w' sc sw sf nilS (newA idn p n fuel cells hops) := by
  obtain ⟨x, hx, hxn⟩ := Option.map_eq_some_iff.1 h0
  have HPP := hide hP
  obtain ⟨⟨rs, hrs, hea⟩, hws⟩ := hP
  obtain ⟨n1, m1⟩ := sl_len hrs
  rw [hea.1] at n1 m1
  obtain ⟨sca, scn, scc⟩ := sc
  simp only at n1
  subst n1
  have hl : 0 < p.cs.length := by
    rcases Nat.eq_zero_or_pos p.cs.length with h | h
    · rw [List.length_eq_zero_iff.1 h] at hx; cases hx
    · exact h
  obtain ⟨r, hr⟩ : ∃ r, rs[0]? = some r := ⟨_, List.getElem?_eq_getElem (by rw [hea.1]; exact hl)⟩
  have hok := hea.2 0 r x hr hx
  obtain ⟨g, o, e1, dg, u0, u1, u2⟩ := sl_elemC (s := ⟨sca, p.cs.length, scc⟩) hrs hr
  simp only at e1
  subst e1
  rw [hok.nv, hxn] at u1
  have FA : Fr nothing w (w.alloc (.cells #[.slice (some ⟨g, o, none⟩) p.cs.length scc, .slice sw.a sw.n sw.c] 25)) := (Fr.refl _ _).alloc _
  obtain ⟨w1, hw1⟩ : ∃ x, x = w.alloc (.cells #[.slice (some ⟨g, o, none⟩) p.cs.length scc, .slice sw.a sw.n sw.c] 25) := ⟨_, rfl⟩
  rw [← hw1] at FA
  have FB : Fr nothing w1 (w1.alloc (.cells #[.int .i64 fuel, .int .i64 cells, .int .i64 hops] 29)) := (Fr.refl _ _).alloc _
  obtain ⟨w2, hw2⟩ : ∃ x, x = w1.alloc (.cells #[.int .i64 fuel, .int .i64 cells, .int .i64 hops] 29) := ⟨_, rfl⟩
  rw [← hw2] at FB
  have FC : Fr nothing w2 (w2.alloc (.cells #[.int .i64 0, .int .i64 0, .slice none 0 0, .slice none 0 0, .slice none 0 0, .slice none 0 0, .int .i64 0, .int .i64 0, .int .i64 0] 31)) := (Fr.refl _ _).alloc _
  obtain ⟨w3, hw3⟩ : ∃ x, x = w2.alloc (.cells #[.int .i64 0, .int .i64 0, .slice none 0 0, .slice none 0 0, .slice none 0 0, .slice none 0 0, .int .i64 0, .int .i64 0, .int .i64 0] 31) := ⟨_, rfl⟩
  rw [← hw3] at FC
  have z1 : w1.heap.size = w.heap.size + 1 := by rw [hw1]; simp
  have z2 : w2.heap.size = w.heap.size + 1 + 1 := by rw [hw2]; simp [z1]
  have z3 : w3.heap.size = w.heap.size + 1 + 1 + 1 := by rw [hw3]; simp [z2]
  have ma := made_cells (w := w) (cs := #[.slice (some ⟨g, o, none⟩) p.cs.length scc, .slice sw.a sw.n sw.c]) (t := 25) (w1 := w3) (S := nothing) (by rw [← hw1]; exact FB.trans FC) id
  have mb := made_cells (w := w1) (cs := #[.int .i64 fuel, .int .i64 cells, .int .i64 hops]) (t := 29) (w1 := w3) (S := nothing) (by rw [← hw2]; exact FC) id
  have mc := made_cells (w := w2) (cs := #[.int .i64 0, .int .i64 0, .slice none 0 0, .slice none 0 0, .slice none 0 0, .slice none 0 0, .int .i64 0, .int .i64 0, .int .i64 0]) (t := 31) (w1 := w3) (S := nothing) (by rw [← hw3]; exact Fr.refl _ _) id
  rw [z1] at mb
  rw [z2] at mc
  have F3 := (FA.trans FB).trans FC
  have p0 := ma.1 0
  have p1 := ma.1 1
  have q0 := mb.1 0
  have q1 := mb.1 1
  have q2 := mb.1 2
  have t1 := (F3.cell (p := ⟨g, _, none⟩) dg id).trans u1
  have tl := Nat.lt_of_lt_of_le dg F3.size
  have e1' := hw1.symm
  have e2' := hw2.symm
  have e3' := hw3.symm
  have HMC := hide mc
  have HF3 := hide F3
  clear hok hr hx hrs hea hws FA FB FC ma mb mc F3 u0 u1 u2 hw1 hw2 hw3 m1 h0 hxn
  simp only [Nat.zero_mul, Nat.add_zero] at t1
  obtain ⟨j0, hj0, hy0, hy1, hy2⟩ := info_parts sizeV
  go_enter Tryd.func11, Tryd.ntmps11
  go_wp2_with fail
  refine wp_region_held_drew (S := fun w' => (w'.cell? ⟨w.heap.size, 0, none⟩ = some (.slice (some ⟨g, o, none⟩) p.cs.length scc) ∧ w'.cell? ⟨w.heap.size, 1, none⟩ = some (.slice sw.a sw.n sw.c)) ∧ (w'.cell? ⟨w.heap.size + 1, 0, none⟩ = some (.int .i64 fuel) ∧ w'.cell? ⟨w.heap.size + 1, 1, none⟩ = some (.int .i64 cells) ∧ w'.cell? ⟨w.heap.size + 1, 2, none⟩ = some (.int .i64 hops)) ∧ w'.cell? ⟨g, o + 1, none⟩ = some (.int .i64 (n : Int))) (by kernel_rfl) ?_ (fun hHeld => ?_)
  · exact ⟨⟨p0, p1⟩, ⟨q0, q1, q2⟩, t1⟩
  refine wpAnyH_take (i := 0) (oi := { dst := some 7, op := Op.move (Operand.tmp 0), type := 3, pos := "ref.go:187", after := #[], guard := none }) (v := ?v1) rfl (by kernel_rfl) (by kernel_rfl) (by kernel_rfl) (fun _ _ _ h => h) (Or.inl ⟨by rfl, ?hy1⟩) (by assumption) ?rest1
  case hy1 => (intro w hSw; (try dsimp only at hSw); obtain ⟨⟨s0, s1⟩, ⟨s2, s3, s4⟩, s5⟩ := hSw; go_simp; try with_reducible rfl)
  try simp only [Act.put, List.setIfInBounds_toArray, List.set_cons_zero, List.set_cons_succ]
  refine wpAnyH_take (i := 1) (oi := { dst := some 8, op := Op.load 25 (Operand.tmp 4), type := 25, pos := "ref.go:187", after := #[], guard := none }) (v := ?v2) rfl (by kernel_rfl) (by kernel_rfl) (by kernel_rfl) (fun _ _ _ h => h) (Or.inl ⟨by rfl, ?hy2⟩) (by assumption) ?rest2
  case hy2 => (intro w hSw; (try dsimp only at hSw); obtain ⟨⟨s0, s1⟩, ⟨s2, s3, s4⟩, s5⟩ := hSw; go_simp; try with_reducible rfl)
  try simp only [Act.put, List.setIfInBounds_toArray, List.set_cons_zero, List.set_cons_succ]
  refine wpAnyH_take (i := 2) (oi := { dst := some 9, op := Op.load 29 (Operand.tmp 5), type := 29, pos := "ref.go:187", after := #[], guard := none }) (v := ?v3) rfl (by kernel_rfl) (by kernel_rfl) (by kernel_rfl) (fun _ _ _ h => h) (Or.inl ⟨by rfl, ?hy3⟩) (by assumption) ?rest3
  case hy3 => (intro w hSw; (try dsimp only at hSw); obtain ⟨⟨s0, s1⟩, ⟨s2, s3, s4⟩, s5⟩ := hSw; go_simp; try with_reducible rfl)
  try simp only [Act.put, List.setIfInBounds_toArray, List.set_cons_zero, List.set_cons_succ]
  refine wpAnyH_take (i := 3) (oi := { dst := some 10, op := Op.fieldAddr 25 (Operand.tmp 4) 0, type := 0, pos := "ref.go:187", after := #[], guard := none }) (v := ?v4) rfl (by kernel_rfl) (by kernel_rfl) (by kernel_rfl) (fun _ _ _ h => h) (Or.inl ⟨by rfl, ?hy4⟩) (by assumption) ?rest4
  case hy4 => (intro w hSw; (try dsimp only at hSw); obtain ⟨⟨s0, s1⟩, ⟨s2, s3, s4⟩, s5⟩ := hSw; go_simp; try with_reducible rfl)
  try simp only [Act.put, List.setIfInBounds_toArray, List.set_cons_zero, List.set_cons_succ]
  refine wpAnyH_take (i := 4) (oi := { dst := some 11, op := Op.load 22 (Operand.tmp 10), type := 22, pos := "ref.go:187", after := #[{ on := 3, ground := Ground.data }], guard := none }) (v := ?v5) rfl (by kernel_rfl) (by kernel_rfl) (by kernel_rfl) (fun _ _ _ h => h) (Or.inl ⟨by rfl, ?hy5⟩) (by assumption) ?rest5
  case hy5 => (intro w hSw; (try dsimp only at hSw); obtain ⟨⟨s0, s1⟩, ⟨s2, s3, s4⟩, s5⟩ := hSw; go_simp; try with_reducible rfl)
  try simp only [Act.put, List.setIfInBounds_toArray, List.set_cons_zero, List.set_cons_succ]
  refine wpAnyH_take (i := 5) (oi := { dst := some 12, op := Op.indexAddr 22 (Operand.tmp 11) (Operand.const (Value.int IntKind.i64 0)), type := 0, pos := "ref.go:187", after := #[{ on := 4, ground := Ground.data }], guard := none }) (v := ?v6) rfl (by kernel_rfl) (by kernel_rfl) (by kernel_rfl) (fun _ _ _ h => h) (Or.inl ⟨by rfl, ?hy6⟩) (by assumption) ?rest6
  case hy6 => (intro w hSw; (try dsimp only at hSw); obtain ⟨⟨s0, s1⟩, ⟨s2, s3, s4⟩, s5⟩ := hSw; go_simp; try with_reducible rfl)
  try simp only [Act.put, List.setIfInBounds_toArray, List.set_cons_zero, List.set_cons_succ]
  refine wpAnyH_take (i := 6) (oi := { dst := some 13, op := Op.fieldAddr 54 (Operand.tmp 12) 1, type := 0, pos := "ref.go:187", after := #[{ on := 5, ground := Ground.data }], guard := none }) (v := ?v7) rfl (by kernel_rfl) (by kernel_rfl) (by kernel_rfl) (fun _ _ _ h => h) (Or.inl ⟨by rfl, ?hy7⟩) (by assumption) ?rest7
  case hy7 => (intro w hSw; (try dsimp only at hSw); obtain ⟨⟨s0, s1⟩, ⟨s2, s3, s4⟩, s5⟩ := hSw; go_simp; try with_reducible rfl)
  try simp only [Act.put, List.setIfInBounds_toArray, List.set_cons_zero, List.set_cons_succ]
  refine wpAnyH_take (i := 7) (oi := { dst := some 14, op := Op.load 3 (Operand.tmp 13), type := 3, pos := "ref.go:187", after := #[{ on := 6, ground := Ground.data }], guard := none }) (v := ?v8) rfl (by kernel_rfl) (by kernel_rfl) (by kernel_rfl) (fun _ _ _ h => h) (Or.inl ⟨by rfl, ?hy8⟩) (by assumption) ?rest8
  case hy8 => (intro w hSw; (try dsimp only at hSw); obtain ⟨⟨s0, s1⟩, ⟨s2, s3, s4⟩, s5⟩ := hSw; go_simp; try with_reducible rfl)
  try simp only [Act.put, List.setIfInBounds_toArray, List.set_cons_zero, List.set_cons_succ]
  refine wpAnyH_ready (rs := [8]) (by kernel_rfl) (by simp) ?_
  refine AllReadyH.cons (o := { dst := some 15, op := Op.makeSlice 55 (Operand.tmp 14) (Operand.tmp 14), type := 55, pos := "ref.go:187", after := #[{ on := 7, ground := Ground.data }, { on := 7, ground := Ground.data }], guard := none }) rfl (fun K hK => ?_) AllReadyH.nil
  go_simp
  have hmk := run_make (P := Tryd.prog) w3.drew 55 65 j0 _ Tryd.underlying55 hj0 hy0 .i64 .i64 (n : Int) (n : Int) (by omega) (by omega) (by rw [hy2]; omega) (by omega)
  rw [hmk]
  go_simp
  have hF4 : Fr nothing w3 (w3.alloc (.cells (madeCells #[.int .i64 0, .int .i64 0, .string ⟨#[]⟩] (n * 3)) 65)).drew := ((Fr.refl _ _).alloc _).drew
  have hov : Own encV 65 3 0 ⟨some ⟨w3.heap.size, 0, none⟩, n, n⟩ (List.replicate n v0) (w3.alloc (.cells (madeCells #[.int .i64 0, .int .i64 0, .string ⟨#[]⟩] (n * 3)) 65)) := by
    have := Own.lit (enc := encV) (T := 65) (base := 0) w3 (madeCells #[.int .i64 0, .int .i64 0, .string ⟨#[]⟩] (n * 3)) (List.replicate n v0) (made_vals n hn) encV_len (Nat.zero_le _) (by rw [List.length_replicate]; unfold maxLen; omega)
    rw [List.length_replicate] at this
    exact this
  rw [z3] at hov
  have hsv := (hov.new ((Fr.refl nothing _).drew)).sl encV_len
  have z4 : (w3.alloc (.cells (madeCells #[.int .i64 0, .int .i64 0, .string ⟨#[]⟩] (n * 3)) 65)).drew.heap.size = w.heap.size + 1 + 1 + 1 + 1 := by simp [World.drew, z3]
  generalize (w3.alloc (.cells (madeCells #[.int .i64 0, .int .i64 0, .string ⟨#[]⟩] (n * 3)) 65)).drew = w4 at *
  have hHeld6 : ∀ w6 : World, Fr nothing w3 w6 → (w6.cell? ⟨w.heap.size, 0, none⟩ = some (.slice (some ⟨g, o, none⟩) p.cs.length scc) ∧ w6.cell? ⟨w.heap.size, 1, none⟩ = some (.slice sw.a sw.n sw.c)) ∧ (w6.cell? ⟨w.heap.size + 1, 0, none⟩ = some (.int .i64 fuel) ∧ w6.cell? ⟨w.heap.size + 1, 1, none⟩ = some (.int .i64 cells) ∧ w6.cell? ⟨w.heap.size + 1, 2, none⟩ = some (.int .i64 hops)) ∧ w6.cell? ⟨g, o + 1, none⟩ = some (.int .i64 (n : Int)) := fun w6 hf =>
    ⟨⟨(hf.cell (p := ⟨w.heap.size, 0, none⟩) (lt_of_cell p0) id).trans p0, (hf.cell (p := ⟨w.heap.size, 1, none⟩) (lt_of_cell p1) id).trans p1⟩, ⟨(hf.cell (p := ⟨w.heap.size + 1, 0, none⟩) (lt_of_cell q0) id).trans q0, (hf.cell (p := ⟨w.heap.size + 1, 1, none⟩) (lt_of_cell q1) id).trans q1, (hf.cell (p := ⟨w.heap.size + 1, 2, none⟩) (lt_of_cell q2) id).trans q2⟩, (hf.cell (p := ⟨g, o + 1, none⟩) tl id).trans t1⟩
  refine hK _ _ (hHeld6 _ hF4) (fun _ => ?_)
  clear hK K hHeld
  try simp only [Act.put, List.setIfInBounds_toArray, List.set_cons_zero, List.set_cons_succ]
  have hHeld := hHeld6 _ hF4
  refine wpAnyH_take (i := 9) (oi := { dst := some 16, op := Op.build 57 #[(2, Operand.tmp 15)], type := 57, pos := "ref.go:187", after := #[{ on := 8, ground := Ground.data }], guard := none }) (v := ?v9) rfl (by kernel_rfl) (by kernel_rfl) (by kernel_rfl) (fun _ _ _ h => h) (Or.inl ⟨by rfl, ?hy9⟩) (by assumption) ?rest9
  case hy9 => (intro w hSw; (try dsimp only at hSw); skip; go_simp; try with_reducible rfl)
  try simp only [Act.put, List.setIfInBounds_toArray, List.set_cons_zero, List.set_cons_succ]
  refine wpAnyH_ready (rs := [10]) (by kernel_rfl) (by simp) ?_
  refine AllReadyH.cons (o := { dst := some 17, op := Op.buildSlice 26 1 #[(0, Operand.tmp 16)], type := 26, pos := "ref.go:187", after := #[{ on := 9, ground := Ground.data }], guard := none }) rfl (fun K hK => ?_) AllReadyH.nil
  go_simp
  have hF5 : Fr nothing w4 (w4.alloc (.cells #[.int .i64 0, .int .i64 0, .slice (some ⟨w.heap.size + 1 + 1 + 1, 0, none⟩) n n, .slice none 0 0] 57)) := (Fr.refl _ _).alloc _
  have hsf : Sl encM 4 (w4.alloc (.cells #[.int .i64 0, .int .i64 0, .slice (some ⟨w.heap.size + 1 + 1 + 1, 0, none⟩) n n, .slice none 0 0] 57)) (Slc.v ⟨some ⟨w4.heap.size, 0, none⟩, 1, 1⟩) [⟨0, 0, ⟨some ⟨w.heap.size + 1 + 1 + 1, 0, none⟩, n, n⟩, nilS⟩] := sl_one (T := 57) w4 _ _ rfl
  rw [z4] at hsf
  refine hK _ _ (hHeld6 _ (hF4.trans hF5)) (fun _ => ?_)
  clear hK K hHeld
  try simp only [Act.put, List.setIfInBounds_toArray, List.set_cons_zero, List.set_cons_succ]
  have hHeld := hHeld6 _ (hF4.trans hF5)
  refine wpAnyH_take (i := 11) (oi := { dst := some 18, op := Op.build 31 #[(0, Operand.tmp 7), (2, Operand.tmp 8), (5, Operand.tmp 9), (3, Operand.tmp 17)], type := 31, pos := "ref.go:187", after := #[{ on := 0, ground := Ground.data }, { on := 1, ground := Ground.data }, { on := 2, ground := Ground.data }, { on := 10, ground := Ground.data }], guard := none }) (v := ?v10) rfl (by kernel_rfl) (by kernel_rfl) (by kernel_rfl) (fun _ _ _ h => h) (Or.inl ⟨by rfl, ?hy10⟩) (by assumption) ?rest10
  case hy10 => (intro w hSw; (try dsimp only at hSw); skip; go_simp; try with_reducible rfl)
  try simp only [Act.put, List.setIfInBounds_toArray, List.set_cons_zero, List.set_cons_succ]
  generalize w4.alloc (.cells #[.int .i64 0, .int .i64 0, .slice (some ⟨w.heap.size + 1 + 1 + 1, 0, none⟩) n n, .slice none 0 0] 57) = w5 at *
  have hF35 := hF4.trans hF5
  have hlc : ∀ i, i < 9 → w5.cell? ⟨w.heap.size + 1 + 1, i, none⟩ = some ((#[.int .i64 0, .int .i64 0, .slice none 0 0, .slice none 0 0, .slice none 0 0, .slice none 0 0, .int .i64 0, .int .i64 0, .int .i64 0] : Array Value).getD i (.int .i64 0)) := fun i hi => by
    rw [hF35.cell (p := ⟨w.heap.size + 1 + 1, i, none⟩) HMC.out.2.2 id, HMC.out.1 i]
    match i, hi with
    | 0, _ | 1, _ | 2, _ | 3, _ | 4, _ | 5, _ | 6, _ | 7, _ | 8, _ => rfl
  have hfz : ∀ i, w5.frozen? ⟨w.heap.size + 1 + 1, i, none⟩ = false := fun i => (hF35.frozen (p := ⟨w.heap.size + 1 + 1, i, none⟩) HMC.out.2.2 id).trans (HMC.out.2.1 i)
  have y0 := hlc 0 (by decide)
  have y1 := hlc 1 (by decide)
  have y2 := hlc 2 (by decide)
  have y3 := hlc 3 (by decide)
  have y4 := hlc 4 (by decide)
  have y5 := hlc 5 (by decide)
  have y6 := hlc 6 (by decide)
  have y7 := hlc 7 (by decide)
  have y8 := hlc 8 (by decide)
  obtain ⟨w6, hw6, cA, cB, hF6⟩ := put9 (.int .i64 idn) (.int .i64 0) (.slice (some ⟨g, o, none⟩) p.cs.length scc) (.slice sw.a sw.n sw.c) (.slice (some ⟨w.heap.size + 1 + 1 + 1 + 1, 0, none⟩) 1 1) (.slice none 0 0) (.int .i64 fuel) (.int .i64 cells) (.int .i64 hops) hlc
  have hF36 : Fr (fun k => k = w.heap.size + 1 + 1) w3 w6 := (hF35.mono (fun _ _ e => e.elim)).trans hF6
  refine wpAnyH_ready (rs := [12]) (by kernel_rfl) (by simp) ?_
  refine AllReadyH.cons (o := { dst := none, op := Op.store 31 (Operand.tmp 6) (Operand.tmp 18), type := 0, pos := "ref.go:187", after := #[{ on := 11, ground := Ground.data }, { on := 0, ground := Ground.phase }, { on := 1, ground := Ground.phase }, { on := 2, ground := Ground.phase }, { on := 3, ground := Ground.phase }, { on := 4, ground := Ground.phase }, { on := 5, ground := Ground.phase }, { on := 6, ground := Ground.phase }, { on := 7, ground := Ground.phase }, { on := 8, ground := Ground.phase }, { on := 9, ground := Ground.phase }, { on := 10, ground := Ground.phase }, { on := 11, ground := Ground.phase }], guard := none }) rfl (fun K hK => ?_) AllReadyH.nil
  go_simp
  try rw [hw6]
  have hHeld7 : (w6.cell? ⟨w.heap.size, 0, none⟩ = some (.slice (some ⟨g, o, none⟩) p.cs.length scc) ∧ w6.cell? ⟨w.heap.size, 1, none⟩ = some (.slice sw.a sw.n sw.c)) ∧ (w6.cell? ⟨w.heap.size + 1, 0, none⟩ = some (.int .i64 fuel) ∧ w6.cell? ⟨w.heap.size + 1, 1, none⟩ = some (.int .i64 cells) ∧ w6.cell? ⟨w.heap.size + 1, 2, none⟩ = some (.int .i64 hops)) ∧ w6.cell? ⟨g, o + 1, none⟩ = some (.int .i64 (n : Int)) :=
    ⟨⟨(hF36.cell (p := ⟨w.heap.size, 0, none⟩) (lt_of_cell p0) (by intro e; have e' : w.heap.size = w.heap.size + 1 + 1 := e; omega)).trans p0, (hF36.cell (p := ⟨w.heap.size, 1, none⟩) (lt_of_cell p1) (by intro e; have e' : w.heap.size = w.heap.size + 1 + 1 := e; omega)).trans p1⟩, ⟨(hF36.cell (p := ⟨w.heap.size + 1, 0, none⟩) (lt_of_cell q0) (by intro e; have e' : w.heap.size + 1 = w.heap.size + 1 + 1 := e; omega)).trans q0, (hF36.cell (p := ⟨w.heap.size + 1, 1, none⟩) (lt_of_cell q1) (by intro e; have e' : w.heap.size + 1 = w.heap.size + 1 + 1 := e; omega)).trans q1, (hF36.cell (p := ⟨w.heap.size + 1, 2, none⟩) (lt_of_cell q2) (by intro e; have e' : w.heap.size + 1 = w.heap.size + 1 + 1 := e; omega)).trans q2⟩, (hF36.cell (p := ⟨g, o + 1, none⟩) tl (by intro e; have e' : g = w.heap.size + 1 + 1 := e; omega)).trans t1⟩
  refine hK _ _ hHeld7 (fun _ => ?_)
  clear hK K hHeld
  try simp only [Act.put, List.setIfInBounds_toArray, List.set_cons_zero, List.set_cons_succ]
  have hHeld := hHeld7
  refine wpAnyH_done (by kernel_rfl) ?_ _
  have hFw : Fr nothing w w6 := HF3.out.then hF36 (fun j hj e => by omega)
  have hnb : ∀ k, (fun k => k = w.heap.size + 1 + 1) k → k = w.heap.size + 1 + 1 := fun _ e => e
  have HSF : Hid (Sl encM 4 w6 (Slc.v ⟨some ⟨w.heap.size + 1 + 1 + 1 + 1, 0, none⟩, 1, 1⟩) [⟨0, 0, ⟨some ⟨w.heap.size + 1 + 1 + 1, 0, none⟩, n, n⟩, nilS⟩]) := hsf.fr hF6 (fun k hk e => by
    obtain ⟨ao, n', c', e1, e2⟩ := hk
    simp only [Value.slice.injEq, Option.some.injEq] at e1
    rw [← e1.1] at e2
    simp only at e2
    omega)
  have HSV : Hid (Sl encV 3 w6 (Slc.v ⟨some ⟨w.heap.size + 1 + 1 + 1, 0, none⟩, n, n⟩) (List.replicate n v0)) := (hsv.fr hF5 (fun _ _ => id)).fr hF6 (fun k hk e => by
    obtain ⟨ao, n', c', e1, e2⟩ := hk
    simp only [Value.slice.injEq, Option.some.injEq] at e1
    rw [← e1.1] at e2
    simp only at e2
    omega)
  have HFw := hide hFw
  have HCA := hide (And.intro cA cB)
  clear hHeld hHeld6 hHeld7 hF4 hF5 hF6 hF35 hF36 hsv hsf hov cA cB y0 y1 y2 y3 y4 y5 y6 y7 y8 hlc hfz hmk hw6 hFw hnb
  go_wp2_with fail
  obtain ⟨⟨c0, c1, c2, c3, c4⟩, c5, c6, c7, c8⟩ := HCA.out
  exact bodyPost_ret (v := .agg #[.int .i64 idn, .int .i64 0, .slice (some ⟨g, o, none⟩) p.cs.length scc, .slice sw.a sw.n sw.c, .slice (some ⟨w.heap.size + 1 + 1 + 1 + 1, 0, none⟩) 1 1, .slice none 0 0, .int .i64 fuel, .int .i64 cells, .int .i64 hops]) (by simp [results, Tryd.results11, go_sem, c0, c1, c2, c3, c4, c5, c6, c7, c8]) rfl ⟨⟨some ⟨w.heap.size + 1 + 1 + 1 + 1, 0, none⟩, 1, 1⟩, rfl, HFw.out, HPP.out.fr HFw.out, ⟨_, HSF.out, rfl, fun i r x e1 e2 => by
    have hi : i = 0 := by have := (List.getElem?_eq_some_iff.1 e1).1; simp at this; omega
    subst hi
    simp [newA] at e1 e2
    subst e1 e2
    exact ⟨rfl, rfl, HSV.out, sl_nil _ _ _⟩⟩, sl_nil _ _ _⟩
end Go.Proofs.YtpemfikdmkmgbaaDoor
end
