/- For every agent, place and numbers, VmParts answers true: so many steps of package vm's Run, and then so many, come to what all of them come to at once, if nothing is told between; a tied card: the three tables and two errors of Go's library that its road names lie as its text lays them. -/
import Derived.Test.YtbcadjgpcfmkfaaGreatDoorPartV1
import Derived.Test.YtbcadjgpcfmkfaaGreatDoorPartU44
import Derived.Test.YtbcadjgpcfmkfaaGreatDoorPartU1
set_option maxRecDepth 100000
namespace Go.Proofs.YtbcadjgpcfmkfaaGreatDoor.vmParts
open Go.ChangeShapes Go.WideShapes Go.ChangeAt Go.RowKit Go.ChangeMaps
theorem Va : 1 ≤ Tryz.prog.bytesOf 51 := by decide +kernel
theorem Vb : 1 ≤ Tryz.prog.bytesOf 88 := by decide +kernel
abbrev wit : Array Value := #[.agg #[.int .i64 0, .int .i64 0, .slice none 0 0, .slice none 0 0, .slice none 0 0, .slice none 0 0, .int .i64 0, .int .i64 0, .int .i64 0], .agg #[.string ⟨#[]⟩, .slice none 0 0, .int .i64 0, .int .i64 0], .int .i64 0, .int .i64 0]
theorem R5 (os : Os) : laidMet Tryz.prog Rows.vmPartsRow.laid ((uT os).forCall (fun _ _ => 0) ⟨#[], wit, []⟩).memory :=
  laidMet_of_run' 8 (by kernel_rfl) (by kernel_rfl)
theorem R7 {H : Type} {enc : TypeId × Value → H} {W : World} {base : Nat} {v : Value} {d : DataW H} {p : List MemPlace} (hv : Value.okWide Tryz.prog W .any base 31 v) (h : DataW.Trod enc Tryz.prog W 0 (fun _ => true) true 31 v d p) : ∃ (a : Ag) (sc sw sf sh : ai), v = .agg (gH a sc sw sf sh) ∧ iK W sc sw sf sh a ∧ (a.hp.length ≤ 140737488355328 ∧ a.fr.length ≤ 140737488355328 → YV a) ∧ ∃ d0 d1 d2 d3 d4 d5, d = .agg [d0, d1, d2, d3, d4, d5] ∧ Rdd d3 a.fr.length ∧ Rdd d4 a.hp.length := by
  obtain ⟨cs, rfl, _⟩ := okWide_struct Tryz.underlying31 hv
  obtain ⟨f, hf⟩ := h
  obtain ⟨a, sc, sw, sf, sh, hx, h1, h2, d0, d1, d2, d3, d4, d5, h3, h4, h5⟩ := Kv hf
  refine ⟨a, sc, sw, sf, sh, ?_, h1, h2, d0, d1, d2, d3, d4, d5, h3, h4, h5⟩
  have : cs.toList = (gH a sc sw sf sh).toList := hx
  obtain ⟨l⟩ := cs
  simp only at this
  subst this
  rfl
theorem Vd {H : Type} {enc : TypeId × Value → H} {W : World} {base : Nat} {v : Value} {d : DataW H} {p : List MemPlace} (hv : Value.okWide Tryz.prog W .any base 34 v) (h : DataW.Trod enc Tryz.prog W 0 (fun _ => true) true 34 v d p) : ∃ (s : Sp) (cu : ai) (kD kE : Int), v = .agg #[.string (bs s.name), .slice cu.a cu.n cu.c, .int .i64 kD, .int .i64 kE] ∧ Sl kF 4 W cu.v s.facts ∧ (∀ y ∈ s.facts, wX y.2) ∧ s.name.length ≤ 9223372036854775807 := by
  obtain ⟨cs, rfl, _⟩ := okWide_struct Tryz.underlying34 hv
  obtain ⟨f, hf⟩ := h
  obtain ⟨s, cu, kD, kE, hx, h1, h2, h3⟩ := Nw hf
  refine ⟨s, cu, kD, kE, ?_, h1, h2, h3⟩
  have : cs.toList = [.string (bs s.name), .slice cu.a cu.n cu.c, .int .i64 kD, .int .i64 kE] := hx
  obtain ⟨l⟩ := cs
  simp only at this
  subst this
  rfl
theorem R8 {H : Type} {d : DataW H} {n : Nat} {t e : TypeId} (hr : Rdd d n) (ht : Tryz.prog.underlying t = some (.slice e)) (hb : 1 ≤ Tryz.prog.bytesOf e) (hw : ∀ m ∈ d.weights Tryz.prog t, m ≤ reachBytes) : n ≤ 140737488355328 := by
  rcases hr with ⟨_, rfl⟩ | ⟨els, spare, rfl, rfl⟩
  · exact Nat.zero_le _
  · have h1 := hw ((els.length + spare.length) * Tryz.prog.bytesOf e) (by simp [DataW.weights, ht])
    have h2 : (els.length + spare.length) * 1 ≤ (els.length + spare.length) * Tryz.prog.bytesOf e := Nat.mul_le_mul_left _ hb
    simp only [reachBytes] at h1
    omega
set_option maxRecDepth 100000 in
theorem contract (H : Type) (enc : TypeId × Value → H) (W : World) (base : Nat) (args : Array Value) (ds gs : List (DataW H)) (before : List MemPlace)
    (hval : ∀ (j : Nat) t v, Tryz.f3.params[j]? = some t → args[j]? = some v → Value.okWide Tryz.prog W .any base t v)
    (hW : DataW.Whole enc Tryz.prog Tryz.f3.params.toList Rows.vmPartsSpec.vars false W args.toList ds gs before)
    (hsz : (DataW.weightsEach Tryz.prog (Tryz.f3.params.toList ++ Rows.vmPartsSpec.plain.varTypes Tryz.prog) (ds ++ gs)).all (· ≤ reachBytes) = true)
    (hL : laidMetH Tryz.prog Rows.vmPartsRow.laid W) :
    Calls Tryz.prog 3 args W fun e W' => ∃ v, e = .returned v ∧ Rows.vmPartsSpec.post enc Tryz.prog Tryz.f3 false true false false W args v W' := by
  have hW' := hW
  obtain ⟨p, q, hA0, hV, rfl, hfz, hnd⟩ := hW
  have hA : DataW.TrodAll enc Tryz.prog W 0 (fun _ => true) true Tryz.f3.params.toList args.toList ds p := hA0
  rw [Tryz.params3] at hA hval hsz
  obtain ⟨v0, vs0, d0, ds0, p0, q0, hargs, rfl, rfl, h0, r0⟩ := trodAll_cons hA
  obtain ⟨v1, vs1, d1, ds1, p1, q1, rfl, rfl, rfl, h1, r1⟩ := trodAll_cons r0
  obtain ⟨v2, vs2, d2, ds2, p2, q2, rfl, rfl, rfl, h2, r2⟩ := trodAll_cons r1
  obtain ⟨v3, vs3, d3, ds3, p3, q3, rfl, rfl, rfl, h3, r3⟩ := trodAll_cons r2
  obtain ⟨rfl, rfl, rfl⟩ := trodAll_nil r3
  obtain rfl : args = #[v0, v1, v2, v3] := by cases args; simp_all
  obtain ⟨rfl, rfl⟩ := trodVars_none hV
  obtain ⟨a, sc, sw, sf, sh, rfl, hag, VJ, e0, e1, e2, e3, e4, e5, rfl, hr3, hr4⟩ := R7 (hval 0 31 v0 rfl rfl) h0
  obtain ⟨sp, cu, kD, kE, rfl, hfs, hwf, hnl⟩ := Vd (hval 1 34 v1 rfl rfl) h1
  obtain ⟨n0, rfl, rfl, rfl, w0⟩ := open_int Tryz.underlying3 (hval 2 3 v2 rfl rfl) h2
  obtain ⟨n1, rfl, rfl, rfl, w1⟩ := open_int Tryz.underlying3 (hval 3 3 v3 rfl rfl) h3
  have adz : ∀ x ∈ p0, x.block < W.heap.size := fun x hx => hW'.lt x (by simp [hx])
  have hlt1 : ∀ x ∈ p1, x.block < W.heap.size := fun x hx => hW'.lt x (by simp [hx])
  have hwt : ∀ m ∈ (DataW.agg [e0, e1, e2, e3, e4, e5]).weights Tryz.prog 31, m ≤ reachBytes := fun m hm => by
    have := List.all_eq_true.1 hsz _ (DataW.weights_mem_each (j := 0) rfl rfl m hm)
    simpa using this
  have hw3 : ∀ m ∈ e3.weights Tryz.prog 26, m ≤ reachBytes := fun m hm => hwt m (by
    simp only [DataW.weights, Tryz.underlying31]
    exact DataW.weights_mem_each (j := 3) rfl rfl m hm)
  have hw4 : ∀ m ∈ e4.weights Tryz.prog 27, m ≤ reachBytes := fun m hm => hwt m (by
    simp only [DataW.weights, Tryz.underlying31]
    exact DataW.weights_mem_each (j := 4) rfl rfl m hm)
  have hE := errs (W := W) hL
  have hT := table (W := W) hL
  refine (vparts_law a sc sw sf sh sp cu kD kE n0 n1 W hag (VJ ⟨R8 hr4 Tryz.underlying27 Vb hw4, R8 hr3 Tryz.underlying26 Va hw3⟩) hfs hwf hnl (cZ w0).1 (cZ w0).2 (cZ w1).1 (cZ w1).2 (fun w1 hf => Kq w1 (hE.zW hf) (hT.zW hf)) (fun w' hf => hT.zW hf)).mono fun e W' ⟨he, hf⟩ => ?_
  subst he
  have hb : Below W.heap.size W W' := hf.below (Nat.le_refl _) (fun _ _ => id)
  refine ⟨_, rfl, _, _, _, [], p0 ++ (p1 ++ ([] ++ ([] ++ []))), [], hW', ?_, ?_, rfl, hb.frame _, fun h => by cases h⟩
  · exact trodAll_mk1 (shut_bool Tryz.underlying4 _)
  · exact trodAll_cons_mk (Below.trod laidOut (by kernel_rfl) (of_decide_eq_true (by kernel_rfl)) h0 hb adz) (trodAll_cons_mk (Below.trod laidOut (by kernel_rfl) (of_decide_eq_true (by kernel_rfl)) h1 hb hlt1) (trodAll_cons_mk (shut_int Tryz.underlying3 w0) (trodAll_cons_mk (shut_int Tryz.underlying3 w1) trodAll_mk0)))
theorem reads (os : Os) {H : Type} (enc : TypeId × Value → H) : ∃ ds places, DataW.whole enc Tryz.prog ((uT os).forCall (fun _ _ => 0) ⟨#[], wit, []⟩).memory Tryz.f3.params.toList Rows.vmPartsSpec.vars false wit.toList 8 = some (ds, [], places) ∧ ds = [.agg [.lit (.int .i64 0), .lit (.int .i64 0), .agg [.nil, .nil], .nil, .nil, .agg [.lit (.int .i64 0), .lit (.int .i64 0), .lit (.int .i64 0)]], .agg [.lit (.string []), .nil, .lit (.int .i64 0), .lit (.int .i64 0)], .lit (.int .i64 0), .lit (.int .i64 0)] :=
  ⟨_, [], by kernel_rfl, rfl⟩
set_option maxRecDepth 100000 in
theorem lifted (os : Os) (started : os.Started) (H : Type) (enc : TypeId × Value → H) (F : Stop.Interp) :
    ReturnsInHanded {} Tryz.checked os 3 .any ((OpenSpec.ofChange Rows.vmPartsSpec).preRow enc Tryz.prog Tryz.f3 Rows.vmPartsRow.domain false Rows.vmPartsRow.laid) (((OpenSpec.ofChange Rows.vmPartsSpec).at F).post enc Tryz.prog Tryz.f3 false true false false) := by
  obtain ⟨ds, places, hx, rfl⟩ := reads os enc
  refine returnsInHanded_of_row (C := Tryz.checked) (s := OpenSpec.ofChange Rows.vmPartsSpec) own started (by kernel_rfl) Tryz.func3
    (witness_row_at (enc := enc) (C := Tryz.checked) false (uT os) wit rfl (by kernel_rfl) (by kernel_rfl) (by kernel_rfl)
      (OpenSpec.preRow_of_cond 8 hx (by kernel_rfl) (fun k hk => by cases hk) (by kernel_rfl) (R5 os))) ?_
  intro W base args ds gs before hval hW _ _ hsz hL _ _
  exact contract H enc W base args ds gs before hval hW hsz hL
theorem said : Rows.VmPartsSaid :=
  OpenClaim.holds_of_cond 3 Tryz.f3 rfl rfl rfl rfl rfl rfl rfl ⟨rfl, rfl, rfl, rfl, rfl⟩ rfl rfl rfl rfl rfl (by kernel_rfl) Tryz.func3 (by kernel_rfl)
    (of_decide_eq_true (by kernel_rfl)) (by unfold Func.isWrapper; first | (rw [if_pos (by decide +kernel)]; kernel_rfl) | (rw [if_neg (by decide +kernel)]; exact ⟨rfl, rfl⟩))
    (fun os started H enc _ F => by rw [OpenClaim.pre_eq_preRow]; exact lifted os started H enc F)
theorem plain (f : FuncId) (fn : Func) (hf : Tryz.pinned.checked.prog.funcNamed "wanderstaff/zwlaw7.VmParts" = some f) (hfn : Tryz.pinned.checked.prog.funcs[f]? = some fn) :
    true = Tryz.pinned.checked.prog.looks [] ∧ ∀ (j : Nat) t, fn.params[j]? = some t → Tryz.pinned.checked.prog.wantsStandIn t = false := by
  obtain rfl : f = 3 := Option.some.inj ((show Tryz.prog.funcNamed "wanderstaff/zwlaw7.VmParts" = some 3 by kernel_rfl).symm.trans hf) |>.symm
  obtain rfl : fn = Tryz.f3 := (Option.some.inj (Tryz.func3.symm.trans hfn)).symm
  refine ⟨by kernel_rfl, fun j t ht => ?_⟩
  rw [Tryz.params3] at ht
  have hm : t = 31 ∨ t = 34 ∨ t = 3 := by have := Array.mem_of_getElem? ht; simp at this; omega
  rcases hm with rfl | rfl | rfl
  · exact (show Tryz.prog.wantsStandIn 31 = false by kernel_rfl)
  · exact (show Tryz.prog.wantsStandIn 34 = false by kernel_rfl)
  · exact (show Tryz.prog.wantsStandIn 3 = false by kernel_rfl)
/-- The card. -/
theorem card : Rows.VmPartsCardSaid :=
  Claim7.holds_tied_plain_at .later [] _ _ _ _ said (fun _ h => by cases h) (by kernel_rfl) (fun _ h => by cases h) vmParts_row_tie rfl ⟨rfl, rfl⟩ (by kernel_rfl) rfl plain (by kernel_rfl)
end Go.Proofs.YtbcadjgpcfmkfaaGreatDoor.vmParts
