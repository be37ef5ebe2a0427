/- For every program, agent and whether it is away, VerifyTells answers true: package verify's Heights, Program and Agent tell what the document's own answer tells; no condition. -/
import Derived.Test.YtgocmpooppejdaaRows
import Derived.Test.YtgocmpooppejdaaVTells
import Derived.Test.YtgocmpooppejdaaArgs7
import Derived.OpenShut
import Derived.Deep.DeepHandedRow
import Derived.Lib.LaidTab
set_option maxRecDepth 100000
namespace Go.Proofs.Ytgocmpooppejdaa.verifyTells
open Go.ChangeShapes Go.WideShapes Go.ChangeAt Go.RowKit Go.Lib
theorem own : ownKnob Try.prog.godebug = none := by kernel_rfl
theorem laidOut : laidOutB Try.prog = true := by kernel_rfl
theorem bytesFm : 1 ≤ Try.prog.bytesOf 55 := by decide +kernel
theorem bytesCl : 1 ≤ Try.prog.bytesOf 61 := by decide +kernel
theorem prog_of {H : Type} {enc : TypeId × Value → H} {W : World} {base : Nat} {v : Value} {d : DataW H} {p : List MemPlace} (hv : Value.okWide Try.prog W .any base 25 v) (h : DataW.Trod enc Try.prog W 0 (fun _ => true) true 25 v d p) : ∃ (sc sw : Slc) (p : Pz), v = .agg #[.slice sc.a sc.n sc.c, .slice sw.a sw.n sw.c] ∧ PzOk W sc sw p ∧ WfZ p := by
  obtain ⟨cs, rfl, _⟩ := okWide_struct Try.underlying25 hv
  obtain ⟨f, hf⟩ := h
  obtain ⟨sc, sw, p, hx, h1, h2⟩ := open_prog hf
  refine ⟨sc, sw, p, ?_, h1, h2⟩
  have : cs.toList = [.slice sc.a sc.n sc.c, .slice sw.a sw.n sw.c] := hx
  obtain ⟨l⟩ := cs
  simp only at this
  subst this
  rfl
theorem agent_of {H : Type} {enc : TypeId × Value → H} {W : World} {base : Nat} {v : Value} {d : DataW H} {p : List MemPlace} (hv : Value.okWide Try.prog W .any base 31 v) (h : DataW.Trod enc Try.prog W 0 (fun _ => true) true 31 v d p) : ∃ (a : Ag) (sc sw sf sh : Slc), v = .agg (agC a sc sw sf sh) ∧ AgOk W sc sw sf sh a ∧ (a.hp.length ≤ 140737488355328 ∧ a.fr.length ≤ 140737488355328 → WfA a) ∧ ∃ d0 d1 d2 d3 d4 d5, d = .agg [d0, d1, d2, d3, d4, d5] ∧ Rdd d3 a.fr.length ∧ Rdd d4 a.hp.length := by
  obtain ⟨cs, rfl, _⟩ := okWide_struct Try.underlying31 hv
  obtain ⟨f, hf⟩ := h
  obtain ⟨a, sc, sw, sf, sh, hx, h1, h2, d0, d1, d2, d3, d4, d5, h3, h4, h5⟩ := open_agent hf
  refine ⟨a, sc, sw, sf, sh, ?_, h1, h2, d0, d1, d2, d3, d4, d5, h3, h4, h5⟩
  have : cs.toList = (agC a sc sw sf sh).toList := hx
  obtain ⟨l⟩ := cs
  simp only at this
  subst this
  rfl
theorem len_of {H : Type} {d : DataW H} {n : Nat} {t e : TypeId} (hr : Rdd d n) (ht : Try.prog.underlying t = some (.slice e)) (hb : 1 ≤ Try.prog.bytesOf e) (hw : ∀ m ∈ d.weights Try.prog t, m ≤ reachBytes) : n ≤ 140737488355328 := by
  rcases hr with ⟨_, rfl⟩ | ⟨els, spare, rfl, rfl⟩
  · exact Nat.zero_le _
  · have h1 := hw ((els.length + spare.length) * Try.prog.bytesOf e) (by simp [DataW.weights, ht])
    have h2 : (els.length + spare.length) * 1 ≤ (els.length + spare.length) * Try.prog.bytesOf e := Nat.mul_le_mul_left _ hb
    simp only [reachBytes] at h1
    omega
theorem contract (H : Type) (enc : TypeId × Value → H) (W : World) (base : Nat) (args : Array Value) (ds gs : List (DataW H)) (before : List MemPlace)
    (hval : ∀ (j : Nat) t v, Try.f3.params[j]? = some t → args[j]? = some v → Value.okWide Try.prog W .any base t v)
    (hW : DataW.Whole enc Try.prog Try.f3.params.toList Rows.verifyTellsSpec.vars false W args.toList ds gs before)
    (hsz : (DataW.weightsEach Try.prog (Try.f3.params.toList ++ Rows.verifyTellsSpec.plain.varTypes Try.prog) (ds ++ gs)).all (· ≤ reachBytes) = true) :
    Calls Try.prog 3 args W fun e W' => ∃ v, e = .returned v ∧ Rows.verifyTellsSpec.post enc Try.prog Try.f3 false true false false W args v W' := by
  have hW' := hW
  obtain ⟨p, q, hA0, hV, rfl, hfz, hnd⟩ := hW
  have hA : DataW.TrodAll enc Try.prog W 0 (fun _ => true) true Try.f3.params.toList args.toList ds p := hA0
  rw [Try.params3] at hA hval hsz
  obtain ⟨v0, vs0, d0, ds0, p0, q0, hargs, rfl, rfl, h0, r0⟩ := trodAll_cons hA
  obtain ⟨v1, vs1, d1, ds1, p1, q1, rfl, rfl, rfl, h1, r1⟩ := trodAll_cons r0
  obtain ⟨v2, vs2, d2, ds2, p2, q2, rfl, rfl, rfl, h2, r2⟩ := trodAll_cons r1
  obtain ⟨rfl, rfl, rfl⟩ := trodAll_nil r2
  obtain rfl : args = #[v0, v1, v2] := by cases args; simp_all
  obtain ⟨rfl, rfl⟩ := trodVars_none hV
  obtain ⟨sc, sw, pz, rfl, hp, hwf⟩ := prog_of (hval 0 25 v0 rfl rfl) h0
  obtain ⟨a, tc, tw, sf, sh, rfl, hag, hwa, e0, e1, e2, e3, e4, e5, rfl, hr3, hr4⟩ := agent_of (hval 1 31 v1 rfl rfl) h1
  obtain ⟨aw, rfl⟩ := okWide_bool Try.underlying4 (hval 2 4 v2 rfl rfl)
  have hlt0 : ∀ x ∈ p0, x.block < W.heap.size := fun x hx => hW'.lt x (by simp [hx])
  have hlt1 : ∀ x ∈ p1, x.block < W.heap.size := fun x hx => hW'.lt x (by simp [hx])
  have hlt2 : ∀ x ∈ p2, x.block < W.heap.size := fun x hx => hW'.lt x (by simp [hx])
  have hwt : ∀ m ∈ (DataW.agg [e0, e1, e2, e3, e4, e5]).weights Try.prog 31, m ≤ reachBytes := fun m hm => by
    have := List.all_eq_true.1 hsz _ (DataW.weights_mem_each (j := 1) rfl rfl m hm)
    simpa using this
  have hw3 : ∀ m ∈ e3.weights Try.prog 26, m ≤ reachBytes := fun m hm => hwt m (by
    simp only [DataW.weights, Try.underlying31]
    exact DataW.weights_mem_each (j := 3) rfl rfl m hm)
  have hw4 : ∀ m ∈ e4.weights Try.prog 27, m ≤ reachBytes := fun m hm => hwt m (by
    simp only [DataW.weights, Try.underlying31]
    exact DataW.weights_mem_each (j := 4) rfl rfl m hm)
  refine (vtells_law pz sc sw a tc tw sf sh aw W hp hwf hag (hwa ⟨len_of hr4 Try.underlying27 bytesCl hw4, len_of hr3 Try.underlying26 bytesFm hw3⟩)).mono fun e W' ⟨he, hf⟩ => ?_
  subst he
  have hb : Below W.heap.size W W' := hf.below (Nat.le_refl _) (fun _ _ => id)
  refine ⟨_, rfl, _, _, _, [], p0 ++ (p1 ++ (p2 ++ [])), [], hW', ?_, ?_, rfl, hb.frame _, fun h => by cases h⟩
  · exact trodAll_mk1 (shut_bool Try.underlying4 _)
  · exact trodAll_cons_mk (Below.trod laidOut (by kernel_rfl) (of_decide_eq_true (by kernel_rfl)) h0 hb hlt0) (trodAll_cons_mk (Below.trod laidOut (by kernel_rfl) (of_decide_eq_true (by kernel_rfl)) h1 hb hlt1) (trodAll_cons_mk (Below.trod laidOut (by kernel_rfl) (of_decide_eq_true (by kernel_rfl)) h2 hb hlt2) trodAll_mk0))
abbrev wit : Array Value := #[.agg #[.slice none 0 0, .slice none 0 0], .agg #[.int .i64 0, .int .i64 0, .slice none 0 0, .slice none 0 0, .slice none 0 0, .slice none 0 0, .int .i64 0, .int .i64 0, .int .i64 0], .bool false]
noncomputable def world (os : Os) : World := World.holding Try.prog os ⟨#[], #[], []⟩
theorem laid_met (os : Os) : laidMet Try.prog Rows.verifyTellsRow.laid ((world os).forCall (fun _ _ => 0) ⟨#[], wit, []⟩).memory :=
  laidMet_of_run' 8 (by kernel_rfl) (by kernel_rfl)
theorem reads (os : Os) {H : Type} (enc : TypeId × Value → H) : ∃ ds places, DataW.whole enc Try.prog ((world os).forCall (fun _ _ => 0) ⟨#[], wit, []⟩).memory Try.f3.params.toList Rows.verifyTellsSpec.vars false wit.toList 8 = some (ds, [], places) ∧ ds = [.agg [.nil, .nil], .agg [.lit (.int .i64 0), .lit (.int .i64 0), .agg [.nil, .nil], .nil, .nil, .agg [.lit (.int .i64 0), .lit (.int .i64 0), .lit (.int .i64 0)]], .lit (.bool false)] :=
  ⟨_, [], by kernel_rfl, rfl⟩
set_option maxRecDepth 100000 in
theorem lifted (os : Os) (started : os.Started) (H : Type) (enc : TypeId × Value → H) (F : Stop.Interp) :
    ReturnsInHanded {} Try.checked os 3 .any ((OpenSpec.ofChange Rows.verifyTellsSpec).preRow enc Try.prog Try.f3 Rows.verifyTellsRow.domain false Rows.verifyTellsRow.laid) (((OpenSpec.ofChange Rows.verifyTellsSpec).at F).post enc Try.prog Try.f3 false true false false) := by
  obtain ⟨ds, places, hx, rfl⟩ := reads os enc
  refine returnsInHanded_of_row (C := Try.checked) (s := OpenSpec.ofChange Rows.verifyTellsSpec) own started (by kernel_rfl) Try.func3
    (witness_row_at (enc := enc) (C := Try.checked) false (world os) wit rfl (by kernel_rfl) (by kernel_rfl) (by kernel_rfl)
      (OpenSpec.preRow_of_cond 8 hx (by kernel_rfl) (fun k hk => by cases hk) (by kernel_rfl) (laid_met os))) ?_
  intro W base args ds gs before hval hW _ _ hsz _ _ _
  exact contract H enc W base args ds gs before hval hW hsz
/-- The statement. -/
theorem said : Rows.VerifyTellsSaid :=
  OpenClaim.holds_of_cond 3 Try.f3 rfl rfl rfl rfl rfl rfl rfl ⟨rfl, rfl, rfl, rfl, rfl⟩ rfl rfl rfl rfl rfl (by kernel_rfl) Try.func3 (by kernel_rfl)
    (of_decide_eq_true (by kernel_rfl)) (by unfold Func.isWrapper; first | (rw [if_pos (by decide +kernel)]; kernel_rfl) | (rw [if_neg (by decide +kernel)]; exact ⟨rfl, rfl⟩))
    (fun os started H enc _ F => by rw [OpenClaim.pre_eq_preRow]; exact lifted os started H enc F)
end Go.Proofs.Ytgocmpooppejdaa.verifyTells
