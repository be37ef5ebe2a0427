/- One behind the other: the law's walk. -/
import Derived.Test.YtbplfhjpajkcoabDoorJoinedB
namespace Go.Proofs.YtbplfhjpajkcoabDoor
open Go.RowKit
/-- Both appends, one behind the other. -/
theorem app_two (t1 t2 : TypeId) {w : World} {s2 s3 : Slc} {r2 r3 : List RawF} (h2 : Sl encG 3 w s2.v r2) (h3 : Sl encG 3 w s3.v r3) (hn : r2.length + r3.length ≤ 10000) :
    ∃ g1 n1 c1 w1 g2 n2 c2 w2, (Builtin.append_ #[23, 23] t1 #[.slice (some ⟨w.heap.size, 0, none⟩) 0 0, .slice s2.a s2.n s2.c]).run Tryd.prog (w.alloc (.cells #[] 40)) = .ok (.slice (some ⟨g1, 0, none⟩) n1 c1) w1 ∧
      (Builtin.append_ #[23, 23] t2 #[.slice (some ⟨g1, 0, none⟩) n1 c1, .slice s3.a s3.n s3.c]).run Tryd.prog w1 = .ok (.slice (some ⟨g2, 0, none⟩) n2 c2) w2 ∧
      Fr nothing w w2 ∧ Sl encG 3 w2 (.slice (some ⟨g2, 0, none⟩) n2 c2) (r2 ++ r3) := by
  have hF0 : Fr nothing w (w.alloc (.cells #[] 40)) := (Fr.refl _ _).alloc _
  have ho : (w.alloc (.cells #[] 40)).ownsRow w.heap.size 40 3 (.slice (some ⟨w.heap.size, 0, none⟩) 0 0) 0 [] :=
    World.ownsRow_lit (e := 40) w #[] 0 (size := 3) (Nat.le_refl _) (by unfold maxLen; omega) rfl
  obtain ⟨g1, c1, w1, a1, a2, a3, a4⟩ := app_run t1 ho (Nat.le_refl _) (h2.keepN hF0) (by omega) hF0.size
  have hF1 : Fr nothing w w1 := hF0.grown a3 (fun k hk => by cases hk; exact .inr (Nat.le_refl _))
  obtain ⟨g2, c2, w2, b1, b2, b3, b4⟩ := app_run t2 a2 a4 (h3.keepN hF1) (by omega) hF1.size
  have hg1 : w.heap.size ≤ g1 := (a2.lt g1 rfl).1
  have hF2 : Fr nothing w w2 := hF1.grown b3 (fun k hk => by cases hk; exact .inr hg1)
  refine ⟨g1, _, c1, w1, g2, _, c2, w2, a1, b1, hF2, ?_⟩
  have := b2
  rw [List.nil_append, ← List.flatMap_append, Nat.zero_add, ← List.length_append] at this
  rw [Nat.zero_add, ← List.length_append]
  exact sl_of_owns encG_len this
theorem Each.app {ρ α : Type} {ok : ρ → α → Prop} {r2 r3 : List ρ} {l2 l3 : List α} (h2 : Each ok r2 l2) (h3 : Each ok r3 l3) : Each ok (r2 ++ r3) (l2 ++ l3) := by
  refine ⟨by simp [h2.1, h3.1], fun i r x k1 k2 => ?_⟩
  rcases Nat.lt_or_ge i r2.length with hi | hi
  · rw [List.getElem?_append_left hi] at k1
    rw [List.getElem?_append_left (by rw [← h2.1]; exact hi)] at k2
    exact h2.2 i r x k1 k2
  · rw [List.getElem?_append_right hi] at k1
    rw [List.getElem?_append_right (by rw [← h2.1]; exact hi), ← h2.1] at k2
    exact h3.2 _ r x k1 k2
theorem parse_len (M : Nums) (N : Nat) : ∀ (n : Nat) (l : Bs) (a : List Fn), parseP M N n l = .ok a → a.length ≤ n
  | 0, _, _, h => by simp [parseP] at h
  | n + 1, l, a, h => by
    rw [parseP] at h
    split at h
    · cases h; simp
    · split at h
      · cases h
      · split at h
        · cases h
        · rename_i fs hf
          cases h
          have := parse_len M N n _ _ hf
          simpa using this
theorem wpList_app {ops : Array Oper} {rest : List Oper} {o : Oper} {a : Act} {w : World} {Q : Exit → Act → World → Prop} (hw : Region.wanted o (yielded ops a.tmps) = true) (s x : Operand)
    (ho : o.op = .call { callee := .builtin .append, args := #[s, x], argTypes := #[23, 23] }) (ht : o.type = 23) {v1 v2 v : Value} {w' : World} (hs : a.eval s = v1) (hx : a.eval x = v2)
    (hr : (Builtin.append_ #[23, 23] 23 #[v1, v2]).run Tryd.prog w = .ok v w') (h : wpList Tryd.prog ops Q rest (a.put o.dst v) w') : wpList Tryd.prog ops Q (o :: rest) a w := by
  refine wpList_step fun K hK => ?_
  rw [if_pos hw]
  unfold Oper.wp execOp
  simp only [ho, ht, resolve, invoke, builtin, Sem.run_bind, Sem.run_pure, Result.andThen_ok, List.map_toArray, List.map_cons, List.map_nil, hs, hx, hr]
  exact hK _ _ h
set_option maxHeartbeats 400000 in
set_option maxRecDepth 20000 in
theorem joined_last (S U : ByteArray) (w : World) (fa fb : List Fn) (hE : Er w) (ha : resP S = .ok fa) (hb : resP U = .ok fb) (hsum : S.size + U.size ≤ 1500) : Calls Tryd.prog 4 #[.string S, .string U] w fun e w' => e = .returned (.bool true) ∧ Fr nothing w w' := by
  have HAL := hide (alive_any w hE)
  have HE := hide hE
  clear hE
  have ka : parseP MM 3001 3001 S.data.toList = .ok fa := by rw [resP, if_pos (by omega)] at ha; exact ha
  have kb : parseP MM 3001 3001 U.data.toList = .ok fb := by rw [resP, if_pos (by omega)] at hb; exact hb
  have hc := parse_joined MM 3001 ka kb
  rw [← app_list] at hc
  have hsz : (S ++ U).size = S.size + U.size := ByteArray.size_append
  have HPA := hide (fun (w' : World) (he : Er w') => parse_tot S w' (by omega) he)
  have HPB := hide (fun (w' : World) (he : Er w') => parse_tot U w' (by omega) he)
  have HPC := hide (fun (w' : World) (he : Er w') => parse_any (S ++ U) w' (by omega) he 3001 (3001 + 3001) (by omega) (by omega))
  have la := parse_len _ _ _ _ _ ka
  have lb := parse_len _ _ _ _ _ kb
  have HL := hide (And.intro la lb)
  rw [ha] at HPA
  rw [hb] at HPB
  rw [hc] at HPC
  clear ha hb hc ka kb la lb
  have i1 : ¬ (1500 : Int) < (S.size : Int) + (U.size : Int) := by omega
  go_enter Tryd.func4, Tryd.ntmps4
  go_wp2_with (go_at_call 6; refine HAL.out.mono ?_; rintro e w1 ⟨rfl, hF1⟩; have HE1 := hide (HE.out.fr hF1 id id); have HF1 := hide hF1; clear hF1)
  refine (HPA.out _ HE1.out).mono ?_
  intro e w2 hp2
  obtain ⟨s2, rfl, hF2, r2, h2a, h2b⟩ := ppost_ok hp2
  have HF2 := hide hF2
  have HE2 := hide (HE1.out.fr hF2 id id)
  have H2 := hide (And.intro h2a h2b)
  clear hp2 hF2 h2a h2b
  go_wp2_with fail
  refine (HPB.out _ HE2.out).mono ?_
  intro e w3 hp3
  obtain ⟨s3, rfl, hF3, r3, h3a, h3b⟩ := ppost_ok hp3
  have HF3 := hide hF3
  have HE3 := hide (HE2.out.fr hF3 id id)
  have H3 := hide (And.intro h3a h3b)
  clear hp3 hF3 h3a h3b
  go_wp2_with fail
  refine (HPC.out _ HE3.out).mono ?_
  intro e w4 hp4
  obtain ⟨s4, rfl, hF4, r4, h4a, h4b⟩ := ppost_ok hp4
  have HF4 := hide hF4
  have hF34 := HF3.out.trans hF4
  obtain ⟨g1, n1, c1, w5, g2, n2, c2, w6, a1, a2, hF6, hS6⟩ := app_two 23 23 (H2.out.1.keepN hF34) (H3.out.1.keepN hF4) (by have := HL.out; have := H2.out.2.1; have := H3.out.2.1; omega)
  have hE2 : Each (FnOk w6 Tr) r2 fa := ⟨H2.out.2.1, fun i r x k1 k2 => fn_stays _ _ nothing _ _ r x (H2.out.2.2 i r x k1 k2) (hF34.trans hF6) (fun _ _ => id) (fun _ _ => trivial)⟩
  have hE3 : Each (FnOk w6 Tr) r3 fb := ⟨H3.out.2.1, fun i r x k1 k2 => fn_stays _ _ nothing _ _ r x (H3.out.2.2 i r x k1 k2) (hF4.trans hF6) (fun _ _ => id) (fun _ _ => trivial)⟩
  have hE4 : Each (FnOk w6 Tr) r4 (fa ++ fb) := ⟨h4b.1, fun i r x k1 k2 => fn_stays _ _ nothing _ _ r x (h4b.2 i r x k1 k2) hF6 (fun _ _ => id) (fun _ _ => trivial)⟩
  have HS := hide (sameFns_yes (fa ++ fb) s4 ⟨some ⟨g2, 0, none⟩, n2, c2⟩ r4 (r2 ++ r3) w6 (h4a.keepN hF6) hS6 hE4 (hE2.app hE3))
  have HF6 := hide hF6
  have A1 := hide a1
  have A2 := hide a2
  clear a1 a2 hp4 hF4 hF34 hF6 hS6 hE2 hE3 hE4 h4a h4b H2 H3 HE HE1 HE2 HE3 HPA HPB HPC HAL HL
  go_wp2_with (at_builtin; first | refine wpList_app (by simp [Region.wanted, yielded]) _ _ rfl rfl (by simp [Act.eval]; done) (by simp [Act.eval]; done) A1.out ?_ | refine wpList_app (by simp [Region.wanted, yielded]) _ _ rfl rfl (by simp [Act.eval]; done) (by simp [Act.eval]; done) A2.out ?_)
  refine HS.out.mono ?_
  rintro e w7 ⟨rfl, hF7⟩
  have HF7 := hide hF7
  clear hF7 HS A1 A2
  go_wp2_with fail
  all_goals go_ret
  exact ⟨rfl, ((((HF1.out.trans HF2.out).trans HF3.out).trans HF4.out).trans HF6.out).trans HF7.out⟩
/-- The law, of any two texts. -/
theorem joined_law (S U : ByteArray) (w : World) (hE : Er w) (hS : S.size ≤ 140737488355328) (hU : U.size ≤ 140737488355328) : Calls Tryd.prog 4 #[.string S, .string U] w fun e w' => e = .returned (.bool true) ∧ Fr nothing w w' := by
  cases ha : resP S with
  | error z => exact joined_first S U w z hE hS hU ha
  | ok fa =>
    cases hb : resP U with
    | error z => exact joined_second S U w fa z hE hS hU ha hb
    | ok fb =>
      rcases Nat.lt_or_ge 1500 (S.size + U.size) with h | h
      · exact joined_long S U w fa fb hE hS hU ha hb h
      · exact joined_last S U w fa fb hE ha hb h
end Go.Proofs.YtbplfhjpajkcoabDoor
