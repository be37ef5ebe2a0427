/- Parse. -/
import Derived.Test.YtbplfhjpajkcoabDoorFunc
namespace Go.Proofs.YtbplfhjpajkcoabDoor
open Go.RowKit

theorem size40 : (Tryd.prog.info? 40).map (fun i => (i.zero, i.size, i.bytes)) = some (some (.agg z40), 3, 64) := by kernel_rfl
theorem new3 (w : World) (a b c : Value) (t : TypeId) {g : Nat} (hg : g = w.heap.size) : ∀ j u, ([a, b, c] : List Value)[j]? = some u → (w.alloc (.cells #[a, b, c] t)).cell? ((⟨g, 0, none⟩ : Addr).add j) = some u := by
  subst hg
  exact World.news_of_block (cs := #[a, b, c]) (t := t) (fr := (0, 0)) (heap_new _ _)
def moreF (acc : List Fn) : Except Int (List Fn) → Except Int (List Fn)
  | .error e => .error e
  | .ok fs => .ok (acc ++ fs)
def PPost (w : World) (res : Except Int (List Fn)) (e : Ending) (w' : World) : Prop :=
  ∃ (s : Slc) (z : Int), e = .returned (.tuple #[.slice s.a s.n s.c, .int .i64 z]) ∧ Fr nothing w w' ∧
    ((∃ fs, res = .ok fs ∧ z = 0 ∧ ∃ rs, Sl encG 3 w' s.v rs ∧ Each (FnOk w' (fun _ => True)) rs fs) ∨ (res = .error z ∧ z ≠ 0 ∧ s = nilS))
abbrev rdo (T : ByteArray) (mb : Nat) : Obj := .cells #[.string T, .int .i64 0, .map (some mb)] 48
theorem rd_new {T : ByteArray} {w w1 : World} (hE : Er w) (hM : FM w.heap.size w1) (hb : Below w.heap.size w w1) (hT : T.size ≤ 1500) : Ry T w.heap.size w1.heap.size 0 (w1.alloc (rdo T w.heap.size)) ∧ 2 ≤ w.heap.size := by
  have h2 : 2 ≤ w.heap.size := by
    obtain ⟨ev, h, _⟩ := hE.r
    have : 1 < w.heap.size := lt_of_cell h
    omega
  have hlt : w.heap.size < w1.heap.size := World.ownsMap.lt hM
  have hF : Fr nothing w1 (w1.alloc (rdo T w.heap.size)) := (Fr.refl _ w1).alloc _
  have hc : ∀ j, (w1.alloc (rdo T w.heap.size)).cell? ⟨w1.heap.size, j, none⟩ = #[Value.string T, .int .i64 0, .map (some w.heap.size)][j]? := fun j => World.cell?_alloc_new _ _ _ _
  exact ⟨⟨⟨⟨hc 0, hc 1, hc 2, World.frozen?_alloc_new _ _ _ _, by simp⟩, hM.fr hF id, by omega⟩, (hE.fr (Fr.of_below hb (Nat.le_refl _) nothing) id id).fr hF id id, by omega, Nat.zero_le _, hT⟩, h2⟩
/-- One function more. -/
theorem push_fin {T : ByteArray} {mb rb : Nat} {wB wr w5 w6 : World} {acc : List Fn} {f : Fn} {r : RawF} {q p5 : Nat} {va : Option Addr} {vc g cp H : Nat} {A Z : Obj} (hrb : rb < wB.heap.size) (hmb : mb < wB.heap.size)
    (hF : Fr (fun k => k = rb) wB wr) (hrow : Row 40 3 encG FnOk wB.heap.size (.slice va acc.length vc) acc wr) (hF5 : Fr (fun k => k = rb) wr w5) (hY : Ry T mb rb p5 w5) (hE : FnOk w5 (fun k => wr.heap.size ≤ k ∧ k < w5.heap.size) r f)
    (hg6 : ((w5.alloc A).alloc Z).grownBy w6 (Value.slice va acc.length vc).ownBlock) {xs : List Value} (hr6 : w6.ownsRow wB.heap.size 40 3 (.slice (some ⟨g, 0, none⟩) (acc.length + 1) cp) (acc.length + 1) (xs ++ encG r))
    (hat : (Value.slice va acc.length vc).ownBlock = some g ∨ g = H) (hH : H = w5.heap.size + 2) (hxs : w5.ownsRow wB.heap.size 40 3 (.slice va acc.length vc) acc.length xs) (hpq : q < p5) (hle : acc.length ≤ q) :
    Ry T mb rb p5 w6 ∧ Fr (fun k => k = rb) wB w6 ∧ Row 40 3 encG FnOk wB.heap.size (.slice (some ⟨g, 0, none⟩) (acc.length + 1) cp) (acc ++ [f]) w6 ∧ (acc ++ [f]).length ≤ p5 := by
  have hownlt : ∀ k, (Value.slice va acc.length vc).ownBlock = some k → wB.heap.size ≤ k ∧ k < w5.heap.size := hxs.lt
  have hz := hF.size
  have hz5 := hF5.size
  have h2 := hY.two
  have F6 : Fr (fun k => (Value.slice va acc.length vc).ownBlock = some k) w5 w6 := (((Fr.refl _ w5).alloc A).alloc Z).grown hg6 (fun k hk => .inl hk)
  refine ⟨hY.frS F6 (fun e => ?_) (fun e => ?_) (fun e => ?_) (fun e => ?_), ((hF.trans hF5).then F6 (fun j hj e => by have := (hownlt j e).1; omega)), ?_, by simp; omega⟩
  · have := (hownlt _ e).1; omega
  · have := (hownlt _ e).1; omega
  · have := (hownlt _ e).1; omega
  · have := (hownlt _ e).1; omega
  · refine hrow.push fn_stays hF5 (fun k e => by omega) (Nat.le_refl _) hE F6 (fun k e => .inr e) (fun rs hrs => ?_) ?_
    · have h2 : w5.ownsRow wB.heap.size 40 3 (.slice va acc.length vc) acc.length (rs.flatMap encG) := owns_fr hrs hF5 (fun k hk e => by have := (hrs.lt k hk).1; omega)
      have : rs.flatMap encG = xs := owns_same h2 hxs
      rw [this]
      exact hr6
    · rcases hat with e | e
      · exact .inl e.symm
      · exact .inr ⟨g, rfl, by omega⟩
set_option maxHeartbeats 1000000 in
set_option maxRecDepth 20000 in
theorem parse_long (T : ByteArray) (w : World) (hT : 1500 < T.size) (hm : T.size ≤ 9223372036854775807) : Calls Tryd.prog 7 #[.string T] w fun e w' => e = .returned (.tuple #[.slice none 0 0, .int .i64 4]) ∧ w' = w := by
  go_enter Tryd.func7, Tryd.ntmps7
  go_wp2
  all_goals go_ret2
  exact ⟨rfl, rfl⟩
set_option maxHeartbeats 1000000 in
set_option maxRecDepth 20000 in
theorem parse_any (T : ByteArray) (w : World) (hT : T.size ≤ 1500) (hE : Er w) (N n : Nat) (hN : T.size < N) (hn : T.size < n) : Calls Tryd.prog 7 #[.string T] w (PPost w (parseP MM N n T.data.toList)) := by
  have HC := hide (forms_any w)
  have HE := hide hE
  clear hE
  obtain ⟨j0, hj0, hy0, hy1, hy2⟩ := info_parts size40
  go_enter Tryd.func7, Tryd.ntmps7
  go_wp2_with (go_at_call 16; refine HC.out.mono ?_; rintro e w1 ⟨rfl, hM, hB⟩; have HRY := hide (rd_new (T := T) HE.out hM hB hT); have HB := hide hB; clear hM hB)
  have hWB : ∃ WB : World, WB = w1.alloc (rdo T w.heap.size) := ⟨_, rfl⟩
  obtain ⟨WB, hWB⟩ := hWB
  have HWB := hide hWB
  have hsB : WB.heap.size = w1.heap.size + 1 := by rw [hWB]; simp
  have hYB : Hid (Ry T w.heap.size w1.heap.size 0 WB) := by show Ry _ _ _ _ _; rw [hWB]; exact HRY.out.1
  have hFB : Hid (Fr nothing w WB) := by show Fr _ _ _; rw [hWB]; exact (Fr.of_below HB.out (Nat.le_refl _) nothing).alloc _
  clear hWB
  go_loopw [5] (fun v wr => ∃ (m : Nat) (acc : List Fn) (q : Nat) (va : Option Addr) (vc : Nat), v = .slice va acc.length vc ∧ T.size - q < m ∧ Hid (Ry T w.heap.size w1.heap.size q wr ∧ Fr (fun k => k = w1.heap.size) WB wr ∧ Row 40 3 encG FnOk WB.heap.size (.slice va acc.length vc) acc wr ∧ acc.length ≤ q ∧ parseP MM N n T.data.toList = moreF acc (parseP MM N m (T.data.toList.drop q)))) (fun _ wr => T.size - posOf wr w1.heap.size)
  case atStart =>
    refine ⟨n, [], 0, none, 0, rfl, by omega, ?_⟩
    have h0 : Ry T w.heap.size w1.heap.size 0 WB ∧ Fr (fun k => k = w1.heap.size) WB WB ∧ Row 40 3 encG FnOk WB.heap.size (.slice none 0 0) [] WB ∧ 0 ≤ 0 ∧ parseP MM N n T.data.toList = moreF [] (parseP MM N n (T.data.toList.drop 0)) := ⟨hYB.out, Fr.refl _ _, Row.nil _ (Nat.le_refl _), Nat.le_refl _, by rw [List.drop_zero]; cases parseP MM N n T.data.toList <;> rfl⟩
    first | exact h0 | exact Eq.subst (motive := fun W => Ry T w.heap.size w1.heap.size 0 W ∧ Fr (fun k => k = w1.heap.size) WB W ∧ Row 40 3 encG FnOk WB.heap.size (.slice none 0 0) [] W ∧ 0 ≤ 0 ∧ parseP MM N n T.data.toList = moreF [] (parseP MM N n (T.data.toList.drop 0))) HWB.out h0
  case round =>
    obtain ⟨m, acc, q, va, vc, rfl, hq, hR⟩ := hrel
    obtain ⟨m, rfl⟩ : ∃ k, m = k + 1 := ⟨m - 1, by omega⟩
    have hY := hR.out.1
    have HEND := hide (ended_any T _ w1.heap.size q wr hY.rx.rd hY.le hT)
    have hpos := hY.rx.rd.posOf
    have hacc : acc.length ≤ 1500 := by have := hR.out.2.2.2.1; have := hY.le; omega
    cases hs : skip (T.data.toList.drop q) with
    | nil =>
      rw [hs] at HEND
      have HP : Hid (parseP MM N n T.data.toList = .ok acc) := by
        show parseP MM N n T.data.toList = _
        rw [hR.out.2.2.2.2, parseP, hs]
        simp [moreF]
      clear hY
      go_wp2_with (go_at_call 17; refine HEND.out.mono ?_; rintro e w2 ⟨p2, rfl, hat2, hR2, hF2⟩; have hp2 := At.end hat2; subst hp2; have HF2 := hide hF2; clear hF2 hat2 hR2)
      all_goals go_ret2
      have hrow := hR.out.2.2.1.fr fn_stays HF2.out (fun k e => by omega)
      obtain ⟨rs, k1, k2, k3⟩ := hrow.done fn_stays encG_len (B := 0) (Nat.zero_le _)
      exact ⟨⟨va, acc.length, vc⟩, 0, rfl, (hFB.out.then hR.out.2.1 (fun j hj e => by have := HRY.out.1.rx.ne; have := HB.out.size; omega)).then HF2.out (fun j hj e => by have := HB.out.size; omega), .inl ⟨acc, HP.out, rfl, rs, k1, k3.1, fun i r x h1 h2 => fn_stays _ _ nothing _ _ r x (k3.2 i r x h1 h2) (Fr.refl _ _) (fun _ _ => id) (fun _ _ => trivial)⟩⟩
    | cons c t =>
      rw [hs] at HEND
      have hsl : (c :: t).length ≤ (T.data.toList.drop q).length := hs ▸ skip_len _
      have HY := hide hY
      have hne := HRY.out.1.rx.ne
      have hwz := HB.out.size
      have hrbB : w1.heap.size < WB.heap.size := by omega
      have hmbB : w.heap.size < WB.heap.size := by omega
      have HFN : Hid (∀ (w2 : World) (p2 : Nat), At T p2 (c :: t) → Ry T w.heap.size w1.heap.size p2 w2 → Calls Tryd.prog 18 #[.pointer (some ⟨w1.heap.size, 0, none⟩)] w2 (GPost T w.heap.size w1.heap.size w2 (fnP MM N (c :: t)))) := fun w2 p2 hat h => by
        have := function_any T w.heap.size w1.heap.size p2 N w2 h hN
        rw [hat.2] at this
        exact this
      cases hf : fnP MM N (c :: t) with
      | bad z =>
        rw [hf] at HFN
        have HP : Hid (parseP MM N n T.data.toList = .error z) := by
          show parseP MM N n T.data.toList = _
          rw [hR.out.2.2.2.2, parseP, hs]
          simp [moreF, hf]
        clear hY
        go_wp2_with (first
          | (go_at_call 17; refine HEND.out.mono ?_; rintro e w2 ⟨p2, rfl, hat2, hR2, hF2⟩; have hlt2 := At.lt hat2; have hne2 : ¬ (p2 : Int) = (T.size : Int) := (by omega); have HF1 := hide (HFN.out w2 p2 hat2 (HY.out.of hR2 hat2.1 hF2)); have HF2 := hide hF2; clear hF2 hat2 hR2)
          | (go_at_call 18; refine HF1.out.mono ?_; rintro e w5 ⟨r, z5, rfl, hF5, hr5⟩; obtain ⟨rfl, hz⟩ : z = z5 ∧ z ≠ 0 := (by rcases hr5 with ⟨_, _, _, h, _⟩ | ⟨h, hz⟩; (cases h); (cases h; exact ⟨rfl, hz⟩)); have HF5 := hide hF5; clear hF5 hr5))
        all_goals go_ret2
        exact ⟨nilS, z, rfl, (((hFB.out.then hR.out.2.1 (fun j hj e => by omega)).then HF2.out (fun j hj e => by omega)).then HF5.out (fun j hj e => by omega)).alloc _, .inr ⟨HP.out, hz, rfl⟩⟩
      | ok f l' =>
        rw [hf] at HFN
        have hrow := hR.out.2.2.1
        clear hY
        go_wp2_with (first
          | (go_at_call 17; refine HEND.out.mono ?_; rintro e w2 ⟨p2, rfl, hat2, hR2, hF2⟩; have hlt2 := At.lt hat2; have hp2 := hat2.le HY.out.le hsl; have hne2 : ¬ (p2 : Int) = (T.size : Int) := (by omega); have HF1 := hide (HFN.out w2 p2 hat2 (HY.out.of hR2 hat2.1 hF2)); have HRW := hide (hR.out.2.2.1.fr fn_stays hF2 (fun k e => by omega)); have HA2 := hide hat2; have HF2 := hide (hR.out.2.1.trans hF2); clear hF2 hat2 hR2)
          | (go_at_call 18; refine HF1.out.mono ?_; rintro e w5 ⟨r, z5, rfl, hF5, hr5⟩; obtain ⟨p5, rfl, hat5, hY5, hE5⟩ : ∃ p5, z5 = 0 ∧ At T p5 l' ∧ Ry T w.heap.size w1.heap.size p5 w5 ∧ FnOk w5 (fun k => w2.heap.size ≤ k ∧ k < w5.heap.size) r f := (by rcases hr5 with ⟨_, _, p5, h, h2, h3, h4, h5⟩ | ⟨h, hz⟩; (cases h; exact ⟨p5, h2, h3, h4, h5⟩); (cases h)); obtain ⟨rs, hown, _, _⟩ := HRW.out; have hown2 := (owns_fr hown hF5 (fun k hk e => by have := (hown.lt k hk).1; omega)); have hw5 : WB.heap.size ≤ w5.heap.size := (Nat.le_trans HF2.out.size hF5.size); have HLT := hide (hat5.less' (p := p2) (by rw [HA2.out.2]; exact fn_less MM N _ _ _ hf)); have HF5 := hide hF5; have HY5 := hide hY5; have HE5 := hide hE5; have HA5 := hide hat5; clear hF5 hr5 hat5 hY5 hE5 hown)
          | (at_builtin; go_must (refine wpList_append_lies _ rfl _ _ 23 rfl WB.heap.size 40 j0 _ 3 64 Tryd.underlying23 hj0 hy0 hy1 hy2 rfl (by decide) (.slice va acc.length vc) acc.length _ rfl ((hown2.alloc _).alloc _) ⟨w5.heap.size + 1, 0, none⟩ 1 1 (encG r) rfl rfl (new3 _ _ _ _ _ (by simp)) (by simp [encG, Value.oneCell']) (by decide) (by unfold maxLen; omega) (by omega) (by simp; omega) _ rfl ?_); intro g cp w6 hr6 hg6 hat6 hlt6))
        have hP := push_fin hrbB hmbB HF2.out HRW.out HF5.out HY5.out HE5.out hg6 hr6 hat6 (by simp) hown2 HLT.out (by have := hR.out.2.2.2.1; omega)
        have hlt5 := HLT.out
        have hle5 := HA5.out.1
        refine ⟨⟨m, acc ++ [f], p5, some ⟨g, 0, none⟩, cp, by simp, by omega, hP.1, hP.2.1, by simpa using hP.2.2.1, hP.2.2.2, ?_⟩, ?_⟩
        · rw [hR.out.2.2.2.2, parseP, hs, HA5.out.2]
          simp only [hf]
          cases parseP MM N m l' <;> simp [moreF]
        · rw [hP.1.rx.rd.posOf, hpos]
          omega
end Go.Proofs.YtbplfhjpajkcoabDoor
