/- The closed fact that the statements ask first. -/
import Derived.Test.YtcemfgknnpjlhaaDoorShow
import Derived.Test.YtcemfgknnpjlhaaDoorCanon
import Derived.Deep.RegionHeld3
namespace Go.Proofs.YtcemfgknnpjlhaaDoor
open Go.RowKit Go.Ws

def e0 : ByteArray := ⟨#[]⟩
def ea : ByteArray := ⟨#[97]⟩

/-- Facts on the world behind a call that only makes memory. -/
theorem bcell {W w1 : World} (hb : Below W.heap.size W w1) : (∀ b o, b < W.heap.size → w1.cell? ⟨b, o, none⟩ = W.cell? ⟨b, o, none⟩) ∧ (∀ b o, b < W.heap.size → w1.frozen? ⟨b, o, none⟩ = W.frozen? ⟨b, o, none⟩) :=
  ⟨fun b o h => hb.cell (p := ⟨b, o, none⟩) h, fun b o h => hb.frozen (p := ⟨b, o, none⟩) h⟩

set_option maxHeartbeats 400000 in
theorem int_any (n : Int) (w : World) (_h0 : -9223372036854775808 ≤ n) (_h1 : n ≤ 9223372036854775807) :
    Calls Tryd.prog 6 #[.int .i64 n] w fun e w' => e = .returned (vv ⟨0, n.tmod 1073741825, ⟨#[]⟩⟩) ∧ Below w.heap.size w w' := by
  go_enter Tryd.func6, Tryd.ntmps6
  go_wp2
  refine bodyPost_ret (v := vv ⟨0, n.tmod 1073741825, ⟨#[]⟩⟩) (by simp [results, Tryd.results6, go_sem]) rfl ⟨rfl, ?_⟩
  exact (Below.refl _ _).alloc (Nat.le_refl _) _
set_option maxHeartbeats 400000 in
theorem text_short (s : ByteArray) (w : World) (h : s.size ≤ 60) :
    Calls Tryd.prog 8 #[.string s] w fun e w' => e = .returned (vv ⟨1, 0, s⟩) ∧ Below w.heap.size w w' := by
  go_enter Tryd.func8, Tryd.ntmps8
  go_wp2
  refine bodyPost_ret (v := vv ⟨1, 0, s⟩) (by simp [results, Tryd.results8, go_sem]) rfl ⟨rfl, ?_⟩
  exact (Below.refl _ _).alloc (Nat.le_refl _) _
set_option maxHeartbeats 400000 in
theorem numbers_add (a b : Int) (w : World) (ha : -2147483648 ≤ a ∧ a ≤ 2147483647) (hb : -2147483648 ≤ b ∧ b ≤ 2147483647) :
    Calls Tryd.prog 28 #[.int .i64 1, .int .i64 a, .int .i64 b] w fun e w' => e = .returned (vv ⟨0, (a + b).tmod 1073741825, ⟨#[]⟩⟩) ∧ Below w.heap.size w w' := by
  obtain ⟨a1, a2⟩ := ha
  obtain ⟨b1, b2⟩ := hb
  go_enter Tryd.func28, Tryd.ntmps28
  go_wp2_with (go_at_call 6; refine (int_any _ _ (by omega) (by omega)).mono ?_; rintro e w1 ⟨rfl, hb1⟩; obtain ⟨hc, hf⟩ := bcell hb1; have hz : w.heap.size < w1.heap.size := (by have := hb1.size; simp at this; omega); have HB := hide hb1; clear hb1)
  refine bodyPost_ret (v := vv ⟨0, (a + b).tmod 1073741825, ⟨#[]⟩⟩) (by simp [results, Tryd.results28, go_sem, hc]) rfl ⟨rfl, ?_⟩
  exact ((((Below.refl _ _).alloc (Nat.le_refl _) _).trans (HB.out.mono (by simp))).setCell (Nat.le_refl _) _ |>.setCell (Nat.le_refl _) _).setCell (Nat.le_refl _) _
set_option maxHeartbeats 400000 in
theorem two_add (a b : Int) (w : World) (ha : -2147483648 ≤ a ∧ a ≤ 2147483647) (hb : -2147483648 ≤ b ∧ b ≤ 2147483647) :
    Calls Tryd.prog 12 #[.int .i64 1, vv ⟨0, a, ⟨#[]⟩⟩, vv ⟨0, b, ⟨#[]⟩⟩] w fun e w' => e = .returned (.tuple #[vv ⟨0, (a + b).tmod 1073741825, ⟨#[]⟩⟩, .int .i64 0]) ∧ Below w.heap.size w w' := by
  go_enter Tryd.func12, Tryd.ntmps12
  go_wp2_with (go_at_call 28; refine (numbers_add _ _ _ ha hb).mono ?_; rintro e w1 ⟨rfl, hb1⟩; obtain ⟨hc, hf⟩ := bcell hb1; have hz : w.heap.size + 2 < w1.heap.size := (by have := hb1.size; simp at this; omega); have HB := hide hb1; clear hb1)
  refine bodyPost_ret (v := .tuple #[vv ⟨0, (a + b).tmod 1073741825, ⟨#[]⟩⟩, .int .i64 0]) (by simp [results, Tryd.results12, go_sem, hc]) rfl ⟨rfl, ?_⟩
  exact (((((((Below.refl _ _).alloc (Nat.le_refl _) _).alloc (by simp) _).alloc (by simp; omega) _).trans (HB.out.mono (by simp; omega))).setCell (by simp; omega) _).setCell (by simp; omega) _).setCell (by simp; omega) _

set_option maxHeartbeats 400000 in
theorem wrong_any (v : Val) (c : Int) (w : World) (hs : v.t.size ≤ maxLen) :
    Calls Tryd.prog 10 #[vv v, .int .i64 c] w fun e w' => e = .returned (.int .i64 (wrongR v c)) ∧ Below w.heap.size w w' := by
  unfold maxLen at hs
  go_enter Tryd.func10, Tryd.ntmps10
  go_wp2
  all_goals go_ret
  all_goals
    refine ⟨ret_int ?_, (by first | exact (Below.refl _ _).alloc (Nat.le_refl _) _ | exact ((Below.refl _ _).alloc (Nat.le_refl _) _).alloc (by simp) _)⟩
    go_light
    unfold wrongR
    simp only [beq_iff_eq, beq_eq_false_iff_ne, bne_iff_ne, Bool.not_eq_true', Bool.not_eq_false', ne_eq, bne_eq_false_iff_eq, decide_eq_true_eq, decide_eq_false_iff_not] at *
    repeat (first | rw [if_pos (by first | assumption | omega)] | rw [if_neg (by first | assumption | omega)])
    try simp [*]

def cl0 : List Cel := [⟨⟨0, 9, e0⟩, ⟨0, 0, e0⟩⟩, ⟨⟨1, 0, ea⟩, ⟨2, 1, e0⟩⟩]
def vl0 : List Val := [⟨2, 1, e0⟩]
theorem cv0 : canonV cl0 vl0 = [⟨2, 0, e0⟩] := rfl
theorem cc0 : canonC cl0 vl0 = [⟨⟨1, 0, ea⟩, ⟨2, 0, e0⟩⟩] := rfl
theorem sh0 : showV cl0 2 ⟨2, 1, e0⟩ = [40, 97, 32, 40, 97, 32, 46, 46, 41, 41] := rfl
theorem ok0 : ∀ c ∈ cl0, okC cl0.length c = true ∧ WfC c := by
  intro c hc
  simp only [cl0, List.mem_cons, List.not_mem_nil, or_false] at hc
  rcases hc with rfl | rfl
  · exact ⟨by simp [okC, okV, wrongR, e0, ByteArray.toList_eq], by unfold WfC WfV maxLen e0; decide⟩
  · exact ⟨by simp [okC, okV, wrongR, e0, ea, cl0, ByteArray.toList_eq]; decide, by unfold WfC WfV maxLen e0 ea; decide⟩

theorem sl_h0 (w : World) (O : Obj) : Sl encC 6 ((w.alloc (.cells #[.int .i64 0, .int .i64 9, .string ⟨#[]⟩, .int .i64 0, .int .i64 0, .string ⟨#[]⟩, .int .i64 1, .int .i64 0, .string ⟨#[97]⟩, .int .i64 2, .int .i64 1, .string ⟨#[]⟩] 43)).alloc O) (.slice (some ⟨w.heap.size, 0, none⟩) 2 2) cl0 := by
  have h : (w.alloc (.cells #[.int .i64 0, .int .i64 9, .string ⟨#[]⟩, .int .i64 0, .int .i64 0, .string ⟨#[]⟩, .int .i64 1, .int .i64 0, .string ⟨#[97]⟩, .int .i64 2, .int .i64 1, .string ⟨#[]⟩] 43)).ownsRow 0 43 6 (.slice (some ⟨w.heap.size, 0, none⟩) 2 2) cl0.length (cl0.flatMap encC) :=
    ⟨rfl, .inr ⟨w.heap.size, 2, _, rfl, Nat.zero_le _, heap_new _ _, Nat.le_refl _, by unfold maxLen; decide, rfl, rfl⟩⟩
  exact sl_of_owns encC_length (h.alloc O)
theorem sl_l0 (w : World) (O : Obj) : Sl encV 3 ((w.alloc O).alloc (.cells #[.int .i64 2, .int .i64 1, .string ⟨#[]⟩] 25)) (.slice (some ⟨w.heap.size + 1, 0, none⟩) 1 1) vl0 := by
  have h : ((w.alloc O).alloc (.cells #[.int .i64 2, .int .i64 1, .string ⟨#[]⟩] 25)).ownsRow 0 25 3 (.slice (some ⟨(w.alloc O).heap.size, 0, none⟩) 1 1) vl0.length (vl0.flatMap encV) :=
    ⟨rfl, .inr ⟨(w.alloc O).heap.size, 1, _, rfl, Nat.zero_le _, heap_new _ _, Nat.le_refl _, by unfold maxLen; decide, rfl, rfl⟩⟩
  have e : (w.alloc O).heap.size = w.heap.size + 1 := by simp
  rw [e] at h
  exact sl_of_owns encV_length h

theorem tab_bel {w w' : World} (h : Tab w) (hb : Below w.heap.size w w') : Tab w' := Lib.tabBelow_of_tabIs h w' hb

set_option maxHeartbeats 1000000 in
theorem alive_any (w : World) (ht : Tab w) :
    Calls Tryd.prog 21 #[] w fun e w' => e = .returned (.bool true) ∧ Below w.heap.size w w' := by
  have HT := hide ht
  clear ht
  go_enter Tryd.func21, Tryd.ntmps21
  go_wp2_with fail
  refine (int_any 2 _ (by decide) (by decide)).mono ?_
  rintro e w1 ⟨rfl, hb1⟩
  have H1 := hide hb1
  clear hb1
  go_wp2_with fail
  refine (int_any 3 _ (by decide) (by decide)).mono ?_
  rintro e w2 ⟨rfl, hb2⟩
  have H2 := hide (H1.out.trans (hb2.mono H1.out.size))
  clear hb2 H1
  go_wp2_with fail
  refine (two_add 2 3 _ (by decide) (by decide)).mono ?_
  rintro e w3 ⟨rfl, hb3⟩
  have H3 := hide (H2.out.trans (hb3.mono H2.out.size))
  clear hb3 H2
  go_wp2_with fail
  refine (int_any 9 _ (by decide) (by decide)).mono ?_
  rintro e w4 ⟨rfl, hb4⟩
  have H4 := hide hb4
  clear hb4
  go_wp2_with fail
  refine (text_short ⟨#[97]⟩ _ (by decide)).mono ?_
  rintro e w5 ⟨rfl, hb5⟩
  have H5 := hide (H4.out.trans (hb5.mono H4.out.size))
  clear hb5 H4
  go_wp2_with fail
  refine (canon_any cl0 vl0 _ _ _ (sl_h0 w5 _) (sl_l0 w5 _) (by decide) (by decide)).mono ?_
  rintro e w8 ⟨xv, kv, rfl, hx, hk, hb8⟩
  rw [cv0] at hx
  rw [cc0] at hk
  obtain ⟨bx, ox, cx, rfl, hbx, _, x1, _⟩ := vals_of_sl hx (i := 0) (by decide)
  obtain ⟨bk, ok, ck, rfl, hbk, _, _, _, _, k4, _⟩ := cels_of_sl hk (i := 0) (by decide)
  clear hx hk
  simp only [List.getElem_cons_zero, Nat.zero_mul, Nat.add_zero, List.length_cons, List.length_nil, Nat.zero_add] at x1 k4 ⊢
  have S5 := H5.out.size
  have S8 := hb8.size
  simp only [World.size_alloc] at S5 S8
  have B8 : Hid (Below (w3.heap.size + 1) (w3.alloc (.cells #[.int .i64 0, .int .i64 5, .string ⟨#[]⟩] 25)) w8) := by
    refine (H5.out.mono (by simp)).trans ((((Below.refl _ w5).alloc (Nat.le_refl _) _).alloc (by simp) _).mono (by omega) |>.trans (hb8.mono (by simp; omega)))
  have C8 : Hid (Sl encC 6 w8 (.slice (some ⟨w5.heap.size, 0, none⟩) 2 2) cl0) := (sl_h0 w5 _).below hb8 (Nat.le_refl _)
  clear hb8 H5
  have v0 := (B8.out.cell (p := ⟨w3.heap.size, 0, none⟩) (by simp)).trans (World.cell?_alloc_new _ _ _ _)
  have v1 := (B8.out.cell (p := ⟨w3.heap.size, 1, none⟩) (by simp)).trans (World.cell?_alloc_new _ _ _ _)
  have v2 := (B8.out.cell (p := ⟨w3.heap.size, 2, none⟩) (by simp)).trans (World.cell?_alloc_new _ _ _ _)
  simp only [List.getElem?_toArray, List.getElem?_cons_zero, List.getElem?_cons_succ] at v0 v1 v2
  go_wp2
  have HT8 : Hid (∀ w9, Below w8.heap.size w8 w9 → Tab w9) := fun w9 hb9 => tab_bel HT.out ((H3.out.trans (((Below.refl _ w3).alloc (Nat.le_refl _) _).mono H3.out.size)).trans ((B8.out.mono (by have := H3.out.size; omega)).trans (hb9.mono (by have := H3.out.size; omega))))
  have SH : Hid (∀ w9, Below w8.heap.size w8 w9 → Calls Tryd.prog 17 #[.slice (some ⟨w5.heap.size, 0, none⟩) 2 2, vv ⟨2, 1, ⟨#[]⟩⟩, .int .i64 2] w9 fun e w' => e = .returned (.string ⟨#[40, 97, 32, 40, 97, 32, 46, 46, 41, 41]⟩) ∧ Below w9.heap.size w9 w') := fun w9 hb9 =>
    show_any w9 cl0 _ ⟨2, 1, e0⟩ 2 (C8.out.below hb9 (Nat.le_refl _)) (HT8.out w9 hb9) ok0 (by simp [okV, wrongR, e0, cl0, ByteArray.toList_eq]) (by unfold WfV maxLen e0; decide) (by decide) (by decide)
  have hl : w3.heap.size < w8.heap.size := by omega
  have F9 : Hid (∀ w', Below w8.heap.size w8 w' → w'.cell? ⟨w3.heap.size, 0, none⟩ = some (.int .i64 0) ∧ w'.cell? ⟨w3.heap.size, 1, none⟩ = some (.int .i64 5) ∧ w'.cell? ⟨w3.heap.size, 2, none⟩ = some (.string ⟨#[]⟩) ∧ w'.cell? ⟨bx, ox + 1, none⟩ = some (.int .i64 0) ∧ w'.cell? ⟨bk, ok + 4, none⟩ = some (.int .i64 0)) := fun w' hb =>
    ⟨(hb.cell (p := ⟨w3.heap.size, 0, none⟩) hl).trans v0, (hb.cell (p := ⟨w3.heap.size, 1, none⟩) hl).trans v1, (hb.cell (p := ⟨w3.heap.size, 2, none⟩) hl).trans v2, (hb.cell (p := ⟨bx, ox + 1, none⟩) hbx).trans x1, (hb.cell (p := ⟨bk, ok + 4, none⟩) hbk).trans k4⟩
  have D8 : Hid (Below w8.heap.size w8 w8.drew) := (Below.refl _ w8).drew
  clear v0 v1 v2 x1 k4
  go_region_held3 (fun w' => w'.cell? ⟨w3.heap.size, 0, none⟩ = some (.int .i64 0) ∧ w'.cell? ⟨w3.heap.size, 1, none⟩ = some (.int .i64 5) ∧ w'.cell? ⟨w3.heap.size, 2, none⟩ = some (.string ⟨#[]⟩) ∧ w'.cell? ⟨bx, ox + 1, none⟩ = some (.int .i64 0) ∧ w'.cell? ⟨bk, ok + 4, none⟩ = some (.int .i64 0)) (first | exact F9.out _ D8.out | exact F9.out _ H9.out | exact F9.out _ H10.out | exact F9.out _ H11.out)
    (first
      | (go_at_call 6; refine (int_any 5 _ (by decide) (by decide)).mono ?_; rintro e w9 ⟨rfl, hb9⟩; have H9 := hide (D8.out.trans hb9); clear hb9)
      | (go_at_call 17; refine (SH.out w9 H9.out).mono ?_; rintro e w10 ⟨rfl, hb10⟩; have H10 := hide (H9.out.trans (hb10.mono H9.out.size)); clear hb10)
      | (go_at_call 10; refine (wrong_any ⟨2, 2, ⟨#[]⟩⟩ 2 _ (by unfold maxLen; decide)).mono ?_; rintro e w11 ⟨rfl, hb11⟩; have H11 := hide (H10.out.trans (hb11.mono H10.out.size)); clear hb11))
  all_goals go_wp2
  all_goals go_ret
  all_goals
    refine ⟨by simp [wrongR], ?_⟩
    have s3 := H3.out.size
    exact ((H3.out.trans (((Below.refl _ w3).alloc (Nat.le_refl _) _).mono s3)).trans (B8.out.mono (by omega))).trans (H11.out.mono (by omega))
end Go.Proofs.YtcemfgknnpjlhaaDoor
