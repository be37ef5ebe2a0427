/- Blanks are no matter: the law's walk. -/
import Derived.Test.YtbplfhjpajkcoabDoorAlive
namespace Go.Proofs.YtbplfhjpajkcoabDoor
open Go.RowKit

theorem B_app (a b : Bs) : B (a ++ b) = B a ++ B b := by simp [B]
theorem B_len (l : Bs) : l.length ≤ (B l).length ∧ (B l).length ≤ 3 * l.length := by
  induction l with
  | nil => simp [B]
  | cons c t ih =>
    rw [B_cons]
    by_cases h : c = 40 ∨ c = 41
    · simp [wide, h]; omega
    · simp [wide, h]; omega
theorem bs_app (a b : Bs) : bs a ++ bs b = bs (a ++ b) := by
  apply ByteArray.ext
  apply Array.toList_inj.1
  simp [bs, ByteArray.data_append]
theorem take_next {S : ByteArray} {k : Nat} {c : UInt8} (h : k < S.size) (hc : S[k]'h = c) : S.data.toList.take (k + 1) = S.data.toList.take k ++ [c] ∧ S.extract k (k + 1) = bs [c] := by
  have h2 : k < S.data.toList.length := by simpa using h
  have hg : S.data.toList[k]? = some c := by
    rw [List.getElem?_eq_getElem h2, ← hc]; rfl
  constructor
  · rw [List.take_add_one, hg]
    rfl
  · rw [bs_extract]
    congr 1
    have := drop_cons h
    rw [this, hc]
    simp [show k + 1 - k = 1 by omega]
theorem nil_sl (w : World) : Sl encG 3 w nilS.v [] := ⟨none, 0, rfl, by unfold maxLen; simp, fun i x h => by simp at h⟩
set_option maxHeartbeats 2000000 in
set_option maxRecDepth 20000 in
theorem blank_law (S : ByteArray) (w : World) (hE : Er w) (hS : S.size ≤ 140737488355328) : Calls Tryd.prog 3 #[.string S] w fun e w' => e = .returned (.bool true) ∧ Fr nothing w w' := by
  have HAL := hide (alive_any w hE)
  have HE := hide hE
  clear hE
  go_enter Tryd.func3, Tryd.ntmps3
  go_wp2_with (go_at_call 6; refine HAL.out.mono ?_; rintro e w1 ⟨rfl, hF1⟩; have HE1 := hide (HE.out.fr hF1 id id); have HF1 := hide hF1; clear hF1)
  go_loop [13, 3] (fun i v => ∃ (k : Nat) (p : ByteArray), k ≤ S.size ∧ i = .int .i64 k ∧ v = .string p ∧ p.size ≤ 3 * k ∧ Hid (p = bs (B (S.data.toList.take k)) ∧ 39 ∉ S.data.toList.take k)) (fun i _ => S.size - (intOf i).toNat)
  case atStart => exact ⟨0, ⟨#[]⟩, Nat.zero_le _, rfl, rfl, Nat.zero_le _, rfl, by simp⟩
  case round =>
    obtain ⟨k, p, hk, rfl, rfl, hp, hR⟩ := hrel
    by_cases hlt : k < S.size
    · have hz : (k : Int) < (S.size : Int) := by omega
      generalize hc : S[k]'hlt = c
      obtain ⟨t1, t2⟩ := take_next hlt hc
      have T1 := hide t1
      have T2 := hide t2
      have hex : (S.extract k (k + 1)).size = 1 := by rw [t2, bs_size]; rfl
      clear t1 t2
      have h39 := is39 c
      have h40 := is40 c
      have h41 := is41 c
      by_cases c39 : c = 39
      · rw [show (c == 39) = true by simpa using c39] at h39
        go_wp2
        all_goals go_ret
        all_goals exact ⟨rfl, HF1.out⟩
      · rw [show (c == 39) = false by simpa using c39] at h39
        have N39 : Hid (39 ∉ S.data.toList.take (k + 1)) := by
          show 39 ∉ _
          rw [T1.out]
          simp [hR.out.2]
          exact fun e => c39 e.symm
        by_cases cb : c = 40 ∨ c = 41
        · have HEQ : Hid (((p ++ ⟨#[10]⟩) ++ S.extract k (k + 1)) ++ ⟨#[32]⟩ = bs (B (S.data.toList.take (k + 1)))) := by
            show _ = _
            rw [T2.out, hR.out.1, T1.out, B_app, show B [c] = [10, c, 32] by rw [B_bracket cb]; rfl]
            rw [show (⟨#[10]⟩ : ByteArray) = bs [10] from rfl, show (⟨#[32]⟩ : ByteArray) = bs [32] from rfl, bs_app, bs_app, bs_app]
            simp
          rcases cb with cb | cb
          · rw [show (c == 40) = true by simpa using cb] at h40
            go_wp2
            go_round
            case rel => exact ⟨k + 1, _, by omega, by go_num, rfl, by have q1 : (⟨#[10]⟩ : ByteArray).size = 1 := rfl; have q2 : (⟨#[32]⟩ : ByteArray).size = 1 := rfl; simp only [ByteArray.size_append, hex, q1, q2]; omega, HEQ.out, N39.out⟩
            case measure => simp [intOf]; omega
          · rw [show (c == 41) = true by simpa using cb] at h41
            have c40 : (c == 40) = false := by rw [cb]; rfl
            rw [c40] at h40
            go_wp2
            go_round
            case rel => exact ⟨k + 1, _, by omega, by go_num, rfl, by have q1 : (⟨#[10]⟩ : ByteArray).size = 1 := rfl; have q2 : (⟨#[32]⟩ : ByteArray).size = 1 := rfl; simp only [ByteArray.size_append, hex, q1, q2]; omega, HEQ.out, N39.out⟩
            case measure => simp [intOf]; omega
        · have HEQ : Hid (p ++ S.extract k (k + 1) = bs (B (S.data.toList.take (k + 1)))) := by
            show _ = _
            rw [T2.out, hR.out.1, T1.out, B_app, show B [c] = [c] by rw [B_plain cb]; rfl, bs_app]
          rw [show (c == 40) = false by simpa using fun e => cb (.inl e)] at h40
          rw [show (c == 41) = false by simpa using fun e => cb (.inr e)] at h41
          go_wp2
          go_round
          case rel => exact ⟨k + 1, _, by omega, by go_num, rfl, by simp [hex]; omega, HEQ.out, N39.out⟩
          case measure => simp [intOf]; omega
    · obtain rfl : k = S.size := by omega
      have hall : S.data.toList.take S.size = S.data.toList := List.take_of_length_le (by simp)
      have hpe : p = bs (B S.data.toList) := by rw [hR.out.1, hall]
      have hnq : 39 ∉ S.data.toList := by have := hR.out.2; rwa [hall] at this
      have hl := B_len S.data.toList
      have hls : S.data.toList.length = S.size := by simp
      have hps : p.size = (B S.data.toList).length := by rw [hpe, bs_size]
      by_cases hbig : 1500 < p.size
      · have hb2 : (1500 : Int) < (p.size : Int) := by omega
        clear hall hpe hnq hl hls hps
        go_wp2
        all_goals go_ret
        all_goals exact ⟨rfl, HF1.out⟩
      · have hb2 : ¬ (1500 : Int) < (p.size : Int) := by omega
        have hS15 : S.size ≤ 1500 := by omega
        have h1 := parse_any S w1 hS15 HE1.out 1501 1501 (by omega) (by omega)
        have h2 := fun (w' : World) (he : Er w') => parse_any p w' (by omega) he 1501 1501 (by omega) (by omega)
        have hpl : p.data.toList = B S.data.toList := by rw [hpe]; rfl
        rw [hpl, ← parse_blank MM 1501 1501 _ hnq] at h2
        clear hall hpe hnq hl hls hps hpl
        cases hres : parseP MM 1501 1501 S.data.toList with
        | error z =>
          rw [hres] at h1 h2
          have HP1 := hide h1
          have HP2 := hide h2
          clear h1 h2 hres
          go_wp2_with fail
          refine HP1.out.mono ?_
          intro e w2 hp2
          obtain ⟨rfl, hF2, hz⟩ := ppost_bad hp2
          have HF2 := hide hF2
          have HE2 := hide (HE1.out.fr hF2 id id)
          clear hp2 hF2
          go_wp2_with fail
          refine (HP2.out _ HE2.out).mono ?_
          intro e w3 hp3
          obtain ⟨rfl, hF3, -⟩ := ppost_bad hp3
          have HF3 := hide hF3
          clear hp3 hF3
          have HS := hide (sameFns_yes [] nilS nilS [] [] w3 (nil_sl _) (nil_sl _) ⟨rfl, fun i r x h => by simp at h⟩ ⟨rfl, fun i r x h => by simp at h⟩)
          go_wp2_with (go_at_call 8; refine HS.out.mono ?_; rintro e w4 ⟨rfl, hF4⟩; have HF4 := hide hF4; clear hF4)
          all_goals go_ret
          exact ⟨rfl, ((HF1.out.trans HF2.out).trans HF3.out).trans HF4.out⟩
        | ok fs =>
          rw [hres] at h1 h2
          have HP1 := hide h1
          have HP2 := hide h2
          clear h1 h2 hres
          go_wp2_with fail
          refine HP1.out.mono ?_
          intro e w2 hp2
          obtain ⟨s2, rfl, hF2, r2, h2a, h2b⟩ := ppost_ok hp2
          have HF2 := hide hF2
          have HE2 := hide (HE1.out.fr hF2 id id)
          have H2 := hide (And.intro h2a h2b)
          clear hp2 hF2 h2a h2b
          go_wp2_with fail
          refine (HP2.out _ HE2.out).mono ?_
          intro e w3 hp3
          obtain ⟨s3, rfl, hF3, r3, h3a, h3b⟩ := ppost_ok hp3
          have HS := hide (sameFns_yes fs s2 s3 r2 r3 w3 (H2.out.1.keepN hF3) h3a ⟨H2.out.2.1, fun i r x k1 k2 => fn_stays _ _ nothing _ _ r x (H2.out.2.2 i r x k1 k2) hF3 (fun _ _ => id) (fun _ _ => trivial)⟩ h3b)
          have HF3 := hide hF3
          clear hp3 hF3 h3a h3b
          go_wp2_with (go_at_call 8; refine HS.out.mono ?_; rintro e w4 ⟨rfl, hF4⟩; have HF4 := hide hF4; clear hF4)
          all_goals go_ret
          exact ⟨rfl, ((HF1.out.trans HF2.out).trans HF3.out).trans HF4.out⟩
end Go.Proofs.YtbplfhjpajkcoabDoor
