/-
  P3.3: any path as a text, that is read as it was, but that sequences are one: the walk.
-/
import Derived.Test.YtiegfellgnfiiaaDoorAwake3
import Derived.Test.YtiegfellgnfiiaaDoorRefSame3
import Derived.Test.YtiegfellgnfiiaaDoorRefText3
namespace Go.Proofs.YtiegfellgnfiiaaDoor.AspathTexts
open Go.RowKit
set_option linter.unusedVariables false
set_option linter.unusedSimpArgs false

theorem norm_fit (r : List (Int × List Nat)) (h : ∀ s ∈ r, ∀ x ∈ s.2, x < 4294967296) : ∀ s ∈ normL r, ∀ x ∈ s.2, x < 4294967296 := by
  have step : ∀ (acc : List (Int × List Nat)) (s : Int × List Nat), (∀ t ∈ acc, ∀ x ∈ t.2, x < 4294967296) → (∀ x ∈ s.2, x < 4294967296) → ∀ t ∈ normStep acc s, ∀ x ∈ t.2, x < 4294967296 := by
    intro acc s ha hs
    rcases List.eq_nil_or_concat acc with rfl | ⟨a0, u, rfl⟩
    · rw [step_nil]
      intro t ht
      simp at ht
      subst ht
      exact hs
    · rw [List.concat_eq_append] at ha ⊢
      by_cases h : u.1 = 2 ∧ s.1 = 2
      · rw [step_more _ _ _ h.1 h.2]
        intro t ht x hx
        rcases List.mem_append.1 ht with h1 | h1
        · exact ha t (by simp [h1]) x hx
        · simp at h1
          subst h1
          rcases List.mem_append.1 hx with h2 | h2
          · exact ha u (by simp) x h2
          · exact hs x h2
      · rw [step_push _ _ _ h]
        intro t ht x hx
        rcases List.mem_append.1 ht with h1 | h1
        · exact ha t h1 x hx
        · simp at h1
          subst h1
          exact hs x hx
  have fold : ∀ (r acc : List (Int × List Nat)), (∀ t ∈ acc, ∀ x ∈ t.2, x < 4294967296) → (∀ s ∈ r, ∀ x ∈ s.2, x < 4294967296) → ∀ s ∈ r.foldl normStep acc, ∀ x ∈ s.2, x < 4294967296 := by
    intro r
    induction r with
    | nil => intro acc ha _; exact ha
    | cons s r ih =>
      intro acc ha hr
      exact ih _ (step acc s ha (hr s (by simp))) (fun t ht => hr t (List.mem_cons_of_mem _ ht))
  exact fold r [] (by simp) h
theorem text_len {L : List Sg} (hr : rightB L = true) (hz : ∀ s ∈ L, ∀ x ∈ s.nums, x < 4294967296) : (textA (L.map Sg.abs)).length ≤ 1000 := by
  have hb := rightA_bounds hr
  have hnt := norm_tot (L.map Sg.abs)
  rw [← tot_abs, List.length_map] at hnt
  have hf := norm_fit (L.map Sg.abs) (fun s hs => by
    obtain ⟨t, ht, rfl⟩ := List.mem_map.1 hs
    exact hz t ht)
  obtain ⟨M, hM⟩ : ∃ M : List Sg, M = (normL (L.map Sg.abs)).map fun p => ⟨p.1, none, 0, p.2⟩ := ⟨_, rfl⟩
  have e1 : M.map Sg.abs = normL (L.map Sg.abs) := by
    rw [hM, List.map_map]
    conv => rhs; rw [← List.map_id (normL (L.map Sg.abs))]
    rfl
  have h1 := txt_len M M.length (by rw [← List.length_map (f := Sg.abs), e1]; omega) (by rw [tot_abs, e1]; omega) (fun s hs => by
    rw [hM] at hs
    obtain ⟨p, hp, rfl⟩ := List.mem_map.1 hs
    exact hf p hp)
  rw [List.take_length, e1] at h1
  unfold textA
  rw [← right_abs, hr, if_pos rfl]
  exact h1
set_option maxHeartbeats 1600000 in
theorem TextNo_any (A : Option Addr) (c : Nat) (L : List Sg) (w : World) (h : Segs w w.heap.size A L) (hc : L.length ≤ c) (hm : c ≤ maxLen) (hbig : totN L ≤ 1152921504606846976) (hr : rightB L = false) :
    Calls Tryd.prog 30 #[.slice A L.length c] w fun e w' => e = .returned (.string ⟨#[]⟩) ∧ Below w.heap.size w w' := by
  have QR := Lib.hid (Right_any A c L w h hc hm hbig)
  rw [hr] at QR
  clear h hr
  go_enter Tryd.func30, Tryd.ntmps30
  go_wp2_with fail
  refine QR.out.mono ?_
  rintro e w1 ⟨rfl, hb1⟩
  go_wp2_with fail
  go_ret
  exact ⟨rfl, hb1⟩

set_option maxHeartbeats 6400000 in
theorem walk (A : Option Addr) (c : Nat) (L : List Sg) (w : World) (h : Segs w w.heap.size A L) (hc : L.length ≤ c) (hm : c ≤ maxLen) (htot : fewB L = true → totN L ≤ 35184372088832) (ht : Tab w) :
    Calls Tryd.prog 6 #[.slice A L.length c] w fun e w' => e = .returned (.bool true) ∧ Below w.heap.size w w' := by
  have QF := Lib.hid (Few_any A c L w h)
  cases hf : fewB L with
  | false =>
    rw [hf] at QF
    have QA := Lib.hid (awake3_any w ht)
    clear h ht hf htot
    go_enter Tryd.func6, Tryd.ntmps6
    go_wp2_with fail
    refine QF.out.mono ?_
    rintro e w1 ⟨rfl, rfl⟩
    go_wp2_with fail
    refine QA.out.mono ?_
    rintro e w2 ⟨rfl, hb2⟩
    go_wp2_with fail
    go_ret
    exact ⟨rfl, hb2⟩
  | true =>
    rw [hf] at QF
    have htt := htot hf
    have HL := Lib.hid (fun W (hB : Below w.heap.size w W) => (h.below hB (Nat.le_refl _)).lift hB.size)
    have HT := Lib.hid (fun W (hB : Below w.heap.size w W) => ht.below hB ht.lt)
    have K2 := Lib.hid (fun W (hB : Below w.heap.size w W) => RefText3_any A c L W (HL.out W hB) hc hm (by omega))
    have K3 := Lib.hid (fun W (hB : Below w.heap.size w W) => RefRight_any A c L W (HL.out W hB) hc hm (by omega))
    cases hr : rightB L with
    | false =>
      rw [hr] at K3
      have hE : textA (L.map Sg.abs) = [] := by unfold textA; rw [← right_abs, hr]; rfl
      rw [hE] at K2
      have Q1 := Lib.hid (TextNo_any A c L w h hc hm (by omega) hr)
      clear h ht hf htot htt hr hE
      go_enter Tryd.func6, Tryd.ntmps6
      go_wp2_with fail
      refine QF.out.mono ?_
      rintro e w1 ⟨rfl, rfl⟩
      go_wp2_with fail
      refine Q1.out.mono ?_
      rintro e w1 ⟨rfl, hb1⟩
      have HB1 := Lib.hid hb1; clear hb1
      go_wp2_with fail
      refine (K2.out _ HB1.out).mono ?_
      rintro e w2 ⟨rfl, hb2⟩
      have HB2 := Lib.hid (HB1.out.trans (hb2.mono HB1.out.size)); clear hb2
      have QA := Lib.hid (awake3_any w2 (HT.out _ HB2.out))
      go_wp2_with fail
      refine (K3.out _ HB2.out).mono ?_
      rintro e w3 ⟨rfl, rfl⟩
      go_wp2_with fail
      refine QA.out.mono ?_
      rintro e w3 ⟨rfl, hb3⟩
      go_wp2_with fail
      go_ret
      exact ⟨rfl, HB2.out.trans (hb3.mono HB2.out.size)⟩
    | true =>
      rw [hr] at K3
      have hb := rightA_bounds hr
      have hlen := text_len hr (segs_fits h)
      have Q1 := Lib.hid (Text4_any A c L w h hc hm (by omega) ht)
      have HPT := Lib.hid (parse_text (r := L.map Sg.abs) (by rw [← right_abs]; exact hr) (fun s hs => by
        obtain ⟨t, ht, rfl⟩ := List.mem_map.1 hs
        exact segs_fits h t ht))
      have K5 := Lib.hid (fun W (hB : Below w.heap.size w W) => RefNorm3_any A c L W (HL.out W hB) (by omega) (by omega))
      have hn8 := (norm_tot (L.map Sg.abs)).2
      rw [List.length_map] at hn8
      have HN8 := Lib.hid (show (normL (L.map Sg.abs)).length ≤ 8 by omega)
      have K4 := Lib.hid (fun W (hB : Below w.heap.size w W) => Parse3_any (textA (L.map Sg.abs)) W hlen (HT.out W hB))
      rw [HPT.out] at K4
      obtain ⟨T, hT⟩ : ∃ T, T = textA (L.map Sg.abs) := ⟨_, rfl⟩
      rw [← hT] at Q1 K2 K4
      obtain ⟨R, hR⟩ : ∃ R, R = normL (L.map Sg.abs) := ⟨_, rfl⟩
      rw [← hR] at K4 K5 HN8
      clear h ht hf htot htt hr hb hlen hn8 HPT hT hR
      go_enter Tryd.func6, Tryd.ntmps6
      go_wp2_with fail
      refine QF.out.mono ?_
      rintro e w1 ⟨rfl, rfl⟩
      go_wp2_with fail
      refine Q1.out.mono ?_
      rintro e w1 ⟨rfl, hb1⟩
      have HB1 := Lib.hid hb1; clear hb1
      go_wp2_with fail
      refine (K2.out _ HB1.out).mono ?_
      rintro e w2 ⟨rfl, hb2⟩
      have HB2 := Lib.hid (HB1.out.trans (hb2.mono HB1.out.size)); clear hb2
      go_wp2_with fail
      refine (K3.out _ HB2.out).mono ?_
      rintro e w3 ⟨rfl, rfl⟩
      go_wp2_with fail
      refine (K4.out _ HB2.out).mono ?_
      rintro e w3 ⟨M1, A1, c1, rfl, hM1, f1, f2, hs1, hb3⟩
      have HB3 := Lib.hid (HB2.out.trans (hb3.mono HB2.out.size))
      have HM1 := Lib.hid hM1; have HS1 := Lib.hid hs1
      clear hb3 hM1 hs1 f1 f2
      go_wp2_with fail
      refine (K5.out _ HB3.out).mono ?_
      rintro e w4 ⟨M2, A2, c2, rfl, hM2, f1, f2, hs2, hb4⟩
      have HB4 := Lib.hid (HB3.out.trans (hb4.mono HB3.out.size))
      have hsame : sameP M1 M2 = true := decide_eq_true (by rw [HM1.out, hM2])
      have hl1 : M1.length ≤ 1000000000 := by
        have h1 := congrArg List.length HM1.out
        have h2 := HN8.out
        rw [List.length_map] at h1
        omega
      have Q6 := RefSame3_any A1 A2 c1 c2 M1 M2 w4 ((HS1.out.below hb4 (Nat.le_refl _)).lift hb4.size) hs2 hl1
      rw [hsame] at Q6
      have Q6 := Lib.hid Q6
      clear hb4 hM2 hs2 f1 f2 hsame hl1
      go_wp2_with fail
      refine Q6.out.mono ?_
      rintro e w5 ⟨rfl, m, rfl⟩
      have HB5 := Lib.hid (below_drewN HB4.out m)
      have QA := Lib.hid (awake3_any _ (HT.out _ HB5.out))
      go_wp2_with fail
      refine QA.out.mono ?_
      rintro e w6 ⟨rfl, hb6⟩
      go_wp2_with fail
      go_ret
      exact ⟨rfl, HB5.out.trans (hb6.mono HB5.out.size)⟩
end Go.Proofs.YtiegfellgnfiiaaDoor.AspathTexts
