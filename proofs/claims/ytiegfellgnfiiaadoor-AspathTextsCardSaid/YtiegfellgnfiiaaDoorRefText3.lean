/-
  A path as a text, by the document (written by gen03t.py).
-/
import Derived.Test.YtiegfellgnfiiaaDoorRefNorm3
import Derived.Test.YtiegfellgnfiiaaDoorRight3
import Derived.Test.YtiegfellgnfiiaaDoorRefText
namespace Go.Proofs.YtiegfellgnfiiaaDoor
set_option linter.unusedVariables false
set_option linter.unusedSimpArgs false
open Go.RowKit

theorem join_snoc (xs : List (List UInt8)) (y : List UInt8) (c : UInt8) : joinL (xs ++ [y]) c = (if xs = [] then [] else joinL xs c ++ [c]) ++ y := by
  by_cases h : xs = []
  · subst h
    rw [if_pos rfl, List.nil_append, joinL_one]
    rfl
  · rw [if_neg h, joinL_app xs y [] c h, joinL_one]
    simp
theorem txt_step {M : List Sg} {j : Nat} {t : Sg} (h : M[j]? = some t) :
    joinL (wordsA ((M.take (j + 1)).map Sg.abs)) 32 = (if j = 0 then [] else joinL (wordsA ((M.take j).map Sg.abs)) 32 ++ [32]) ++ textS t.kind t.nums := by
  have hj := (List.getElem?_eq_some_iff.1 h).1
  rw [words_step h, join_snoc]
  congr 1
  by_cases h0 : j = 0
  · subst h0
    rfl
  · rw [if_neg h0, if_neg]
    intro e
    have := congrArg List.length e
    rw [words_len, List.length_map, List.length_take] at this
    simp only [List.length_nil] at this
    omega
theorem num_step' {z : List Nat} {k x : Nat} (h : k < z.length) (hx : x = z.getD k 0) (c : UInt8) :
    joinL ((z.take (k + 1)).map dec) c = (if k = 0 then [] else joinL ((z.take k).map dec) c ++ [c]) ++ dec x := by
  rw [decs_step h hx, join_snoc]
  congr 1
  by_cases h0 : k = 0
  · subst h0
    rfl
  · rw [if_neg h0, if_neg]
    intro e
    have := congrArg List.length e
    rw [List.length_map, List.length_take] at this
    simp only [List.length_nil] at this
    omega
/-- How long a path's text may be. -/
theorem txt_len (M : List Sg) (j : Nat) (hM : M.length ≤ 8) (ht : totN M ≤ 64) (hz : ∀ s ∈ M, ∀ x ∈ s.nums, x < 4294967296) : (joinL (wordsA ((M.take j).map Sg.abs)) 32).length ≤ 1000 := by
  have h1 := joinL_len (wordsA ((M.take j).map Sg.abs)) 32
  have h2 : Lib.lens (wordsA ((M.take j).map Sg.abs)) ≤ 11 * totN (M.take j) + 2 * (M.take j).length := by
    have : ∀ (R : List Sg), (∀ s ∈ R, ∀ x ∈ s.nums, x < 4294967296) → Lib.lens (wordsA (R.map Sg.abs)) ≤ 11 * totN R + 2 * R.length := by
      intro R
      induction R with
      | nil => intro _; simp [Lib.lens, wordsA]
      | cons s R ih =>
        intro h
        have h3 := ih (fun t ht => h t (List.mem_cons_of_mem _ ht))
        have h4 := textS_len s.kind s.nums (h s (by simp))
        simp only [wordsA, List.map_cons, Lib.lens, List.sum_cons, totN, List.length_cons, Sg.abs] at h3 ⊢
        omega
    exact this _ (fun s hs => hz s (List.mem_of_mem_take hs))
  have h3 : totN (M.take j) ≤ totN M := sum_take_le (fun s => s.nums.length) M j
  have h4 : (M.take j).length ≤ 8 := by simp; omega
  rw [words_len, List.length_map] at h1
  omega
theorem nums_len (z : List Nat) (k : Nat) (c : UInt8) (hz : z.length ≤ 64) (h : ∀ x ∈ z, x < 4294967296) : (joinL ((z.take k).map dec) c).length ≤ 1000 := by
  have h1 := joinL_len ((z.take k).map dec) c
  have h2 := lens_dec (z.take k) (fun x hx => h x (List.mem_of_mem_take hx))
  rw [List.length_map] at h1
  have : (z.take k).length ≤ 64 := by simp; omega
  omega
theorem segs_fits {w : World} {B : Nat} {A : Option Addr} {L : List Sg} (h : Segs w B A L) : ∀ s ∈ L, ∀ x ∈ s.nums, x < 4294967296 := fun s hs => by
  obtain ⟨j, hj, e⟩ := List.mem_iff_getElem.1 hs
  obtain ⟨_, _, _, _, _, _, hok⟩ := h.at (j := j) (s := s) (by rw [List.getElem?_eq_getElem hj, e])
  exact hok.2.2.2.1

set_option maxHeartbeats 12800000 in
theorem RefText3_any (A : Option Addr) (c : Nat) (L : List Sg) (w : World) (h : Segs w w.heap.size A L) (hc : L.length ≤ c) (hm : c ≤ maxLen) (hbig : totN L ≤ 1152921504606846976) :
    Calls Tryd.prog 31 #[.slice A L.length c] w fun e w' => e = .returned (.string ⟨(textA (L.map Sg.abs)).toArray⟩) ∧ Below w.heap.size w w' := by
  have QR := Lib.hid (RefRight_any A c L w h hc hm hbig)
  cases hr : rightB L with
  | false =>
    rw [hr] at QR
    have HE := Lib.hid (show textA (L.map Sg.abs) = [] by unfold textA; rw [← right_abs, hr]; rfl)
    clear h hr
    go_enter Tryd.func31, Tryd.ntmps31
    go_wp2_with fail
    refine QR.out.mono ?_
    rintro e w1 ⟨rfl, rfl⟩
    go_wp2_with fail
    go_ret
    exact ⟨by rw [HE.out]; rfl, Below.refl _ _⟩
  | true =>
    rw [hr] at QR
    have hb := rightA_bounds hr
    have HE := Lib.hid (show textA (L.map Sg.abs) = joinL (wordsA (normL (L.map Sg.abs))) 32 by unfold textA; rw [← right_abs, hr, if_pos rfl])
    have hnt := norm_tot (L.map Sg.abs)
    have QN := Lib.hid (RefNorm3_any A c L w h (by omega) (by omega))
    have HNT := Lib.hid (show totA (normL (L.map Sg.abs)) ≤ 64 ∧ (normL (L.map Sg.abs)).length ≤ 8 by
      rw [← tot_abs, List.length_map] at hnt
      omega)
    clear h hr hb hnt hc hm hbig
    go_enter Tryd.func31, Tryd.ntmps31
    go_wp2_with fail
    refine QR.out.mono ?_
    rintro e w1 ⟨rfl, rfl⟩
    go_wp2_with fail
    refine QN.out.mono ?_
    rintro e w1 ⟨M, A1, c1, rfl, hM, f1, f2, hs1, hb1⟩
    have hM8 : M.length ≤ 8 := by have h1 := congrArg List.length hM; rw [List.length_map] at h1; have h2 := HNT.out.2; omega
    have hT64 : totN M ≤ 64 := by have h2 := HNT.out.1; rw [← hM, ← tot_abs] at h2; exact h2
    have HS := Lib.hid hs1; have HB := Lib.hid hb1
    have HFIT := Lib.hid (segs_fits hs1)
    have HE2 := Lib.hid (show textA (L.map Sg.abs) = joinL (wordsA (M.map Sg.abs)) 32 by rw [HE.out, hM])
    clear hs1 hb1 hM HE HNT f1 f2
    go_wp2_with fail
    go_loop [3, 5] (fun s i => ∃ j : Nat, j ≤ M.length ∧ i = .int .i64 (j : Int) ∧ s = .string ⟨(joinL (wordsA ((M.take j).map Sg.abs)) 32).toArray⟩) (fun _ i => M.length - (intOf i).toNat)
    case atStart => exact ⟨0, Nat.zero_le _, rfl, by simp [wordsA, joinL, Lib.join_nil]⟩
    case round =>
      obtain ⟨j, hj, rfl, rfl⟩ := hrel
      by_cases hlt : j < M.length
      · obtain ⟨t, ht⟩ : ∃ t, M[j]? = some t := ⟨_, List.getElem?_eq_getElem hlt⟩
        obtain ⟨b, off, rfl, hb, k1, k2, hok⟩ := HS.out.at ht
        have hst := txt_step ht
        have hSl := txt_len M j hM8 hT64 HFIT.out
        obtain ⟨S, hS⟩ : ∃ S, S = joinL (wordsA ((M.take j).map Sg.abs)) 32 := ⟨_, rfl⟩
        rw [← hS] at hst hSl ⊢
        have hz64 : t.nums.length ≤ 64 := Nat.le_trans (nums_le ht) hT64
        have HOK := Lib.hid hok
        have HJ := Lib.hid hlt
        have hi0 : (0 : Int) ≤ (j : Int) := by omega
        have hi1 : (j : Int) < (M.length : Int) := by omega
        have hjb : (j : Int) ≤ 8 := by omega
        have HNL := Lib.hid (fun k c => nums_len t.nums k c hz64 hok.2.2.2.1)
        clear hok ht
        by_cases hk1 : t.kind = 1
        · have ek : (t.kind == 1) = true := by simpa using hk1
          unfold textS at hst
          rw [if_pos hk1] at hst
          clear hk1
          by_cases hj0 : j = 0
          · rw [if_pos hj0] at hst
            have hS0 : S = [] := by rw [hS, hj0]; simp [wordsA, joinL, Lib.join_nil]
            subst hj0
            subst hS0
            have HST := Lib.hid hst
            simp only [Nat.zero_mul, Nat.add_zero, Nat.zero_add] at k1 k2
            clear hst hS
            go_wp2_with fail
            go_loop [3, 9] (fun s i => ∃ k : Nat, k ≤ t.nums.length ∧ i = .int .i64 (k : Int) ∧ s = .string ⟨([123] ++ joinL ((t.nums.take k).map dec) 44).toArray⟩) (fun _ i => t.nums.length - (intOf i).toNat)
            case atStart => exact ⟨0, Nat.zero_le _, rfl, by first | rfl | (congr 1; apply ByteArray.ext; simp [ByteArray.data_append, joinL, Lib.join_nil]; done)⟩
            case round =>
              obtain ⟨k, hk, rfl, rfl⟩ := hrel
              by_cases hlt2 : k < t.nums.length
              · obtain ⟨b2, off2, hA2, hb2, k3⟩ := HOK.out.2.2.1.cell hlt2
                have hx : t.nums.getD k 0 < 4294967296 := HOK.out.2.2.2.1 _ (by rw [show t.nums.getD k 0 = t.nums[k] by simp [List.getD, hlt2]]; exact List.getElem_mem hlt2)
                obtain ⟨x, hxe⟩ : ∃ x, x = t.nums.getD k 0 := ⟨_, rfl⟩
                have hns := num_step' hlt2 hxe 44
                have hJl := HNL.out k 44
                obtain ⟨J, hJ⟩ : ∃ J, J = joinL ((t.nums.take k).map dec) 44 := ⟨_, rfl⟩
                rw [← hJ] at hns hJl ⊢
                rw [← hxe] at hx k3
                rw [hA2] at k2
                have hq := refText_any (x : Int) w1 (by omega) (by omega)
                rw [textL_pos] at hq
                have QT := Lib.hid hq
                have hdl := dec_len 9 x (by omega)
                have HK := Lib.hid hlt2
                have hy0 : (0 : Int) ≤ (k : Int) := by omega
                have hy1 : (k : Int) < (t.nums.length : Int) := by omega
                have hyb : (k : Int) ≤ 64 := by omega
                clear hq hxe hA2
                by_cases hk0 : k = 0
                · rw [if_pos hk0] at hns
                  have hJ0 : J = [] := by rw [hJ, hk0]; simp [joinL, Lib.join_nil]
                  subst hk0
                  subst hJ0
                  simp only [Nat.add_zero] at k3
                  have HNS := Lib.hid hns
                  clear hns hJ
                  go_wp2_with fail
                  refine QT.out.mono ?_
                  rintro e w2 ⟨rfl, rfl⟩
                  go_wp2_with fail
                  go_round
                  case rel => exact ⟨1, HK.out, by go_num, by rw [HNS.out]; first | rfl | (congr 1; apply ByteArray.ext; simp [ByteArray.data_append, joinL, Lib.join_nil]; done)⟩
                  case measure => have := HK.out; simp [intOf]; omega
                · have hkI : (0 : Int) < (k : Int) := by omega
                  rw [if_neg hk0] at hns
                  have HNS := Lib.hid hns
                  clear hns hJ hk0
                  go_wp2_with fail
                  refine QT.out.mono ?_
                  rintro e w2 ⟨rfl, rfl⟩
                  go_wp2_with fail
                  go_round
                  case rel => exact ⟨k + 1, HK.out, by go_num, by rw [HNS.out]; first | rfl | (congr 1; apply ByteArray.ext; simp [ByteArray.data_append, joinL, Lib.join_nil]; done)⟩
                  case measure => have := HK.out; simp [intOf]; omega
              · obtain rfl : k = t.nums.length := by omega
                rw [List.take_length]
                have hJl := HNL.out t.nums.length 44
                rw [List.take_length] at hJl
                obtain ⟨J, hJ⟩ : ∃ J, J = joinL (t.nums.map dec) 44 := ⟨_, rfl⟩
                rw [← hJ] at hJl ⊢
                have HST2 := HST.out
                rw [← hJ] at HST2
                have HST3 := Lib.hid HST2
                clear HST2 hJ
                go_wp2_with fail
                go_round
                case rel => exact ⟨1, HJ.out, by go_num, by rw [HST3.out]; first | rfl | (congr 1; apply ByteArray.ext; simp [ByteArray.data_append, joinL, Lib.join_nil]; done)⟩
                case measure => have := HJ.out; simp [intOf]; omega
          · have hjI : (0 : Int) < (j : Int) := by omega
            rw [if_neg hj0] at hst
            have HST := Lib.hid hst
            clear hst hj0 hS
            go_wp2_with fail
            go_loop [3, 9] (fun s i => ∃ k : Nat, k ≤ t.nums.length ∧ i = .int .i64 (k : Int) ∧ s = .string ⟨((S ++ [32] ++ [123]) ++ joinL ((t.nums.take k).map dec) 44).toArray⟩) (fun _ i => t.nums.length - (intOf i).toNat)
            case atStart => exact ⟨0, Nat.zero_le _, rfl, by first | rfl | (congr 1; apply ByteArray.ext; simp [ByteArray.data_append, joinL, Lib.join_nil]; done)⟩
            case round =>
              obtain ⟨k, hk, rfl, rfl⟩ := hrel
              by_cases hlt2 : k < t.nums.length
              · obtain ⟨b2, off2, hA2, hb2, k3⟩ := HOK.out.2.2.1.cell hlt2
                have hx : t.nums.getD k 0 < 4294967296 := HOK.out.2.2.2.1 _ (by rw [show t.nums.getD k 0 = t.nums[k] by simp [List.getD, hlt2]]; exact List.getElem_mem hlt2)
                obtain ⟨x, hxe⟩ : ∃ x, x = t.nums.getD k 0 := ⟨_, rfl⟩
                have hns := num_step' hlt2 hxe 44
                have hJl := HNL.out k 44
                obtain ⟨J, hJ⟩ : ∃ J, J = joinL ((t.nums.take k).map dec) 44 := ⟨_, rfl⟩
                rw [← hJ] at hns hJl ⊢
                rw [← hxe] at hx k3
                rw [hA2] at k2
                have hq := refText_any (x : Int) w1 (by omega) (by omega)
                rw [textL_pos] at hq
                have QT := Lib.hid hq
                have hdl := dec_len 9 x (by omega)
                have HK := Lib.hid hlt2
                have hy0 : (0 : Int) ≤ (k : Int) := by omega
                have hy1 : (k : Int) < (t.nums.length : Int) := by omega
                have hyb : (k : Int) ≤ 64 := by omega
                clear hq hxe hA2
                by_cases hk0 : k = 0
                · rw [if_pos hk0] at hns
                  have hJ0 : J = [] := by rw [hJ, hk0]; simp [joinL, Lib.join_nil]
                  subst hk0
                  subst hJ0
                  simp only [Nat.add_zero] at k3
                  have HNS := Lib.hid hns
                  clear hns hJ
                  go_wp2_with fail
                  refine QT.out.mono ?_
                  rintro e w2 ⟨rfl, rfl⟩
                  go_wp2_with fail
                  go_round
                  case rel => exact ⟨1, HK.out, by go_num, by rw [HNS.out]; first | rfl | (congr 1; apply ByteArray.ext; simp [ByteArray.data_append, joinL, Lib.join_nil]; done)⟩
                  case measure => have := HK.out; simp [intOf]; omega
                · have hkI : (0 : Int) < (k : Int) := by omega
                  rw [if_neg hk0] at hns
                  have HNS := Lib.hid hns
                  clear hns hJ hk0
                  go_wp2_with fail
                  refine QT.out.mono ?_
                  rintro e w2 ⟨rfl, rfl⟩
                  go_wp2_with fail
                  go_round
                  case rel => exact ⟨k + 1, HK.out, by go_num, by rw [HNS.out]; first | rfl | (congr 1; apply ByteArray.ext; simp [ByteArray.data_append, joinL, Lib.join_nil]; done)⟩
                  case measure => have := HK.out; simp [intOf]; omega
              · obtain rfl : k = t.nums.length := by omega
                rw [List.take_length]
                have hJl := HNL.out t.nums.length 44
                rw [List.take_length] at hJl
                obtain ⟨J, hJ⟩ : ∃ J, J = joinL (t.nums.map dec) 44 := ⟨_, rfl⟩
                rw [← hJ] at hJl ⊢
                have HST2 := HST.out
                rw [← hJ] at HST2
                have HST3 := Lib.hid HST2
                clear HST2 hJ
                go_wp2_with fail
                go_round
                case rel => exact ⟨j + 1, HJ.out, by go_num, by rw [HST3.out]; first | rfl | (congr 1; apply ByteArray.ext; simp [ByteArray.data_append, joinL, Lib.join_nil]; done)⟩
                case measure => have := HJ.out; simp [intOf]; omega
        · have ek : (t.kind == 1) = false := by simpa using hk1
          unfold textS at hst
          rw [if_neg hk1] at hst
          clear hk1
          by_cases hj0 : j = 0
          · rw [if_pos hj0] at hst
            have hS0 : S = [] := by rw [hS, hj0]; simp [wordsA, joinL, Lib.join_nil]
            subst hj0
            subst hS0
            have HST := Lib.hid hst
            simp only [Nat.zero_mul, Nat.add_zero, Nat.zero_add] at k1 k2
            clear hst hS
            go_wp2_with fail
            go_loop [3, 9] (fun s i => ∃ k : Nat, k ≤ t.nums.length ∧ i = .int .i64 (k : Int) ∧ s = .string ⟨([] ++ joinL ((t.nums.take k).map dec) 32).toArray⟩) (fun _ i => t.nums.length - (intOf i).toNat)
            case atStart => exact ⟨0, Nat.zero_le _, rfl, by first | rfl | (congr 1; apply ByteArray.ext; simp [ByteArray.data_append, joinL, Lib.join_nil]; done)⟩
            case round =>
              obtain ⟨k, hk, rfl, rfl⟩ := hrel
              by_cases hlt2 : k < t.nums.length
              · obtain ⟨b2, off2, hA2, hb2, k3⟩ := HOK.out.2.2.1.cell hlt2
                have hx : t.nums.getD k 0 < 4294967296 := HOK.out.2.2.2.1 _ (by rw [show t.nums.getD k 0 = t.nums[k] by simp [List.getD, hlt2]]; exact List.getElem_mem hlt2)
                obtain ⟨x, hxe⟩ : ∃ x, x = t.nums.getD k 0 := ⟨_, rfl⟩
                have hns := num_step' hlt2 hxe 32
                have hJl := HNL.out k 32
                obtain ⟨J, hJ⟩ : ∃ J, J = joinL ((t.nums.take k).map dec) 32 := ⟨_, rfl⟩
                rw [← hJ] at hns hJl ⊢
                rw [← hxe] at hx k3
                rw [hA2] at k2
                have hq := refText_any (x : Int) w1 (by omega) (by omega)
                rw [textL_pos] at hq
                have QT := Lib.hid hq
                have hdl := dec_len 9 x (by omega)
                have HK := Lib.hid hlt2
                have hy0 : (0 : Int) ≤ (k : Int) := by omega
                have hy1 : (k : Int) < (t.nums.length : Int) := by omega
                have hyb : (k : Int) ≤ 64 := by omega
                clear hq hxe hA2
                by_cases hk0 : k = 0
                · rw [if_pos hk0] at hns
                  have hJ0 : J = [] := by rw [hJ, hk0]; simp [joinL, Lib.join_nil]
                  subst hk0
                  subst hJ0
                  simp only [Nat.add_zero] at k3
                  have HNS := Lib.hid hns
                  clear hns hJ
                  go_wp2_with fail
                  refine QT.out.mono ?_
                  rintro e w2 ⟨rfl, rfl⟩
                  go_wp2_with fail
                  go_round
                  case rel => exact ⟨1, HK.out, by go_num, by rw [HNS.out]; first | rfl | (congr 1; apply ByteArray.ext; simp [ByteArray.data_append, joinL, Lib.join_nil]; done)⟩
                  case measure => have := HK.out; simp [intOf]; omega
                · have hkI : (0 : Int) < (k : Int) := by omega
                  rw [if_neg hk0] at hns
                  have HNS := Lib.hid hns
                  clear hns hJ hk0
                  go_wp2_with fail
                  refine QT.out.mono ?_
                  rintro e w2 ⟨rfl, rfl⟩
                  go_wp2_with fail
                  go_round
                  case rel => exact ⟨k + 1, HK.out, by go_num, by rw [HNS.out]; first | rfl | (congr 1; apply ByteArray.ext; simp [ByteArray.data_append, joinL, Lib.join_nil]; done)⟩
                  case measure => have := HK.out; simp [intOf]; omega
              · obtain rfl : k = t.nums.length := by omega
                rw [List.take_length]
                have hJl := HNL.out t.nums.length 32
                rw [List.take_length] at hJl
                obtain ⟨J, hJ⟩ : ∃ J, J = joinL (t.nums.map dec) 32 := ⟨_, rfl⟩
                rw [← hJ] at hJl ⊢
                have HST2 := HST.out
                rw [← hJ] at HST2
                have HST3 := Lib.hid HST2
                clear HST2 hJ
                go_wp2_with fail
                go_round
                case rel => exact ⟨1, HJ.out, by go_num, by rw [HST3.out]; first | rfl | (congr 1; apply ByteArray.ext; simp [ByteArray.data_append, joinL, Lib.join_nil]; done)⟩
                case measure => have := HJ.out; simp [intOf]; omega
          · have hjI : (0 : Int) < (j : Int) := by omega
            rw [if_neg hj0] at hst
            have HST := Lib.hid hst
            clear hst hj0 hS
            go_wp2_with fail
            go_loop [3, 9] (fun s i => ∃ k : Nat, k ≤ t.nums.length ∧ i = .int .i64 (k : Int) ∧ s = .string ⟨((S ++ [32]) ++ joinL ((t.nums.take k).map dec) 32).toArray⟩) (fun _ i => t.nums.length - (intOf i).toNat)
            case atStart => exact ⟨0, Nat.zero_le _, rfl, by first | rfl | (congr 1; apply ByteArray.ext; simp [ByteArray.data_append, joinL, Lib.join_nil]; done)⟩
            case round =>
              obtain ⟨k, hk, rfl, rfl⟩ := hrel
              by_cases hlt2 : k < t.nums.length
              · obtain ⟨b2, off2, hA2, hb2, k3⟩ := HOK.out.2.2.1.cell hlt2
                have hx : t.nums.getD k 0 < 4294967296 := HOK.out.2.2.2.1 _ (by rw [show t.nums.getD k 0 = t.nums[k] by simp [List.getD, hlt2]]; exact List.getElem_mem hlt2)
                obtain ⟨x, hxe⟩ : ∃ x, x = t.nums.getD k 0 := ⟨_, rfl⟩
                have hns := num_step' hlt2 hxe 32
                have hJl := HNL.out k 32
                obtain ⟨J, hJ⟩ : ∃ J, J = joinL ((t.nums.take k).map dec) 32 := ⟨_, rfl⟩
                rw [← hJ] at hns hJl ⊢
                rw [← hxe] at hx k3
                rw [hA2] at k2
                have hq := refText_any (x : Int) w1 (by omega) (by omega)
                rw [textL_pos] at hq
                have QT := Lib.hid hq
                have hdl := dec_len 9 x (by omega)
                have HK := Lib.hid hlt2
                have hy0 : (0 : Int) ≤ (k : Int) := by omega
                have hy1 : (k : Int) < (t.nums.length : Int) := by omega
                have hyb : (k : Int) ≤ 64 := by omega
                clear hq hxe hA2
                by_cases hk0 : k = 0
                · rw [if_pos hk0] at hns
                  have hJ0 : J = [] := by rw [hJ, hk0]; simp [joinL, Lib.join_nil]
                  subst hk0
                  subst hJ0
                  simp only [Nat.add_zero] at k3
                  have HNS := Lib.hid hns
                  clear hns hJ
                  go_wp2_with fail
                  refine QT.out.mono ?_
                  rintro e w2 ⟨rfl, rfl⟩
                  go_wp2_with fail
                  go_round
                  case rel => exact ⟨1, HK.out, by go_num, by rw [HNS.out]; first | rfl | (congr 1; apply ByteArray.ext; simp [ByteArray.data_append, joinL, Lib.join_nil]; done)⟩
                  case measure => have := HK.out; simp [intOf]; omega
                · have hkI : (0 : Int) < (k : Int) := by omega
                  rw [if_neg hk0] at hns
                  have HNS := Lib.hid hns
                  clear hns hJ hk0
                  go_wp2_with fail
                  refine QT.out.mono ?_
                  rintro e w2 ⟨rfl, rfl⟩
                  go_wp2_with fail
                  go_round
                  case rel => exact ⟨k + 1, HK.out, by go_num, by rw [HNS.out]; first | rfl | (congr 1; apply ByteArray.ext; simp [ByteArray.data_append, joinL, Lib.join_nil]; done)⟩
                  case measure => have := HK.out; simp [intOf]; omega
              · obtain rfl : k = t.nums.length := by omega
                rw [List.take_length]
                have hJl := HNL.out t.nums.length 32
                rw [List.take_length] at hJl
                obtain ⟨J, hJ⟩ : ∃ J, J = joinL (t.nums.map dec) 32 := ⟨_, rfl⟩
                rw [← hJ] at hJl ⊢
                have HST2 := HST.out
                rw [← hJ] at HST2
                have HST3 := Lib.hid HST2
                clear HST2 hJ
                go_wp2_with fail
                go_round
                case rel => exact ⟨j + 1, HJ.out, by go_num, by rw [HST3.out]; first | rfl | (congr 1; apply ByteArray.ext; simp [ByteArray.data_append, joinL, Lib.join_nil]; done)⟩
                case measure => have := HJ.out; simp [intOf]; omega
      · obtain rfl : j = M.length := by omega
        go_wp2_with fail
        go_ret
        exact ⟨by rw [HE2.out]; rfl, HB.out⟩
end Go.Proofs.YtiegfellgnfiiaaDoor
