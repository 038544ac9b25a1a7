/-
  A path as a text.
-/
import Derived.Test.YtlgfollajodpaaaDoorText3
import Derived.Test.YtlgfollajodpaaaDoorParse3
namespace Go.Proofs.YtlgfollajodpaaaDoor
set_option linter.unusedVariables false
set_option linter.unusedSimpArgs false
open Go.RowKit

/-- A path as a text: by its kinds and numbers alone. -/
def wordsA (r : List (Int × List Nat)) : List (List UInt8) := r.map fun p => textS p.1 p.2
def textA (r : List (Int × List Nat)) : List UInt8 := if rightA r = true then joinL (wordsA (normL r)) 32 else []
theorem lens_le (B : Nat) (ls : List (List UInt8)) (h : ∀ l ∈ ls, l.length ≤ B) : Lib.lens ls ≤ B * ls.length := by
  induction ls with
  | nil => simp [Lib.lens]
  | cons x r ih =>
    have h1 := ih (fun y hy => h y (List.mem_cons_of_mem _ hy))
    have h2 := h x (by simp)
    simp only [Lib.lens, List.map_cons, List.sum_cons, List.length_cons, Nat.mul_add, Nat.mul_one] at h1 ⊢
    omega
theorem rightA_bounds {L : List Sg} (h : rightB L = true) : L.length ≤ 8 ∧ totN L ≤ 64 := by
  unfold rightB at h
  simp only [Bool.and_eq_true, decide_eq_true_eq] at h
  exact ⟨h.1, h.2.2⟩
def TextRelA (w : World) (M : List Sg) (v i : Value) (wr : World) : Prop :=
  Below w.heap.size w wr ∧ ∃ j : Nat, j ≤ M.length ∧ i = .int .i64 (j : Int) ∧ OwnS wr w.heap.size v (wordsA ((M.take j).map Sg.abs))
theorem words_step {M : List Sg} {j : Nat} {s : Sg} (h : M[j]? = some s) : wordsA ((M.take (j + 1)).map Sg.abs) = wordsA ((M.take j).map Sg.abs) ++ [textS s.kind s.nums] := by
  have hj := (List.getElem?_eq_some_iff.1 h).1
  have e : M[j] = s := (List.getElem?_eq_some_iff.1 h).2
  rw [List.take_succ_eq_append_getElem hj, e]
  simp [wordsA, Sg.abs]
theorem words_len (r : List (Int × List Nat)) : (wordsA r).length = r.length := by simp [wordsA]

set_option maxHeartbeats 6400000 in
theorem Text4_any (A : Option Addr) (c : Nat) (L : List Sg) (w : World) (h : Segs w w.heap.size A L) (hc : L.length ≤ c) (hm : c ≤ maxLen) (ht : totN L ≤ 1000000000) (htab : Tab w) :
    Calls Tryd.prog 15 #[.slice A L.length c] w fun e w' => e = .returned (.string ⟨(textA (L.map Sg.abs)).toArray⟩) ∧ Below w.heap.size w w' := by
  have QR := Lib.hid (Right_any A c L w h hc hm (by omega))
  have HS := Lib.hid h; have HT := Lib.hid htab
  clear h htab
  cases hr : rightB L with
  | false =>
    rw [hr] at QR
    have HE := Lib.hid (show textA (L.map Sg.abs) = [] by unfold textA; rw [← right_abs, hr]; rfl)
    clear hr
    go_enter Tryd.func15, Tryd.ntmps15
    go_wp2_with fail
    refine QR.out.mono ?_
    rintro e w1 ⟨rfl, hb1⟩
    go_wp2_with fail
    go_ret
    exact ⟨by rw [HE.out]; rfl, hb1⟩
  | true =>
    rw [hr] at QR
    obtain ⟨hl8, ht64⟩ := rightA_bounds hr
    have HE := Lib.hid (show textA (L.map Sg.abs) = joinL (wordsA (normL (L.map Sg.abs))) 32 by unfold textA; rw [← right_abs, hr]; rfl)
    have QN := Lib.hid (fun W (hB : Below w.heap.size w W) => Norm_any A c L W ((HS.out.below hB (Nat.le_refl _)).lift hB.size) hc hm (by omega) (by omega))
    clear hr
    go_enter Tryd.func15, Tryd.ntmps15
    go_wp2_with fail
    refine QR.out.mono ?_
    rintro e w1 ⟨rfl, hb1⟩
    have HB1 := Lib.hid hb1; clear hb1
    go_wp2_with fail
    refine (QN.out _ HB1.out).mono ?_
    rintro e w2 ⟨M, A2, c2, rfl, habs, g3, g4, hsg, hb2⟩
    have hnt := norm_tot (L.map Sg.abs)
    have hMl : M.length ≤ 8 := by
      have h1 : M.length = (M.map Sg.abs).length := by simp
      have h2 := hnt.2
      rw [List.length_map] at h2
      rw [h1, habs]; omega
    have hMt : totN M ≤ 64 := by rw [tot_abs, habs, hnt.1, ← tot_abs]; exact ht64
    have HSG := Lib.hid hsg; have HABS := Lib.hid habs
    have HB2 := Lib.hid (HB1.out.trans (hb2.mono HB1.out.size))
    clear hsg habs hb2 hnt
    go_wp2_with fail
    go_loopw [3, 12] (fun v i wr => TextRelA w2 M v i wr) (fun _ i _ => M.length - (intOf i).toNat)
    case atStart => exact ⟨Below.refl _ _, 0, Nat.zero_le _, rfl, World.ownsRow_nil _ _ _ 1⟩
    case round =>
      obtain ⟨hbr, j, hj, rfl, hown⟩ := hrel
      have HBR := Lib.hid hbr
      have HBW := Lib.hid (HB2.out.trans (hbr.mono HB2.out.size))
      by_cases hlt : j < M.length
      · obtain ⟨s, hs⟩ : ∃ s, M[j]? = some s := ⟨_, List.getElem?_eq_getElem hlt⟩
        obtain ⟨b, off, rfl, hb, k1, k2, hok⟩ := (HSG.out.below hbr (Nat.le_refl _)).at hs
        have HST := Lib.hid (words_step hs)
        have hsn := Nat.le_trans (nums_le hs) hMt
        have Q := Lib.hid (text_any s (boxW wr s) (((hok.lift hbr.size).below (boxW_below wr s) (Nat.le_refl _)).lift (boxW_below wr s).size) (by omega) (HT.out.below (HBW.out.trans ((boxW_below wr s).mono HBW.out.size)) HT.out.lt))
        have c7 := cells2 (Blk.new wr 39 [.int .i64 s.kind, .slice s.adr s.nums.length s.cap])
        have HOW := Lib.hid (hown.below (boxW_below wr s)); have HK := Lib.hid hlt
        have HBX := Lib.hid (hbr.trans ((boxW_below wr s).mono hbr.size))
        have HLN := Lib.hid (show (wordsA ((M.take j).map Sg.abs)).length ≤ 1000000000 by rw [words_len]; simp; omega)
        clear hs hok hown hbr
        go_wp2_with fail
        refine Q.out.mono ?_
        rintro e w3 ⟨rfl, hb3⟩
        have HB3 := Lib.hid (HBX.out.trans (hb3.mono HBX.out.size))
        have HO3 := Lib.hid (HOW.out.below hb3)
        clear hb3 c7
        go_wp2_with (at_builtin; go_loud (refine wpList_app_one isStr rfl (.tmp 16) (.tmp 19) rfl w2 _ _ _ rfl w3 [.string ⟨(textS s.kind s.nums).toArray⟩] rfl HO3.out rfl rfl (by simp [Value.oneCell']) ?_ HB3.out ?_))
        · have := HLN.out; omega
        · intro v1 w4 hown4 hg4 hb4
          have O4 := Lib.hid (show OwnS w4 w2.heap.size v1 (wordsA ((M.take (j + 1)).map Sg.abs)) from by
            rw [HST.out]
            unfold OwnS
            rw [List.length_append]
            unfold cellsS at hown4 ⊢
            rw [List.map_append, List.map_take]
            exact hown4)
          have HB4 := Lib.hid hb4
          clear hown4 hg4 hb4
          go_wp2_with fail
          go_roundw
          case rel => exact ⟨HB4.out, j + 1, HK.out, by go_num, O4.out⟩
          case measure => have := HK.out; simp [intOf]; omega
      · obtain rfl : j = M.length := by omega
        rw [List.take_length, HABS.out] at hown
        have hwl : (wordsA (normL (L.map Sg.abs))).length = M.length := by rw [words_len, ← HABS.out]; simp
        obtain ⟨A3, c3, rfl, f1, f2⟩ := hown.form
        have hat := hown.at
        have hj1 := joinL_len (wordsA (normL (L.map Sg.abs))) 32
        have hj2 : Lib.lens (wordsA (normL (L.map Sg.abs))) ≤ 800 * (wordsA (normL (L.map Sg.abs))).length := lens_le 800 _ (fun l hl => by
          rw [← HABS.out] at hl
          obtain ⟨p, hp, rfl⟩ := List.mem_map.1 hl
          obtain ⟨s, hs, rfl⟩ := List.mem_map.1 hp
          obtain ⟨i, hi, hi2⟩ := List.mem_iff_getElem.1 hs
          have hs2 : M[i]? = some s := by rw [List.getElem?_eq_getElem hi, hi2]
          obtain ⟨_, _, _, _, _, _, hok⟩ := HSG.out.at hs2
          have h1 := textS_len s.kind s.nums hok.2.2.2.1
          have h2 := Nat.le_trans (nums_le hs2) hMt
          show (textS s.kind s.nums).length ≤ 800
          omega)
        rw [hwl] at hj1 hj2 f1
        have Q := Lib.hid (Join_any A3 M.length c3 (wordsA (normL (L.map Sg.abs))) 32 wr hwl.symm hat (by omega) (by omega) (by omega))
        rw [hwl]
        clear hown hat hbr hwl
        go_wp2_with fail
        refine Q.out.mono ?_
        rintro e w3 ⟨rfl, hb3⟩
        go_wp2_with fail
        go_ret
        exact ⟨by rw [HE.out]; rfl, HBW.out.trans (hb3.mono HBW.out.size)⟩
end Go.Proofs.YtlgfollajodpaaaDoor
