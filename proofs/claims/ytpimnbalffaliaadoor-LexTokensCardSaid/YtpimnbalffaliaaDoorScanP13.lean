/-
  The words of a line, as the program tells them.
-/
import Derived.Test.YtpimnbalffaliaaDoorScanner13
import Derived.Test.YtpimnbalffaliaaDoorLay13
import Derived.Lib.OthersKept
import Derived.Laws.RangeAny
namespace Go.Proofs.YtpimnbalffaliaaDoor
set_option linter.unusedVariables false
set_option linter.unusedSimpArgs false
open Go.RowKit Go.Lib

theorem encode_rune (r : Nat) (h : r ≤ 1114111) : Utf8.encode (r : Int) = ⟨(encodeRune (r : Int)).toArray⟩ := by
  unfold Utf8.encode encodeRune
  by_cases s : 55296 ≤ r ∧ r ≤ 57343
  · have e : Utf8.valid (r : Int) = false := by unfold Utf8.valid; simp; omega
    rw [encodeRuneZ_bad (by omega), e]
    simp [Utf8.runeError]
  · have e : Utf8.valid (r : Int) = true := by unfold Utf8.valid; simp; omega
    rw [e]
    simp only [if_true, Int.toNat_natCast]
    by_cases h1 : r < 128
    · rw [encodeRuneZ_one (by omega) (by omega), if_pos h1]; simp
    · rw [if_neg h1]
      by_cases h2 : r < 2048
      · rw [encodeRuneZ_two (by omega) (by omega), if_pos h2]
        have a1 : (192 + (r : Int) / 64).toNat = 192 + r / 64 := by omega
        have a2 : (128 + (r : Int) % 64).toNat = 128 + r % 64 := by omega
        simp [a1, a2]
      · rw [if_neg h2]
        by_cases h3 : r < 65536
        · rw [encodeRuneZ_three (by omega), if_pos h3]
          have a1 : (224 + (r : Int) / 4096).toNat = 224 + r / 4096 := by omega
          have a2 : (128 + (r : Int) / 64 % 64).toNat = 128 + r / 64 % 64 := by omega
          have a3 : (128 + (r : Int) % 64).toNat = 128 + r % 64 := by omega
          simp [a1, a2, a3]
        · rw [encodeRuneZ_four (by omega) (by omega), if_neg h3]
          have a1 : (240 + (r : Int) / 262144).toNat = 240 + r / 262144 := by omega
          have a2 : (128 + (r : Int) / 4096 % 64).toNat = 128 + r / 4096 % 64 := by omega
          have a3 : (128 + (r : Int) / 64 % 64).toNat = 128 + r / 64 % 64 := by omega
          have a4 : (128 + (r : Int) % 64).toNat = 128 + r % 64 := by omega
          simp [a1, a2, a3, a4]

theorem ScAt.iter {w : World} {B g k : Nat} {s : Sc} (h : ScAt w B g s) (hk : k < B) (hg : k ≠ g) (S : ByteArray) (p : Nat) : ScAt (w.iterAt k S p) B g s := by
  obtain ⟨v, hb, ht⟩ := h.ex
  refine ⟨h.lt, by rw [iterAt_size]; exact h.base, v, (iterAt_other w k g S p hg.symm).trans hb, ht.same (by rw [iterAt_size]; exact Nat.le_refl _) fun j hj => ?_⟩
  exact iterAt_other w k j S p (by have := (ht.lt hj).1; omega)

/-- How long what a scanner has is. -/
theorem step_len (s : Sc) (c : Nat) (b : List UInt8) : (stepR s c b).text.length ≤ s.text.length + b.length ∧ (stepR s c b).words.length ≤ s.words.length + 1 := by
  unfold stepR Sc.put Sc.to Sc.ends
  repeat' split
  all_goals (simp; try omega)
theorem fold_len : ∀ (l : List UInt8) (s : Sc), (l.foldl stepB s).text.length ≤ s.text.length + l.length ∧ (l.foldl stepB s).words.length ≤ s.words.length + l.length
  | [], s => ⟨Nat.le_refl _, Nat.le_refl _⟩
  | x :: l, s => by
    have h1 := step_len s x.toNat [x]
    have h2 := fold_len l (stepB s x)
    rw [List.foldl_cons]
    unfold stepB at h2 ⊢
    simp at h1 ⊢
    omega
theorem fold_st : ∀ (l : List UInt8) (s : Sc), s.st ≤ 5 → (l.foldl stepB s).st ≤ 5
  | [], s, h => h
  | x :: l, s, h => fold_st l (stepB s x) (stepR_st h)

/-- What Scan tells. -/
def ScanRet (w : World) (r : List Tok × Nat) (e : Ending) (w' : World) : Prop :=
  ∃ v, e = .returned (.tuple #[v, .int .i64 (r.2 : Int)]) ∧ TlG w' w.heap.size 20 v (dyns r.1) ∧ Below w.heap.size w w'

set_option maxHeartbeats 3200000 in
theorem Scan_long (l : List UInt8) (w : World) (h : 200 < l.length) :
    Calls Tryd.prog 8 #[.string ⟨l.toArray⟩] w (ScanRet w (scanL l)) := by
  have hv : scanL l = ([], 4) := by unfold scanL; rw [if_pos h]
  rw [hv]
  have hz : (200 : Int) < (l.length : Int) := by omega
  go_enter Tryd.func8, Tryd.ntmps8
  go_wp2_with fail
  go_ret2
  exact ⟨_, rfl, TlG.nil _ _ _, Below.refl _ _⟩
set_option maxHeartbeats 3200000 in
theorem Scan_bad (l : List UInt8) (w : World) (h : l.length ≤ 200) (hr : rightB l = false) (hu : UTab w) :
    Calls Tryd.prog 8 #[.string ⟨l.toArray⟩] w (ScanRet w (scanL l)) := by
  have hv : scanL l = ([], 5) := by unfold scanL; rw [if_neg (by omega), hr]; rfl
  rw [hv]
  have hz : ¬ (200 : Int) < (l.length : Int) := by omega
  have q := readable_any l w (by unfold maxLen; omega) hu
  rw [hr] at q
  have Q := Lib.hid q
  clear q hr h hu
  go_enter Tryd.func8, Tryd.ntmps8
  go_wp2_with fail
  refine Q.out.mono ?_
  rintro e w1 ⟨rfl, hb⟩
  go_wp2_with fail
  go_ret2
  exact ⟨_, rfl, TlG.nil _ _ _, hb⟩
set_option maxHeartbeats 6400000 in
set_option maxRecDepth 100000 in
theorem Scan_ok (l : List UInt8) (w : World) (h : l.length ≤ 200) (hr : rightB l = true) (hu : UTab w) (ht : Tab w) :
    Calls Tryd.prog 8 #[.string ⟨l.toArray⟩] w (ScanRet w (scanL l)) := by
  have hv : scanL l = finS (scanF l) := by unfold scanL; rw [if_neg (by omega), hr]; rfl
  rw [hv]
  obtain ⟨RR, hRR⟩ : ∃ R, R = finS (scanF l) := ⟨_, rfl⟩
  rw [← hRR]
  have HRR := Lib.hid hRR
  have hz : ¬ (200 : Int) < (l.length : Int) := by omega
  have q := readable_any l w (by unfold maxLen; omega) hu
  rw [hr] at q
  have Q := Lib.hid q
  obtain ⟨S, hS⟩ : ∃ S, S = l ++ [32] := ⟨_, rfl⟩
  have hrS : rightB S = true := by rw [hS]; exact right_blank _ l (Nat.le_refl _) hr
  have hlS : S.length ≤ 201 := by rw [hS]; simp; omega
  have HSF := Lib.hid (show scanF l = S.foldl stepB ⟨[], [], 0⟩ by unfold scanF; rw [hS])
  have hsum : ∀ w : World, (Op.stringOp .add ⟨l.toArray⟩ ⟨#[32]⟩).run Tryd.prog w = .ok (.string ⟨S.toArray⟩) w := fun w => by
    rw [run_string_add_sum w _ _ (by show l.length + 1 ≤ 9223372036854775807; omega)]
    have e : (⟨l.toArray⟩ : ByteArray) ++ ⟨#[32]⟩ = ⟨S.toArray⟩ := by rw [hS]; exact ba_append l [32]
    rw [e]
  have HR := Lib.hid hrS; have HT := Lib.hid ht; have HLS := Lib.hid hlS
  clear q hr h hu hS hrS ht hv hRR
  go_enter Tryd.func8, Tryd.ntmps8
  go_wp2_with fail
  refine Q.out.mono ?_
  rintro e w1 ⟨rfl, hb⟩
  obtain ⟨W1, hW1⟩ : ∃ W1, W1 = w1.alloc (.cells #[.slice none 0 0, .string ⟨#[]⟩, .int .i64 0] 47) := ⟨_, rfl⟩
  have hk1 : Blk W1 w1.heap.size 47 [.slice none 0 0, .string ⟨#[]⟩, .int .i64 0] := by rw [hW1]; exact Blk.new w1 _ _
  have hz1 : W1.heap.size = w1.heap.size + 1 := by rw [hW1]; simp
  have hit0 := World.iter_heap W1 ⟨S.toArray⟩ 0
  have hbi : Below W1.heap.size W1 (W1.iter ⟨S.toArray⟩ 0) := (Below.refl _ _).alloc (Nat.le_refl _) _
  have hzi : (W1.iter ⟨S.toArray⟩ 0).heap.size = w1.heap.size + 2 := by unfold World.iter; rw [World.size_alloc, hz1]
  have hb1 : Below w1.heap.size w1 (W1.iter ⟨S.toArray⟩ 0) := by
    have := (Below.refl w1.heap.size w1).alloc (Nat.le_refl _) (.cells #[.slice none 0 0, .string ⟨#[]⟩, .int .i64 0] 47)
    rw [← hW1] at this
    exact this.trans (hbi.mono this.size)
  have hs0 : ScAt (W1.iter ⟨S.toArray⟩ 0) (w1.heap.size + 2) w1.heap.size ⟨[], [], 0⟩ :=
    ⟨by omega, by rw [hzi]; exact Nat.le_refl _, .slice none 0 0, hk1.below hbi (by omega), TlG.nil _ _ _⟩
  rw [hz1] at hit0
  have HI0 := Lib.hid hit0; have HB1 := Lib.hid hb1; have HS0 := Lib.hid hs0; have HB := Lib.hid hb
  clear hk1 hz1 hit0 hbi hzi hb1 hs0 hb Q
  go_wp2_with fail
  go_loopw [6] (fun _ wr => ∃ pos : Nat, pos ≤ S.length ∧ wr.heap[w1.heap.size + 1]? = some (.stringIter ⟨S.toArray⟩ pos) ∧ ScAt wr (w1.heap.size + 2) w1.heap.size ((S.take pos).foldl stepB ⟨[], [], 0⟩) ∧ Below w1.heap.size w1 wr ∧ rightB (S.drop pos) = true) (fun _ wr => S.length - wr.iterPos (w1.heap.size + 1))
  case atStart => exact ⟨0, by omega, by subst hW1; exact HI0.out, by subst hW1; exact HS0.out, by subst hW1; exact HB1.out, HR.out⟩
  case round =>
    obtain ⟨pos, hps, hit, hsc, hbw, hrt⟩ := hrel
    have hmu : wr.iterPos (w1.heap.size + 1) = pos := by simp [World.iterPos, hit]
    have hl9 := HLS.out
    have fl := fold_len (S.take pos) ⟨[], [], 0⟩
    have fs := fold_st (S.take pos) ⟨[], [], 0⟩ (by decide)
    rw [List.length_take] at fl
    simp only [List.length_nil, Nat.zero_add] at fl
    obtain ⟨s, hs⟩ : ∃ s, s = (S.take pos).foldl stepB ⟨[], [], 0⟩ := ⟨_, rfl⟩
    rw [← hs] at fl fs hsc
    by_cases hp : pos < S.length
    · obtain ⟨r, wd, hd, hr, hwd, hle, hrt2, henc, hstep⟩ := next_rune S pos hp hrt
      have hnx := fun ty => Lib.run_next_any_at (P := Tryd.prog) wr (w1.heap.size + 1) ⟨S.toArray⟩ pos ty hit hp
      rw [hd] at hnx
      have hit2 := iterAt_heap wr (w1.heap.size + 1) ⟨S.toArray⟩ pos (pos + wd) hit
      have hbw2 := below_iterAt hbw (k := w1.heap.size + 1) (by omega) ⟨S.toArray⟩ (pos + wd)
      have hsc2 := hsc.iter (k := w1.heap.size + 1) (by omega) (by omega) ⟨S.toArray⟩ (pos + wd)
      obtain ⟨b, hb⟩ : ∃ b, b = (S.drop pos).take wd := ⟨_, rfl⟩
      rw [← hb] at henc hstep
      have he : Utf8.encode (r : Int) = ⟨b.toArray⟩ := by rw [encode_rune r hr, henc]
      have hbl : b.length ≤ 4 := by
        rw [← henc]
        unfold encodeRune
        rw [List.length_map]
        exact (encodeRuneZ_length _).2
      have hb9 : Below w.heap.size w (wr.iterAt (w1.heap.size + 1) ⟨S.toArray⟩ (pos + wd)) := HB.out.trans (hbw2.mono HB.out.size)
      have q := take_any (w1.heap.size + 2) w1.heap.size r b s _ hsc2 he (by omega) hbl (by omega) (HT.out.below hb9 HT.out.lt) fs
      have hfin : (S.take (pos + wd)).foldl stepB ⟨[], [], 0⟩ = stepR s r b := by rw [List.take_add, List.foldl_append, ← hs, ← hb, hstep s fs]
      obtain ⟨W, hW⟩ : ∃ W, W = wr.iterAt (w1.heap.size + 1) ⟨S.toArray⟩ (pos + wd) := ⟨_, rfl⟩
      rw [← hW] at hnx hit2 hbw2 q
      have Q := Lib.hid q; have HI2 := Lib.hid hit2; have HB2 := Lib.hid hbw2; have HF := Lib.hid hfin; have HR2 := Lib.hid hrt2
      clear q hit2 hbw2 hfin hrt2 hd henc hstep he hb9 hsc2 hsc hit hbw hrt fl fs hs hW hb hbl
      go_wp2_with fail
      refine Q.out.mono ?_
      rintro e w2 ⟨rfl, s2, kp⟩
      have hi3 := (kp.block (w1.heap.size + 1) (by omega) (by omega)).trans HI2.out
      have hb3 := HB2.out.trans (kp.below (D := w1.heap.size) (Nat.le_refl _) (by omega))
      have S2 := Lib.hid s2
      clear s2 kp
      go_wp2_with fail
      go_roundw
      case rel => exact ⟨pos + wd, hle, hi3, by rw [HF.out]; exact S2.out, hb3, HR2.out⟩
      case measure =>
        rw [hmu]
        simp only [World.iterPos, hi3]
        omega
    · have hnx := fun ty => Lib.run_next_end_at (P := Tryd.prog) wr (w1.heap.size + 1) ⟨S.toArray⟩ pos ty hit hp
      obtain rfl : pos = S.length := by omega
      rw [List.take_length] at hs
      have hS2 := HSF.out
      rw [← hs] at hS2
      obtain ⟨⟨v, c0, hv⟩, c1, c2, _, _, _⟩ := hsc.cells
      have HV := Lib.hid (hv.lower (B' := w.heap.size) (by have := HB.out.size; omega))
      have HB2 := Lib.hid (HB.out.trans (hbw.mono HB.out.size))
      by_cases h0 : s.st = 0
      · have z : ((s.st : Int) != 0) = false := by simp [h0]
        have e : finS s = (s.words, 0) := by unfold finS; rw [if_pos h0]
        have E := Lib.hid (show RR = (s.words, 0) by rw [HRR.out, hS2, e])
        clear h0 e fl fs hs hS2 hrt hsc hv hbw hit hmu
        go_wp2_with fail
        go_ret2
        exact ⟨_, by rw [E.out]; rfl, by rw [E.out]; exact HV.out, HB2.out⟩
      · have z : ((s.st : Int) != 0) = true := by simp; omega
        have e : finS s = ([], 5) := by unfold finS; rw [if_neg h0]
        have E := Lib.hid (show RR = ([], 5) by rw [HRR.out, hS2, e])
        clear h0 e fl fs hs hS2 hrt hsc hv hbw hit hmu
        go_wp2_with fail
        go_ret2
        exact ⟨_, by rw [E.out]; rfl, by rw [E.out]; exact TlG.nil _ _ _, HB2.out⟩
theorem Scan_any (l : List UInt8) (w : World) (hu : UTab w) (ht : Tab w) :
    Calls Tryd.prog 8 #[.string ⟨l.toArray⟩] w (ScanRet w (scanL l)) := by
  by_cases h : l.length ≤ 200
  · cases hr : rightB l with
    | true => exact Scan_ok l w h hr hu ht
    | false => exact Scan_bad l w h hr hu
  · exact Scan_long l w (by omega)
end Go.Proofs.YtpimnbalffaliaaDoor
