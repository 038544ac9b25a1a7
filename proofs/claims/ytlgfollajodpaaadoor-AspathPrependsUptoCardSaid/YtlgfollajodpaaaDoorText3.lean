/-
  A segment as a text.
-/
import Derived.Test.YtlgfollajodpaaaDoorCut3
import Derived.Test.YtlgfollajodpaaaDoorOwnSeg
import Derived.Test.YtlgfollajodpaaaDoorCnt
import Derived.Test.YtlgfollajodpaaaDoorJoin
import Derived.Test.YtlgfollajodpaaaDoorText
namespace Go.Proofs.YtlgfollajodpaaaDoor
set_option linter.unusedVariables false
set_option linter.unusedSimpArgs false
open Go.RowKit

theorem joinL_len (ls : List (List UInt8)) (c : UInt8) : (joinL ls c).length ≤ Lib.lens ls + ls.length := by
  cases ls with
  | nil => simp [joinL, Lib.join_nil]
  | cons x r =>
    unfold joinL
    rw [Lib.join_length]
    simp
    omega
theorem lens_dec (z : List Nat) (hz : ∀ x ∈ z, x < 4294967296) : Lib.lens (z.map dec) ≤ 10 * z.length := by
  induction z with
  | nil => simp [Lib.lens]
  | cons x z ih =>
    have h1 := ih (fun y hy => hz y (List.mem_cons_of_mem _ hy))
    have h2 := dec_len 9 x (by have := hz x (by simp); omega)
    simp only [Lib.lens, List.map_cons, List.sum_cons, List.length_cons] at h1 ⊢
    omega
/-- A segment as a text. -/
def textS (k : Int) (z : List Nat) : List UInt8 := if k = 1 then 123 :: (joinL (z.map dec) 44 ++ [125]) else joinL (z.map dec) 32
theorem textS_len (k : Int) (z : List Nat) (hz : ∀ x ∈ z, x < 4294967296) : (textS k z).length ≤ 11 * z.length + 2 := by
  have h1 := lens_dec z hz
  have h2 := joinL_len (z.map dec) 44
  have h3 := joinL_len (z.map dec) 32
  simp only [List.length_map] at h2 h3
  unfold textS
  split
  · simp; omega
  · omega
theorem brace (J : List UInt8) : (⟨#[123]⟩ : ByteArray) ++ ⟨J.toArray⟩ ++ ⟨#[125]⟩ = ⟨(123 :: (J ++ [125])).toArray⟩ := by
  have h1 := ba_append [123] J
  have h2 := ba_append ([123] ++ J) [125]
  rw [← h1] at h2
  simpa using h2
def boxW (w : World) (s : Sg) : World := w.alloc (.cells #[.int .i64 s.kind, .slice s.adr s.nums.length s.cap] 39)
theorem boxW_size (w : World) (s : Sg) : (boxW w s).heap.size = w.heap.size + 1 := by simp [boxW]
theorem boxW_below (w : World) (s : Sg) : Below w.heap.size w (boxW w s) := (Below.refl _ _).alloc (Nat.le_refl _) _
theorem boxW_blk (w : World) (s : Sg) : Blk (boxW w s) w.heap.size 39 [.int .i64 s.kind, .slice s.adr s.nums.length s.cap] := Blk.new w _ _
def TextRelS (w : World) (z : List Nat) (v i : Value) (wr : World) : Prop :=
  Below w.heap.size w wr ∧ ∃ j : Nat, j ≤ z.length ∧ i = .int .i64 (j : Int) ∧ OwnS wr w.heap.size v ((z.take j).map dec)
theorem decs_step {z : List Nat} {j x : Nat} (hj : j < z.length) (hx : x = z.getD j 0) : (z.take (j + 1)).map dec = (z.take j).map dec ++ [dec x] := by
  have e : z.getD j 0 = z[j] := by simp [List.getD, hj]
  rw [List.take_succ_eq_append_getElem hj, List.map_append, hx, e]
  rfl

theorem OwnS.below {w w' : World} {B : Nat} {v : Value} {ps : List (List UInt8)} (h : OwnS w B v ps) (hb : Below w.heap.size w w') : OwnS w' B v ps :=
  World.ownsRow.kept h (row := none) ⟨hb.os, hb.tape, hb.output, hb.size, fun k hk _ => hb.block k hk⟩ (by cases v.ownBlock <;> simp)

set_option maxHeartbeats 3200000 in
theorem text_any (s : Sg) (w : World) (h : Sg.Ok w w.heap.size s) (hl : s.nums.length ≤ 1000000000) (ht : Tab w) :
    Calls Tryd.prog 28 #[.agg #[.int .i64 s.kind, .slice s.adr s.nums.length s.cap]] w fun e w' => e = .returned (.string ⟨(textS s.kind s.nums).toArray⟩) ∧ Below w.heap.size w w' := by
  have c7 := cells2 (Blk.new w 39 [.int .i64 s.kind, .slice s.adr s.nums.length s.cap])
  have HAT := Lib.hid (fun W (hB : Below (boxW w s).heap.size (boxW w s) W) => (h.2.2.1.below (boxW_below w s) (Nat.le_refl _)).below hB (by rw [boxW_size]; omega))
  have HFIT := Lib.hid h.2.2.2.1
  have HT := Lib.hid ht; clear ht h
  go_enter Tryd.func28, Tryd.ntmps28
  go_wp2_with fail
  go_loopw [3, 9] (fun v i wr => TextRelS (boxW w s) s.nums v i wr) (fun _ i _ => s.nums.length - (intOf i).toNat)
  case atStart => exact ⟨Below.refl _ _, 0, Nat.zero_le _, rfl, World.ownsRow_nil _ _ _ 1⟩
  case round =>
    clear c7
    obtain ⟨hbr, j, hj, rfl, hown⟩ := hrel
    have HBR := Lib.hid hbr
    have HBW := Lib.hid ((boxW_below w s).trans (hbr.mono (by rw [boxW_size]; omega)))
    have htr := HT.out.below HBW.out HT.out.lt
    by_cases hlt : j < s.nums.length
    · obtain ⟨b2, off2, hA2, hb2, k3⟩ := (HAT.out _ hbr).cell hlt
      have hx : s.nums.getD j 0 < 4294967296 := HFIT.out _ (by rw [show s.nums.getD j 0 = s.nums[j] by simp [List.getD, hlt]]; exact List.getElem_mem hlt)
      obtain ⟨x, hxe⟩ : ∃ x, x = s.nums.getD j 0 := ⟨_, rfl⟩
      have HST := Lib.hid (decs_step hlt hxe)
      rw [← hxe] at hx k3
      have q := Text_any (x : Int) wr (by omega) (by omega) htr
      rw [textL_pos] at q
      have Q := Lib.hid q
      have HOW := Lib.hid hown; have HK := Lib.hid hlt
      have HLN := Lib.hid (show ((s.nums.take j).map dec).length ≤ 1000000000 by simp; omega)
      clear hxe hown hbr q htr
      rw [hA2]
      go_wp2_with fail
      refine Q.out.mono ?_
      rintro e w2 ⟨rfl, hb2⟩
      have HB2 := Lib.hid (HBR.out.trans (hb2.mono HBR.out.size))
      have HO2 := Lib.hid (HOW.out.below hb2)
      clear hb2
      go_wp2_with (at_builtin; go_loud (refine wpList_app_one isStr rfl (.tmp 13) (.tmp 17) rfl (boxW w s) _ _ _ rfl w2 [.string ⟨(dec x).toArray⟩] rfl HO2.out rfl rfl (by simp [Value.oneCell']) ?_ HB2.out ?_))
      · have := HLN.out; omega
      · intro v1 w1 hown1 hg1 hb1
        have O1 := Lib.hid (show OwnS w1 (boxW w s).heap.size v1 ((s.nums.take (j + 1)).map dec) from by
          rw [HST.out]
          unfold OwnS
          rw [List.length_append]
          simpa [cellsS, Nat.min_eq_left (Nat.le_of_lt HK.out)] using hown1)
        have HB1 := Lib.hid hb1
        clear hown1 hg1 hb1
        go_wp2_with fail
        go_roundw
        case rel => exact ⟨HB1.out, j + 1, HK.out, by go_num, O1.out⟩
        case measure => have := HK.out; simp [intOf]; omega
    · obtain rfl : j = s.nums.length := by omega
      have c8 := cells2 ((boxW_blk w s).below hbr (by rw [boxW_size]; omega))
      rw [List.take_length] at hown
      obtain ⟨A1, c1, rfl, f1, f2⟩ := hown.form
      have hat := hown.at
      have hj1 := joinL_len (s.nums.map dec) 44
      have hj2 := joinL_len (s.nums.map dec) 32
      have hj3 := lens_dec s.nums HFIT.out
      have QJ := Lib.hid (fun c (hj : (joinL (s.nums.map dec) c).length ≤ 140737488355328) => Join_any A1 s.nums.length c1 (s.nums.map dec) c wr (by simp) hat (by simp; omega) f1 hj)
      simp only [List.length_map] at hj1 hj2
      have HBW2 := Lib.hid HBW.out
      by_cases hk : s.kind = 1
      · have hk1 : (s.kind == 1) = true := by simpa using hk
        have HE := Lib.hid (show textS s.kind s.nums = 123 :: (joinL (s.nums.map dec) 44 ++ [125]) by unfold textS; rw [if_pos hk])
        have Q := Lib.hid (QJ.out 44 (by omega))
        have hz1 : ¬ 9223372036854775807 < 1 + (joinL (s.nums.map dec) 44).length := by omega
        clear hk hown hat hbr htr f1 f2 hj2 QJ
        go_wp2_with fail
        refine Q.out.mono ?_
        rintro e w2 ⟨rfl, hb2⟩
        go_wp2_with fail
        go_ret
        exact ⟨by rw [HE.out, ← brace]; rfl, HBW.out.trans (hb2.mono HBW.out.size)⟩
      · have hk1 : (s.kind == 1) = false := by simpa using hk
        have HE := Lib.hid (show textS s.kind s.nums = joinL (s.nums.map dec) 32 by unfold textS; rw [if_neg hk])
        have Q := Lib.hid (QJ.out 32 (by omega))
        clear hk hown hat hbr htr f1 f2 QJ
        go_wp2_with fail
        refine Q.out.mono ?_
        rintro e w2 ⟨rfl, hb2⟩
        go_wp2_with fail
        go_ret
        exact ⟨by rw [HE.out]; rfl, HBW.out.trans (hb2.mono HBW.out.size)⟩
end Go.Proofs.YtlgfollajodpaaaDoor
