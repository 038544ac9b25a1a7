/-
  A path made anew, segment by segment.
-/
import Derived.Test.YtlgfollajodpaaaDoorNorm
namespace Go.Proofs.YtlgfollajodpaaaDoor
set_option linter.unusedVariables false
set_option linter.unusedSimpArgs false
open Go.RowKit

/-- What the loop holds. -/
def CopyRel (w : World) (L : List Sg) (v i : Value) (wr : World) : Prop :=
  Below w.heap.size w wr ∧ ∃ (M : List Sg) (H j : Nat), j ≤ L.length ∧ i = .int .i64 (j : Int) ∧ OwnSegs wr w.heap.size H v M ∧ w.heap.size ≤ H ∧ H ≤ wr.heap.size ∧ Hid (M.map Sg.abs = (L.take j).map Sg.abs)
/-- What a call leaves that returns a path of its own, of which it may be told that it is so. -/
def RetOwn (w : World) (r : List (Int × List Nat)) (e : Ending) (w' : World) : Prop :=
  ∃ (M : List Sg) (H : Nat) (A : Option Addr) (c : Nat), e = .returned (.slice A M.length c) ∧ M.map Sg.abs = r ∧ OwnSegs w' w.heap.size H (.slice A M.length c) M ∧ H ≤ w'.heap.size ∧ Below w.heap.size w w'

set_option maxHeartbeats 6400000 in
theorem Copied_any (A : Option Addr) (c : Nat) (L : List Sg) (w : World) (h : Segs w w.heap.size A L) (ht : totN L ≤ 1000000000) (hL : L.length ≤ 2000000) :
    Calls Tryd.prog 19 #[.slice A L.length c, .func (.func 20) #[] #[]] w (RetOwn w (L.map Sg.abs)) := by
  have HL := Lib.hid h; clear h
  go_enter Tryd.func19, Tryd.ntmps19
  go_wp2_with fail
  go_loopw [5, 10] (fun v i wr => CopyRel w L v i wr) (fun _ i _ => L.length - (intOf i).toNat)
  case atStart => exact ⟨Below.refl _ _, [], w.heap.size, 0, by omega, rfl, OwnSegs.nil _ _ _, Nat.le_refl _, Nat.le_refl _, Lib.hid rfl⟩
  case round =>
    obtain ⟨hbr, M, H, j, hj, rfl, hown, hH, hH2, hab⟩ := hrel
    obtain ⟨wo, rfl⟩ : ∃ x : World, x = wr := ⟨wr, rfl⟩
    by_cases hlt : j < L.length
    · obtain ⟨s, hs⟩ : ∃ s, L[j]? = some s := ⟨_, List.getElem?_eq_getElem hlt⟩
      obtain ⟨b, off, rfl, hb, k1, k2, hok⟩ := (HL.out.below hbr (Nat.le_refl _)).at hs
      have HLT := Lib.hid hlt
      have hsl := nums_le hs
      have HFIT := Lib.hid (show Sg.Fit s from hok.2.2.2)
      have hml : M.length = j := by have := congrArg List.length hab.out; simp at this; omega
      have HML := Lib.hid hml
      have HAB := Lib.hid (show (L.take (j + 1)).map Sg.abs = M.map Sg.abs ++ [s.abs] by
        obtain ⟨hj9, e9⟩ := List.getElem?_eq_some_iff.1 hs
        rw [hab.out, List.take_succ_eq_append_getElem hj9, List.map_append, e9]
        rfl)
      have hbA := (Below.refl wo.heap.size wo).alloc (Nat.le_refl _) (.cells #[.int .i64 s.kind, .slice s.adr s.nums.length s.cap] 39)
      have hA1 : Sg.Ok (wo.alloc (.cells #[.int .i64 s.kind, .slice s.adr s.nums.length s.cap] 39)) (wo.alloc (.cells #[.int .i64 s.kind, .slice s.adr s.nums.length s.cap] 39)).heap.size s := (hok.below hbA hbr.size).lift (by simp; have := hbr.size; omega)
      have QO := Lib.hid (own_any s _ hA1 (by omega))
      have HS1 := Lib.hid (hown.below hbA)
      have HBR1 := Lib.hid (hbr.alloc hbr.size (.cells #[.int .i64 s.kind, .slice s.adr s.nums.length s.cap] 39))
      have cb := cells2 (Blk.new wo 39 [.int .i64 s.kind, .slice s.adr s.nums.length s.cap])
      have hjb : (j : Int) ≤ 2000000 := by omega
      have hi0 : (0 : Int) ≤ (j : Int) := by omega
      have hi1 : (j : Int) < (L.length : Int) := by omega
      clear hok hA1 hbA hown hab hs hlt hml
      go_wp2_with fail
      refine QO.out.mono ?_
      rintro e w2 ⟨A2, c2, rfl, f1, f2, ho2, hb2⟩
      have HS2 := Lib.hid (HS1.out.below hb2)
      have HO2 := Lib.hid (show Own32 w2 (wo.alloc (.cells #[.int .i64 s.kind, .slice s.adr s.nums.length s.cap] 39)).heap.size (Sg.sl ⟨s.kind, A2, c2, s.nums⟩) s.nums from ho2)
      have HBW := Lib.hid (HBR1.out.trans (hb2.mono HBR1.out.size))
      have HB2S := Lib.hid hb2.size
      clear ho2 hb2 cb k1 k2
      go_wp2_with (at_builtin; refine wpList_app_one' isSeg rfl (.tmp 14) (.tmp 18) rfl w.heap.size _ _ _ rfl w2 (Sg.two ⟨s.kind, A2, c2, s.nums⟩) rfl HS2.out.row rfl rfl (two_one _) (by have h1 := HML.out; have h2 := HLT.out; omega) HBW.out.size ?_)
      intro v3 w3 hown3 hg3
      have HP := Lib.hid (OwnSegs.push (s := ⟨s.kind, A2, c2, s.nums⟩) HS2.out HO2.out HBR1.out.size (fun x hx k hk => HS1.out.blocks x hx k hk) HFIT.out hown3 hg3)
      have HB3 := Lib.hid (HBW.out.grown hg3 HBW.out.size (fun k hk => (World.ownsRow.lt HS2.out.row k hk).1))
      have HH3 := Lib.hid (Nat.le_trans HB2S.out hg3.size)
      clear hown3 hg3
      go_wp2_with fail
      go_roundw
      case rel => exact ⟨HB3.out, _, _, j + 1, HLT.out, by go_num, HP.out, HBR1.out.size, HH3.out, Lib.hid (by rw [HAB.out, List.map_append]; rfl)⟩
      case measure => have hm := HLT.out; simp [intOf] at hm ⊢; try omega
    · obtain rfl : j = L.length := by omega
      have hab2 := hab.out
      rw [List.take_length] at hab2
      obtain ⟨A0, c0, rfl, g1, g2⟩ := hown.form
      have HR := Lib.hid (show RetOwn w (L.map Sg.abs) (.returned (.slice A0 M.length c0)) wo from ⟨M, H, A0, c0, rfl, hab2, hown, hH2, hbr⟩)
      clear hown hab hab2 g1 g2
      go_wp2_with fail
      go_ret
      exact HR.out
end Go.Proofs.YtlgfollajodpaaaDoor
