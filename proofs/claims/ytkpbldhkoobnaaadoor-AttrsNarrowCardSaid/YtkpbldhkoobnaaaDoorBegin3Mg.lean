/-
  Texts of this seat, put together: Begin3.
-/
import Derived.Test.YtkpbldhkoobnaaaDoorMg1
import Derived.Test.YtkpbldhkoobnaaaDoorMg25
/-
  As much of a path as counts so much.
-/
namespace Go.Proofs.YtkpbldhkoobnaaaDoor
set_option linter.unusedVariables false
set_option linter.unusedSimpArgs false
open Go.RowKit

theorem drop_seg {L : List Sg} {j : Nat} {s : Sg} (h : L[j]? = some s) : (L.drop j).map Sg.abs = s.abs :: (L.drop (j + 1)).map Sg.abs := by
  obtain ⟨hj, e⟩ := List.getElem?_eq_some_iff.1 h
  rw [List.drop_eq_getElem_cons hj, e]
  rfl
/-- What the loop holds. -/
def BegRel (w : World) (L : List Sg) (N : Nat) (c v i : Value) (wr : World) : Prop :=
  Below w.heap.size w wr ∧ ∃ (M : List Sg) (H j n : Nat), j ≤ L.length ∧ i = .int .i64 (j : Int) ∧ c = .int .i64 (n : Int) ∧ n ≤ N ∧ OwnSegs wr w.heap.size H v M ∧ w.heap.size ≤ H ∧ H ≤ wr.heap.size ∧ M.length ≤ j ∧ Hid (M.map Sg.abs ++ begL ((L.drop j).map Sg.abs) n = begL (L.map Sg.abs) N)

set_option maxHeartbeats 12800000 in
theorem Begin3_any (A : Option Addr) (c : Nat) (L : List Sg) (N : Nat) (w : World) (h : Segs w w.heap.size A L) (hr : rightB L = true) (hN : N ≤ 1000000000) :
    Calls Tryd.prog 100 #[.slice A L.length c, .int .i64 (N : Int)] w (RetOwn w (begL (L.map Sg.abs) N)) := by
  have HL := Lib.hid h
  have hb := rightA_bounds hr
  have hk := Lib.hid (fun (s : Sg) (hs : s ∈ L) => show (s.kind = 1 ∨ s.kind = 2) ∧ s.nums.length ≤ 64 by
    unfold rightB at hr
    simp only [Bool.and_eq_true, decide_eq_true_eq] at hr
    have h1 := List.all_eq_true.1 hr.2.1 s hs
    obtain ⟨j, hj, hj2⟩ := List.mem_iff_getElem.1 hs
    have h3 : s.nums.length ≤ totN L := nums_le (j := j) (by rw [List.getElem?_eq_getElem hj, hj2])
    unfold okS at h1
    simp only [Bool.and_eq_true, Bool.or_eq_true, beq_iff_eq, bne_iff_ne] at h1
    exact ⟨h1.1, by omega⟩)
  clear h hr
  go_enter Tryd.func100, Tryd.ntmps100
  go_wp2_with fail
  go_loopw [1, 5, 10] (fun c v i wr => BegRel w L N c v i wr) (fun _ _ i _ => L.length - (intOf i).toNat)
  case atStart => exact ⟨Below.refl _ _, [], w.heap.size, 0, N, by omega, rfl, rfl, Nat.le_refl _, OwnSegs.nil _ _ _, Nat.le_refl _, Nat.le_refl _, by simp, Lib.hid (by simp)⟩
  case round =>
    obtain ⟨hbr, M, H, j, n, hj, rfl, rfl, hnN, hown, hH, hH2, hMl, hab⟩ := hrel
    obtain ⟨wo, rfl⟩ : ∃ x : World, x = wr := ⟨wr, rfl⟩
    have END : ∀ (W : World), OwnSegs W w.heap.size H u5 M → H ≤ W.heap.size → Below w.heap.size w W → begL ((L.drop j).map Sg.abs) n = [] → ∃ A0 c0, u5 = .slice A0 M.length c0 ∧ RetOwn w (begL (L.map Sg.abs) N) (.returned (.slice A0 M.length c0)) W := by
      intro W h1 h2 h3 h4
      obtain ⟨A0, c0, e, _, _⟩ := h1.form
      refine ⟨A0, c0, e, M, H, A0, c0, rfl, ?_, by rw [← e]; exact h1, h2, h3⟩
      rw [← hab.out, h4, List.append_nil]
    by_cases hlt : j < L.length
    · obtain ⟨s, hs⟩ : ∃ s, L[j]? = some s := ⟨_, List.getElem?_eq_getElem hlt⟩
      obtain ⟨b, off, rfl, hb2, k1, k2, hok⟩ := (HL.out.below hbr (Nat.le_refl _)).at hs
      have hkd := hk.out s (List.mem_of_getElem? hs)
      have hjb : (j : Int) ≤ 8 := by omega
      have hi0 : (0 : Int) ≤ (j : Int) := by omega
      have hi1 : (j : Int) < (L.length : Int) := by omega
      have hbA := (Below.refl wo.heap.size wo).alloc (Nat.le_refl _) (.cells #[.int .i64 s.kind, .slice s.adr s.nums.length s.cap] 87)
      by_cases hn : n = 0
      · have hnz : ((n : Int) == 0) = true := by subst hn; rfl
        obtain ⟨A0, c0, e0, hR⟩ := END _ (hown.below hbA) (by simp; omega) (hbr.trans (hbA.mono hbr.size)) (by rw [hn, begL_zero])
        have HR := Lib.hid hR
        subst e0
        clear hok hown hab hs hlt hkd hbA hbr END hR hn
        go_wp2_with fail
        go_ret
        exact HR.out
      · have hnz : ((n : Int) == 0) = false := by simpa using hn
        have hdr := drop_seg hs
        have hab2 := hab.out
        rw [hdr] at hab2
        simp only [begL] at hab2
        rw [if_neg hn] at hab2
        by_cases hs2 : s.kind = 2
        · have es : (s.kind == 2) = true := by simpa using hs2
          have cb := cells2 (Blk.new wo 87 [.int .i64 s.kind, .slice s.adr s.nums.length s.cap])
          have fb := free2 (Blk.new wo 87 [.int .i64 s.kind, .slice s.adr s.nums.length s.cap])
          have hnb : (n : Int) ≤ 1000000000 := by omega
          have hsl := hkd.2
          obtain ⟨m, hm⟩ : ∃ m, m = min n s.nums.length := ⟨_, rfl⟩
          have hmI : min (n : Int) (s.nums.length : Int) = (m : Int) := by omega
          have hcp := hok.1
          have hm0 : (0 : Int) ≤ (m : Int) := by omega
          have hm1 : (m : Int) ≤ (s.cap : Int) := by omega
          have hadd : (if s.cap = 0 then s.adr else Option.map (fun x => x.add 0) s.adr) = s.adr := by
            split
            · rfl
            · cases s.adr <;> simp [Addr.add]
          have HN0 := hab2
          rw [if_pos (show s.abs.1 = 2 from hs2)] at HN0
          obtain ⟨z, hz⟩ : ∃ z, z = s.nums.take n := ⟨_, rfl⟩
          have hzl : min n s.nums.length = z.length := by rw [hz, List.length_take]
          have HN := Lib.hid (show M.map Sg.abs ++ ((s.kind, z) :: begL ((L.drop (j + 1)).map Sg.abs) (n - s.nums.length)) = begL (L.map Sg.abs) N by rw [hz, hs2]; exact HN0)
          have HWT := Lib.hid (show wt ⟨s.kind, s.adr, s.cap, z⟩ = z.length by unfold wt; rw [if_neg (by show ¬ s.kind = 1; omega)])
          have HOKS := Lib.hid (show Sg.Ok wo w.heap.size ⟨s.kind, s.adr, s.cap, z⟩ from ⟨by show z.length ≤ s.cap; omega, hok.2.1, by rw [hz]; exact hok.2.2.1.take n, fun x hx => hok.2.2.2.1 x (by rw [hz] at hx; exact List.mem_of_mem_take hx), hok.2.2.2.2⟩)
          have HZL := Lib.hid (show z.length ≤ 64 by omega)
          have HZM := Lib.hid (show z.length = min n s.nums.length from hzl.symm)
          have HOW := Lib.hid hown; have HBR := Lib.hid hbr; have HML := Lib.hid hMl; have HLT := Lib.hid hlt
          have HZE := Lib.hid hzl
          clear END hs2 hok hown hbr hMl hlt hbA hab hab2 hdr HN0 hs hn hkd hzl hz
          by_cases hmin : s.nums.length < n
          · have hminI : (s.nums.length : Int) < (n : Int) := by omega
            have hZ := Lib.hid (show Value.slice s.adr s.nums.length s.cap = Value.slice s.adr z.length s.cap by have := HZE.out; rw [show s.nums.length = z.length by omega])
            go_wp2_with fail
            first | (rw [HZE.out]; try rw [hZ.out]) | rw [hZ.out]
            clear hm hmI hm0 hm1 hadd hcp cb fb
            have HBK := Lib.hid (Blk.new wo 87 [.int .i64 s.kind, .slice s.adr z.length s.cap])
            have HBA := Lib.hid ((Below.refl wo.heap.size wo).alloc (Nat.le_refl _) (.cells #[.int .i64 s.kind, .slice s.adr z.length s.cap] 87))
            have QW := weight_any ⟨s.kind, s.adr, s.cap, z⟩ (wo.alloc (.cells #[.int .i64 s.kind, .slice s.adr z.length s.cap] 87))
            rw [show wt ⟨s.kind, s.adr, s.cap, z⟩ = z.length from HWT.out] at QW
            refine QW.mono ?_
            rintro e w2 ⟨rfl, hb2'⟩
            have hbA2 : Below wo.heap.size wo w2 := HBA.out.trans (hb2'.mono HBA.out.size)
            have cb2 := cells2 (HBK.out.below hb2' HBK.out.lt)
            have QO := own_any ⟨s.kind, s.adr, s.cap, z⟩ w2 ((HOKS.out.below hbA2 HBR.out.size).lift (Nat.le_trans HBR.out.size hbA2.size)) (by have := HZL.out; show z.length ≤ 1000000000; omega)
            have HS2 := Lib.hid (HOW.out.below hbA2)
            have HB2 := Lib.hid hbA2
            clear QW hb2' hbA2
            go_wp2_with fail
            refine QO.mono ?_
            rintro e w3 ⟨A2, c2, rfl, f1, f2, ho2, hb3⟩
            have HS3 := Lib.hid (HS2.out.below hb3)
            have HO3 := Lib.hid (show Own32 w3 w2.heap.size (Sg.sl ⟨s.kind, A2, c2, z⟩) z from ho2)
            have HBW := Lib.hid (HBR.out.trans ((HB2.out.trans (hb3.mono HB2.out.size)).mono HBR.out.size))
            have HZ3 := Lib.hid hb3.size
            have hml : M.length ≤ 8 := by have := HML.out; omega
            clear QO ho2 hb3 cb2
            go_wp2_with (at_builtin; refine wpList_app_one' isSeg rfl (.tmp 32) (.tmp 35) rfl w.heap.size _ _ _ rfl w3 (Sg.two ⟨s.kind, A2, c2, z⟩) rfl HS3.out.row rfl rfl (two_one _) (by omega) HBW.out.size ?_)
            intro v4 w4 hown4 hg4
            have HP := Lib.hid (OwnSegs.push (s := ⟨s.kind, A2, c2, z⟩) HS3.out HO3.out (Nat.le_trans HBR.out.size HB2.out.size) (fun x hx q hq => HS2.out.blocks x hx q hq) ⟨HOKS.out.2.2.2.1, HOKS.out.2.2.2.2⟩ hown4 hg4)
            have HB4 := Lib.hid (HBW.out.grown hg4 HBW.out.size (fun q hq => (World.ownsRow.lt HS3.out.row q hq).1))
            have HH4 := Lib.hid (Nat.le_trans HZ3.out hg4.size)
            clear hown4 hg4
            go_wp2_with fail
            go_roundw
            case rel =>
              refine ⟨HB4.out, _, _, j + 1, n - s.nums.length, HLT.out, by go_num, ?_, by omega, HP.out, Nat.le_trans HBR.out.size HB2.out.size, HH4.out, ?_, Lib.hid ?_⟩
              · have h9 := HZM.out
                have e9 : wrap64 ((n : Int) - (z.length : Int)) = ((n - s.nums.length : Nat) : Int) := by
                  rw [IntWalk.wrap64_in _ ⟨by omega, by omega⟩]
                  omega
                exact congrArg (Value.int .i64) e9
              · rw [List.length_append]
                have := HML.out
                simp only [List.length_cons, List.length_nil]
                omega
              · rw [List.map_append, List.append_assoc]
                exact HN.out
            case measure =>
              have := HLT.out
              simp [intOf]
              omega
          · have hminI : ¬ (s.nums.length : Int) < (n : Int) := by omega
            have hZ := Lib.hid (show Value.slice s.adr n s.cap = Value.slice s.adr z.length s.cap by have := HZE.out; rw [show n = z.length by omega])
            go_wp2_with fail
            first | (rw [HZE.out]; try rw [hZ.out]) | rw [hZ.out]
            clear hm hmI hm0 hm1 hadd hcp cb fb
            have HBK := Lib.hid (Blk.new wo 87 [.int .i64 s.kind, .slice s.adr z.length s.cap])
            have HBA := Lib.hid ((Below.refl wo.heap.size wo).alloc (Nat.le_refl _) (.cells #[.int .i64 s.kind, .slice s.adr z.length s.cap] 87))
            have QW := weight_any ⟨s.kind, s.adr, s.cap, z⟩ (wo.alloc (.cells #[.int .i64 s.kind, .slice s.adr z.length s.cap] 87))
            rw [show wt ⟨s.kind, s.adr, s.cap, z⟩ = z.length from HWT.out] at QW
            refine QW.mono ?_
            rintro e w2 ⟨rfl, hb2'⟩
            have hbA2 : Below wo.heap.size wo w2 := HBA.out.trans (hb2'.mono HBA.out.size)
            have cb2 := cells2 (HBK.out.below hb2' HBK.out.lt)
            have QO := own_any ⟨s.kind, s.adr, s.cap, z⟩ w2 ((HOKS.out.below hbA2 HBR.out.size).lift (Nat.le_trans HBR.out.size hbA2.size)) (by have := HZL.out; show z.length ≤ 1000000000; omega)
            have HS2 := Lib.hid (HOW.out.below hbA2)
            have HB2 := Lib.hid hbA2
            clear QW hb2' hbA2
            go_wp2_with fail
            refine QO.mono ?_
            rintro e w3 ⟨A2, c2, rfl, f1, f2, ho2, hb3⟩
            have HS3 := Lib.hid (HS2.out.below hb3)
            have HO3 := Lib.hid (show Own32 w3 w2.heap.size (Sg.sl ⟨s.kind, A2, c2, z⟩) z from ho2)
            have HBW := Lib.hid (HBR.out.trans ((HB2.out.trans (hb3.mono HB2.out.size)).mono HBR.out.size))
            have HZ3 := Lib.hid hb3.size
            have hml : M.length ≤ 8 := by have := HML.out; omega
            clear QO ho2 hb3 cb2
            go_wp2_with (at_builtin; refine wpList_app_one' isSeg rfl (.tmp 32) (.tmp 35) rfl w.heap.size _ _ _ rfl w3 (Sg.two ⟨s.kind, A2, c2, z⟩) rfl HS3.out.row rfl rfl (two_one _) (by omega) HBW.out.size ?_)
            intro v4 w4 hown4 hg4
            have HP := Lib.hid (OwnSegs.push (s := ⟨s.kind, A2, c2, z⟩) HS3.out HO3.out (Nat.le_trans HBR.out.size HB2.out.size) (fun x hx q hq => HS2.out.blocks x hx q hq) ⟨HOKS.out.2.2.2.1, HOKS.out.2.2.2.2⟩ hown4 hg4)
            have HB4 := Lib.hid (HBW.out.grown hg4 HBW.out.size (fun q hq => (World.ownsRow.lt HS3.out.row q hq).1))
            have HH4 := Lib.hid (Nat.le_trans HZ3.out hg4.size)
            clear hown4 hg4
            go_wp2_with fail
            go_roundw
            case rel =>
              refine ⟨HB4.out, _, _, j + 1, n - s.nums.length, HLT.out, by go_num, ?_, by omega, HP.out, Nat.le_trans HBR.out.size HB2.out.size, HH4.out, ?_, Lib.hid ?_⟩
              · have h9 := HZM.out
                have e9 : wrap64 ((n : Int) - (z.length : Int)) = ((n - s.nums.length : Nat) : Int) := by
                  rw [IntWalk.wrap64_in _ ⟨by omega, by omega⟩]
                  omega
                exact congrArg (Value.int .i64) e9
              · rw [List.length_append]
                have := HML.out
                simp only [List.length_cons, List.length_nil]
                omega
              · rw [List.map_append, List.append_assoc]
                exact HN.out
            case measure =>
              have := HLT.out
              simp [intOf]
              omega
        · have es : (s.kind == 2) = false := by simpa using hs2
          have hs1 : s.kind = 1 := by rcases hkd.1 with h | h; exact h; exact absurd h hs2
          have cb := cells2 (Blk.new wo 87 [.int .i64 s.kind, .slice s.adr s.nums.length s.cap])
          have hnb : (n : Int) ≤ 1000000000 := by omega
          have HN0 := hab2
          rw [if_neg (show ¬ s.abs.1 = 2 from hs2)] at HN0
          obtain ⟨z, hz⟩ : ∃ z, z = s.nums := ⟨_, rfl⟩
          have HN := Lib.hid (show M.map Sg.abs ++ ((s.kind, z) :: begL ((L.drop (j + 1)).map Sg.abs) (n - 1)) = begL (L.map Sg.abs) N by rw [hz]; exact HN0)
          have HWT := Lib.hid (show wt ⟨s.kind, s.adr, s.cap, z⟩ = 1 by unfold wt; rw [if_pos hs1])
          have HOKS := Lib.hid (show Sg.Ok wo w.heap.size ⟨s.kind, s.adr, s.cap, z⟩ by rw [hz]; exact hok)
          have HZL := Lib.hid (show z.length ≤ 64 by rw [hz]; exact hkd.2)
          have HOW := Lib.hid hown; have HBR := Lib.hid hbr; have HML := Lib.hid hMl; have HLT := Lib.hid hlt
          have hn1 : 1 ≤ n := by omega
          have HZE := Lib.hid (show s.nums.length = z.length by rw [hz])
          clear END hs2 hok hown hbr hMl hlt hbA hab hab2 hdr HN0 hs hn hkd hs1 hz
          go_wp2_with fail
          rw [HZE.out]
          clear cb
          have HBK := Lib.hid (Blk.new wo 87 [.int .i64 s.kind, .slice s.adr z.length s.cap])
          have HBA := Lib.hid ((Below.refl wo.heap.size wo).alloc (Nat.le_refl _) (.cells #[.int .i64 s.kind, .slice s.adr z.length s.cap] 87))
          have QW := weight_any ⟨s.kind, s.adr, s.cap, z⟩ (wo.alloc (.cells #[.int .i64 s.kind, .slice s.adr z.length s.cap] 87))
          rw [show wt ⟨s.kind, s.adr, s.cap, z⟩ = 1 from HWT.out] at QW
          refine QW.mono ?_
          rintro e w2 ⟨rfl, hb2'⟩
          have hbA2 : Below wo.heap.size wo w2 := HBA.out.trans (hb2'.mono HBA.out.size)
          have cb2 := cells2 (HBK.out.below hb2' HBK.out.lt)
          have QO := own_any ⟨s.kind, s.adr, s.cap, z⟩ w2 ((HOKS.out.below hbA2 HBR.out.size).lift (Nat.le_trans HBR.out.size hbA2.size)) (by have := HZL.out; show z.length ≤ 1000000000; omega)
          have HS2 := Lib.hid (HOW.out.below hbA2)
          have HB2 := Lib.hid hbA2
          clear QW hb2' hbA2
          go_wp2_with fail
          refine QO.mono ?_
          rintro e w3 ⟨A2, c2, rfl, f1, f2, ho2, hb3⟩
          have HS3 := Lib.hid (HS2.out.below hb3)
          have HO3 := Lib.hid (show Own32 w3 w2.heap.size (Sg.sl ⟨s.kind, A2, c2, z⟩) z from ho2)
          have HBW := Lib.hid (HBR.out.trans ((HB2.out.trans (hb3.mono HB2.out.size)).mono HBR.out.size))
          have HZ3 := Lib.hid hb3.size
          have hml : M.length ≤ 8 := by have := HML.out; omega
          clear QO ho2 hb3 cb2
          go_wp2_with (at_builtin; refine wpList_app_one' isSeg rfl (.tmp 32) (.tmp 35) rfl w.heap.size _ _ _ rfl w3 (Sg.two ⟨s.kind, A2, c2, z⟩) rfl HS3.out.row rfl rfl (two_one _) (by omega) HBW.out.size ?_)
          intro v4 w4 hown4 hg4
          have HP := Lib.hid (OwnSegs.push (s := ⟨s.kind, A2, c2, z⟩) HS3.out HO3.out (Nat.le_trans HBR.out.size HB2.out.size) (fun x hx q hq => HS2.out.blocks x hx q hq) ⟨HOKS.out.2.2.2.1, HOKS.out.2.2.2.2⟩ hown4 hg4)
          have HB4 := Lib.hid (HBW.out.grown hg4 HBW.out.size (fun q hq => (World.ownsRow.lt HS3.out.row q hq).1))
          have HH4 := Lib.hid (Nat.le_trans HZ3.out hg4.size)
          clear hown4 hg4
          go_wp2_with fail
          go_roundw
          case rel =>
            refine ⟨HB4.out, _, _, j + 1, n - 1, HLT.out, by go_num, ?_, by omega, HP.out, Nat.le_trans HBR.out.size HB2.out.size, HH4.out, ?_, Lib.hid ?_⟩
            · first | (congr 1; omega) | (go_num; omega) | go_num
            · rw [List.length_append]
              have := HML.out
              simp only [List.length_cons, List.length_nil]
              omega
            · rw [List.map_append, List.append_assoc]
              exact HN.out
          case measure =>
            have := HLT.out
            simp [intOf]
            omega
    · obtain rfl : j = L.length := by omega
      obtain ⟨A0, c0, e0, hR⟩ := END _ hown hH2 hbr (by rw [List.drop_length]; rfl)
      have HR := Lib.hid hR
      subst e0
      have hlI : ¬ (L.length : Int) < (L.length : Int) := by omega
      clear hown hab END hbr hR
      go_wp2_with fail
      go_ret
      exact HR.out
end Go.Proofs.YtkpbldhkoobnaaaDoor
