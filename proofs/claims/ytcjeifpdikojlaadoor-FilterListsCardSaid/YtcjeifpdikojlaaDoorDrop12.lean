/-
  Communities without one: the library's own contract of slices.DeleteFunc, at this program's numbers.
-/
import Derived.Test.YtcjeifpdikojlaaDoorLists12A
import Derived.Shelf.SlicesE.DeleteFunc
import Derived.Lib.OwnBridge
import Derived.Lib.SliceRun
namespace Go.Proofs.YtcjeifpdikojlaaDoor
set_option linter.unusedVariables false
set_option linter.unusedSimpArgs false
open Go.Shelf Go.RowKit Go.Lib Go.Sort

def rhoD : Ren := ⟨fun n => if n = 6 then 58 else 39, fun n => if n = 0 then 0 else if n = 3 then 3 else if n = 4 then 4 else if n = 22 then 28 else if n = 23 then 22 else 56, fun n => n⟩
theorem laysD : SlLaysH.n10 Tryd.prog rhoD where
  mixed := by kernel_rfl
  f6 := ⟨"slices.IndexFunc[[]uint32,uint32]", by decide, Tryd.func58.trans (congrArg some (by kernel_rfl))⟩
  f10 := ⟨"slices.DeleteFunc[[]uint32,uint32]", by decide, Tryd.func39.trans (congrArg some (by kernel_rfl))⟩
  t0 := by kernel_rfl
  a0 := fun _ => by kernel_rfl
  z0 := fun _ => by kernel_rfl
  v0 := fun _ => by kernel_rfl
  t3 := by kernel_rfl
  a3 := fun _ => by kernel_rfl
  z3 := fun _ => by kernel_rfl
  v3 := fun _ => by kernel_rfl
  t4 := by kernel_rfl
  a4 := fun _ => by kernel_rfl
  z4 := fun _ => by kernel_rfl
  v4 := fun _ => by kernel_rfl
  t22 := by kernel_rfl
  a22 := fun _ => by kernel_rfl
  z22 := fun _ => by kernel_rfl
  v22 := fun _ => by kernel_rfl
  a23 := fun _ => by kernel_rfl
  z23 := fun _ => by kernel_rfl
  t25 := by kernel_rfl
  a25 := fun _ => by kernel_rfl
  z25 := fun _ => by kernel_rfl
  v25 := fun _ => by kernel_rfl

/-- A number as a value. -/
def encN (n : Nat) : Value := .int .u32 (n : Int)
/-- Numbers without one. -/
def dropC (l : List Nat) (c : Nat) : List Nat := l.filter fun x => !(x == c)

theorem dropOne_any (c x B : Nat) (W : World) (hc : W.cell? ⟨B, 0, none⟩ = some (.int .u32 (c : Int))) :
    FnGives Tryd.prog 40 #[.pointer (some ⟨B, 0, none⟩)] #[encN x] (.bool (x == c)) W := by
  show Calls Tryd.prog 40 #[.int .u32 (x : Int), .pointer (some ⟨B, 0, none⟩)] W _
  by_cases h : x = c
  · subst h
    go_enter Tryd.func40, Tryd.ntmps40
    go_wp2
    go_ret
    exact ⟨by simp, 0, rfl⟩
  · have h2 : ((x : Int) == (c : Int)) = false := by simp; omega
    have h3 := Lib.hid (show (x == c) = false by simpa using h)
    clear h
    go_enter Tryd.func40, Tryd.ntmps40
    go_wp2
    go_ret
    exact ⟨by rw [h3.out]; rfl, 0, rfl⟩
theorem dropAt (c B : Nat) (w : World) (hB : B < w.heap.size) (hcell : w.cell? ⟨B, 0, none⟩ = some (.int .u32 (c : Int))) :
    PredAt Tryd.prog 40 #[.pointer (some ⟨B, 0, none⟩)] encN (fun x => x == c) w :=
  fun W x hb => dropOne_any c x B W ((hb.cell (p := ⟨B, 0, none⟩) hB).trans hcell)
theorem dropOver (c B blk off size : Nat) (w : World) (hB : B < w.heap.size) (hne : B ≠ blk) (hcell : w.cell? ⟨B, 0, none⟩ = some (.int .u32 (c : Int))) :
    PredOver Tryd.prog 40 #[.pointer (some ⟨B, 0, none⟩)] encN (fun x => x == c) blk off size w :=
  fun n os dk x _ => dropOne_any c x B _ (by
    unfold sortWorld
    rw [cell?_grow _ _ _ (by show B < (putRow _ _ _ _ _).heap.size; rw [size_putRow]; exact hB), cell?_putRow_other _ _ blk off _ _ (Or.inl hne)]
    exact hcell)
theorem dropEnters : ∀ args w, (callFunc 40 args).run Tryd.prog w = .ok (.enter 40 args) w := enters_of Tryd.func40 (by kernel_rfl) rfl

set_option maxHeartbeats 1600000 in
theorem IndexNone_any (A : Option Addr) (c g : Nat) (w : World) :
    Calls Tryd.prog 58 #[.slice A 0 c, .func (.func 40) #[] #[.pointer (some ⟨g, 0, none⟩)]] w fun e w' => e = .returned (.int .i64 (-1)) ∧ w = w' := by
  go_enter Tryd.func58, Tryd.ntmps58
  go_wp2_with fail
  go_loop [8] (fun i => i = .int .i64 0) (fun _ => 0)
  case atStart => rfl
  case round =>
    obtain rfl := hrel
    go_wp2_with fail
    go_ret
    exact ⟨rfl, rfl⟩
set_option maxHeartbeats 1600000 in
theorem DeleteNone_any (A : Option Addr) (c g : Nat) (w : World) :
    Calls Tryd.prog 39 #[.slice A 0 c, .func (.func 40) #[] #[.pointer (some ⟨g, 0, none⟩)]] w fun e w' => e = .returned (.slice A 0 c) ∧ w = w' := by
  have Q := Lib.hid (IndexNone_any A c g w)
  go_enter Tryd.func39, Tryd.ntmps39
  go_wp2_with fail
  refine Q.out.mono ?_
  rintro e w1 ⟨rfl, rfl⟩
  go_wp2_with fail
  go_ret
  exact ⟨rfl, rfl⟩

/-- slices.DeleteFunc on a row of the call's own. -/
theorem Delete32_any (base : Nat) (A : Option Addr) (cp : Nat) (z : List Nat) (c g : Nat) (w : World) (h : Own32 w base (.slice A z.length cp) z) (hg : w.cell? ⟨g, 0, none⟩ = some (.int .u32 (c : Int))) (hgl : g < w.heap.size) (hgb : g < base) (hl : z.length ≤ 1000000) (hcp : z.length ≤ cp ∧ cp ≤ maxLen) :
    Calls Tryd.prog 39 #[.slice A z.length cp, .func (.func 40) #[] #[.pointer (some ⟨g, 0, none⟩)]] w fun e w' =>
      e = .returned (.slice A (dropC z c).length cp) ∧ (dropC z c).length ≤ cp ∧ At32 w' w'.heap.size A (dropC z c) ∧ Below base w w' := by
  by_cases hz : z = []
  · subst hz
    refine (DeleteNone_any A cp g w).mono ?_
    rintro e w' ⟨rfl, rfl⟩
    exact ⟨rfl, Nat.zero_le _, At32.nil _ _ _, Below.refl _ _⟩
  · have hv : (.slice A z.length cp : Value) ≠ .slice none 0 0 := by
      intro e
      injection e with e1 e2 e3
      exact hz (List.eq_nil_of_length_eq_zero e2)
    have h' : w.ownsRow base 22 1 (.slice A z.length cp) z.length (z.map encN) := h
    obtain ⟨b, cap, hve, hbb, hbl, hnc, hcm, _, hH⟩ := Lib.holds_of_ownsRow h' hv
    injection hve with e1 e2 e3
    subst e1 e3
    have hcon := AnyE.slices_DeleteFunc laysD encN (fun _ => rfl) (fun x => x == c) 40 #[.pointer (some ⟨g, 0, none⟩)] dropEnters 0 (fun _ => by kernel_rfl) b 0 cp z.toArray w
      (dropAt c g w hgl hg) (dropOver c g b 0 z.toArray.size w hgl (by omega) hg) hH (by simp; omega) (by simpa using hcp.1)
    refine Calls.mono (show Calls Tryd.prog 39 _ w _ from hcon) ?_
    rintro e w' ⟨rfl, q, rfl⟩
    have hle : (dropC z c).length ≤ z.length := List.length_filter_le _ _
    have hys : (dropC z c ++ List.replicate (z.length - (dropC z c).length) 0).length = z.length := by simp; omega
    have hown := Lib.ownsRow_putRow (q := q) (k := (dropC z c).length) h' hys hle
    have ht : (dropC z c ++ List.replicate (z.length - (dropC z c).length) 0).take (dropC z c).length = dropC z c := by rw [List.take_left]
    rw [ht] at hown
    have hown2 : Own32 (putRow encN (Sort.ahead w q) b 0 (dropC z c ++ List.replicate (z.length - (dropC z c).length) 0).toArray) base (.slice (some ⟨b, 0, none⟩) (dropC z c).length cp) (dropC z c) := hown
    exact ⟨rfl, by omega, hown2.at, Lib.below_putRow (Below.refl _ _) hbb⟩

set_option maxHeartbeats 1600000 in
theorem Drop12_any (A : Option Addr) (cp : Nat) (z : List Nat) (c : Nat) (w : World) (h : At32 w w.heap.size A z) (hl : z.length ≤ 1000000) :
    Calls Tryd.prog 16 #[.slice A z.length cp, .int .u32 (c : Int)] w (RetAt w (dropC z c)) := by
  have hba := (Below.refl w.heap.size w).alloc (Nat.le_refl _) (.cells #[.int .u32 (c : Int)] 22)
  have kB := Blk.new w 22 [.int .u32 (c : Int)]
  have eB : (w.alloc (.cells #[.int .u32 (c : Int)] 22)).heap.size = w.heap.size + 1 := by simp
  have QC := Lib.hid (Clone32_any A z.length cp z rfl (w.alloc (.cells #[.int .u32 (c : Int)] 22)) ((h.below hba (Nat.le_refl _)).lift hba.size) (by omega))
  have HB := Lib.hid hba
  have KB := Lib.hid kB
  clear h hba kB
  go_enter Tryd.func16, Tryd.ntmps16
  go_wp2_with fail
  refine QC.out.mono ?_
  intro e w1 hr
  obtain ⟨A1, c1, rfl, f1, f2, f3, f4⟩ := hr
  have hk := (KB.out.below f4 (by simp)).cell 0
  have QD := Lib.hid (Delete32_any _ A1 c1 z c w.heap.size w1 f3 hk (by have := f4.size; rw [eB] at this; omega) (by rw [eB]; omega) hl ⟨f1, f2⟩)
  have F4 := Lib.hid f4
  have F2 := Lib.hid f2
  clear f1 f2 f3 f4 hk eB
  go_wp2_with fail
  refine QD.out.mono ?_
  rintro e w2 ⟨rfl, g1, g2, g3⟩
  have G := Lib.hid (And.intro g1 (And.intro g2 g3))
  clear g1 g2 g3
  go_wp2_with fail
  go_ret
  refine ⟨A1, c1, rfl, G.out.1, F2.out, G.out.2.1, ?_⟩
  exact HB.out.trans ((F4.out.trans G.out.2.2).mono (by simp))

theorem dropC_step (z : List Nat) (c j : Nat) (hj : j < z.length) : dropC (z.take (j + 1)) c = if z.getD j 0 = c then dropC (z.take j) c else dropC (z.take j) c ++ [z.getD j 0] := by
  have e : z.getD j 0 = z[j] := by simp [List.getD, hj]
  rw [e, List.take_succ_eq_append_getElem hj]
  unfold dropC
  rw [List.filter_append]
  by_cases h : z[j] = c
  · rw [if_pos h]
    simp [h]
  · rw [if_neg h]
    simp [h]
def DropRel (w : World) (z : List Nat) (c : Nat) (v i : Value) (wr : World) : Prop := Below w.heap.size w wr ∧ ∃ j : Nat, j ≤ z.length ∧ i = .int .i64 (j : Int) ∧ Own32 wr w.heap.size v (dropC (z.take j) c)
theorem dropC_len (z : List Nat) (c j : Nat) : (dropC (z.take j) c).length ≤ z.length := Nat.le_trans (List.length_filter_le _ _) (by simp; omega)

set_option maxHeartbeats 1600000 in
theorem RefDrop12_any (A : Option Addr) (cp : Nat) (z : List Nat) (c : Nat) (w : World) (h : At32 w w.heap.size A z) (hl : z.length ≤ 1000000) :
    Calls Tryd.prog 17 #[.slice A z.length cp, .int .u32 (c : Int)] w (RetAt w (dropC z c)) := by
  have HS := Lib.hid h; clear h
  go_enter Tryd.func17, Tryd.ntmps17
  go_wp2_with fail
  go_loopw [5, 6] (fun v i wr => DropRel w z c v i wr) (fun _ i _ => z.length - (intOf i).toNat)
  case atStart => exact ⟨Below.refl _ _, 0, Nat.zero_le _, rfl, Own32.nil _ _⟩
  case round =>
    obtain ⟨hbr, j, hj, rfl, hown⟩ := hrel
    obtain ⟨A1, c1, hv1, g1, g2⟩ := hown.form
    subst hv1
    by_cases hlt : j < z.length
    · obtain ⟨b, off, rfl, hb, k1⟩ := (HS.out.below hbr (Nat.le_refl _)).cell hlt
      have HST := Lib.hid (dropC_step z c j hlt)
      have HSZ := Lib.hid (show ((dropC (z.take j) c).length + 1) * 4 ≤ 140737488355328 by have := dropC_len z c j; omega)
      have HO := Lib.hid hown; have HBR := Lib.hid hbr; have HJ := Lib.hid hlt
      obtain ⟨x, hx⟩ : ∃ x, x = z.getD j 0 := ⟨_, rfl⟩
      rw [← hx] at k1 HST
      clear hx hown hbr g1 g2
      obtain ⟨D, hD⟩ : ∃ D, D = dropC (z.take j) c := ⟨_, rfl⟩
      rw [← hD] at HO HSZ HST ⊢
      clear hD
      by_cases he : x = c
      · have HN := Lib.hid (show dropC (z.take (j + 1)) c = D by rw [HST.out, if_pos he])
        have h2 : ((x : Int) != (c : Int)) = false := by simp; omega
        clear he HST
        go_wp2_with fail
        go_roundw
        case rel => exact ⟨HBR.out, j + 1, by omega, by go_num, by rw [HN.out]; exact HO.out⟩
        case measure => have := HJ.out; simp [intOf]; omega
      · have HN := Lib.hid (show dropC (z.take (j + 1)) c = D ++ [x] by rw [HST.out, if_neg he])
        have h2 : ((x : Int) != (c : Int)) = true := by simp; omega
        clear he HST
        go_wp2_with (at_builtin; refine wpList_app_one isU32 rfl (.tmp 19) (.tmp 24) rfl w _ D.length (cells32 D) rfl wr [.int .u32 (x : Int)] rfl HO.out rfl rfl (by simp [Value.oneCell']) HSZ.out HBR.out ?_)
        intro v2 w2 hown2 _ hb2
        have O2 := Lib.hid (show Own32 w2 w.heap.size v2 (dropC (z.take (j + 1)) c) from by
          rw [HN.out]
          unfold Own32 cells32 at *
          rw [List.length_append, List.map_append]
          exact hown2)
        have HB2 := Lib.hid hb2
        clear hown2 hb2
        go_wp2_with fail
        go_roundw
        case rel => exact ⟨HB2.out, j + 1, by omega, by go_num, O2.out⟩
        case measure => have := HJ.out; simp [intOf]; omega
    · obtain rfl : j = z.length := by omega
      rw [List.take_length] at hown g1
      have HAT := Lib.hid hown; have HBR := Lib.hid hbr
      have G1 := Lib.hid g1
      clear hown hbr g1
      simp only [List.take_length]
      go_wp2_with fail
      go_ret
      exact ⟨_, _, rfl, G1.out, g2, HAT.out.at, HBR.out⟩
end Go.Proofs.YtcjeifpdikojlaaDoor
