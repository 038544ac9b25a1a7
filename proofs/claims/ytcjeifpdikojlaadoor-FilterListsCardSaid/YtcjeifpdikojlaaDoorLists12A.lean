/-
  Communities: whether some are all there; one more (written by gen12l.py).
-/
import Derived.Test.YtcjeifpdikojlaaDoorHas
import Derived.Test.YtcjeifpdikojlaaDoorConcat32
namespace Go.Proofs.YtcjeifpdikojlaaDoor
set_option linter.unusedVariables false
set_option linter.unusedSimpArgs false
open Go.RowKit

/-- A row of numbers that a call leaves. -/
def RetAt (w : World) (z : List Nat) (e : Ending) (w' : World) : Prop := ∃ A c, e = .returned (.slice A z.length c) ∧ z.length ≤ c ∧ c ≤ maxLen ∧ At32 w' w'.heap.size A z ∧ Below w.heap.size w w'
theorem RetAt.of {w w' : World} {z : List Nat} {e : Ending} (h : Ret32 w z e w') : RetAt w z e w' := by
  obtain ⟨A, c, h1, h2, h3, h4, h5⟩ := h
  exact ⟨A, c, h1, h2, h3, h4.at, h5⟩
/-- Numbers with one more. -/
def addC (l : List Nat) (c : Nat) : List Nat := if 32 ≤ l.length ∨ inB l c = true then l else l ++ [c]
/-- Are all of some there? -/
def allB (have' want : List Nat) : Bool := !want.any fun x => !inB have' x
theorem inB_mem {z : List Nat} {v : Nat} : inB z v = true ↔ v ∈ z := by
  unfold inB
  simp
theorem allB_self (l : List Nat) : allB l l = true := by
  unfold allB
  simp only [Bool.not_eq_true', List.any_eq_false, Bool.not_eq_true', Bool.not_eq_false]
  intro x hx
  simpa using inB_mem.2 hx

set_option maxHeartbeats 1600000 in
theorem RefHas_any (A : Option Addr) (c : Nat) (z : List Nat) (v : Nat) (w : World) (h : At32 w w.heap.size A z) (hl : z.length ≤ 1152921504606846976) :
    Calls Tryd.prog 38 #[.slice A z.length c, .int .u32 (v : Int)] w fun e w' => e = .returned (.bool (inB z v)) ∧ w = w' := by
  have HS := Lib.hid h; clear h
  go_enter Tryd.func38, Tryd.ntmps38
  go_wp2_with fail
  go_loop [5] (fun i => ∃ j : Nat, j ≤ z.length ∧ i = .int .i64 (j : Int) ∧ Hid (inB (z.take j) v = false)) (fun i => z.length - (intOf i).toNat)
  case atStart => exact ⟨0, Nat.zero_le _, rfl, Lib.hid (by simp [inB])⟩
  case round =>
    obtain ⟨j, hj, rfl, hno⟩ := hrel
    by_cases hlt : j < z.length
    · obtain ⟨b, off, rfl, hb, k1⟩ := HS.out.cell hlt
      by_cases he : v = z.getD j 0
      · have HN := Lib.hid (has_now hlt he)
        obtain ⟨x, hx⟩ : ∃ x, x = z.getD j 0 := ⟨_, rfl⟩
        rw [← hx] at k1 he
        subst he
        clear hx
        go_wp2_with fail
        go_ret
        exact ⟨by rw [HN.out]; rfl, rfl⟩
      · have HN := Lib.hid (has_step hlt hno.out he)
        obtain ⟨x, hx⟩ : ∃ x, x = z.getD j 0 := ⟨_, rfl⟩
        rw [← hx] at k1 he
        have hk1 : ((x : Int) == (v : Int)) = false := by simp; omega
        clear hx he
        go_wp2_with fail
        go_round
        case rel => exact ⟨j + 1, by omega, by go_num, HN⟩
        case measure => simp [intOf]; omega
    · obtain rfl : j = z.length := by omega
      go_wp2_with fail
      go_ret
      exact ⟨by have := hno.out; rw [List.take_length] at this; rw [this]; rfl, rfl⟩

/-- A row of numbers whose slice stands in a box. -/
def SBox (w : World) (g : Nat) (A : Option Addr) (c : Nat) (z : List Nat) : Prop := w.cell? ⟨g, 0, none⟩ = some (.slice A z.length c) ∧ g < w.heap.size ∧ At32 w w.heap.size A z

set_option maxHeartbeats 1600000 in
theorem All1_any (x g : Nat) (A : Option Addr) (c : Nat) (z : List Nat) (w : World) (h : SBox w g A c z) (hl : z.length ≤ 1152921504606846976) :
    Calls Tryd.prog 42 #[.int .u32 (x : Int), .pointer (some ⟨g, 0, none⟩)] w fun e w' => e = .returned (.bool (!inB z x)) ∧ w = w' := by
  have Q := Lib.hid (Contains32_any A c z x w h.2.2 hl)
  have c0 := h.1
  clear h
  go_enter Tryd.func42, Tryd.ntmps42
  go_wp2_with fail
  refine Q.out.mono ?_
  rintro e w1 ⟨rfl, rfl⟩
  go_wp2_with fail
  go_ret
  exact ⟨rfl, rfl⟩

def missB (z : List Nat) (l : List Nat) : Bool := l.any fun x => !inB z x
theorem missB_step {z l : List Nat} {j : Nat} (hj : j < l.length) (h : missB z (l.take j) = false) (hn : inB z (l.getD j 0) = true) : missB z (l.take (j + 1)) = false := by
  have e : l.getD j 0 = l[j] := by simp [List.getD, hj]
  rw [e] at hn
  rw [List.take_succ_eq_append_getElem hj]
  unfold missB at h ⊢
  rw [List.any_append, h]
  simp [hn]
theorem missB_now {z l : List Nat} {j : Nat} (hj : j < l.length) (hn : inB z (l.getD j 0) = false) : missB z l = true := by
  have e : l.getD j 0 = l[j] := by simp [List.getD, hj]
  rw [e] at hn
  unfold missB
  rw [List.any_eq_true]
  exact ⟨l[j], List.getElem_mem hj, by simp [hn]⟩

set_option maxHeartbeats 1600000 in
theorem IndexA_any (A' : Option Addr) (c' : Nat) (l : List Nat) (g : Nat) (A : Option Addr) (c : Nat) (z : List Nat) (w : World) (h' : At32 w w.heap.size A' l) (hl' : l.length ≤ 1152921504606846976) (h : SBox w g A c z) (hl : z.length ≤ 1152921504606846976) :
    Calls Tryd.prog 58 #[.slice A' l.length c', .func (.func 42) #[] #[.pointer (some ⟨g, 0, none⟩)]] w fun e w' => Found (missB z l) w e w' ∧ w = w' := by
  have HS := Lib.hid h'; clear h'
  have Q := fun x => Lib.hid (All1_any x g A c z w h hl); clear h
  go_enter Tryd.func58, Tryd.ntmps58
  go_wp2_with fail
  go_loop [8] (fun i => ∃ j : Nat, j ≤ l.length ∧ i = .int .i64 (j : Int) ∧ Hid (missB z (l.take j) = false)) (fun i => l.length - (intOf i).toNat)
  case atStart => exact ⟨0, Nat.zero_le _, rfl, Lib.hid (by simp [missB])⟩
  case round =>
    obtain ⟨j, hj, rfl, hno⟩ := hrel
    by_cases hlt : j < l.length
    · obtain ⟨b, off, rfl, hb, k1⟩ := HS.out.cell hlt
      have q := Q (l.getD j 0)
      cases hn : inB z (l.getD j 0) with
      | true =>
        have HN := Lib.hid (missB_step hlt hno.out hn)
        rw [hn] at q
        obtain ⟨x, hx⟩ : ∃ x, x = l.getD j 0 := ⟨_, rfl⟩
        rw [← hx] at k1 q
        clear hx hn
        go_wp2_with (go_at_call 42; refine q.out.mono ?_; rintro e w2 ⟨rfl, rfl⟩)
        go_round
        case rel => exact ⟨j + 1, by omega, by go_num, HN⟩
        case measure => simp [intOf]; omega
      | false =>
        have HN := Lib.hid (missB_now hlt hn)
        rw [hn] at q
        obtain ⟨x, hx⟩ : ∃ x, x = l.getD j 0 := ⟨_, rfl⟩
        rw [← hx] at k1 q
        clear hx hn
        go_wp2_with (go_at_call 42; refine q.out.mono ?_; rintro e w2 ⟨rfl, rfl⟩)
        go_ret
        exact ⟨⟨_, rfl, by omega, by omega, by rw [HN.out]; simp⟩, rfl⟩
    · obtain rfl : j = l.length := by omega
      go_wp2_with fail
      go_ret
      exact ⟨⟨_, rfl, by omega, by omega, by have := hno.out; rw [List.take_length] at this; rw [this]; rfl⟩, rfl⟩

set_option maxHeartbeats 1600000 in
theorem ContainsA_any (A' : Option Addr) (c' : Nat) (l : List Nat) (g : Nat) (A : Option Addr) (c : Nat) (z : List Nat) (w : World) (h' : At32 w w.heap.size A' l) (hl' : l.length ≤ 1152921504606846976) (h : SBox w g A c z) (hl : z.length ≤ 1152921504606846976) :
    Calls Tryd.prog 41 #[.slice A' l.length c', .func (.func 42) #[] #[.pointer (some ⟨g, 0, none⟩)]] w fun e w' => e = .returned (.bool (missB z l)) ∧ w = w' := by
  have Q := Lib.hid (IndexA_any A' c' l g A c z w h' hl' h hl); clear h h'
  go_enter Tryd.func41, Tryd.ntmps41
  go_wp2_with fail
  refine Q.out.mono ?_
  rintro e w1 ⟨⟨k, rfl, f1, f2, hk⟩, rfl⟩
  have HK := Lib.hid hk; clear hk
  go_wp2_with fail
  go_ret
  exact ⟨by rw [← HK.out]; rfl, rfl⟩

set_option maxHeartbeats 1600000 in
theorem All12_any (A A' : Option Addr) (c c' : Nat) (z l : List Nat) (w : World) (h : At32 w w.heap.size A z) (h' : At32 w w.heap.size A' l) (hl : z.length ≤ 1152921504606846976) (hl' : l.length ≤ 1152921504606846976) :
    Calls Tryd.prog 18 #[.slice A z.length c, .slice A' l.length c'] w fun e w' => e = .returned (.bool (allB z l)) ∧ Below w.heap.size w w' := by
  have hba := (Below.refl w.heap.size w).alloc (Nat.le_refl _) (.cells #[.slice A z.length c] 28)
  have Q := Lib.hid (ContainsA_any A' c' l w.heap.size A c z (w.alloc (.cells #[.slice A z.length c] 28)) ((h'.below hba (Nat.le_refl _)).lift hba.size) hl' ⟨(Blk.new w 28 [.slice A z.length c]).cell 0, by simp, (h.below hba (Nat.le_refl _)).lift hba.size⟩ hl)
  have HB := Lib.hid hba; clear h h' hba
  go_enter Tryd.func18, Tryd.ntmps18
  go_wp2_with fail
  refine Q.out.mono ?_
  rintro e w1 ⟨rfl, rfl⟩
  go_wp2_with fail
  go_ret
  exact ⟨rfl, HB.out⟩

set_option maxHeartbeats 1600000 in
theorem RefAll12_any (A A' : Option Addr) (c c' : Nat) (z l : List Nat) (w : World) (h : At32 w w.heap.size A z) (h' : At32 w w.heap.size A' l) (hl : z.length ≤ 1152921504606846976) (hl' : l.length ≤ 1152921504606846976) :
    Calls Tryd.prog 19 #[.slice A z.length c, .slice A' l.length c'] w fun e w' => e = .returned (.bool (allB z l)) ∧ w = w' := by
  have HS := Lib.hid h'; clear h'
  have Q := fun x => Lib.hid (RefHas_any A c z x w h hl); clear h
  go_enter Tryd.func19, Tryd.ntmps19
  go_wp2_with fail
  go_loop [5] (fun i => ∃ j : Nat, j ≤ l.length ∧ i = .int .i64 (j : Int) ∧ Hid (missB z (l.take j) = false)) (fun i => l.length - (intOf i).toNat)
  case atStart => exact ⟨0, Nat.zero_le _, rfl, Lib.hid (by simp [missB])⟩
  case round =>
    obtain ⟨j, hj, rfl, hno⟩ := hrel
    by_cases hlt : j < l.length
    · obtain ⟨b, off, rfl, hb, k1⟩ := HS.out.cell hlt
      have q := Q (l.getD j 0)
      cases hn : inB z (l.getD j 0) with
      | true =>
        have HN := Lib.hid (missB_step hlt hno.out hn)
        rw [hn] at q
        obtain ⟨x, hx⟩ : ∃ x, x = l.getD j 0 := ⟨_, rfl⟩
        rw [← hx] at k1 q
        clear hx hn
        go_wp2_with fail
        refine q.out.mono ?_
        rintro e w2 ⟨rfl, rfl⟩
        go_wp2_with fail
        go_round
        case rel => exact ⟨j + 1, by omega, by go_num, HN⟩
        case measure => simp [intOf]; omega
      | false =>
        have HN := Lib.hid (missB_now hlt hn)
        rw [hn] at q
        obtain ⟨x, hx⟩ : ∃ x, x = l.getD j 0 := ⟨_, rfl⟩
        rw [← hx] at k1 q
        clear hx hn
        go_wp2_with fail
        refine q.out.mono ?_
        rintro e w2 ⟨rfl, rfl⟩
        go_wp2_with fail
        go_ret
        exact ⟨by rw [show allB z l = !missB z l from rfl, HN.out]; rfl, rfl⟩
    · obtain rfl : j = l.length := by omega
      go_wp2_with fail
      go_ret
      exact ⟨by have := hno.out; rw [List.take_length] at this; rw [show allB z l = !missB z l from rfl, this]; rfl, rfl⟩

set_option maxHeartbeats 1600000 in
theorem Add12_any (A : Option Addr) (cp : Nat) (z : List Nat) (c : Nat) (w : World) (h : At32 w w.heap.size A z) (hl : z.length ≤ 1000000) :
    Calls Tryd.prog 14 #[.slice A z.length cp, .int .u32 (c : Int)] w (RetAt w (addC z c)) := by
  have QC := Lib.hid (Clone32_any A z.length cp z rfl w h (by omega))
  have QH := Lib.hid (Contains32_any A cp z c w h (by omega))
  by_cases h32 : 32 ≤ z.length
  · have hI : (32 : Int) ≤ (z.length : Int) := by omega
    have e1 := Lib.hid (show addC z c = z by unfold addC; rw [if_pos (.inl h32)])
    clear h h32 QH
    go_enter Tryd.func14, Tryd.ntmps14
    go_wp2_with fail
    refine QC.out.mono ?_
    intro e w1 hr
    obtain ⟨A1, c1, rfl, f1, f2, f3, f4⟩ := hr
    have HR := Lib.hid f3
    clear f3
    go_wp2_with fail
    go_ret
    rw [e1.out]
    exact ⟨A1, c1, rfl, f1, f2, HR.out.at, f4⟩
  have hI : ¬ (32 : Int) ≤ (z.length : Int) := by omega
  cases hc : inB z c with
  | true =>
    have e1 := Lib.hid (show addC z c = z by unfold addC; rw [if_pos (.inr hc)])
    rw [hc] at QH
    clear h h32 hc
    go_enter Tryd.func14, Tryd.ntmps14
    go_wp2_with fail
    refine QH.out.mono ?_
    rintro e w1 ⟨rfl, rfl⟩
    go_wp2_with fail
    refine QC.out.mono ?_
    intro e w1 hr
    obtain ⟨A1, c1, rfl, f1, f2, f3, f4⟩ := hr
    have HR := Lib.hid f3
    clear f3
    go_wp2_with fail
    go_ret
    rw [e1.out]
    exact ⟨A1, c1, rfl, f1, f2, HR.out.at, f4⟩
  | false =>
    have e1 := Lib.hid (show addC z c = z ++ [c] by unfold addC; rw [if_neg (by rw [hc]; simp; omega)])
    rw [hc] at QH
    have hba := (Below.refl w.heap.size w).alloc (Nat.le_refl _) (.cells #[.int .u32 (c : Int)] 22)
    have hbb := hba.alloc hba.size (.cells #[.slice A z.length cp, .slice (some ⟨w.heap.size, 0, none⟩) 1 1] 28)
    have kB := Blk.new (w.alloc (.cells #[.int .u32 (c : Int)] 22)) 28 [.slice A z.length cp, .slice (some ⟨w.heap.size, 0, none⟩) 1 1]
    have eB : (w.alloc (.cells #[.int .u32 (c : Int)] 22)).heap.size = w.heap.size + 1 := by simp
    rw [eB] at kB
    have kA := (Blk.new w 22 [.int .u32 (c : Int)]).below ((Below.refl (w.heap.size + 1) _).alloc (by simp) (.cells #[.slice A z.length cp, .slice (some ⟨w.heap.size, 0, none⟩) 1 1] 28)) (by omega)
    have hS : Sls32 ((w.alloc (.cells #[.int .u32 (c : Int)] 22)).alloc (.cells #[.slice A z.length cp, .slice (some ⟨w.heap.size, 0, none⟩) 1 1] 28)) (w.heap.size + 1) [(A, cp, z), (some ⟨w.heap.size, 0, none⟩, 1, [c])] := by
      refine ⟨kB.lt, fun j x hx => ?_, fun x hx => ?_⟩
      · rcases (show j = 0 ∨ j = 1 ∨ 1 < j by omega) with rfl | rfl | hj
        · obtain rfl : (A, cp, z) = x := by simpa using hx
          exact kB.cell 0
        · obtain rfl : (some ⟨w.heap.size, 0, none⟩, 1, [c]) = x := by simpa using hx
          exact kB.cell 1
        · exfalso
          rw [List.getElem?_eq_none (by simp; omega)] at hx
          cases hx
      · rcases List.mem_cons.1 hx with rfl | hx
        · exact (h.below hbb (Nat.le_refl _)).lift hbb.size
        · obtain rfl := List.mem_singleton.1 hx
          intro _
          refine ⟨w.heap.size, 0, rfl, by simp; omega, fun j hj => ?_⟩
          obtain rfl : j = 0 := by simpa using hj
          exact kA.cell 0
    have QK := Lib.hid (Concat32_any (w.heap.size + 1) 2 2 [(A, cp, z), (some ⟨w.heap.size, 0, none⟩, 1, [c])] ((w.alloc (.cells #[.int .u32 (c : Int)] 22)).alloc (.cells #[.slice A z.length cp, .slice (some ⟨w.heap.size, 0, none⟩) 1 1] 28)) rfl hS (by simp [join32]; omega) (by simp))
    have ej : join32 [(A, cp, z), (some ⟨w.heap.size, 0, none⟩, 1, [c])] = z ++ [c] := by simp [join32]
    rw [ej] at QK
    have HBB := Lib.hid hbb
    clear h h32 hc hba hbb kB eB kA hS ej QC
    go_enter Tryd.func14, Tryd.ntmps14
    go_wp2_with fail
    refine QH.out.mono ?_
    rintro e w1 ⟨rfl, rfl⟩
    go_wp2_with fail
    refine QK.out.mono ?_
    intro e w1 hr
    obtain ⟨A1, c1, rfl, f1, f2, f3, f4⟩ := hr
    have HR := Lib.hid f3
    have H1 := Lib.hid f1
    clear f3 f1
    go_wp2_with fail
    go_ret
    rw [e1.out]
    exact ⟨A1, c1, by rw [show (z ++ [c]).length = z.length + 1 by simp]; rfl, H1.out, f2, HR.out.at, HBB.out.trans (f4.mono HBB.out.size)⟩

set_option maxHeartbeats 1600000 in
theorem RefAdd12_any (A : Option Addr) (cp : Nat) (z : List Nat) (c : Nat) (w : World) (h : At32 w w.heap.size A z) (hcp : z.length ≤ cp ∧ cp ≤ maxLen) (hl : z.length ≤ 1000000) :
    Calls Tryd.prog 15 #[.slice A z.length cp, .int .u32 (c : Int)] w (RetAt w (addC z c)) := by
  have QH := Lib.hid (RefHas_any A cp z c w h (by omega))
  have HA := Lib.hid h
  clear h
  cases hc : inB z c with
  | true =>
    have e1 := Lib.hid (show addC z c = z by unfold addC; rw [if_pos (.inr hc)])
    rw [hc] at QH
    clear hc
    go_enter Tryd.func15, Tryd.ntmps15
    go_wp2_with fail
    refine QH.out.mono ?_
    rintro e w1 ⟨rfl, rfl⟩
    go_wp2_with fail
    go_ret
    rw [e1.out]
    exact ⟨A, cp, rfl, hcp.1, hcp.2, HA.out, Below.refl _ _⟩
  | false =>
    rw [hc] at QH
    by_cases h32 : 32 ≤ z.length
    · have hI : (32 : Int) ≤ (z.length : Int) := by omega
      have e1 := Lib.hid (show addC z c = z by unfold addC; rw [if_pos (.inl h32)])
      clear h32 hc
      go_enter Tryd.func15, Tryd.ntmps15
      go_wp2_with fail
      refine QH.out.mono ?_
      rintro e w1 ⟨rfl, rfl⟩
      go_wp2_with fail
      go_ret
      rw [e1.out]
      exact ⟨A, cp, rfl, hcp.1, hcp.2, HA.out, Below.refl _ _⟩
    · have hI : ¬ (32 : Int) ≤ (z.length : Int) := by omega
      have e1 := Lib.hid (show addC z c = z ++ [c] by unfold addC; rw [if_neg (by rw [hc]; simp; omega)])
      have HSZ := Lib.hid (show (0 + z.length) * 4 ≤ 140737488355328 by omega)
      have HSZ2 := Lib.hid (show (z.length + 1) * 4 ≤ 140737488355328 by omega)
      clear h32 hc
      go_enter Tryd.func15, Tryd.ntmps15
      go_wp2_with fail
      refine QH.out.mono ?_
      rintro e w1 ⟨rfl, rfl⟩
      go_wp2_with (at_builtin; refine wpList_app isU32 rfl (.tmp 15) (.tmp 16) rfl w _ 0 [] rfl (Own32.nil _ _) A z.length cp (cells32 z) rfl (by simp [cells32]) HA.out.news (cells32_one _) HSZ.out (Below.refl _ _) ?_)
      intro v1 w1 hown1 _ hb1
      have o1 : Own32 w1 w.heap.size v1 z := by simpa [Own32] using hown1
      obtain ⟨A1, c1, hv1, _, _⟩ := o1.form
      subst hv1
      have O1 := Lib.hid o1
      have HB1 := Lib.hid hb1
      clear hown1 hb1 o1
      go_wp2_with (at_builtin; refine wpList_app_one isU32 rfl (.tmp 18) (.tmp 20) rfl w _ z.length (cells32 z) rfl w1 [.int .u32 (c : Int)] rfl O1.out rfl rfl (by simp [Value.oneCell']) HSZ2.out HB1.out ?_)
      intro v2 w2 hown2 _ hb2
      have O2 := Lib.hid (show Own32 w2 w.heap.size v2 (z ++ [c]) from by
        unfold Own32 cells32 at *
        rw [List.length_append, List.map_append]
        exact hown2)
      have HB2 := Lib.hid hb2
      clear hown2 hb2
      obtain ⟨A2, c2, hv2, g1, g2⟩ := O2.out.form
      subst hv2
      have G1 := Lib.hid g1
      clear g1
      go_wp2_with fail
      go_ret
      rw [e1.out]
      exact ⟨A2, c2, by rw [show (z ++ [c]).length = z.length + 1 by simp]; rfl, G1.out, g2, O2.out.at, HB2.out⟩
end Go.Proofs.YtcjeifpdikojlaaDoor
