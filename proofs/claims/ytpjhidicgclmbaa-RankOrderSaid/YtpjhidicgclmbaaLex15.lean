/-
  Lists of numbers held against one another.
-/
import Derived.Test.YtpjhidicgclmbaaCand15
import Derived.Deep.QuietTactic
import Derived.BigQuiet
namespace Go.Proofs.Ytpjhidicgclmbaa
set_option linter.unusedVariables false
set_option linter.unusedSimpArgs false
open Go.RowKit

theorem isNaN_any (x : Int) (w : World) :
    Calls Try.prog 34 #[.int .i64 x] w fun e w' => e = .returned (.bool false) ∧ w = w' := by
  go_enter Try.func34, Try.ntmps34
  go_wp2_with fail
  go_ret
  exact ⟨by simp, rfl⟩
/-- How two numbers are held against one another. -/
def cmpI (x y : Int) : Int := if x < y then -1 else if y < x then 1 else 0
set_option maxHeartbeats 1600000 in
theorem cmp_any (x y : Int) (w : World) :
    Calls Try.prog 33 #[.int .i64 x, .int .i64 y] w fun e w' => e = .returned (.int .i64 (cmpI x y)) ∧ w = w' := by
  by_cases h1 : x < y
  · have e : cmpI x y = -1 := if_pos h1
    rw [e]
    clear e
    go_enter Try.func33, Try.ntmps33
    go_wp2_with (go_at_call 34; refine (isNaN_any _ _).mono ?_; rintro e w' ⟨rfl, rfl⟩)
    go_ret
    exact ⟨rfl, rfl⟩
  · by_cases h2 : y < x
    · have e : cmpI x y = 1 := by unfold cmpI; rw [if_neg h1, if_pos h2]
      rw [e]
      clear e
      go_enter Try.func33, Try.ntmps33
      go_wp2_with (go_at_call 34; refine (isNaN_any _ _).mono ?_; rintro e w' ⟨rfl, rfl⟩)
      go_ret
      exact ⟨rfl, rfl⟩
    · have e : cmpI x y = 0 := by unfold cmpI; rw [if_neg h1, if_neg h2]
      rw [e]
      clear e
      go_enter Try.func33, Try.ntmps33
      go_wp2_with (go_at_call 34; refine (isNaN_any _ _).mono ?_; rintro e w' ⟨rfl, rfl⟩)
      go_ret
      exact ⟨rfl, rfl⟩

/-- Numbers of 64 bits that stand in a row. -/
def NumsAt (w : World) (b off : Nat) (l : List Int) : Prop := ∀ (j : Nat) (u : Int), l[j]? = some u → w.cell? ⟨b, off + j, none⟩ = some (.int .i64 u)
theorem NumsAt.drewN {w : World} {b off : Nat} {l : List Int} (h : NumsAt w b off l) (n : Nat) : NumsAt (w.drewN n) b off l := h
theorem lexC_drop {l m : List Int} {k : Nat} {x y : Int} (hx : l[k]? = some x) (hy : m[k]? = some y) : lexC (l.drop k) (m.drop k) = if x < y then -1 else if y < x then 1 else lexC (l.drop (k + 1)) (m.drop (k + 1)) := by
  have h1 := List.getElem?_eq_some_iff.1 hx
  have h2 := List.getElem?_eq_some_iff.1 hy
  obtain ⟨a1, a2⟩ := h1
  obtain ⟨b1, b2⟩ := h2
  rw [List.drop_eq_getElem_cons a1, List.drop_eq_getElem_cons b1, a2, b2, lexC_cons]
theorem lexC_end {l m : List Int} (h : l.length = m.length) : lexC (l.drop l.length) (m.drop l.length) = 0 := by
  rw [List.drop_eq_nil_of_le (Nat.le_refl _), List.drop_eq_nil_of_le (by omega)]; rfl
set_option maxHeartbeats 3200000 in
theorem lex_any (b off c b2 off2 c2 : Nat) (l m : List Int) (n : Nat) (hl : l.length = n) (hm : m.length = n) (hn : n ≤ 9) (w : World) (h : NumsAt w b off l) (h2 : NumsAt w b2 off2 m) :
    Calls Try.prog 30 #[.slice (some ⟨b, off, none⟩) n c, .slice (some ⟨b2, off2, none⟩) n c2] w fun e w' => e = .returned (.int .i64 (lexC l m)) ∧ w = w' := by
  have H1 := Lib.hid h; have H2 := Lib.hid h2; have HL := Lib.hid hl; have HM := Lib.hid hm
  clear h h2 hl hm
  go_enter Try.func30, Try.ntmps30
  go_wp2_with fail
  go_loop [11] (fun i => ∃ k : Nat, k ≤ n ∧ i = .int .i64 (k : Int) ∧ Hid (lexC l m = lexC (l.drop k) (m.drop k))) (fun i => n - (intOf i).toNat)
  case atStart => exact ⟨0, Nat.zero_le _, rfl, Lib.hid rfl⟩
  case round =>
    obtain ⟨k, hk, rfl, HE⟩ := hrel
    by_cases hlt : k < n
    · obtain ⟨x, hx⟩ : ∃ x, l[k]? = some x := ⟨_, List.getElem?_eq_getElem (by rw [HL.out]; exact hlt)⟩
      obtain ⟨y, hy⟩ : ∃ y, m[k]? = some y := ⟨_, List.getElem?_eq_getElem (by rw [HM.out]; exact hlt)⟩
      have k1 := H1.out k x hx
      have k2 := H2.out k y hy
      have HD := Lib.hid (lexC_drop hx hy)
      have QC := Lib.hid (fun w => cmp_any x y w)
      have HLT := Lib.hid hlt
      have g1 : ((k : Int) ≥ (n : Int)) = False := by simp; omega
      clear hx hy
      by_cases h1 : x < y
      · have HR := Lib.hid (show lexC l m = -1 by rw [HE.out, HD.out, if_pos h1])
        have e : cmpI x y = -1 := if_pos h1
        rw [e] at QC
        clear HE HD e h1 g1
        go_wp2_with (go_at_call 33; refine (QC.out _).mono ?_; rintro e w' ⟨rfl, rfl⟩)
        go_ret
        exact ⟨by rw [HR.out]; rfl, rfl⟩
      · by_cases h2 : y < x
        · have HR := Lib.hid (show lexC l m = 1 by rw [HE.out, HD.out, if_neg h1, if_pos h2])
          have e : cmpI x y = 1 := by unfold cmpI; rw [if_neg h1, if_pos h2]
          rw [e] at QC
          clear HE HD e h1 h2 g1
          go_wp2_with (go_at_call 33; refine (QC.out _).mono ?_; rintro e w' ⟨rfl, rfl⟩)
          go_ret
          exact ⟨by rw [HR.out]; rfl, rfl⟩
        · have HR := Lib.hid (show lexC l m = lexC (l.drop (k + 1)) (m.drop (k + 1)) by rw [HE.out, HD.out, if_neg h1, if_neg h2])
          have e : cmpI x y = 0 := by unfold cmpI; rw [if_neg h1, if_neg h2]
          rw [e] at QC
          clear HE HD e h1 h2 g1
          go_wp2_with (go_at_call 33; refine (QC.out _).mono ?_; rintro e w' ⟨rfl, rfl⟩)
          go_round
          case rel => exact ⟨k + 1, by have := HLT.out; omega, by go_num, HR⟩
          case measure => have := HLT.out; simp [intOf]; omega
    · obtain rfl : k = n := by omega
      have HR := Lib.hid (show lexC l m = 0 by
        rw [HE.out]
        have := HL.out
        subst this
        exact lexC_end HM.out.symm)
      clear HE
      go_wp2_with fail
      go_ret
      exact ⟨by rw [HR.out]; rfl, rfl⟩
end Go.Proofs.Ytpjhidicgclmbaa
