/-
  Are candidates few and small enough: what the statements of this layer ask first.
-/
import Derived.Test.YtpjhidicgclmbaaCand15
namespace Go.Proofs.Ytpjhidicgclmbaa
set_option linter.unusedVariables false
set_option linter.unusedSimpArgs false
open Go.RowKit

/-- What a call tells that asks whether candidates are few. -/
def RetFew (w : World) (L : List Cv) (n : Nat) (e : Ending) (w' : World) : Prop :=
  ∃ b : Bool, e = .returned (.bool b) ∧ (b = true → L.length ≤ n ∧ ∀ s ∈ L, fewB s.path = true) ∧ Below w.heap.size w w'
theorem few_upto {L : List Cv} {j : Nat} {s : Cv} (hs : L[j]? = some s) (h : ∀ t ∈ L.take j, fewB t.path = true) (h1 : fewB s.path = true) : ∀ t ∈ L.take (j + 1), fewB t.path = true := by
  obtain ⟨q1, q2⟩ := List.getElem?_eq_some_iff.1 hs
  rw [List.take_succ_eq_append_getElem q1, q2]
  intro t ht
  rcases List.mem_append.1 ht with ht | ht
  · exact h t ht
  · rw [List.mem_singleton.1 ht]; exact h1
set_option maxRecDepth 100000 in
set_option maxHeartbeats 6400000 in
theorem few_any (A : Option Addr) (c : Nat) (L : List Cv) (n : Nat) (w : World) (h : CandsIn w w.heap.size A L) (hn : n ≤ 1000) :
    Calls Try.prog 8 #[.slice A L.length c, .int .i64 (n : Int)] w (RetFew w L n) := by
  have HC := Lib.hid h
  clear h
  by_cases hlen : L.length ≤ n
  · have hI : ¬ (n : Int) < (L.length : Int) := by omega
    go_enter Try.func8, Try.ntmps8
    go_wp2_with fail
    clear hI
    go_loopw [5] (fun i wr => Below w.heap.size w wr ∧ ∃ j : Nat, j ≤ L.length ∧ i = .int .i64 (j : Int) ∧ Hid (∀ t ∈ L.take j, fewB t.path = true)) (fun i _ => L.length - (intOf i).toNat)
    case atStart => exact ⟨Below.refl _ _, 0, Nat.zero_le _, rfl, Lib.hid (fun t ht => by simp at ht)⟩
    case round =>
      obtain ⟨hbr, j, hj, rfl, hall⟩ := hrel
      by_cases hlt : j < L.length
      · obtain ⟨s, hs⟩ : ∃ s, L[j]? = some s := ⟨_, List.getElem?_eq_getElem hlt⟩
        obtain ⟨b, off, rfl, hb, hcells, hin⟩ := (HC.out.go hbr).at hs
        have HST := Lib.hid (few_upto hs hall.out)
        have HBR := Lib.hid hbr; have HLT := Lib.hid hlt
        clear hs hall hbr
        have d5 : wr.cell? ⟨b, off + j * 16 + 5, none⟩ = some _ := hcells 5 _ rfl
        have d6 : wr.cell? ⟨b, off + j * 16 + 6, none⟩ = some _ := hcells 6 _ rfl
        have d7 : wr.cell? ⟨b, off + j * 16 + 7, none⟩ = some _ := hcells 7 _ rfl
        have d8 : wr.cell? ⟨b, off + j * 16 + 8, none⟩ = some _ := hcells 8 _ rfl
        have d9 : wr.cell? ⟨b, off + j * 16 + 9, none⟩ = some _ := hcells 9 _ rfl
        have d10 : wr.cell? ⟨b, off + j * 16 + 10, none⟩ = some _ := hcells 10 _ rfl
        have d11 : wr.cell? ⟨b, off + j * 16 + 11, none⟩ = some _ := hcells 11 _ rfl
        have d12 : wr.cell? ⟨b, off + j * 16 + 12, none⟩ = some _ := hcells 12 _ rfl
        have d13 : wr.cell? ⟨b, off + j * 16 + 13, none⟩ = some _ := hcells 13 _ rfl
        have d14 : wr.cell? ⟨b, off + j * 16 + 14, none⟩ = some _ := hcells 14 _ rfl
        have d15 : wr.cell? ⟨b, off + j * 16 + 15, none⟩ = some _ := hcells 15 _ rfl
        have hpath := hin.path
        clear hcells hin
        obtain ⟨peer, ext, near, id, addr, org, pathA, pathC, path, next, med, pref, atomic, has, aas, aad, commsA, commsN, commsC, rawsA, rawsN, rawsC⟩ := s
        dsimp only at d5 d6 d7 d8 d9 d10 d11 d12 d13 d14 d15 hpath HST
        have hbA := (Below.refl wr.heap.size wr).alloc (Nat.le_refl _) (.cells #[.int .i64 org, .slice pathA path.length pathC, .int .u32 next, .int .i64 med, .int .i64 pref, .bool atomic, .bool has, .int .u32 aas, .int .u32 aad, .slice commsA commsN commsC, .slice rawsA rawsN rawsC] 32)
        have Q := Lib.hid (Few_any pathA pathC path _ ((hpath.below hbA (Nat.le_refl _)).lift hbA.size))
        have HBW := Lib.hid (HBR.out.trans (hbA.mono HBR.out.size))
        obtain ⟨U, hU⟩ : ∃ U, U = fewB path := ⟨_, rfl⟩
        rw [← hU] at Q HST
        clear hpath hbA hU HBR
        cases U with
        | false =>
          go_wp2_with fail
          refine Q.out.mono ?_
          rintro e w2 ⟨rfl, rfl⟩
          go_wp2_with fail
          go_ret
          exact ⟨false, rfl, fun q => (by cases q), HBW.out⟩
        | true =>
          have HS2 := Lib.hid (HST.out rfl)
          clear HST
          by_cases q0 : pref < -1
          · go_wp2_with fail
            refine Q.out.mono ?_
            rintro e w2 ⟨rfl, rfl⟩
            go_wp2_with fail
            go_ret
            exact ⟨false, rfl, fun q => (by cases q), HBW.out⟩
          · skip
            by_cases q1 : 4294967296 < pref
            · go_wp2_with fail
              refine Q.out.mono ?_
              rintro e w2 ⟨rfl, rfl⟩
              go_wp2_with fail
              go_ret
              exact ⟨false, rfl, fun q => (by cases q), HBW.out⟩
            · skip
              by_cases q2 : med < -1
              · go_wp2_with fail
                refine Q.out.mono ?_
                rintro e w2 ⟨rfl, rfl⟩
                go_wp2_with fail
                go_ret
                exact ⟨false, rfl, fun q => (by cases q), HBW.out⟩
              · skip
                by_cases q3 : 4294967296 < med
                · go_wp2_with fail
                  refine Q.out.mono ?_
                  rintro e w2 ⟨rfl, rfl⟩
                  go_wp2_with fail
                  go_ret
                  exact ⟨false, rfl, fun q => (by cases q), HBW.out⟩
                · skip
                  go_wp2_with fail
                  refine Q.out.mono ?_
                  rintro e w2 ⟨rfl, rfl⟩
                  go_wp2_with fail
                  go_roundw
                  case rel => exact ⟨HBW.out, j + 1, HLT.out, by go_num, HS2⟩
                  case measure => have := HLT.out; simp [intOf]; omega
      · obtain rfl : j = L.length := by omega
        rw [List.take_length] at hall
        have HL := Lib.hid hlen
        go_wp2_with fail
        go_ret
        exact ⟨true, rfl, fun _ => ⟨HL.out, hall.out⟩, hbr⟩
  · have hI : (n : Int) < (L.length : Int) := by omega
    go_enter Try.func8, Try.ntmps8
    go_wp2_with fail
    go_ret
    exact ⟨false, rfl, fun q => (by cases q), Below.refl _ _⟩
end Go.Proofs.Ytpjhidicgclmbaa
