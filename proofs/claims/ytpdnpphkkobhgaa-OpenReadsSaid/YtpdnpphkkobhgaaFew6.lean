/-
  Is an OPEN small enough? Are two the same, that are?
-/
import Derived.Test.YtpdnpphkkobhgaaCap6
import Derived.Test.YtpdnpphkkobhgaaSame
import Derived.Deep.QuietTactic
import Derived.BigQuiet
namespace Go.Proofs.Ytpdnpphkkobhgaa
set_option linter.unusedVariables false
set_option linter.unusedSimpArgs false
open Go.RowKit

def fewL (L : List (Int × List UInt8)) : Bool := decide (L.length ≤ 200) && L.all fun s => decide (s.2.length ≤ 500)
theorem fewL_spec {L : List Cp} (h : fewL (L.map Cp.abs) = true) : L.length ≤ 200 ∧ ∀ s ∈ L, s.data.length ≤ 500 := by
  unfold fewL at h
  simp only [Bool.and_eq_true, decide_eq_true_eq, List.all_eq_true, List.length_map] at h
  exact ⟨h.1, fun s hs => h.2 s.abs (List.mem_map_of_mem hs)⟩
theorem few_step {L : List Cp} {j : Nat} {s : Cp} (hs : L[j]? = some s) (h : ∀ x ∈ L.take j, x.data.length ≤ 500) (hn : s.data.length ≤ 500) : ∀ x ∈ L.take (j + 1), x.data.length ≤ 500 := by
  have hj := (List.getElem?_eq_some_iff.1 hs).1
  have e : L[j] = s := (List.getElem?_eq_some_iff.1 hs).2
  rw [List.take_succ_eq_append_getElem hj, e]
  intro x hx
  rcases List.mem_append.1 hx with h1 | h1
  · exact h x h1
  · rw [List.mem_singleton.1 h1]; exact hn
set_option maxHeartbeats 1600000 in
theorem few6_any (ver sys hold id : Int) (A : Option Addr) (c : Nat) (L : List Cp) (w : World) (h : CpIn w w.heap.size A L) :
    Calls Try.prog 7 #[.agg #[.int .i64 ver, .int .i64 sys, .int .i64 hold, .int .u32 id, .slice A L.length c]] w fun e w' => e = .returned (.bool (fewL (L.map Cp.abs))) ∧ Below w.heap.size w w' := by
  have hb0 := (Below.refl w.heap.size w).alloc (Nat.le_refl _) (.cells #[.int .i64 ver, .int .i64 sys, .int .i64 hold, .int .u32 id, .slice A L.length c] 25)
  have HB0 := Lib.hid hb0
  have HS := Lib.hid (h.below hb0 (Nat.le_refl _))
  have k4 : World.cell? _ ⟨w.heap.size, 4, none⟩ = some _ := (Blk.new w 25 [.int .i64 ver, .int .i64 sys, .int .i64 hold, .int .u32 id, .slice A L.length c]).cell 4
  clear h hb0
  by_cases h2 : L.length ≤ 200
  · have h2I : ¬ (200 : Int) < (L.length : Int) := by omega
    go_enter Try.func7, Try.ntmps7
    go_wp2_with fail
    go_loop [3] (fun i => ∃ j : Nat, j ≤ L.length ∧ i = .int .i64 (j : Int) ∧ Hid (∀ x ∈ L.take j, x.data.length ≤ 500)) (fun i => L.length - (intOf i).toNat)
    case atStart => exact ⟨0, Nat.zero_le _, rfl, Lib.hid (fun x hx => by simp at hx)⟩
    case round =>
      obtain ⟨j, hj, rfl, hno⟩ := hrel
      by_cases hlt : j < L.length
      · obtain ⟨s, hs⟩ : ∃ s, L[j]? = some s := ⟨_, List.getElem?_eq_getElem hlt⟩
        obtain ⟨b, off, rfl, hb, k1, k2, hy⟩ := HS.out.at hs
        by_cases h5 : s.data.length ≤ 500
        · have HN := Lib.hid (few_step hs hno.out h5)
          have h5I : ¬ (500 : Int) < (s.data.length : Int) := by omega
          clear hs hy
          go_wp2_with fail
          go_round
          case rel => exact ⟨j + 1, by omega, by go_num, HN⟩
          case measure => simp [intOf]; omega
        · have HN := Lib.hid (show fewL (L.map Cp.abs) = false from by
            cases hf : fewL (L.map Cp.abs) with
            | false => rfl
            | true => exact absurd ((fewL_spec hf).2 s (List.mem_of_getElem? hs)) h5)
          have h5I : (500 : Int) < (s.data.length : Int) := by omega
          clear hs hy
          go_wp2_with fail
          go_ret
          exact ⟨by rw [HN.out]; rfl, HB0.out⟩
      · obtain rfl : j = L.length := by omega
        have HN := Lib.hid (show fewL (L.map Cp.abs) = true from by
          have h := hno.out
          rw [List.take_length] at h
          unfold fewL
          simp only [Bool.and_eq_true, decide_eq_true_eq, List.all_eq_true, List.length_map, List.mem_map, forall_exists_index, and_imp, forall_apply_eq_imp_iff₂]
          exact ⟨h2, fun s hs => h s hs⟩)
        go_wp2_with fail
        go_ret
        exact ⟨by rw [HN.out]; rfl, HB0.out⟩
  · have h2I : (200 : Int) < (L.length : Int) := by omega
    have HN := Lib.hid (show fewL (L.map Cp.abs) = false from by
      cases hf : fewL (L.map Cp.abs) with
      | false => rfl
      | true => exact absurd (fewL_spec hf).1 h2)
    go_enter Try.func7, Try.ntmps7
    go_wp2_with fail
    go_ret
    exact ⟨by rw [HN.out]; rfl, HB0.out⟩
end Go.Proofs.Ytpdnpphkkobhgaa
