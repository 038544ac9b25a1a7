/-
  An OPEN's body that is put is read as it was; no program stands here.
-/
import Derived.Test.YtpdnpphkkobhgaaPut6
import Derived.Test.YtpdnpphkkobhgaaReadH6
namespace Go.Proofs.Ytpdnpphkkobhgaa
set_option linter.unusedVariables false
set_option linter.unusedSimpArgs false

theorem byteI_num {k : Int} (h0 : 0 ≤ k) (h1 : k ≤ 255) : ((byteI k).toNat : Int) = k := by
  rw [byteI_val]
  simp [IntKind.wrap, IntKind.bits, IntKind.signed]
  omega
theorem next_part {k : Int} {d R : List UInt8} (h0 : 0 ≤ k) (h1 : k ≤ 255) (hd : d.length ≤ 255) : nextP (partL k d ++ R) false = ⟨k.toNat, d, R, false⟩ := by
  have e0 : partL k d ++ R = byteI k :: byteI (d.length : Int) :: (d ++ R) := by simp [partL]
  rw [e0]
  have r1 : rdTake (byteI k :: byteI (d.length : Int) :: (d ++ R)) false 1 = ([byteI k], byteI (d.length : Int) :: (d ++ R), false) := rd_fit (n := 1) (by simp)
  have r2 : rdTake (byteI (d.length : Int) :: (d ++ R)) false 1 = ([byteI (d.length : Int)], d ++ R, false) := rd_fit (n := 1) (by simp)
  have n1 : num [byteI k] = k.toNat := by
    have := byteI_num h0 h1
    simp [num]; omega
  have n2 : num [byteI (d.length : Int)] = d.length := by
    have := byteI_num (k := (d.length : Int)) (by omega) (by omega)
    simp [num]; omega
  have r3 : rdTake (d ++ R) false (d.length : Int) = (d, R, false) := by
    rw [rd_fit (n := d.length) (by simp)]
    simp
  unfold nextP
  rw [r1]
  dsimp only
  rw [r2]
  dsimp only
  rw [n1, n2, r3]
def flatP (M : Caps) : List UInt8 := M.flatMap fun s => partL s.1 s.2
theorem put_flat : ∀ (M : Caps) (out cs : List UInt8), putCapsF out M = some cs → cs = out ++ flatP M ∧ (∀ s ∈ M, inUp 255 s.1 = true ∧ s.2.length ≤ 253) ∧ (M ≠ [] → cs.length ≤ 253)
  | [], out, cs, h => by
    simp only [putCapsF, Option.some.injEq] at h
    subst h
    exact ⟨by simp [flatP], by simp, by simp⟩
  | s :: M, out, cs, h => by
    unfold putCapsF at h
    split at h
    · cases h
    · rename_i hn
      obtain ⟨h1, h2, h3⟩ := put_flat M _ _ h
      have hi : inUp 255 s.1 = true := by
        cases hb : inUp 255 s.1 with
        | true => rfl
        | false => exact absurd (.inl hb) hn
      have hl : (out ++ partL s.1 s.2).length ≤ 253 := by
        rcases Nat.lt_or_ge 253 (out ++ partL s.1 s.2).length with h9 | h9
        · exact absurd (.inr h9) hn
        · exact h9
      have hs : s.2.length ≤ 253 := by
        simp [partL] at hl; omega
      refine ⟨by rw [h1]; simp [flatP], fun x hx => ?_, fun _ => ?_⟩
      · rcases List.mem_cons.1 hx with rfl | hx
        · exact ⟨hi, hs⟩
        · exact h2 x hx
      · by_cases hM : M = []
        · subst hM
          rw [h1]
          simp only [flatP, List.flatMap_nil, List.append_nil]
          exact hl
        · exact h3 hM
theorem caps_flat : ∀ (M : Caps) (n : Nat), (∀ s ∈ M, inUp 255 s.1 = true ∧ s.2.length ≤ 253) → M.length < n → capsP n (flatP M) = some M
  | [], n + 1, _, _ => by simp [capsP, flatP]
  | s :: M, n + 1, h, hn => by
    obtain ⟨hu, hl⟩ := h s (by simp)
    have hu' : 0 ≤ s.1 ∧ s.1 ≤ 255 := of_decide_eq_true hu
    have e : flatP (s :: M) = partL s.1 s.2 ++ flatP M := by simp [flatP]
    have hne : partL s.1 s.2 ++ flatP M ≠ [] := by simp [partL]
    unfold capsP
    rw [e, if_neg hne, next_part hu'.1 hu'.2 (by omega), if_neg (by simp), caps_flat M n (fun x hx => h x (by simp [hx])) (by simpa using hn)]
    dsimp only
    rw [Option.map_some, Int.toNat_of_nonneg hu'.1]
theorem flatP_len (M : Caps) : M.length * 2 ≤ (flatP M).length := by
  induction M with
  | nil => simp
  | cons s M ih =>
    have : (flatP (s :: M)).length = 2 + s.2.length + (flatP M).length := by simp [flatP, partL]; omega
    simp only [List.length_cons]
    omega
theorem params_back {M : Caps} {cs : List UInt8} (h : putCapsF [] M = some cs) : paramP ((parF cs).length + 1) (parF cs) = .ok M ∧ (parF cs).length ≤ 255 := by
  obtain ⟨h1, h2, h3⟩ := put_flat M [] cs h
  rw [List.nil_append] at h1
  have hfl := flatP_len M
  by_cases hM : M = []
  · subst hM
    have : cs = [] := by rw [h1]; rfl
    subst this
    exact ⟨by simp [parF, paramP], by simp [parF]⟩
  · have hcl := h3 hM
    have hne : cs ≠ [] := by
      intro e
      have hp := List.length_pos_iff.2 hM
      rw [← h1, e] at hfl
      simp at hfl
      omega
    have hpar : parF cs = partL 2 cs := if_neg hne
    have hpl : (partL 2 cs).length = cs.length + 2 := by simp [partL]
    rw [hpar]
    refine ⟨?_, by omega⟩
    have hn := next_part (k := 2) (d := cs) (R := []) (by omega) (by omega) (by omega)
    rw [List.append_nil] at hn
    rw [paramP_succ, if_neg (by simp [partL]), hn, if_neg (by simp), if_neg (by simp)]
    dsimp only
    have hc : capsP (cs.length + 1) cs = some M := by
      rw [h1]
      exact caps_flat M _ h2 (by omega)
    rw [hc]
    dsimp only
    rw [hpl]
    simp [paramP, pre]
theorem num_be16 {x : Int} (h0 : 0 ≤ x) (h1 : x ≤ 65535) : (num (be16 x) : Int) = x := by
  obtain ⟨n, rfl⟩ := Int.eq_ofNat_of_zero_le h0
  simp only [be16, num, List.foldl, UInt8.toNat_ofNat']
  omega
theorem num_be32 {x : Int} (h0 : 0 ≤ x) (h1 : x < 4294967296) : (num (be32 x) : Int) = x := by
  obtain ⟨n, rfl⟩ := Int.eq_ofNat_of_zero_le h0
  simp only [be32, num, List.foldl, UInt8.toNat_ofNat']
  omega
/-- What is put is read as it was. -/
theorem put_back {ver sys hold id : Int} {M : Caps} {l : List UInt8} (h : putF6 ver sys hold id M = some l) (hi : 0 ≤ id ∧ id < 4294967296) : readF l = .ok ⟨ver, sys, hold, id, M⟩ := by
  unfold putF6 at h
  split at h
  · cases h
  · rename_i cs hc
    split at h
    · rename_i hu
      obtain rfl := Option.some.inj h
      simp only [allUp, inUp, List.all_cons, List.all_nil, Bool.and_true, Bool.and_eq_true, decide_eq_true_eq] at hu
      obtain ⟨hp, hpl⟩ := params_back hc
      generalize parF cs = p at hp hpl ⊢
      have e : bodyF ver sys hold id p = byteI ver :: (be16 sys ++ (be16 hold ++ (be32 id ++ (byteI (p.length : Int) :: p)))) := by simp [bodyF]
      have hl := body_len ver sys hold id p
      have h9 : (bodyF ver sys hold id p).getD 9 0 = byteI (p.length : Int) := by rw [e]; rfl
      have h10 : (bodyF ver sys hold id p).drop 10 = p := by rw [e]; rfl
      have ha : (bodyF ver sys hold id p).take 1 = [byteI ver] := by rw [e]; rfl
      have hb : ((bodyF ver sys hold id p).drop 1).take 2 = be16 sys := by rw [e]; rfl
      have hc : ((bodyF ver sys hold id p).drop 3).take 2 = be16 hold := by rw [e]; rfl
      have hd : ((bodyF ver sys hold id p).drop 5).take 4 = be32 id := by rw [e]; rfl
      have hn9 : (byteI (p.length : Int)).toNat = p.length := by
        have := byteI_num (k := (p.length : Int)) (by omega) (by omega)
        omega
      unfold readF
      rw [h9, hn9, hl, if_neg (by omega), h10, ha, hb, hc, hd, show p.length + 10 - 10 + 1 = p.length + 1 by omega, hp]
      dsimp only
      have hv : (num [byteI ver] : Int) = ver := by
        have := byteI_num hu.1.1 hu.1.2
        simp [num]; omega
      rw [hv, num_be16 hu.2.1.1 hu.2.1.2, num_be16 hu.2.2.1 hu.2.2.2, num_be32 hi.1 hi.2]
    · cases h
theorem params_len {ver sys hold id : Int} {M : Caps} {l : List UInt8} (h : putF6 ver sys hold id M = some l) : l.length ≤ 265 := by
  unfold putF6 at h
  split at h
  · cases h
  · rename_i cs hc
    split at h
    · obtain rfl := Option.some.inj h
      rw [body_len]
      have := (params_back hc).2
      omega
    · cases h
end Go.Proofs.Ytpdnpphkkobhgaa
