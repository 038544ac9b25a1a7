/-
  Which runes may be: by the document (written by gen13z.py).
-/
import Derived.Test.YtpimnbalffaliaaDoorRefByte13
namespace Go.Proofs.YtpimnbalffaliaaDoor
set_option linter.unusedVariables false
set_option linter.unusedSimpArgs false
open Go.RowKit Go.Lib

set_option maxRecDepth 100000 in
set_option maxHeartbeats 6400000 in
theorem RefSize_F4 (l : List UInt8) (i : Nat) (w : World) (hi : i < l.length) (hm : l.length ≤ 1000) (h0 : byN l i = 244) :
    Calls Tryd.prog 40 #[.string ⟨l.toArray⟩, .int .i64 (i : Int)] w fun e w' => e = .returned (.int .i64 (sizeL (l.drop i) : Int)) ∧ w = w' := by
  have hsz := size_at l i hi
  have x0 := index_byte l i (i : Int) rfl hi
  obtain ⟨b0, hb0⟩ : ∃ b, b = byN l i := ⟨_, rfl⟩
  have g0 : b0 < 256 := by rw [hb0]; exact byN_lt _ _
  obtain ⟨b1, hb1⟩ : ∃ b, b = byN l (i + 1) := ⟨_, rfl⟩
  have g1 : b1 < 256 := by rw [hb1]; exact byN_lt _ _
  obtain ⟨b2, hb2⟩ : ∃ b, b = byN l (i + 2) := ⟨_, rfl⟩
  have g2 : b2 < 256 := by rw [hb2]; exact byN_lt _ _
  obtain ⟨b3, hb3⟩ : ∃ b, b = byN l (i + 3) := ⟨_, rfl⟩
  have g3 : b3 < 256 := by rw [hb3]; exact byN_lt _ _
  have x1 := index_byte l (i + 1) ((i : Int) + 1) (by omega)
  have x2 := index_byte l (i + 2) ((i : Int) + 2) (by omega)
  have x3 := index_byte l (i + 3) ((i : Int) + 3) (by omega)
  rw [← hb0] at x0 hsz h0
  rw [← hb1] at x1 hsz
  rw [← hb2] at x2 hsz
  rw [← hb3] at x3 hsz
  clear hb0 hb1 hb2 hb3
  rw [hsz]
  have wr0 : wrap64 (b0 : Int) = (b0 : Int) := IntWalk.wrap64_in _ ⟨by omega, by omega⟩
  have wr1 : wrap64 (b1 : Int) = (b1 : Int) := IntWalk.wrap64_in _ ⟨by omega, by omega⟩
  subst h0
  have q1 : ¬ ((244 : Nat) < 32 ∨ (244 : Nat) = 127) := by decide
  have q2 : ¬ (244 : Nat) < 128 := by decide
  have hw : widN 244 = 4 := by decide
  have hl : lowN 244 = 128 := by decide
  have hg : highN 244 = 143 := by decide
  by_cases n1 : l.length < i + 4
  · have hv : sizeN (l.length - i) 244 b1 b2 b3 = 0 := by unfold sizeN; rw [if_neg q1, if_neg q2, hw, hl, hg, if_pos (by omega)]
    rw [hv]
    have nz : (l.length : Int) < (i : Int) + 4 := by omega
    clear hsz hv q1 q2 hw hl hg n1 x1 x2 x3 g0 g1 g2 g3
    go_enter Tryd.func40, Tryd.ntmps40
    go_wp2_with fail
    go_ret
    exact ⟨rfl, rfl⟩
  · have nz : ¬ (l.length : Int) < (i : Int) + 4 := by omega
    replace x1 := x1 (by omega)
    have hl1 : (i : Int) + 1 < (l.length : Int) := by omega
    by_cases n2 : b1 < 128
    · have hv : sizeN (l.length - i) 244 b1 b2 b3 = 0 := by unfold sizeN; rw [if_neg q1, if_neg q2, hw, hl, hg, if_pos (by omega)]
      rw [hv]
      have n2z : (b1 : Int) < 128 := by omega
      clear hsz hv q1 q2 hw hl hg n1 n2 x2 x3 g0 g1 g2 g3
      go_enter Tryd.func40, Tryd.ntmps40
      go_wp2_with fail
      go_ret
      exact ⟨rfl, rfl⟩
    · have n2z : ¬ (b1 : Int) < 128 := by omega
      by_cases n3 : 143 < b1
      · have hv : sizeN (l.length - i) 244 b1 b2 b3 = 0 := by unfold sizeN; rw [if_neg q1, if_neg q2, hw, hl, hg, if_pos (by omega)]
        rw [hv]
        have n3z : (143 : Int) < (b1 : Int) := by omega
        clear hsz hv q1 q2 hw hl hg n1 n2 n3 x2 x3 g0 g1 g2 g3
        go_enter Tryd.func40, Tryd.ntmps40
        go_wp2_with fail
        go_ret
        exact ⟨rfl, rfl⟩
      · have n3z : ¬ (143 : Int) < (b1 : Int) := by omega
        replace x2 := x2 (by omega)
        have hl2 : (i : Int) + 2 < (l.length : Int) := by omega
        replace x3 := x3 (by omega)
        have hl3 : (i : Int) + 3 < (l.length : Int) := by omega
        have HV0 := fun (h : b2 < 128 ∨ 191 < b2 ∨ b3 < 128 ∨ 191 < b3) => Lib.hid (show sizeN (l.length - i) 244 b1 b2 b3 = 0 by unfold sizeN; rw [if_neg q1, if_neg q2, hw, hl, hg, if_pos (by omega)])
        have HV := fun (h : 128 ≤ b2 ∧ b2 ≤ 191 ∧ 128 ≤ b3 ∧ b3 ≤ 191) => Lib.hid (show sizeN (l.length - i) 244 b1 b2 b3 = 4 by unfold sizeN; rw [if_neg q1, if_neg q2, hw, hl, hg, if_neg (by omega)])
        generalize sizeN (l.length - i) 244 b1 b2 b3 = Z at HV0 HV ⊢
        have HV0h := Lib.hid HV0; have HVh := Lib.hid HV
        clear HV0 HV hsz q1 q2 hw hl hg n1 n2 n3 g0 g1
        go_enter Tryd.func40, Tryd.ntmps40
        go_wp2_with fail
        go_loopw [9] (fun k wr => w = wr ∧ (k = .int .i64 2 ∨ (k = .int .i64 3 ∧ 128 ≤ b2 ∧ b2 ≤ 191) ∨ (k = .int .i64 4 ∧ 128 ≤ b2 ∧ b2 ≤ 191 ∧ 128 ≤ b3 ∧ b3 ≤ 191))) (fun k _ => 4 - (intOf k).toNat)
        case atStart => exact ⟨rfl, .inl rfl⟩
        case round =>
          rcases hrel with ⟨rfl, rfl | ⟨rfl, m1, m2⟩ | ⟨rfl, m1, m2, m3, m4⟩⟩
          · by_cases c1 : b2 < 128
            · have cz : (b2 : Int) < 128 := by omega
              have E := Lib.hid (HV0h.out (.inl c1)).out
              go_wp2_with fail
              go_ret
              exact ⟨by rw [E.out]; rfl, rfl⟩
            · have cz : ¬ (b2 : Int) < 128 := by omega
              by_cases c2 : 191 < b2
              · have dz : (191 : Int) < (b2 : Int) := by omega
                have E := Lib.hid (HV0h.out (.inr (.inl c2))).out
                go_wp2_with fail
                go_ret
                exact ⟨by rw [E.out]; rfl, rfl⟩
              · have dz : ¬ (191 : Int) < (b2 : Int) := by omega
                go_wp2_with fail
                go_roundw
                case rel => exact ⟨trivial, .inr (.inl ⟨rfl, by omega, by omega⟩)⟩
                case measure => simp [intOf]
          · by_cases c1 : b3 < 128
            · have cz : (b3 : Int) < 128 := by omega
              have E := Lib.hid (HV0h.out (.inr (.inr (.inl c1)))).out
              go_wp2_with fail
              go_ret
              exact ⟨by rw [E.out]; rfl, rfl⟩
            · have cz : ¬ (b3 : Int) < 128 := by omega
              by_cases c2 : 191 < b3
              · have dz : (191 : Int) < (b3 : Int) := by omega
                have E := Lib.hid (HV0h.out (.inr (.inr (.inr c2)))).out
                go_wp2_with fail
                go_ret
                exact ⟨by rw [E.out]; rfl, rfl⟩
              · have dz : ¬ (191 : Int) < (b3 : Int) := by omega
                go_wp2_with fail
                go_roundw
                case rel => exact ⟨trivial, .inr (.inr ⟨rfl, m1, m2, by omega, by omega⟩)⟩
                case measure => simp [intOf]
          · have E := Lib.hid (HVh.out ⟨m1, m2, m3, m4⟩).out
            go_wp2_with fail
            go_ret
            exact ⟨by rw [E.out]; rfl, rfl⟩
set_option maxRecDepth 100000 in
set_option maxHeartbeats 6400000 in
theorem RefSize_F1 (l : List UInt8) (i : Nat) (w : World) (hi : i < l.length) (hm : l.length ≤ 1000) (h0 : 241 ≤ byN l i ∧ byN l i ≤ 243) :
    Calls Tryd.prog 40 #[.string ⟨l.toArray⟩, .int .i64 (i : Int)] w fun e w' => e = .returned (.int .i64 (sizeL (l.drop i) : Int)) ∧ w = w' := by
  have hsz := size_at l i hi
  have x0 := index_byte l i (i : Int) rfl hi
  obtain ⟨b0, hb0⟩ : ∃ b, b = byN l i := ⟨_, rfl⟩
  have g0 : b0 < 256 := by rw [hb0]; exact byN_lt _ _
  obtain ⟨b1, hb1⟩ : ∃ b, b = byN l (i + 1) := ⟨_, rfl⟩
  have g1 : b1 < 256 := by rw [hb1]; exact byN_lt _ _
  obtain ⟨b2, hb2⟩ : ∃ b, b = byN l (i + 2) := ⟨_, rfl⟩
  have g2 : b2 < 256 := by rw [hb2]; exact byN_lt _ _
  obtain ⟨b3, hb3⟩ : ∃ b, b = byN l (i + 3) := ⟨_, rfl⟩
  have g3 : b3 < 256 := by rw [hb3]; exact byN_lt _ _
  have x1 := index_byte l (i + 1) ((i : Int) + 1) (by omega)
  have x2 := index_byte l (i + 2) ((i : Int) + 2) (by omega)
  have x3 := index_byte l (i + 3) ((i : Int) + 3) (by omega)
  rw [← hb0] at x0 hsz h0
  rw [← hb1] at x1 hsz
  rw [← hb2] at x2 hsz
  rw [← hb3] at x3 hsz
  clear hb0 hb1 hb2 hb3
  rw [hsz]
  have wr0 : wrap64 (b0 : Int) = (b0 : Int) := IntWalk.wrap64_in _ ⟨by omega, by omega⟩
  have wr1 : wrap64 (b1 : Int) = (b1 : Int) := IntWalk.wrap64_in _ ⟨by omega, by omega⟩
  have p1 : ¬ (b0 : Int) < 32 := by omega
  have p2 : ((b0 : Int) == 127) = false := by simp; omega
  have p3 : ¬ (b0 : Int) < 128 := by omega
  have q1 : ¬ (b0 < 32 ∨ b0 = 127) := by omega
  have q2 : ¬ b0 < 128 := by omega
  have t1 : (194 : Int) ≤ (b0 : Int) := by omega
  have t1b : ¬ (b0 : Int) ≤ 223 := by omega
  have t2 : (224 : Int) ≤ (b0 : Int) := by omega
  have t2b : ¬ (b0 : Int) ≤ 239 := by omega
  have t2c : (240 : Int) ≤ (b0 : Int) := by omega
  have t2d : (b0 : Int) ≤ 244 := by omega
  have t3 : ((b0 : Int) == 240) = false := by simp; omega
  have t4 : ((b0 : Int) == 244) = false := by simp; omega
  have hw : widN b0 = 4 := by unfold widN; rw [if_neg (by omega), if_neg (by omega), if_pos (by omega)]
  have hl : lowN b0 = 128 := by unfold lowN; rw [if_neg (by omega), if_neg (by omega)]
  have hg : highN b0 = 191 := by unfold highN; rw [if_neg (by omega), if_neg (by omega)]
  by_cases n1 : l.length < i + 4
  · have hv : sizeN (l.length - i) b0 b1 b2 b3 = 0 := by unfold sizeN; rw [if_neg q1, if_neg q2, hw, hl, hg, if_pos (by omega)]
    rw [hv]
    have nz : (l.length : Int) < (i : Int) + 4 := by omega
    clear hsz hv q1 q2 hw hl hg n1 x1 x2 x3 g0 g1 g2 g3
    go_enter Tryd.func40, Tryd.ntmps40
    go_wp2_with fail
    go_ret
    exact ⟨rfl, rfl⟩
  · have nz : ¬ (l.length : Int) < (i : Int) + 4 := by omega
    replace x1 := x1 (by omega)
    have hl1 : (i : Int) + 1 < (l.length : Int) := by omega
    by_cases n2 : b1 < 128
    · have hv : sizeN (l.length - i) b0 b1 b2 b3 = 0 := by unfold sizeN; rw [if_neg q1, if_neg q2, hw, hl, hg, if_pos (by omega)]
      rw [hv]
      have n2z : (b1 : Int) < 128 := by omega
      clear hsz hv q1 q2 hw hl hg n1 n2 x2 x3 g0 g1 g2 g3
      go_enter Tryd.func40, Tryd.ntmps40
      go_wp2_with fail
      go_ret
      exact ⟨rfl, rfl⟩
    · have n2z : ¬ (b1 : Int) < 128 := by omega
      by_cases n3 : 191 < b1
      · have hv : sizeN (l.length - i) b0 b1 b2 b3 = 0 := by unfold sizeN; rw [if_neg q1, if_neg q2, hw, hl, hg, if_pos (by omega)]
        rw [hv]
        have n3z : (191 : Int) < (b1 : Int) := by omega
        clear hsz hv q1 q2 hw hl hg n1 n2 n3 x2 x3 g0 g1 g2 g3
        go_enter Tryd.func40, Tryd.ntmps40
        go_wp2_with fail
        go_ret
        exact ⟨rfl, rfl⟩
      · have n3z : ¬ (191 : Int) < (b1 : Int) := by omega
        replace x2 := x2 (by omega)
        have hl2 : (i : Int) + 2 < (l.length : Int) := by omega
        replace x3 := x3 (by omega)
        have hl3 : (i : Int) + 3 < (l.length : Int) := by omega
        have HV0 := fun (h : b2 < 128 ∨ 191 < b2 ∨ b3 < 128 ∨ 191 < b3) => Lib.hid (show sizeN (l.length - i) b0 b1 b2 b3 = 0 by unfold sizeN; rw [if_neg q1, if_neg q2, hw, hl, hg, if_pos (by omega)])
        have HV := fun (h : 128 ≤ b2 ∧ b2 ≤ 191 ∧ 128 ≤ b3 ∧ b3 ≤ 191) => Lib.hid (show sizeN (l.length - i) b0 b1 b2 b3 = 4 by unfold sizeN; rw [if_neg q1, if_neg q2, hw, hl, hg, if_neg (by omega)])
        generalize sizeN (l.length - i) b0 b1 b2 b3 = Z at HV0 HV ⊢
        have HV0h := Lib.hid HV0; have HVh := Lib.hid HV
        clear HV0 HV hsz q1 q2 hw hl hg n1 n2 n3 g0 g1
        go_enter Tryd.func40, Tryd.ntmps40
        go_wp2_with fail
        go_loopw [9] (fun k wr => w = wr ∧ (k = .int .i64 2 ∨ (k = .int .i64 3 ∧ 128 ≤ b2 ∧ b2 ≤ 191) ∨ (k = .int .i64 4 ∧ 128 ≤ b2 ∧ b2 ≤ 191 ∧ 128 ≤ b3 ∧ b3 ≤ 191))) (fun k _ => 4 - (intOf k).toNat)
        case atStart => exact ⟨rfl, .inl rfl⟩
        case round =>
          rcases hrel with ⟨rfl, rfl | ⟨rfl, m1, m2⟩ | ⟨rfl, m1, m2, m3, m4⟩⟩
          · by_cases c1 : b2 < 128
            · have cz : (b2 : Int) < 128 := by omega
              have E := Lib.hid (HV0h.out (.inl c1)).out
              go_wp2_with fail
              go_ret
              exact ⟨by rw [E.out]; rfl, rfl⟩
            · have cz : ¬ (b2 : Int) < 128 := by omega
              by_cases c2 : 191 < b2
              · have dz : (191 : Int) < (b2 : Int) := by omega
                have E := Lib.hid (HV0h.out (.inr (.inl c2))).out
                go_wp2_with fail
                go_ret
                exact ⟨by rw [E.out]; rfl, rfl⟩
              · have dz : ¬ (191 : Int) < (b2 : Int) := by omega
                go_wp2_with fail
                go_roundw
                case rel => exact ⟨trivial, .inr (.inl ⟨rfl, by omega, by omega⟩)⟩
                case measure => simp [intOf]
          · by_cases c1 : b3 < 128
            · have cz : (b3 : Int) < 128 := by omega
              have E := Lib.hid (HV0h.out (.inr (.inr (.inl c1)))).out
              go_wp2_with fail
              go_ret
              exact ⟨by rw [E.out]; rfl, rfl⟩
            · have cz : ¬ (b3 : Int) < 128 := by omega
              by_cases c2 : 191 < b3
              · have dz : (191 : Int) < (b3 : Int) := by omega
                have E := Lib.hid (HV0h.out (.inr (.inr (.inr c2)))).out
                go_wp2_with fail
                go_ret
                exact ⟨by rw [E.out]; rfl, rfl⟩
              · have dz : ¬ (191 : Int) < (b3 : Int) := by omega
                go_wp2_with fail
                go_roundw
                case rel => exact ⟨trivial, .inr (.inr ⟨rfl, m1, m2, by omega, by omega⟩)⟩
                case measure => simp [intOf]
          · have E := Lib.hid (HVh.out ⟨m1, m2, m3, m4⟩).out
            go_wp2_with fail
            go_ret
            exact ⟨by rw [E.out]; rfl, rfl⟩
end Go.Proofs.YtpimnbalffaliaaDoor
