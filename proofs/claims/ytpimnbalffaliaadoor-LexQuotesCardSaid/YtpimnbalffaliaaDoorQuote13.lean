/-
  Texts in quotes, as the program and as the document tell them.
-/
import Derived.Test.YtpimnbalffaliaaDoorLayQ13
import Derived.Test.YtpimnbalffaliaaDoorLay13
import Derived.Test.YtpimnbalffaliaaDoorRefScanH13
namespace Go.Proofs.YtpimnbalffaliaaDoor
set_option linter.unusedVariables false
set_option linter.unusedSimpArgs false
open Go.RowKit Go.Lib

/-- What Quote tells. -/
def retQ (l : List UInt8) : Value := if rightB l then .tuple #[.string ⟨(quoteL l).toArray⟩, .bool true] else .tuple #[.string ⟨#[]⟩, .bool false]
set_option maxHeartbeats 3200000 in
theorem Quote_any (l : List UInt8) (w : World) (hl : l.length ≤ 500) (hu : UTab w) (hx : MaxC w) :
    Calls Tryd.prog 12 #[.string ⟨l.toArray⟩] w fun e w' => e = .returned (retQ l) ∧ Below w.heap.size w w' := by
  have q := readable_any l w (by unfold maxLen; omega) hu
  unfold retQ
  cases hr : rightB l with
  | false =>
    rw [hr] at q
    have Q := Lib.hid q
    clear q hr hu hx
    go_enter Tryd.func12, Tryd.ntmps12
    go_wp2_with fail
    refine Q.out.mono ?_
    rintro e w1 ⟨rfl, hb⟩
    go_wp2_with fail
    go_ret2
    exact ⟨rfl, hb⟩
  | true =>
    rw [hr] at q
    have e1 := replaceAll_one 92 [92, 92] l (by decide)
    have hlen : (replaceAll l [92] [92, 92]).length ≤ 2 * l.length := by
      rw [e1]
      clear e1 q hl hu hr
      induction l with
      | nil => simp
      | cons b l ih =>
        rw [List.flatMap_cons, List.length_append, List.length_cons]
        have : (if b = 92 then ([92, 92] : List UInt8) else [b]).length ≤ 2 := by split <;> simp
        omega
    have Q1 := fun w hx => Lib.hid (Replace_any l 92 [92, 92] w hx (by omega) rfl)
    have Q2 := fun w hx => Lib.hid (Replace_any (replaceAll l [92] [92, 92]) 34 [92, 34] w hx (by omega) rfl)
    rw [esc_twice] at Q2
    have el := escL_len l
    have hc1 := cat_bytes [34] (escL l) (by simp; omega)
    have hc2 := cat_bytes ([34] ++ escL l) [34] (by simp; omega)
    have eq : [34] ++ escL l ++ [34] = quoteL l := rfl
    rw [eq] at hc2
    generalize quoteL l = K at hc2 ⊢
    generalize [34] ++ escL l = M at hc1 hc2
    generalize replaceAll l [92] [92, 92] = R at Q1 Q2
    generalize escL l = X at Q2 hc1
    have Q := Lib.hid q
    have HX := Lib.hid (fun (w' : World) (hb : Below w.heap.size w w') => hx.below hb)
    clear q hr hu hx e1 hlen el eq hl
    go_enter Tryd.func12, Tryd.ntmps12
    go_wp2_with fail
    refine Q.out.mono ?_
    rintro e w1 ⟨rfl, hb⟩
    go_wp2_with fail
    refine (Q1 _ (HX.out _ hb)).out.mono ?_
    rintro e w2 ⟨rfl, hb2⟩
    replace hb := hb.trans (hb2.mono hb.size)
    clear hb2
    go_wp2_with fail
    refine (Q2 _ (HX.out _ hb)).out.mono ?_
    rintro e w2 ⟨rfl, hb2⟩
    replace hb := hb.trans (hb2.mono hb.size)
    clear hb2
    go_wp2_with fail
    go_ret2
    exact ⟨rfl, hb⟩

set_option maxHeartbeats 6400000 in
theorem RefQuote_any (l : List UInt8) (w : World) (hl : l.length ≤ 500) :
    Calls Tryd.prog 13 #[.string ⟨l.toArray⟩] w fun e w' => e = .returned (retQ l) ∧ Below w.heap.size w w' := by
  have q := RefRight13_any l w (by omega)
  unfold retQ
  cases hr : rightB l with
  | false =>
    rw [hr] at q
    have Q := Lib.hid q
    clear q hr
    go_enter Tryd.func13, Tryd.ntmps13
    go_wp2_with fail
    refine Q.out.mono ?_
    rintro e w1 ⟨rfl, rfl⟩
    go_wp2_with fail
    go_ret2
    exact ⟨rfl, Below.refl _ _⟩
  | true =>
    rw [hr] at q
    have Q := Lib.hid q
    have HE := Lib.hid (fun (j : Nat) (h : j < l.length) => escL_snoc l j h)
    have HL := Lib.hid (fun (j : Nat) => Nat.le_trans (escL_len (l.take j)) (by rw [List.length_take]; omega : 2 * (l.take j).length ≤ 1000))
    obtain ⟨K, hK⟩ : ∃ K, K = quoteL l := ⟨_, rfl⟩
    rw [← hK]
    have HK := Lib.hid hK
    clear q hr hK
    go_enter Tryd.func13, Tryd.ntmps13
    go_wp2_with fail
    refine Q.out.mono ?_
    rintro e w1 ⟨rfl, rfl⟩
    clear Q
    go_wp2_with fail
    go_loopw [4, 5] (fun t i wr => w = wr ∧ ∃ (j : Nat) (T : List UInt8), j ≤ l.length ∧ i = .int .i64 (j : Int) ∧ t = .string ⟨T.toArray⟩ ∧ Hid (T = 34 :: escL (l.take j))) (fun _ i _ => l.length - (intOf i).toNat)
    case atStart => exact ⟨rfl, 0, [34], by omega, rfl, rfl, Lib.hid rfl⟩
    case round =>
      obtain ⟨rfl, j, T, hj, rfl, rfl, HT⟩ := hrel
      have hTl : T.length ≤ 1001 := by rw [HT.out, List.length_cons]; have := HL.out j; omega
      by_cases hlt : j < l.length
      · have hjz : (j : Int) < (l.length : Int) := by omega
        have xj := index_byte l j (j : Int) rfl hlt
        have xs := slice_bytes l j (j + 1) (j : Int) ((j : Int) + 1) rfl rfl (by omega) (by omega)
        rw [one_byte l j hlt] at xs
        have hstep := HE.out j hlt
        have hb34 : byN l j = 34 ↔ l.getD j 0 = 34 := ⟨fun h => UInt8.toNat_inj.1 h, fun h => by unfold byN; rw [h]; rfl⟩
        have hb92 : byN l j = 92 ↔ l.getD j 0 = 92 := ⟨fun h => UInt8.toNat_inj.1 h, fun h => by unfold byN; rw [h]; rfl⟩
        unfold esc1 at hstep
        by_cases b1 : byN l j = 34
        · have z1 : ((byN l j : Int) == 34) = true := by simp [b1]
          rw [if_pos (.inl (hb34.1 b1))] at hstep
          have xa := cat_bytes T [92] (by simp; omega)
          have xb := cat_bytes (T ++ [92]) [l.getD j 0] (by simp; omega)
          have HN := Lib.hid (show T ++ [92] ++ [l.getD j 0] = 34 :: escL (l.take (j + 1)) by rw [hstep, HT.out]; simp)
          generalize T ++ [92] ++ [l.getD j 0] = T2 at xb HN
          generalize T ++ [92] = T1 at xa xb
          generalize l.getD j 0 = Y at xs xb hb34 hb92 hstep
          generalize byN l j = B at xj z1 b1 hb34 hb92
          clear b1 hb34 hb92 hstep hTl
          go_wp2_with fail
          go_roundw
          case rel => exact ⟨trivial, j + 1, T2, by omega, rfl, rfl, HN⟩
          case measure => simp [intOf]; omega
        · have z1 : ((byN l j : Int) == 34) = false := by simp; omega
          by_cases b2 : byN l j = 92
          · have z2 : ((byN l j : Int) == 92) = true := by simp [b2]
            rw [if_pos (.inr (hb92.1 b2))] at hstep
            have xa := cat_bytes T [92] (by simp; omega)
            have xb := cat_bytes (T ++ [92]) [l.getD j 0] (by simp; omega)
            have HN := Lib.hid (show T ++ [92] ++ [l.getD j 0] = 34 :: escL (l.take (j + 1)) by rw [hstep, HT.out]; simp)
            generalize T ++ [92] ++ [l.getD j 0] = T2 at xb HN
            generalize T ++ [92] = T1 at xa xb
            generalize l.getD j 0 = Y at xs xb hb34 hb92 hstep
            generalize byN l j = B at xj z1 z2 b1 b2 hb34 hb92
            clear b1 b2 hb34 hb92 hstep hTl
            go_wp2_with fail
            go_roundw
            case rel => exact ⟨trivial, j + 1, T2, by omega, rfl, rfl, HN⟩
            case measure => simp [intOf]; omega
          · have z2 : ((byN l j : Int) == 92) = false := by simp; omega
            rw [if_neg (fun h => h.elim (fun h => b1 (hb34.2 h)) (fun h => b2 (hb92.2 h)))] at hstep
            have xb := cat_bytes T [l.getD j 0] (by simp; omega)
            have HN := Lib.hid (show T ++ [l.getD j 0] = 34 :: escL (l.take (j + 1)) by rw [hstep, HT.out]; simp)
            generalize T ++ [l.getD j 0] = T2 at xb HN
            generalize l.getD j 0 = Y at xs xb hb34 hb92 hstep
            generalize byN l j = B at xj z1 z2 b1 b2 hb34 hb92
            clear b1 b2 hb34 hb92 hstep hTl
            go_wp2_with fail
            go_roundw
            case rel => exact ⟨trivial, j + 1, T2, by omega, rfl, rfl, HN⟩
            case measure => simp [intOf]; omega
      · have hjz : ¬ (j : Int) < (l.length : Int) := by omega
        have hc := cat_bytes T [34] (by simp; omega)
        have e : T ++ [34] = K := by rw [HK.out, HT.out, List.take_of_length_le (by omega)]; rfl
        rw [e] at hc
        have E := Lib.hid e
        clear e hTl
        go_wp2_with fail
        go_ret2
        exact ⟨rfl, Below.refl _ _⟩
end Go.Proofs.YtpimnbalffaliaaDoor
