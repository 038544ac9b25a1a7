/-
  The prefix of a text.
-/
import Derived.Test.YtcjeifpdikojlaaDoorPAddr
import Derived.Test.YtcjeifpdikojlaaDoorHolds
namespace Go.Proofs.YtcjeifpdikojlaaDoor
set_option linter.unusedVariables false
set_option linter.unusedSimpArgs false
open Go.RowKit

theorem part8_le {l : List UInt8} {n : Nat} (h : part8 l = some n) : n ≤ 255 := by
  unfold part8 at h
  split at h
  · cases h
  · split at h
    · cases h; assumption
    · cases h
theorem pa_lt : ∀ (k a : Nat) (l : List UInt8) (x : Nat), pa k a l = some x → x < (a + 1) * 256 ^ (k + 1) := by
  intro k
  induction k with
  | zero =>
    intro a l x h
    cases hp : part8 l with
    | none => simp [pa, hp] at h
    | some n =>
      have := part8_le hp
      simp [pa, hp] at h
      omega
  | succ k ih =>
    intro a l x h
    cases hp : part8 (cutL l 46).1 with
    | none => simp [pa, hp] at h
    | some n =>
      have h1 := part8_le hp
      simp only [pa, hp] at h
      have h2 := ih _ _ _ h
      have h3 : (a * 256 + n + 1) * 256 ^ (k + 1) ≤ ((a + 1) * 256) * 256 ^ (k + 1) := Nat.mul_le_mul_right _ (by omega)
      rw [Nat.pow_succ 256 (k + 1), Nat.mul_comm (256 ^ (k + 1)) 256, ← Nat.mul_assoc]
      omega
theorem addrOf_lt {l : List UInt8} {x : Nat} (h : addrOf l = some x) : x < 4294967296 := by
  have := pa_lt 3 0 l x h
  have e : (0 + 1) * 256 ^ (3 + 1) = 4294967296 := by decide
  omega

/-- The prefix of a text. -/
def parseP (l : List UInt8) : Option (Nat × Nat) := match addrOf (cutL l 47).1, intSpec (cutL l 47).2 with
  | some a, some n => if okP (a : Int) (n : Int) then some (a, n) else none
  | _, _ => none
def retParse (r : Option (Nat × Nat)) : Value := match r with
  | none => .tuple #[.agg #[.int .u32 0, .int .i64 0], .bool false]
  | some (a, n) => .tuple #[.agg #[.int .u32 (a : Int), .int .i64 (n : Int)], .bool true]

set_option maxHeartbeats 3200000 in
theorem Parse_any (l : List UInt8) (w : World) (hm : l.length ≤ maxLen) (ht : Tab w) :
    Calls Tryd.prog 50 #[.string ⟨l.toArray⟩] w fun e w' => e = .returned (retParse (parseP l)) ∧ Below w.heap.size w w' := by
  have q46 := Lib.hid (cut_any l 47 (w.alloc (.cells #[.int .u32 0, .int .i64 0] 33)) (by decide) hm)
  have hcl := cutL_len l 47
  have hP : parseP l = parseP l := rfl
  obtain ⟨p, hp⟩ : ∃ p, p = (cutL l 47).1 := ⟨_, rfl⟩
  obtain ⟨b, hb⟩ : ∃ b, b = (cutL l 47).2 := ⟨_, rfl⟩
  unfold retCut at q46
  conv at hP => rhs; unfold parseP
  rw [← hp, ← hb] at q46 hcl hP
  have HB := Lib.hid hb; have HPp := Lib.hid hp
  clear hp hb
  have QA := fun w ht => Lib.hid (ParseAddr_any p w (by omega) ht)
  have QI := fun w ht => Lib.hid (Int_any b w (by omega) ht)
  have hb0 : Below w.heap.size w (w.alloc (.cells #[.int .u32 0, .int .i64 0] 33)) := (Below.refl _ _).alloc (Nat.le_refl _) _
  have HT := Lib.hid (fun (w' : World) (hb : Below (w.alloc (.cells #[.int .u32 0, .int .i64 0] 33)).heap.size (w.alloc (.cells #[.int .u32 0, .int .i64 0] 33)) w') => ht.below (below_box hb) ht.lt)
  have HK := Lib.hid (fun (w' : World) (hb : Below (w.alloc (.cells #[.int .u32 0, .int .i64 0] 33)).heap.size (w.alloc (.cells #[.int .u32 0, .int .i64 0] 33)) w') => (Blk.new w 33 [.int .u32 0, .int .i64 0]).below hb (by simp))
  clear ht
  cases ha : addrOf p with
  | none =>
    rw [ha] at QA hP
    have e1 := Lib.hid (show parseP l = none from hP)
    clear hP ha
    go_enter Tryd.func50, Tryd.ntmps50
    go_wp2_with fail
    refine q46.out.mono ?_
    rintro e w1 ⟨rfl, hb1⟩
    go_wp2_with fail
    refine (QA _ (HT.out _ hb1)).out.mono ?_
    rintro e w2 ⟨rfl, hb2'⟩
    have hb2 := hb1.trans (hb2'.mono hb1.size)
    simp only [retAddr, Option.getD_none, Option.isSome_none, Option.getD_some, Option.isSome_some]
    go_wp2_with fail
    refine (QI _ (HT.out _ hb2)).out.mono ?_
    rintro e w3 ⟨rfl, rfl⟩
    simp only [retInt, Option.getD_none, Option.isSome_none, Option.getD_some, Option.isSome_some]
    have hk := HK.out _ hb2
    have c0 : w2.cell? ⟨w.heap.size, 0, none⟩ = some (.int .u32 0) := hk.cell 0
    have c1 : w2.cell? ⟨w.heap.size, 1, none⟩ = some (.int .i64 0) := hk.cell 1
    have f0 := hk.free 0
    have f1 := hk.free 1
    have hlt := hk.lt
    have hne : ¬ w.heap.size = w2.heap.size := by omega
    have hne2 : ¬ w2.heap.size = w.heap.size := by omega
    have hbe := ((below_box hb2).setCell (p := ⟨w.heap.size, 0, none⟩) (Nat.le_refl _) (.int .u32 0)).setCell (p := ⟨w.heap.size, 1, none⟩) (Nat.le_refl _) (.int .i64 0)
    go_wp2_with fail
    exact bodyPost_ret (v := retParse none) (by simp [results, Tryd.results50, go_sem, retParse, *]) rfl ⟨by rw [e1.out], hbe.alloc hbe.size _⟩
  | some a =>
    rw [ha] at QA hP
    have haL := addrOf_lt ha
    cases hi : intSpec b with
    | none =>
      rw [hi] at QI hP
      have e1 := Lib.hid (show parseP l = none from hP)
      clear hP ha hi
      go_enter Tryd.func50, Tryd.ntmps50
      go_wp2_with fail
      refine q46.out.mono ?_
      rintro e w1 ⟨rfl, hb1⟩
      go_wp2_with fail
      refine (QA _ (HT.out _ hb1)).out.mono ?_
      rintro e w2 ⟨rfl, hb2'⟩
      have hb2 := hb1.trans (hb2'.mono hb1.size)
      simp only [retAddr, Option.getD_none, Option.isSome_none, Option.getD_some, Option.isSome_some]
      go_wp2_with fail
      refine (QI _ (HT.out _ hb2)).out.mono ?_
      rintro e w3 ⟨rfl, rfl⟩
      simp only [retInt, Option.getD_none, Option.isSome_none, Option.getD_some, Option.isSome_some]
      have hk := HK.out _ hb2
      have c0 : w2.cell? ⟨w.heap.size, 0, none⟩ = some (.int .u32 0) := hk.cell 0
      have c1 : w2.cell? ⟨w.heap.size, 1, none⟩ = some (.int .i64 0) := hk.cell 1
      have f0 := hk.free 0
      have f1 := hk.free 1
      have hlt := hk.lt
      have hne : ¬ w.heap.size = w2.heap.size := by omega
      have hne2 : ¬ w2.heap.size = w.heap.size := by omega
      have hbe := ((below_box hb2).setCell (p := ⟨w.heap.size, 0, none⟩) (Nat.le_refl _) (.int .u32 0)).setCell (p := ⟨w.heap.size, 1, none⟩) (Nat.le_refl _) (.int .i64 0)
      go_wp2_with fail
      exact bodyPost_ret (v := retParse none) (by simp [results, Tryd.results50, go_sem, retParse, *]) rfl ⟨by rw [e1.out], hbe.alloc hbe.size _⟩
    | some n =>
      rw [hi] at QI hP
      have hn := (intSpec_some hi).2
      have QR := fun w => Lib.hid (Right_any a (n : Int) w haL (by omega) (by omega))
      cases hok : okP (a : Int) (n : Int) with
      | false =>
        have e1 := Lib.hid (show parseP l = none by rw [hP]; simp [hok])
        rw [hok] at QR
        clear hP ha hi hok
        go_enter Tryd.func50, Tryd.ntmps50
        go_wp2_with fail
        refine q46.out.mono ?_
        rintro e w1 ⟨rfl, hb1⟩
        go_wp2_with fail
        refine (QA _ (HT.out _ hb1)).out.mono ?_
        rintro e w2 ⟨rfl, hb2'⟩
        have hb2 := hb1.trans (hb2'.mono hb1.size)
        simp only [retAddr, Option.getD_none, Option.isSome_none, Option.getD_some, Option.isSome_some]
        go_wp2_with fail
        refine (QI _ (HT.out _ hb2)).out.mono ?_
        rintro e w3 ⟨rfl, rfl⟩
        simp only [retInt, Option.getD_none, Option.isSome_none, Option.getD_some, Option.isSome_some]
        go_wp2_with fail
        refine (QR _).out.mono ?_
        rintro e w3 ⟨rfl, hb3'⟩
        have hb2a := hb2.alloc hb2.size (.cells #[.int .u32 (a : Int), .int .i64 (n : Int)] 33)
        have hb3 := hb2a.trans (hb3'.mono hb2a.size)
        have hk := HK.out _ hb3
        have c0 : w3.cell? ⟨w.heap.size, 0, none⟩ = some (.int .u32 0) := hk.cell 0
        have c1 : w3.cell? ⟨w.heap.size, 1, none⟩ = some (.int .i64 0) := hk.cell 1
        have f0 := hk.free 0
        have f1 := hk.free 1
        have hq := (Blk.new w2 33 [.int .u32 (a : Int), .int .i64 (n : Int)]).below hb3' (by simp)
        have d0 : w3.cell? ⟨w2.heap.size, 0, none⟩ = some (.int .u32 (a : Int)) := hq.cell 0
        have d1 : w3.cell? ⟨w2.heap.size, 1, none⟩ = some (.int .i64 (n : Int)) := hq.cell 1
        have hlt : w.heap.size < w2.heap.size := (HK.out _ hb2).lt
        have hne : ¬ w.heap.size = w2.heap.size := by omega
        have hne2 : ¬ w2.heap.size = w.heap.size := by omega
        have hbe := ((below_box hb3).setCell (p := ⟨w.heap.size, 0, none⟩) (Nat.le_refl _) (.int .u32 0)).setCell (p := ⟨w.heap.size, 1, none⟩) (Nat.le_refl _) (.int .i64 0)
        go_wp2_with fail
        exact bodyPost_ret (v := retParse none) (by simp [results, Tryd.results50, go_sem, retParse, *]) rfl ⟨by rw [e1.out], hbe⟩
      | true =>
        have e1 := Lib.hid (show parseP l = some (a, n) by rw [hP]; simp [hok])
        rw [hok] at QR
        clear hP ha hi hok
        go_enter Tryd.func50, Tryd.ntmps50
        go_wp2_with fail
        refine q46.out.mono ?_
        rintro e w1 ⟨rfl, hb1⟩
        go_wp2_with fail
        refine (QA _ (HT.out _ hb1)).out.mono ?_
        rintro e w2 ⟨rfl, hb2'⟩
        have hb2 := hb1.trans (hb2'.mono hb1.size)
        simp only [retAddr, Option.getD_none, Option.isSome_none, Option.getD_some, Option.isSome_some]
        go_wp2_with fail
        refine (QI _ (HT.out _ hb2)).out.mono ?_
        rintro e w3 ⟨rfl, rfl⟩
        simp only [retInt, Option.getD_none, Option.isSome_none, Option.getD_some, Option.isSome_some]
        go_wp2_with fail
        refine (QR _).out.mono ?_
        rintro e w3 ⟨rfl, hb3'⟩
        have hb2a := hb2.alloc hb2.size (.cells #[.int .u32 (a : Int), .int .i64 (n : Int)] 33)
        have hb3 := hb2a.trans (hb3'.mono hb2a.size)
        have hk := HK.out _ hb3
        have c0 : w3.cell? ⟨w.heap.size, 0, none⟩ = some (.int .u32 0) := hk.cell 0
        have c1 : w3.cell? ⟨w.heap.size, 1, none⟩ = some (.int .i64 0) := hk.cell 1
        have f0 := hk.free 0
        have f1 := hk.free 1
        have hq := (Blk.new w2 33 [.int .u32 (a : Int), .int .i64 (n : Int)]).below hb3' (by simp)
        have d0 : w3.cell? ⟨w2.heap.size, 0, none⟩ = some (.int .u32 (a : Int)) := hq.cell 0
        have d1 : w3.cell? ⟨w2.heap.size, 1, none⟩ = some (.int .i64 (n : Int)) := hq.cell 1
        have hlt : w.heap.size < w2.heap.size := (HK.out _ hb2).lt
        have hne : ¬ w.heap.size = w2.heap.size := by omega
        have hne2 : ¬ w2.heap.size = w.heap.size := by omega
        have hbe := ((below_box hb3).setCell (p := ⟨w.heap.size, 0, none⟩) (Nat.le_refl _) (.int .u32 (a : Int))).setCell (p := ⟨w.heap.size, 1, none⟩) (Nat.le_refl _) (.int .i64 (n : Int))
        go_wp2_with fail
        exact bodyPost_ret (v := retParse (some (a, n))) (by simp [results, Tryd.results50, go_sem, retParse, *]) rfl ⟨by rw [e1.out], hbe⟩
end Go.Proofs.YtcjeifpdikojlaaDoor
