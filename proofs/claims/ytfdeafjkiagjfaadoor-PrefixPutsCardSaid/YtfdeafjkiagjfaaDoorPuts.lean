/-
  PrefixPuts: its ways.
-/
import Derived.Test.YtfdeafjkiagjfaaDoorPRead
import Derived.Test.YtfdeafjkiagjfaaDoorRefPPut
import Derived.Test.YtfdeafjkiagjfaaDoorPAwake
import Derived.Test.YtfdeafjkiagjfaaDoorSame
namespace Go.Proofs.YtfdeafjkiagjfaaDoor
set_option linter.unusedVariables false
set_option linter.unusedSimpArgs false
open Go.RowKit

theorem num_be32 (a r : Nat) (ha : a < 4294967296) (hr : r ≤ 4) : num (pad4 ((be32 (a : Int)).take r)) = a / 2 ^ (32 - 8 * r) * 2 ^ (32 - 8 * r) := by
  have t : ∀ x : Int, 0 ≤ x → x < 256 → (UInt8.ofNat x.toNat).toNat = x.toNat := fun x h1 h2 => by rw [UInt8.toNat_ofNat', Nat.mod_eq_of_lt (by omega)]
  rcases (show r = 0 ∨ r = 1 ∨ r = 2 ∨ r = 3 ∨ r = 4 by omega) with rfl | rfl | rfl | rfl | rfl
  all_goals simp only [be32, pad4, num, List.take, List.foldl, List.length, List.replicate, List.append_nil, List.nil_append, List.cons_append, Nat.reduceSub, Nat.reduceAdd, Nat.reduceMul, Nat.reducePow]
  all_goals try simp only [t ((a : Int) / 16777216 % 256) (by omega) (by omega), t ((a : Int) / 65536 % 256) (by omega) (by omega), t ((a : Int) / 256 % 256) (by omega) (by omega), t ((a : Int) % 256) (by omega) (by omega)]
  all_goals try simp
  all_goals try omega
/-- The bytes of a right prefix say that prefix. -/
theorem hi_back {a k : Nat} (ha : a < 4294967296) (hk : k ≤ 32) (hok : okP (a : Int) (k : Int) = true) : hi (num (pad4 ((be32 (a : Int)).take ((k + 7) / 8)))) k = a := by
  have h1 : hi a k = a := by
    unfold okP at hok
    simp only [decide_eq_true_eq, Int.toNat_natCast] at hok
    exact hok.2.2
  have h2 : num (pad4 ((be32 (a : Int)).take ((k + 7) / 8))) = hi a (8 * ((k + 7) / 8)) := num_be32 a _ ha (by omega)
  rw [h2, hi_of_hi a (by omega) (by omega), h1]
theorem read_back {more : List UInt8} (a k B g : Nat) (w : World) (ha : a < 4294967296) (hk : k ≤ 32) (hok : okP (a : Int) (k : Int) = true) (hl : more.length ≤ 1000) (h : Rd w B g (bytesP a k ++ more) false) :
    Calls Tryd.prog 38 #[.pointer (some ⟨g, 0, none⟩)] w (ReadPost w B g a k more) := by
  have hlen : ((be32 (a : Int)).take ((k + 7) / 8)).length = (k + 7) / 8 := by simp [be32]; omega
  have h2 := Read_ok k B g ((be32 (a : Int)).take ((k + 7) / 8)) more w h hk hlen (by rw [List.length_append, hlen]; omega)
  rw [hi_back ha hk hok] at h2
  exact h2

set_option maxHeartbeats 3200000 in
theorem puts_long (A0 A2 : Option Addr) (c0 c2 p : Nat) (l0 l2 : List UInt8) (w : World) (hp : p < 4294967296) (hc0 : l0.length ≤ c0) (hm0 : c0 ≤ maxLen) (hb0 : Bytes w A0 l0) (hc2 : l2.length ≤ c2) (hm2 : c2 ≤ maxLen) (hb2 : Bytes w A2 l2) (ht : Tab w) (n : Int) (hl : 500 < l0.length ∨ 500 < l2.length) : Calls Tryd.prog 8 #[.slice A0 l0.length c0, .agg #[.int .u32 (p : Int), .int .i64 n], .slice A2 l2.length c2] w fun e w' => e = .returned (.bool true) ∧ Below w.heap.size w w' := by
  have hbc := Below.refl (w.alloc (.cells #[.int .u32 (p : Int), .int .i64 n] 24)).heap.size (w.alloc (.cells #[.int .u32 (p : Int), .int .i64 n] 24))
  have HT := Lib.hid (fun (w' : World) (hb : Below (w.alloc (.cells #[.int .u32 (p : Int), .int .i64 n] 24)).heap.size (w.alloc (.cells #[.int .u32 (p : Int), .int .i64 n] 24)) w') => ht.below (below_box hb) ht.lt)
  have HS := Lib.hid (fun w' hb => box_cells w (.int .u32 (p : Int)) (.int .i64 n) (w' := w') hb)
  have HY0 := Lib.hid (fun (w' : World) (hb : Below (w.alloc (.cells #[.int .u32 (p : Int), .int .i64 n] 24)).heap.size (w.alloc (.cells #[.int .u32 (p : Int), .int .i64 n] 24)) w') => hb0.below (below_box hb))
  have HY2 := Lib.hid (fun (w' : World) (hb : Below (w.alloc (.cells #[.int .u32 (p : Int), .int .i64 n] 24)).heap.size (w.alloc (.cells #[.int .u32 (p : Int), .int .i64 n] 24)) w') => hb2.below (below_box hb))
  clear ht hb0 hb2
  by_cases h0 : 500 < l0.length
  · have h0I : (500 : Int) < (l0.length : Int) := by omega
    clear h0 hl
    go_enter Tryd.func8, Tryd.ntmps8
    go_wp2_with fail
    refine (awake_any _ (HT.out _ hbc)).mono ?_
    rintro e wz ⟨rfl, hg⟩
    replace hbc := hbc.trans (hg.mono hbc.size)
    go_wp2_with fail
    go_ret
    exact ⟨rfl, below_box hbc⟩
  · have h2I : (500 : Int) < (l2.length : Int) := by omega
    have h0I : ¬ (500 : Int) < (l0.length : Int) := by omega
    clear h0 hl
    go_enter Tryd.func8, Tryd.ntmps8
    go_wp2_with fail
    refine (awake_any _ (HT.out _ hbc)).mono ?_
    rintro e wz ⟨rfl, hg⟩
    replace hbc := hbc.trans (hg.mono hbc.size)
    go_wp2_with fail
    go_ret
    exact ⟨rfl, below_box hbc⟩

set_option maxHeartbeats 3200000 in
theorem puts_no (A0 A2 : Option Addr) (c0 c2 p : Nat) (l0 l2 : List UInt8) (w : World) (hp : p < 4294967296) (hc0 : l0.length ≤ c0) (hm0 : c0 ≤ maxLen) (hb0 : Bytes w A0 l0) (hc2 : l2.length ≤ c2) (hm2 : c2 ≤ maxLen) (hb2 : Bytes w A2 l2) (ht : Tab w) (n : Int) (hn : -9223372036854775808 ≤ n ∧ n ≤ 9223372036854775807) (h0 : l0.length ≤ 500) (h2 : l2.length ≤ 500) (hok : okP (p : Int) n = false) : Calls Tryd.prog 8 #[.slice A0 l0.length c0, .agg #[.int .u32 (p : Int), .int .i64 n], .slice A2 l2.length c2] w fun e w' => e = .returned (.bool true) ∧ Below w.heap.size w w' := by
  have hbc := Below.refl (w.alloc (.cells #[.int .u32 (p : Int), .int .i64 n] 24)).heap.size (w.alloc (.cells #[.int .u32 (p : Int), .int .i64 n] 24))
  have HT := Lib.hid (fun (w' : World) (hb : Below (w.alloc (.cells #[.int .u32 (p : Int), .int .i64 n] 24)).heap.size (w.alloc (.cells #[.int .u32 (p : Int), .int .i64 n] 24)) w') => ht.below (below_box hb) ht.lt)
  have HS := Lib.hid (fun w' hb => box_cells w (.int .u32 (p : Int)) (.int .i64 n) (w' := w') hb)
  have HY0 := Lib.hid (fun (w' : World) (hb : Below (w.alloc (.cells #[.int .u32 (p : Int), .int .i64 n] 24)).heap.size (w.alloc (.cells #[.int .u32 (p : Int), .int .i64 n] 24)) w') => hb0.below (below_box hb))
  have HY2 := Lib.hid (fun (w' : World) (hb : Below (w.alloc (.cells #[.int .u32 (p : Int), .int .i64 n] 24)).heap.size (w.alloc (.cells #[.int .u32 (p : Int), .int .i64 n] 24)) w') => hb2.below (below_box hb))
  clear ht hb0 hb2
  have h0I : ¬ (500 : Int) < (l0.length : Int) := by omega
  have h2I : ¬ (500 : Int) < (l2.length : Int) := by omega
  have Q1 := fun W => Lib.hid (PPut_bad A0 c0 l0 p n W hp hn.1 hn.2 hok)
  have Q2 := fun W => Lib.hid (RefPPut_bad A0 c0 l0 p n W hp hok)
  simp only [retPut] at Q1 Q2
  clear hok
  go_enter Tryd.func8, Tryd.ntmps8
  go_wp2_with fail
  refine (Q1 _).out.mono ?_
  rintro e wx ⟨rfl, hg⟩
  replace hbc := hbc.trans (hg.mono hbc.size)
  clear hg
  have HC := HS.out _ hbc
  go_wp2_with fail
  refine (Q2 _).out.mono ?_
  rintro e wx ⟨rfl, hg⟩
  replace hbc := hbc.trans (hg.mono hbc.size)
  clear hg
  have HC := HS.out _ hbc
  go_wp2_with fail
  refine (Same_any none none 0 0 0 0 [] [] rfl rfl _ (Bytes.nil _ _) (Bytes.nil _ _)).mono ?_
  rintro e wy ⟨rfl, rfl⟩
  go_wp2_with fail
  refine (awake_any _ (HT.out _ hbc)).mono ?_
  rintro e wz ⟨rfl, hg⟩
  replace hbc := hbc.trans (hg.mono hbc.size)
  go_wp2_with fail
  go_ret
  exact ⟨rfl, below_box hbc⟩

set_option maxHeartbeats 12800000 in
theorem puts_ok (A0 A2 : Option Addr) (c0 c2 p : Nat) (l0 l2 : List UInt8) (w : World) (hp : p < 4294967296) (hc0 : l0.length ≤ c0) (hm0 : c0 ≤ maxLen) (hb0 : Bytes w A0 l0) (hc2 : l2.length ≤ c2) (hm2 : c2 ≤ maxLen) (hb2 : Bytes w A2 l2) (ht : Tab w) (k : Nat) (hk : k ≤ 32) (h0 : l0.length ≤ 500) (h2 : l2.length ≤ 500) (hok : okP (p : Int) (k : Int) = true) : Calls Tryd.prog 8 #[.slice A0 l0.length c0, .agg #[.int .u32 (p : Int), .int .i64 (k : Int)], .slice A2 l2.length c2] w fun e w' => e = .returned (.bool true) ∧ Below w.heap.size w w' := by
  have hbc := Below.refl (w.alloc (.cells #[.int .u32 (p : Int), .int .i64 (k : Int)] 24)).heap.size (w.alloc (.cells #[.int .u32 (p : Int), .int .i64 (k : Int)] 24))
  have HT := Lib.hid (fun (w' : World) (hb : Below (w.alloc (.cells #[.int .u32 (p : Int), .int .i64 (k : Int)] 24)).heap.size (w.alloc (.cells #[.int .u32 (p : Int), .int .i64 (k : Int)] 24)) w') => ht.below (below_box hb) ht.lt)
  have HS := Lib.hid (fun w' hb => box_cells w (.int .u32 (p : Int)) (.int .i64 (k : Int)) (w' := w') hb)
  have HY0 := Lib.hid (fun (w' : World) (hb : Below (w.alloc (.cells #[.int .u32 (p : Int), .int .i64 (k : Int)] 24)).heap.size (w.alloc (.cells #[.int .u32 (p : Int), .int .i64 (k : Int)] 24)) w') => hb0.below (below_box hb))
  have HY2 := Lib.hid (fun (w' : World) (hb : Below (w.alloc (.cells #[.int .u32 (p : Int), .int .i64 (k : Int)] 24)).heap.size (w.alloc (.cells #[.int .u32 (p : Int), .int .i64 (k : Int)] 24)) w') => hb2.below (below_box hb))
  clear ht hb0 hb2
  have h0I : ¬ (500 : Int) < (l0.length : Int) := by omega
  have h2I : ¬ (500 : Int) < (l2.length : Int) := by omega
  have hbl : (bytesP p k).length = 1 + (k + 7) / 8 := by simp [bytesP, be32]; omega
  have Q1 := fun W h => Lib.hid (show Calls Tryd.prog 34 _ W (RetPut W (l0 ++ bytesP p k)) from PPut_ok A0 c0 l0 p k W hp hk hok (by omega) h)
  have Q2 := fun W h => Lib.hid (RefPPut_ok A0 c0 l0 p k W hp hk hok (by omega) h)
  have HR := Lib.hid (fun B g W h => read_back (more := l2) p k B g W hp hk hok (by omega) h)
  have hX : (l0 ++ bytesP p k).length = l0.length + (1 + (k + 7) / 8) := by rw [List.length_append, hbl]
  have hD : (l0 ++ bytesP p k).drop l0.length = bytesP p k := by simp
  obtain ⟨X, hXX⟩ : ∃ X, X = l0 ++ bytesP p k := ⟨_, rfl⟩
  obtain ⟨Y, hYY⟩ : ∃ Y, Y = bytesP p k := ⟨_, rfl⟩
  rw [← hXX] at Q1 Q2 hX hD
  rw [← hYY] at HR hbl hD
  have HD := Lib.hid hD; have HXL := Lib.hid hX; have HBL := Lib.hid hbl
  clear hok hXX hYY hD hX hbl
  go_enter Tryd.func8, Tryd.ntmps8
  go_wp2_with fail
  refine (Q1 _ (HY0.out _ hbc)).out.mono ?_
  rintro e w1 ⟨A1, d1, rfl, f1, g1, ho1, hg⟩
  replace hbc := hbc.trans (hg.mono hbc.size)
  simp only [retPut]
  have Y1 := Lib.hid ho1.bytes; clear hg ho1
  have HC := HS.out _ hbc
  go_wp2_with fail
  refine (Q2 _ (HY0.out _ hbc)).out.mono ?_
  rintro e w2 ⟨A3, d3, rfl, f3, g3, ho3, hg⟩
  replace hbc := hbc.trans (hg.mono hbc.size)
  simp only [retPut]
  have Y2 := Lib.hid (Y1.out.below hg)
  have Y3 := Lib.hid ho3.bytes; clear hg ho3 Y1
  go_wp2_with fail
  refine (Same_any A1 A3 X.length X.length d1 d3 X X rfl rfl _ Y2.out Y3.out).mono ?_
  rintro e wy ⟨rfl, rfl⟩
  have hd1 : ¬ d1 = l0.length := by have := HXL.out; omega
  have H0 := Lib.hid (own_empty w2 5)
  have hx1 : (l0.length : Int) ≤ (X.length : Int) := by have := HXL.out; omega
  have hx2 : (X.length : Int) ≤ (d1 : Int) := by omega
  have Y4 := Lib.hid ((Y2.out.drop (k := l0.length) f1).alloc (.cells #[] 5))
  have Y5 := Lib.hid (show Bytes (w2.alloc (.cells #[] 5)) (A1.map (·.add l0.length)) Y from by
    have h := Y4.out
    rw [if_neg hd1, HD.out] at h
    exact h)
  clear Y4
  go_wp2_with (at_builtin; refine wpList_append_bytes isBytes rfl (.tmp 47) (.tmp 51) rfl w2 _ [] rfl H0.out _ Y _ _ rfl ?n1 ?m1 ?s1 ((Below.refl _ _).alloc (Nat.le_refl _) _) ?_)
  case n1 => have := HXL.out; have := HBL.out; omega
  case m1 => exact Y5.out
  case s1 => have := HBL.out; simp; omega
  intro v3 w3 hown3 _ hb3
  have O3 := Lib.hid hown3
  have B3 := Lib.hid hb3
  have hbc3 := hbc.trans (hb3.mono hbc.size)
  have Y6 := Lib.hid (HY2.out _ hbc3)
  clear hown3 hb3 Y5 H0 HC
  go_wp2_with (at_builtin; refine wpList_append_bytes isBytes rfl (.tmp 52) (.tmp 53) rfl w2 v3 _ rfl O3.out _ l2 _ c2 rfl rfl Y6.out ?s2 B3.out ?_)
  case s2 => have := HBL.out; simp; omega
  intro v4 w4 hown4 _ hb4
  obtain ⟨P4, d4, rfl, f4, g4, hA4⟩ := hown4.bytes'
  have hbc4 := hbc.trans (hb4.mono hbc.size)
  have N4 := Lib.hid (fun n hn => New_any P4 n d4 _ hn w4 hA4 f4 g4)
  clear hown4 hb4 hA4 f4 g4 O3 Y6 B3 hbc3
  go_wp2_with fail
  refine (N4.out _ (by simp)).mono ?_
  rintro e w5 ⟨rfl, hr5, hb5⟩
  have hbc5 := hbc4.trans (hb5.mono hbc4.size)
  have R5 := Lib.hid hr5
  clear hr5 hb5 N4
  go_wp2_with fail
  refine (HR.out _ _ _ (by simpa using R5.out)).mono ?_
  rintro e w6 ⟨rfl, hr6, hg6⟩
  have hbc6 := hbc5.trans (below_of_grown hg6 hbc5.size hbc4.size)
  have k6 := Blk.new w6 24 [.int .u32 (p : Int), .int .i64 (k : Int)]
  have hA := (Below.refl w6.heap.size w6).alloc (Nat.le_refl _) (.cells #[.int .u32 (p : Int), .int .i64 (k : Int)] 24)
  have R6 := Lib.hid (hr6.below hA hr6.lt)
  have c6 := cells2 k6
  replace hbc := hbc6.alloc hbc6.size (.cells #[.int .u32 (p : Int), .int .i64 (k : Int)] 24)
  have HC := HS.out _ hbc
  clear hr6 hg6 R5 hbc4 hbc5 hbc6 k6 hA
  go_wp2_with fail
  refine (Left_any _ _ _ _ _ R6.out).mono ?_
  rintro e w7 ⟨rfl, rfl⟩
  go_wp2_with fail
  refine (awake_any _ (HT.out _ hbc)).mono ?_
  rintro e wz ⟨rfl, hg⟩
  replace hbc := hbc.trans (hg.mono hbc.size)
  go_wp2_with fail
  go_ret
  exact ⟨rfl, below_box hbc⟩
end Go.Proofs.YtfdeafjkiagjfaaDoor
