/-
  P26.1, P26.2: when a cursor goes: the walk.
-/
import Derived.Test.YtgaoonnokhlgjaaAwake26
namespace Go.Proofs.Ytgaoonnokhlgjaa
set_option linter.unusedVariables false
set_option linter.unusedSimpArgs false
open Go.RowKit

theorem Tab.keep {w w' : World} {g B : Nat} {mo li la : Int} {v v' : Value} {L : List Cu} (h : Tab w g mo li la v L) (k : KeepA w w' g v v') (hg : B ≤ g) : Below B w w' :=
  k.below hg (fun k hk => by have := (h.own.lt k hk).1; omega) (by have := h.lt; omega)
def cuA (j : Int) : Cu := { openedU (ownCu 3) 1 with age := j }
def cuB (j : Int) : Cu := { cuA j with aa := 0, al := 1 }
theorem goodA {n j : Int} (hn : 1 ≤ n ∧ n ≤ 40) (hj : 0 ≤ j ∧ j < n) : Good 2 n 1 [cuA j] := ⟨by simp, by omega, by omega, List.pairwise_singleton _ _, (fun c hc => by rw [List.mem_singleton.1 hc]; exact ⟨Int.le_refl 1, Int.le_refl 1⟩), (fun c hc => by rw [List.mem_singleton.1 hc]; exact hj)⟩
theorem to3 : OpenTo 2 0 [] (ownCu 3) [cuA 0] [] := ⟨.inr ⟨by simp, rfl, rfl⟩, rfl, rfl⟩
theorem tickA {n j : Int} (hj : j + 1 ≠ n) : (([cuA j] : List Cu).map older).filter (fun c => !(c.age == n)) = [cuA (j + 1)] ∧ (([cuA j] : List Cu).map older).filter (fun c => c.age == n) = [] := by
  have : (j + 1 == n) = false := by simpa using hj
  have h2 : ((older (cuA j)).age == n) = false := this
  simp [h2]
  rfl
theorem tickB {n j : Int} (hj : j + 1 ≠ n) : (([cuB j] : List Cu).map older).filter (fun c => !(c.age == n)) = [cuB (j + 1)] ∧ (([cuB j] : List Cu).map older).filter (fun c => c.age == n) = [] := by
  have : (j + 1 == n) = false := by simpa using hj
  have h2 : ((older (cuB j)).age == n) = false := this
  simp [h2]
  rfl
theorem tickE {n j : Int} (hj : j + 1 = n) : (([cuB j] : List Cu).map older).filter (fun c => !(c.age == n)) = [] ∧ (([cuB j] : List Cu).map older).filter (fun c => c.age == n) = [cuB n] := by
  have : (j + 1 == n) = true := by simpa using hj
  have h2 : ((older (cuB j)).age == n) = true := this
  have h3 : older (cuB j) = cuB n := by rw [← hj]; rfl
  have h4 : ((cuB n).age == n) = true := by rw [← h3]; exact h2
  simp [h2, h3, h4]
structure LRel (w : World) (g : Nat) (n : Int) (L : List Cu) (wr : World) : Prop where
  bel : Below w.heap.size w wr
  tab : ∃ v, Tab wr g 2 n 1 v L
theorem LRel.go {w wr w' : World} {g : Nat} {n : Int} {v : Value} {L L' : List Cu} (hb : Below w.heap.size w wr) (ht : Tab wr g 2 n 1 v L) (hg : w.heap.size ≤ g) {v' : Value} (ht' : Tab w' g 2 n 1 v' L') (hk : KeepA wr w' g v v') : LRel w g n L' w' :=
  ⟨hb.trans (ht.keep hk hg), v', ht'⟩
theorem LRel.below {w wr w' : World} {g : Nat} {n : Int} {L : List Cu} (h : LRel w g n L wr) (hb : Below wr.heap.size wr w') : LRel w g n L w' :=
  ⟨h.bel.trans (hb.mono h.bel.size), h.tab.elim fun v ht => ⟨v, ht.below hb⟩⟩
set_option maxRecDepth 100000 in
set_option maxHeartbeats 6400000 in
theorem CursorLives.walk (l m : Nat) (hl : l < 256) (hm : m < 256) (w : World) :
    Calls Try.prog 5 #[.int .u8 (l : Int), .int .u8 (m : Int)] w fun e w' => e = .returned (.bool true) ∧ Below w.heap.size w w' := by
  go_enter Try.func5, Try.ntmps5
  go_wp2_with fail
  obtain ⟨n, hn⟩ : ∃ n : Int, n = (l : Int) % 40 + 1 := ⟨_, rfl⟩
  obtain ⟨q, hq⟩ : ∃ q : Int, q = (m : Int) % n := ⟨_, rfl⟩
  rw [← hn, ← hq]
  have hnb : 1 ≤ n ∧ n ≤ 40 := by omega
  have hqb : 0 ≤ q ∧ q < n := by rw [hq]; exact ⟨Int.emod_nonneg _ (by omega), Int.emod_lt_of_pos _ (by omega)⟩
  clear hn hq
  refine (New26_any 2 n w).mono ?_
  rintro e w1 ⟨rfl, ht, hb1⟩
  rw [show mostC 2 = 2 from rfl, show lifeC n = n from by unfold lifeC; rw [if_neg (by omega)]] at ht
  have B1 := Lib.hid hb1; have T1 := Lib.hid ht
  have Q1 := Lib.hid (Open26_to w.heap.size 2 n 0 _ [] (ownCu 3) [cuA 0] [] w1 ht (Good.nil (by omega) (by omega)) (by omega) to3)
  clear ht hb1
  go_wp2_with fail
  refine Q1.out.mono ?_
  rintro e w2 ⟨u2, v2, rfl, ht, hs, hk⟩
  have S2 := Lib.hid (show LRel w w.heap.size n [cuA 0] w2 from ⟨B1.out.trans (T1.out.keep hk (Nat.le_refl _)), v2, ht⟩)
  obtain ⟨A2, d2, rfl, _⟩ := id hs
  clear ht hs hk Q1 T1 B1
  go_wp2_with fail
  go_loopw [10] (fun i wr => ∃ j : Nat, i = .int .i64 (j : Int) ∧ (j : Int) ≤ q ∧ LRel w w.heap.size n [cuA j] wr) (fun i _ => q.toNat - (intOf i).toNat)
  case atStart => exact ⟨0, rfl, hqb.1, S2.out⟩
  case round =>
    obtain ⟨j, rfl, hj, S⟩ := hrel
    obtain ⟨v, ht⟩ := S.tab
    have HS := Lib.hid S; have HT := Lib.hid ht
    by_cases hlt : (j : Int) < q
    · have QT := Lib.hid (Tick26_any w.heap.size 2 n 1 v [cuA j] wr ht (fun c hc => by rw [List.mem_singleton.1 hc]; exact ⟨by show (0 : Int) ≤ j; omega, by show (j : Int) ≤ _; omega⟩))
      rw [(tickA (n := n) (j := j) (by omega)).1, (tickA (n := n) (j := j) (by omega)).2] at QT
      have hj40 : (j : Int) ≤ 40 := by omega
      have HJ := Lib.hid hj; have HLT := Lib.hid hlt
      clear S ht S2 hj
      go_wp2_with fail
      refine QT.out.mono ?_
      rintro e w4 ⟨u, v', rfl, ht, hs, hk⟩
      have S4 := Lib.hid (LRel.go HS.out.bel HT.out (Nat.le_refl _) ht hk)
      clear ht hs hk QT
      go_wp2_with fail
      go_roundw
      case rel => exact ⟨j + 1, by go_num, by have := HLT.out; omega, by have := S4.out; exact_mod_cast this⟩
      case measure => have hm := HLT.out; simp [intOf] at hm ⊢; try omega
    · have hjq : (j : Int) = q := by omega
      have QM := Lib.hid (Move26_some w.heap.size 2 n 1 v [cuA j] 0 (cuA j) 3 1 0 1 wr ht rfl rfl)
      have HJQ := Lib.hid hjq
      clear S ht S2 hj
      go_wp2_with fail
      refine QM.out.mono ?_
      rintro e w4 ⟨rfl, ht, hk⟩
      have S4 := Lib.hid (LRel.go HS.out.bel HT.out (Nat.le_refl _) ht hk)
      have e0 : ([cuA j] : List Cu).set 0 (movedU (cuA j) 0 1) = [cuB 0] := rfl
      rw [e0] at S4
      clear ht hk QM HS HT e0
      go_wp2_with fail
      go_loopw [11] (fun i wr => ∃ j : Nat, i = .int .i64 ((j : Int) + 1) ∧ (j : Int) ≤ n ∧ ∃ L, LRel w w.heap.size n L wr ∧ ((j : Int) < n → L = [cuB j])) (fun i _ => 50 - (intOf i).toNat)
      case atStart => exact ⟨0, rfl, by omega, [cuB 0], S4.out, fun _ => rfl⟩
      case round =>
        obtain ⟨j2, rfl, hj2, L, S, hL⟩ := hrel
        obtain ⟨v, ht⟩ := S.tab
        have HS := Lib.hid S; have HT := Lib.hid ht
        by_cases hlt2 : (j2 : Int) + 1 ≤ n
        · obtain rfl := hL (by omega)
          have QT := Lib.hid (Tick26_any w.heap.size 2 n 1 v [cuB j2] _ ht (fun c hc => by rw [List.mem_singleton.1 hc]; exact ⟨by show (0 : Int) ≤ j2; omega, by show (j2 : Int) ≤ _; omega⟩))
          have HJ := Lib.hid hj2; have HLT := Lib.hid hlt2
          have hj50 : (j2 : Int) ≤ 40 := by omega
          by_cases hend : (j2 : Int) + 1 = n
          · rw [(tickE (n := n) (j := j2) hend).1, (tickE (n := n) (j := j2) hend).2] at QT
            have HE := Lib.hid hend
            have h1 : ¬ ((j2 : Int) + 1 < n) := by omega
            clear S ht S4 hj2 hL hend
            go_wp2_with fail
            refine QT.out.mono ?_
            rintro e w5 ⟨u, v', rfl, ht, hs, hk⟩
            have S5 := Lib.hid (LRel.go HS.out.bel HT.out (Nat.le_refl _) ht hk)
            have T5 := Lib.hid ht
            obtain ⟨A5, d5, rfl, _⟩ := id hs
            have QG := Lib.hid (Get26_none w.heap.size 2 n 1 v' [] 3 1 w5 ht rfl)
            clear ht hs hk QT
            go_wp2_with fail
            refine QG.out.mono ?_
            rintro e w6 ⟨rfl, hb6⟩
            have S6 := Lib.hid (S5.out.below hb6)
            clear hb6 QG S5 T5
            go_wp2_with (refine wpList_storeNewS (row := Cu0.row) _ w6 zerosU 36 rfl (isP Cu0) Cu0.one rfl rfl (.tmp 13) (.tmp 54) rfl rfl rfl rfl ?_)
            intro w7 k7 hb7 hz7
            have S7 := Lib.hid (S6.out.below hb7)
            clear k7 hb7 hz7 S6
            have he : ((j2 : Int) + 1 == n) = true := by have := HE.out; simpa using this
            go_wp2_with fail
            go_roundw
            case rel => exact ⟨j2 + 1, by go_num, by have := HE.out; omega, [], S7.out, fun h => by have := HE.out; omega⟩
            case measure => have hm := HLT.out; simp [intOf] at hm ⊢; try omega
          · rw [(tickB (n := n) (j := j2) hend).1, (tickB (n := n) (j := j2) hend).2] at QT
            have HE := Lib.hid hend
            have h1 : (j2 : Int) + 1 < n := by omega
            clear S ht S4 hj2 hL hend
            go_wp2_with fail
            refine QT.out.mono ?_
            rintro e w5 ⟨u, v', rfl, ht, hs, hk⟩
            have S5 := Lib.hid (LRel.go HS.out.bel HT.out (Nat.le_refl _) ht hk)
            have T5 := Lib.hid ht
            obtain ⟨A5, d5, rfl, _⟩ := id hs
            have QG := Lib.hid (Get26_some w.heap.size 2 n 1 v' [cuB ((j2 : Int) + 1)] 0 (cuB ((j2 : Int) + 1)) 3 1 w5 ht rfl rfl)
            clear ht hs hk QT
            go_wp2_with fail
            refine QG.out.mono ?_
            rintro e w6 ⟨rfl, hb6⟩
            have S6 := Lib.hid (S5.out.below hb6)
            clear hb6 QG S5 T5
            go_wp2_with (refine wpList_storeNewS (row := (cuB ((j2 : Int) + 1)).row) _ w6 zerosU 36 rfl (isP (cuB ((j2 : Int) + 1))) (cuB ((j2 : Int) + 1)).one rfl rfl (.tmp 13) (.tmp 54) rfl rfl rfl rfl ?_)
            intro w7 k7 hb7 hz7
            have S7 := Lib.hid (S6.out.below hb7)
            clear k7 hb7 hz7 S6
            have he : ((j2 : Int) + 1 == n) = false := by have := HE.out; simpa using this
            go_wp2_with fail
            go_roundw
            case rel => exact ⟨j2 + 1, by go_num, by omega, _, S7.out, fun _ => by congr 1⟩
            case measure => have hm := HLT.out; simp [intOf] at hm ⊢; try omega
        · clear S ht S4 hL
          go_wp2_with fail
          refine (awake26_any _).mono ?_
          rintro e w10 ⟨rfl, hb⟩
          have B10 := Lib.hid (HS.out.bel.trans (hb.mono HS.out.bel.size))
          clear hb
          go_wp2_with fail
          go_ret
          exact ⟨rfl, B10.out⟩
end Go.Proofs.Ytgaoonnokhlgjaa
