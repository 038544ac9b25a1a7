/-
  Texts of this seat, put together: RdF4, USame5, Step4, BackF4, Part4, Next4, Say4.
-/
import Derived.Test.YtnaangnmlbgmkaaGreatDoorPutA4Mg
import Derived.Test.YtnaangnmlbgmkaaGreatDoorMg4
import Derived.Test.YtnaangnmlbgmkaaGreatDoorMg8
import Derived.Test.YtnaangnmlbgmkaaGreatDoorSame4Mg
import Derived.Test.YtnaangnmlbgmkaaGreatDoorRefSame4Mg
import Derived.Test.YtnaangnmlbgmkaaGreatDoorMg1
/-
  What attributes' bytes say, where nothing is wrong with them: as a Lean function of the bytes.
-/
namespace Go.Proofs.YtnaangnmlbgmkaaGreatDoor
set_option linter.unusedVariables false
set_option linter.unusedSimpArgs false
open Go.RowKit

/-- An attribute as it stands: flags, kind, value; what is left behind it, and whether bytes lacked. -/
structure Pa where
  fl : Nat
  kind : Nat
  val : List UInt8
  rest : List UInt8
  bad : Bool
def longN (f : Nat) : Int := if f / 16 % 2 = 1 then 2 else 1
def n1 (l : List UInt8) : List UInt8 × List UInt8 × Bool := rdTake l false 1
def n2 (l : List UInt8) : List UInt8 × List UInt8 × Bool := rdTake (n1 l).2.1 (n1 l).2.2 1
def n3 (l : List UInt8) : List UInt8 × List UInt8 × Bool := rdTake (n2 l).2.1 (n2 l).2.2 (longN (num (n1 l).1))
def n4 (l : List UInt8) : List UInt8 × List UInt8 × Bool := rdTake (n3 l).2.1 (n3 l).2.2 ((num (n3 l).1 : Nat) : Int)
def nextA (l : List UInt8) : Pa := ⟨num (n1 l).1, num (n2 l).1, (n4 l).1, (n4 l).2.1, (n4 l).2.2⟩

/-- What was read so far. -/
structure Rs where
  org : Nat
  path : List (Int × List Nat)
  next : Nat
  med : Int
  pref : Int
  atomic : Bool
  has : Bool
  aas : Nat
  aad : Nat
  comms : List Nat
  raws : List (Int × Int × List UInt8)
  kinds : List Nat
  wpath : List (Int × List Nat)
  aggr : List UInt8
def rs0 : Rs := ⟨0, [], 0, -1, -1, false, false, 0, 0, [], [], [], [], []⟩
/-- Numbers of four bytes each. -/
def nums4 : List UInt8 → List Nat
  | a :: b :: c :: d :: r => num [a, b, c, d] :: nums4 r
  | _ => []
/-- Has an attribute the flags of its kind (with or without the sign of a long one)? -/
def flOk (f k : Nat) : Bool := decide (f = k) || decide (f = k + 16)
/-- One attribute more, if nothing is wrong with it. -/
def stepF (wide : Bool) (S : Rs) (p : Pa) : Option Rs :=
  if p.kind ∈ S.kinds then none else
  (match p.kind with
  | 1 => if flOk p.fl 64 = true ∧ p.val.length = 1 ∧ num p.val ≤ 2 then some { S with org := num p.val } else none
  | 2 => if flOk p.fl 64 = true then (readL wide p.val).map fun r => ({ S with path := r } : Rs) else none
  | 3 => if flOk p.fl 64 = true ∧ p.val.length = 4 ∧ nextB (num p.val) = true then some { S with next := num p.val } else none
  | 4 => if flOk p.fl 128 = true ∧ p.val.length = 4 then some { S with med := (num p.val : Nat) } else none
  | 5 => if flOk p.fl 64 = true ∧ p.val.length = 4 then some { S with pref := (num p.val : Nat) } else none
  | 6 => if flOk p.fl 64 = true ∧ p.val.length = 0 then some { S with atomic := true } else none
  | 7 => if flOk p.fl 192 = true ∧ p.val.length = (if wide then 8 else 6) then some { S with has := true, aas := num (p.val.take (p.val.length - 4)), aad := num (p.val.drop (p.val.length - 4)) } else none
  | 8 => if flOk p.fl 192 = true ∧ p.val.length % 4 = 0 ∧ p.val.length ≤ 128 then some { S with comms := S.comms ++ nums4 p.val } else none
  | 17 => if flOk p.fl 192 = true then some { S with wpath := (readL true p.val).getD [] } else none
  | 18 => if flOk p.fl 192 = true then some { S with aggr := p.val } else none
  | k => if (lookN (k : Int)).isNone = true ∧ flOk p.fl 224 = true ∧ p.val.length ≤ 64 ∧ S.raws.length < 8 ∧ (∀ r ∈ S.raws, r.2.1 < (k : Int)) then some { S with raws := S.raws ++ [(224, (k : Int), p.val)] } else none : Option Rs).map fun T => { T with kinds := S.kinds ++ [p.kind] }
/-- All of some bytes. -/
def runF (wide : Bool) : Nat → List UInt8 → Rs → Option Rs
  | 0, l, S => if l = [] then some S else none
  | n + 1, l, S => if l = [] then some S else if (nextA l).bad = true then none else (stepF wide S (nextA l)).bind fun T => runF wide n (nextA l).rest T
/-- What stands beside narrow numbers is put in. -/
def widenF (wide : Bool) (S : Rs) : Rs :=
  if wide = true ∨ (S.has = true ∧ S.aas ≠ 23456) then S
  else if S.has = true ∧ S.aggr.length = 8 then { S with path := mergeL S.path S.wpath, aas := num (S.aggr.take 4), aad := num (S.aggr.drop 4) }
  else { S with path := mergeL S.path S.wpath }
theorem runF_step {wide : Bool} {n : Nat} {l : List UInt8} {S Sf : Rs} (h : runF wide n l S = some Sf) (hl : l ≠ []) : ∃ m T, (nextA l).bad = false ∧ stepF wide S (nextA l) = some T ∧ runF wide m (nextA l).rest T = some Sf := by
  cases n with
  | zero => simp [runF, hl] at h
  | succ n =>
    simp only [runF, hl, if_false] at h
    cases hb : (nextA l).bad with
    | true => simp [hb] at h
    | false =>
      simp only [hb, Bool.false_eq_true, if_false] at h
      cases hs : stepF wide S (nextA l) with
      | none => simp [hs] at h
      | some T => exact ⟨n, T, rfl, rfl, by simpa [hs] using h⟩
theorem runF_end {wide : Bool} {n : Nat} {S Sf : Rs} (h : runF wide n [] S = some Sf) : Sf = S := by
  cases n with
  | zero => simpa [runF] using h.symm
  | succ n => simpa [runF] using h.symm
end Go.Proofs.YtnaangnmlbgmkaaGreatDoor

/-
  Updates that are the same: Same of the program, and of the document.
-/
namespace Go.Proofs.YtnaangnmlbgmkaaGreatDoor
set_option linter.unusedVariables false
set_option linter.unusedSimpArgs false
open Go.RowKit

theorem Av.same_me (a : Av) : a.same a = true := by unfold Av.same sameP sameZ sameRs; simp
set_option maxHeartbeats 6400000 in
theorem USame_yes (u x : Uv) (w : World) (hu : u.In w w.heap.size) (hx : x.In w w.heap.size) (e1 : u.gone = x.gone) (e2 : u.news = x.news) (e3 : u.attrs.same x.attrs = true) (hl : u.attrs.path.length ≤ 1000000000) (hl2 : u.attrs.raws.length ≤ 1000000000) (hl3 : u.gone.length ≤ 1000000000) (hl4 : u.news.length ≤ 1000000000) :
    Calls Tryz.prog 18 #[.agg u.row.toArray, .agg x.row.toArray] w fun e w' => e = .returned (.bool true) ∧ Below w.heap.size w w' := by
  obtain ⟨W1, hW1⟩ : ∃ W1, W1 = w.alloc (.cells u.row.toArray 30) := ⟨_, rfl⟩
  have hb1 := (Below.refl w.heap.size w).alloc (Nat.le_refl _) (.cells u.row.toArray 30)
  have kU := Blk.new w 30 u.row
  rw [← hW1] at hb1 kU
  have hs1 : W1.heap.size = w.heap.size + 1 := by rw [hW1]; simp
  obtain ⟨W0, hW0⟩ : ∃ W0, W0 = W1.alloc (.cells x.row.toArray 30) := ⟨_, rfl⟩
  have hb2 := (Below.refl W1.heap.size W1).alloc (Nat.le_refl _) (.cells x.row.toArray 30)
  have kX := Blk.new W1 30 x.row
  rw [← hW0] at hb2 kX
  have hbw := hb1.trans (hb2.mono hb1.size)
  have kU2 := kU.below hb2 kU.lt
  have HW1 := Lib.hid hW1; have HW0 := Lib.hid hW0
  have HQ := fun (W : World) (q : Below W0.heap.size W0 W) => hbw.trans (q.mono hbw.size)
  have HUV := Lib.hid (fun (W : World) (q : Below W0.heap.size W0 W) => (uv_blk kU2).below q kU2.lt)
  have HXV := Lib.hid (fun (W : World) (q : Below W0.heap.size W0 W) => (uv_blk kX).below q kX.lt)
  have hux := fun (W : World) (q : Below W0.heap.size W0 W) => (hu.below (HQ W q) (Nat.le_refl _)).lift (HQ W q).size
  have hxx := fun (W : World) (q : Below W0.heap.size W0 W) => (hx.below (HQ W q) (Nat.le_refl _)).lift (HQ W q).size
  have QG := Lib.hid (fun (W : World) (q : Below W0.heap.size W0 W) => show Calls Tryz.prog 39 #[.slice u.goneA u.gone.length u.goneC, .slice x.goneA x.gone.length x.goneC] W fun e w' => e = .returned (.bool true) ∧ Below W.heap.size W w' by
    have h := EqualP_any u.goneA x.goneA u.goneC x.goneC u.gone x.gone W (hux W q).gone (hxx W q).gone hl3
    rwa [show decide (u.gone = x.gone) = true from decide_eq_true e1] at h)
  have QN := Lib.hid (fun (W : World) (q : Below W0.heap.size W0 W) => show Calls Tryz.prog 39 #[.slice u.newsA u.news.length u.newsC, .slice x.newsA x.news.length x.newsC] W fun e w' => e = .returned (.bool true) ∧ Below W.heap.size W w' by
    have h := EqualP_any u.newsA x.newsA u.newsC x.newsC u.news x.news W (hux W q).news (hxx W q).news hl4
    rwa [show decide (u.news = x.news) = true from decide_eq_true e2] at h)
  have QA := Lib.hid (fun (W : World) (q : Below W0.heap.size W0 W) => show Calls Tryz.prog 40 #[.agg u.attrs.row.toArray, .agg x.attrs.row.toArray] W fun e w' => e = .returned (.bool true) ∧ Below W.heap.size W w' by
    have h := Same_attrs u.attrs x.attrs W (hux W q).attrs (hxx W q).attrs hl hl2
    rwa [e3] at h)
  have HBW := Lib.hid HQ
  have HS1 := Lib.hid hs1
  clear hb1 kU hW1 hW0 hb2 kX hbw kU2 hux hxx hu hx e1 e2 e3 hl hl2 hl3 hl4 HQ hs1
  go_enter Tryz.func18, Tryz.ntmps18
  have g0 := (HUV.out _ (Below.refl _ _)).gone; have n0 := (HUV.out _ (Below.refl _ _)).news
  have g1 := (HXV.out _ (Below.refl _ _)).gone; have n1 := (HXV.out _ (Below.refl _ _)).news
  go_wp2_with (first
    | (refine wpList_boxU _ rfl (.tmp 0) rfl u rfl ?_; rw [← HW1.out])
    | (refine wpList_boxU _ rfl (.tmp 1) rfl x rfl ?_; rw [← HW0.out])
    | fail)
  refine (QG.out _ (Below.refl _ _)).mono ?_
  rintro e w1 ⟨rfl, hb1⟩
  have HB1 := Lib.hid hb1
  clear hb1
  have g0 := (HUV.out _ HB1.out).gone; have n0 := (HUV.out _ HB1.out).news; have g1 := (HXV.out _ HB1.out).gone; have n1 := (HXV.out _ HB1.out).news
  go_wp2_with (first
    | (refine wpList_loadG _ (by rfl) (.tmp 11) rfl w.heap.size 1 u.attrs rfl (HUV.out _ HB1.out).attrs ?_)
    | (refine wpList_loadG _ (by rfl) (.tmp 13) rfl W1.heap.size 1 x.attrs rfl (HXV.out _ HB1.out).attrs ?_)
    | fail)
  refine (QA.out _ HB1.out).mono ?_
  rintro e w2 ⟨rfl, hb2⟩
  have HB2 := Lib.hid (HB1.out.trans (hb2.mono HB1.out.size))
  clear hb2
  have g0 := (HUV.out _ HB2.out).gone; have n0 := (HUV.out _ HB2.out).news; have g1 := (HXV.out _ HB2.out).gone; have n1 := (HXV.out _ HB2.out).news
  go_wp2_with fail
  refine (QN.out _ HB2.out).mono ?_
  rintro e w3 ⟨rfl, hb3⟩
  have HB3 := Lib.hid (HB2.out.trans (hb3.mono HB2.out.size))
  clear hb3
  have g0 := (HUV.out _ HB3.out).gone; have n0 := (HUV.out _ HB3.out).news; have g1 := (HXV.out _ HB3.out).gone; have n1 := (HXV.out _ HB3.out).news
  go_wp2_with fail
  go_ret
  exact ⟨rfl, HBW.out _ HB3.out⟩
set_option maxHeartbeats 6400000 in
theorem RefUSame_yes (u x : Uv) (w : World) (hu : u.In w w.heap.size) (hx : x.In w w.heap.size) (e1 : u.gone = x.gone) (e2 : u.news = x.news) (e3 : u.attrs.same x.attrs = true) (hl : u.attrs.path.length ≤ 1000000000) (hl2 : u.attrs.raws.length ≤ 1000000000) (hl3 : u.gone.length ≤ 1000000000) (hl4 : u.news.length ≤ 1000000000) :
    Calls Tryz.prog 13 #[.agg u.row.toArray, .agg x.row.toArray] w fun e w' => e = .returned (.bool true) ∧ Below w.heap.size w w' := by
  obtain ⟨W1, hW1⟩ : ∃ W1, W1 = w.alloc (.cells u.row.toArray 30) := ⟨_, rfl⟩
  have hb1 := (Below.refl w.heap.size w).alloc (Nat.le_refl _) (.cells u.row.toArray 30)
  have kU := Blk.new w 30 u.row
  rw [← hW1] at hb1 kU
  have hs1 : W1.heap.size = w.heap.size + 1 := by rw [hW1]; simp
  obtain ⟨W0, hW0⟩ : ∃ W0, W0 = W1.alloc (.cells x.row.toArray 30) := ⟨_, rfl⟩
  have hb2 := (Below.refl W1.heap.size W1).alloc (Nat.le_refl _) (.cells x.row.toArray 30)
  have kX := Blk.new W1 30 x.row
  rw [← hW0] at hb2 kX
  have hbw := hb1.trans (hb2.mono hb1.size)
  have kU2 := kU.below hb2 kU.lt
  have HW1 := Lib.hid hW1; have HW0 := Lib.hid hW0
  have HQ := fun (W : World) (q : Below W0.heap.size W0 W) => hbw.trans (q.mono hbw.size)
  have HUV := Lib.hid (fun (W : World) (q : Below W0.heap.size W0 W) => (uv_blk kU2).below q kU2.lt)
  have HXV := Lib.hid (fun (W : World) (q : Below W0.heap.size W0 W) => (uv_blk kX).below q kX.lt)
  have hux := fun (W : World) (q : Below W0.heap.size W0 W) => (hu.below (HQ W q) (Nat.le_refl _)).lift (HQ W q).size
  have hxx := fun (W : World) (q : Below W0.heap.size W0 W) => (hx.below (HQ W q) (Nat.le_refl _)).lift (HQ W q).size
  have QG := Lib.hid (fun (W : World) (q : Below W0.heap.size W0 W) => show Calls Tryz.prog 16 #[.slice u.goneA u.gone.length u.goneC, .slice x.goneA x.gone.length x.goneC] W fun e w' => e = .returned (.bool true) ∧ Below W.heap.size W w' by
    have h := RefSameP_any u.goneA x.goneA u.goneC x.goneC u.gone x.gone W (hux W q).gone (hxx W q).gone hl3
    rwa [show decide (u.gone = x.gone) = true from decide_eq_true e1] at h)
  have QN := Lib.hid (fun (W : World) (q : Below W0.heap.size W0 W) => show Calls Tryz.prog 16 #[.slice u.newsA u.news.length u.newsC, .slice x.newsA x.news.length x.newsC] W fun e w' => e = .returned (.bool true) ∧ Below W.heap.size W w' by
    have h := RefSameP_any u.newsA x.newsA u.newsC x.newsC u.news x.news W (hux W q).news (hxx W q).news hl4
    rwa [show decide (u.news = x.news) = true from decide_eq_true e2] at h)
  have QA := Lib.hid (fun (W : World) (q : Below W0.heap.size W0 W) => show Calls Tryz.prog 34 #[.agg u.attrs.row.toArray, .agg x.attrs.row.toArray] W fun e w' => e = .returned (.bool true) ∧ Below W.heap.size W w' by
    have h := RefSame4_any u.attrs x.attrs W (hux W q).attrs (hxx W q).attrs hl hl2
    rwa [e3] at h)
  have HBW := Lib.hid HQ
  have HS1 := Lib.hid hs1
  clear hb1 kU hW1 hW0 hb2 kX hbw kU2 hux hxx hu hx e1 e2 e3 hl hl2 hl3 hl4 HQ hs1
  go_enter Tryz.func13, Tryz.ntmps13
  have g0 := (HUV.out _ (Below.refl _ _)).gone; have n0 := (HUV.out _ (Below.refl _ _)).news
  have g1 := (HXV.out _ (Below.refl _ _)).gone; have n1 := (HXV.out _ (Below.refl _ _)).news
  go_wp2_with (first
    | (refine wpList_boxU _ rfl (.tmp 0) rfl u rfl ?_; rw [← HW1.out])
    | (refine wpList_boxU _ rfl (.tmp 1) rfl x rfl ?_; rw [← HW0.out])
    | fail)
  refine (QG.out _ (Below.refl _ _)).mono ?_
  rintro e w1 ⟨rfl, hb1⟩
  have HB1 := Lib.hid hb1
  clear hb1
  have g0 := (HUV.out _ HB1.out).gone; have n0 := (HUV.out _ HB1.out).news; have g1 := (HXV.out _ HB1.out).gone; have n1 := (HXV.out _ HB1.out).news
  go_wp2_with fail
  refine (QN.out _ HB1.out).mono ?_
  rintro e w2 ⟨rfl, hb2⟩
  have HB2 := Lib.hid (HB1.out.trans (hb2.mono HB1.out.size))
  clear hb2
  have g0 := (HUV.out _ HB2.out).gone; have n0 := (HUV.out _ HB2.out).news; have g1 := (HXV.out _ HB2.out).gone; have n1 := (HXV.out _ HB2.out).news
  go_wp2_with (first
    | (refine wpList_loadG _ (by rfl) (.tmp 18) rfl w.heap.size 1 u.attrs rfl (HUV.out _ HB2.out).attrs ?_)
    | (refine wpList_loadG _ (by rfl) (.tmp 20) rfl W1.heap.size 1 x.attrs rfl (HXV.out _ HB2.out).attrs ?_)
    | fail)
  refine (QA.out _ HB2.out).mono ?_
  rintro e w3 ⟨rfl, hb3⟩
  have HB3 := Lib.hid (HB2.out.trans (hb3.mono HB2.out.size))
  clear hb3
  have g0 := (HUV.out _ HB3.out).gone; have n0 := (HUV.out _ HB3.out).news; have g1 := (HXV.out _ HB3.out).gone; have n1 := (HXV.out _ HB3.out).news
  go_wp2_with fail
  go_ret
  exact ⟨rfl, HBW.out _ HB3.out⟩
end Go.Proofs.YtnaangnmlbgmkaaGreatDoor

/-
  One attribute more, kind by kind (written by gen04i.py).
-/
namespace Go.Proofs.YtnaangnmlbgmkaaGreatDoor
set_option linter.unusedVariables false
set_option linter.unusedSimpArgs false
open Go.RowKit

section
variable {wide : Bool} {S T : Rs} {f : Nat} {v r : List UInt8} {b : Bool}
theorem st1 (hk : 1 ∉ S.kinds) (hc : flOk f 64 = true ∧ v.length = 1 ∧ num v ≤ 2) : stepF wide S ⟨f, 1, v, r, b⟩ = some { S with org := num v, kinds := S.kinds ++ [1] } := by
  unfold stepF
  rw [if_neg hk]
  show Option.map _ (if _ then _ else _) = _
  rw [if_pos hc]
  rfl
theorem inv1 (h : stepF wide S ⟨f, 1, v, r, b⟩ = some T) : 1 ∉ S.kinds ∧ (flOk f 64 = true ∧ v.length = 1 ∧ num v ≤ 2) ∧ T = { S with org := num v, kinds := S.kinds ++ [1] } := by
  unfold stepF at h
  by_cases hk : 1 ∈ S.kinds
  · rw [if_pos hk] at h; cases h
  · rw [if_neg hk] at h
    by_cases hc : flOk f 64 = true ∧ v.length = 1 ∧ num v ≤ 2
    · refine ⟨hk, hc, ?_⟩
      change Option.map _ (if flOk f 64 = true ∧ v.length = 1 ∧ num v ≤ 2 then _ else _) = _ at h
      rw [if_pos hc] at h
      exact (Option.some.inj h).symm
    · change Option.map _ (if flOk f 64 = true ∧ v.length = 1 ∧ num v ≤ 2 then _ else _) = _ at h
      rw [if_neg hc] at h
      cases h
theorem st3 (hk : 3 ∉ S.kinds) (hc : flOk f 64 = true ∧ v.length = 4 ∧ nextB (num v) = true) : stepF wide S ⟨f, 3, v, r, b⟩ = some { S with next := num v, kinds := S.kinds ++ [3] } := by
  unfold stepF
  rw [if_neg hk]
  show Option.map _ (if _ then _ else _) = _
  rw [if_pos hc]
  rfl
theorem inv3 (h : stepF wide S ⟨f, 3, v, r, b⟩ = some T) : 3 ∉ S.kinds ∧ (flOk f 64 = true ∧ v.length = 4 ∧ nextB (num v) = true) ∧ T = { S with next := num v, kinds := S.kinds ++ [3] } := by
  unfold stepF at h
  by_cases hk : 3 ∈ S.kinds
  · rw [if_pos hk] at h; cases h
  · rw [if_neg hk] at h
    by_cases hc : flOk f 64 = true ∧ v.length = 4 ∧ nextB (num v) = true
    · refine ⟨hk, hc, ?_⟩
      change Option.map _ (if flOk f 64 = true ∧ v.length = 4 ∧ nextB (num v) = true then _ else _) = _ at h
      rw [if_pos hc] at h
      exact (Option.some.inj h).symm
    · change Option.map _ (if flOk f 64 = true ∧ v.length = 4 ∧ nextB (num v) = true then _ else _) = _ at h
      rw [if_neg hc] at h
      cases h
theorem st4 (hk : 4 ∉ S.kinds) (hc : flOk f 128 = true ∧ v.length = 4) : stepF wide S ⟨f, 4, v, r, b⟩ = some { S with med := ((num v : Nat) : Int), kinds := S.kinds ++ [4] } := by
  unfold stepF
  rw [if_neg hk]
  show Option.map _ (if _ then _ else _) = _
  rw [if_pos hc]
  rfl
theorem inv4 (h : stepF wide S ⟨f, 4, v, r, b⟩ = some T) : 4 ∉ S.kinds ∧ (flOk f 128 = true ∧ v.length = 4) ∧ T = { S with med := ((num v : Nat) : Int), kinds := S.kinds ++ [4] } := by
  unfold stepF at h
  by_cases hk : 4 ∈ S.kinds
  · rw [if_pos hk] at h; cases h
  · rw [if_neg hk] at h
    by_cases hc : flOk f 128 = true ∧ v.length = 4
    · refine ⟨hk, hc, ?_⟩
      change Option.map _ (if flOk f 128 = true ∧ v.length = 4 then _ else _) = _ at h
      rw [if_pos hc] at h
      exact (Option.some.inj h).symm
    · change Option.map _ (if flOk f 128 = true ∧ v.length = 4 then _ else _) = _ at h
      rw [if_neg hc] at h
      cases h
theorem st5 (hk : 5 ∉ S.kinds) (hc : flOk f 64 = true ∧ v.length = 4) : stepF wide S ⟨f, 5, v, r, b⟩ = some { S with pref := ((num v : Nat) : Int), kinds := S.kinds ++ [5] } := by
  unfold stepF
  rw [if_neg hk]
  show Option.map _ (if _ then _ else _) = _
  rw [if_pos hc]
  rfl
theorem inv5 (h : stepF wide S ⟨f, 5, v, r, b⟩ = some T) : 5 ∉ S.kinds ∧ (flOk f 64 = true ∧ v.length = 4) ∧ T = { S with pref := ((num v : Nat) : Int), kinds := S.kinds ++ [5] } := by
  unfold stepF at h
  by_cases hk : 5 ∈ S.kinds
  · rw [if_pos hk] at h; cases h
  · rw [if_neg hk] at h
    by_cases hc : flOk f 64 = true ∧ v.length = 4
    · refine ⟨hk, hc, ?_⟩
      change Option.map _ (if flOk f 64 = true ∧ v.length = 4 then _ else _) = _ at h
      rw [if_pos hc] at h
      exact (Option.some.inj h).symm
    · change Option.map _ (if flOk f 64 = true ∧ v.length = 4 then _ else _) = _ at h
      rw [if_neg hc] at h
      cases h
theorem st6 (hk : 6 ∉ S.kinds) (hc : flOk f 64 = true ∧ v.length = 0) : stepF wide S ⟨f, 6, v, r, b⟩ = some { S with atomic := true, kinds := S.kinds ++ [6] } := by
  unfold stepF
  rw [if_neg hk]
  show Option.map _ (if _ then _ else _) = _
  rw [if_pos hc]
  rfl
theorem inv6 (h : stepF wide S ⟨f, 6, v, r, b⟩ = some T) : 6 ∉ S.kinds ∧ (flOk f 64 = true ∧ v.length = 0) ∧ T = { S with atomic := true, kinds := S.kinds ++ [6] } := by
  unfold stepF at h
  by_cases hk : 6 ∈ S.kinds
  · rw [if_pos hk] at h; cases h
  · rw [if_neg hk] at h
    by_cases hc : flOk f 64 = true ∧ v.length = 0
    · refine ⟨hk, hc, ?_⟩
      change Option.map _ (if flOk f 64 = true ∧ v.length = 0 then _ else _) = _ at h
      rw [if_pos hc] at h
      exact (Option.some.inj h).symm
    · change Option.map _ (if flOk f 64 = true ∧ v.length = 0 then _ else _) = _ at h
      rw [if_neg hc] at h
      cases h
theorem st7 (hk : 7 ∉ S.kinds) (hc : flOk f 192 = true ∧ v.length = (if wide = true then 8 else 6)) : stepF wide S ⟨f, 7, v, r, b⟩ = some { S with has := true, aas := num (v.take (v.length - 4)), aad := num (v.drop (v.length - 4)), kinds := S.kinds ++ [7] } := by
  unfold stepF
  rw [if_neg hk]
  show Option.map _ (if _ then _ else _) = _
  rw [if_pos hc]
  rfl
theorem inv7 (h : stepF wide S ⟨f, 7, v, r, b⟩ = some T) : 7 ∉ S.kinds ∧ (flOk f 192 = true ∧ v.length = (if wide = true then 8 else 6)) ∧ T = { S with has := true, aas := num (v.take (v.length - 4)), aad := num (v.drop (v.length - 4)), kinds := S.kinds ++ [7] } := by
  unfold stepF at h
  by_cases hk : 7 ∈ S.kinds
  · rw [if_pos hk] at h; cases h
  · rw [if_neg hk] at h
    by_cases hc : flOk f 192 = true ∧ v.length = (if wide = true then 8 else 6)
    · refine ⟨hk, hc, ?_⟩
      change Option.map _ (if flOk f 192 = true ∧ v.length = (if wide = true then 8 else 6) then _ else _) = _ at h
      rw [if_pos hc] at h
      exact (Option.some.inj h).symm
    · change Option.map _ (if flOk f 192 = true ∧ v.length = (if wide = true then 8 else 6) then _ else _) = _ at h
      rw [if_neg hc] at h
      cases h
theorem st8 (hk : 8 ∉ S.kinds) (hc : flOk f 192 = true ∧ v.length % 4 = 0 ∧ v.length ≤ 128) : stepF wide S ⟨f, 8, v, r, b⟩ = some { S with comms := S.comms ++ nums4 v, kinds := S.kinds ++ [8] } := by
  unfold stepF
  rw [if_neg hk]
  show Option.map _ (if _ then _ else _) = _
  rw [if_pos hc]
  rfl
theorem inv8 (h : stepF wide S ⟨f, 8, v, r, b⟩ = some T) : 8 ∉ S.kinds ∧ (flOk f 192 = true ∧ v.length % 4 = 0 ∧ v.length ≤ 128) ∧ T = { S with comms := S.comms ++ nums4 v, kinds := S.kinds ++ [8] } := by
  unfold stepF at h
  by_cases hk : 8 ∈ S.kinds
  · rw [if_pos hk] at h; cases h
  · rw [if_neg hk] at h
    by_cases hc : flOk f 192 = true ∧ v.length % 4 = 0 ∧ v.length ≤ 128
    · refine ⟨hk, hc, ?_⟩
      change Option.map _ (if flOk f 192 = true ∧ v.length % 4 = 0 ∧ v.length ≤ 128 then _ else _) = _ at h
      rw [if_pos hc] at h
      exact (Option.some.inj h).symm
    · change Option.map _ (if flOk f 192 = true ∧ v.length % 4 = 0 ∧ v.length ≤ 128 then _ else _) = _ at h
      rw [if_neg hc] at h
      cases h
theorem st17 (hk : 17 ∉ S.kinds) (hc : flOk f 192 = true) : stepF wide S ⟨f, 17, v, r, b⟩ = some { S with wpath := (readL true v).getD [], kinds := S.kinds ++ [17] } := by
  unfold stepF
  rw [if_neg hk]
  show Option.map _ (if _ then _ else _) = _
  rw [if_pos hc]
  rfl
theorem inv17 (h : stepF wide S ⟨f, 17, v, r, b⟩ = some T) : 17 ∉ S.kinds ∧ (flOk f 192 = true) ∧ T = { S with wpath := (readL true v).getD [], kinds := S.kinds ++ [17] } := by
  unfold stepF at h
  by_cases hk : 17 ∈ S.kinds
  · rw [if_pos hk] at h; cases h
  · rw [if_neg hk] at h
    by_cases hc : flOk f 192 = true
    · refine ⟨hk, hc, ?_⟩
      change Option.map _ (if flOk f 192 = true then _ else _) = _ at h
      rw [if_pos hc] at h
      exact (Option.some.inj h).symm
    · change Option.map _ (if flOk f 192 = true then _ else _) = _ at h
      rw [if_neg hc] at h
      cases h
theorem st18 (hk : 18 ∉ S.kinds) (hc : flOk f 192 = true) : stepF wide S ⟨f, 18, v, r, b⟩ = some { S with aggr := v, kinds := S.kinds ++ [18] } := by
  unfold stepF
  rw [if_neg hk]
  show Option.map _ (if _ then _ else _) = _
  rw [if_pos hc]
  rfl
theorem inv18 (h : stepF wide S ⟨f, 18, v, r, b⟩ = some T) : 18 ∉ S.kinds ∧ (flOk f 192 = true) ∧ T = { S with aggr := v, kinds := S.kinds ++ [18] } := by
  unfold stepF at h
  by_cases hk : 18 ∈ S.kinds
  · rw [if_pos hk] at h; cases h
  · rw [if_neg hk] at h
    by_cases hc : flOk f 192 = true
    · refine ⟨hk, hc, ?_⟩
      change Option.map _ (if flOk f 192 = true then _ else _) = _ at h
      rw [if_pos hc] at h
      exact (Option.some.inj h).symm
    · change Option.map _ (if flOk f 192 = true then _ else _) = _ at h
      rw [if_neg hc] at h
      cases h
theorem st2 {L : List (Int × List Nat)} (hk : 2 ∉ S.kinds) (hf : flOk f 64 = true) (hL : readL wide v = some L) : stepF wide S ⟨f, 2, v, r, b⟩ = some { S with path := L, kinds := S.kinds ++ [2] } := by
  unfold stepF
  rw [if_neg hk]
  show Option.map _ (if flOk f 64 = true then (readL wide v).map _ else _) = _
  rw [if_pos hf, hL]
  rfl
theorem inv2 (h : stepF wide S ⟨f, 2, v, r, b⟩ = some T) : 2 ∉ S.kinds ∧ flOk f 64 = true ∧ ∃ L, readL wide v = some L ∧ T = { S with path := L, kinds := S.kinds ++ [2] } := by
  unfold stepF at h
  by_cases hk : 2 ∈ S.kinds
  · rw [if_pos hk] at h; cases h
  · rw [if_neg hk] at h
    change Option.map _ (if flOk f 64 = true then (readL wide v).map _ else _) = _ at h
    by_cases hf : flOk f 64 = true
    · rw [if_pos hf] at h
      cases hL : readL wide v with
      | none => rw [hL] at h; cases h
      | some L =>
        rw [hL] at h
        exact ⟨hk, hf, L, rfl, (Option.some.inj h).symm⟩
    · rw [if_neg hf] at h; cases h
/-- What a kind must be that is not known. -/
theorem look_kinds {k : Nat} (h : (lookN (k : Int)).isNone = true) : k ≠ 1 ∧ k ≠ 2 ∧ k ≠ 3 ∧ k ≠ 4 ∧ k ≠ 5 ∧ k ≠ 6 ∧ k ≠ 7 ∧ k ≠ 8 ∧ k ≠ 17 ∧ k ≠ 18 := by
  refine ⟨?_, ?_, ?_, ?_, ?_, ?_, ?_, ?_, ?_, ?_⟩ <;> (rintro rfl; revert h; decide)
def rawC (k f : Nat) (v : List UInt8) (S : Rs) : Prop := (lookN (k : Int)).isNone = true ∧ flOk f 224 = true ∧ v.length ≤ 64 ∧ S.raws.length < 8 ∧ (∀ r ∈ S.raws, r.2.1 < (k : Int))
instance (k f : Nat) (v : List UInt8) (S : Rs) : Decidable (rawC k f v S) := by unfold rawC; infer_instance
theorem step_raw {k : Nat} (h : k ≠ 1 ∧ k ≠ 2 ∧ k ≠ 3 ∧ k ≠ 4 ∧ k ≠ 5 ∧ k ≠ 6 ∧ k ≠ 7 ∧ k ≠ 8 ∧ k ≠ 17 ∧ k ≠ 18) : stepF wide S ⟨f, k, v, r, b⟩ = if k ∈ S.kinds then none else (if rawC k f v S then some { S with raws := S.raws ++ [(224, (k : Int), v)] } else none).map fun T => { T with kinds := S.kinds ++ [k] } := by
  unfold stepF rawC
  obtain ⟨h1, h2, h3, h4, h5, h6, h7, h8, h17, h18⟩ := h
  dsimp only
  split
  · rfl
  · congr 1
    split <;> first | contradiction | rfl
theorem stR {k : Nat} (hk : k ∉ S.kinds) (hc : rawC k f v S) : stepF wide S ⟨f, k, v, r, b⟩ = some { S with raws := S.raws ++ [(224, (k : Int), v)], kinds := S.kinds ++ [k] } := by
  rw [step_raw (look_kinds hc.1), if_neg hk, if_pos hc]
  rfl
theorem invR {k : Nat} (hn : (lookN (k : Int)).isNone = true) (h : stepF wide S ⟨f, k, v, r, b⟩ = some T) : k ∉ S.kinds ∧ rawC k f v S ∧ T = { S with raws := S.raws ++ [(224, (k : Int), v)], kinds := S.kinds ++ [k] } := by
  rw [step_raw (look_kinds hn)] at h
  by_cases hk : k ∈ S.kinds
  · rw [if_pos hk] at h; cases h
  · rw [if_neg hk] at h
    by_cases hc : rawC k f v S
    · rw [if_pos hc] at h
      exact ⟨hk, hc, (Option.some.inj h).symm⟩
    · rw [if_neg hc] at h; cases h
end
end Go.Proofs.YtnaangnmlbgmkaaGreatDoor

/-
  What is put is read: attributes' bytes, as Lean functions.
-/
namespace Go.Proofs.YtnaangnmlbgmkaaGreatDoor
set_option linter.unusedVariables false
set_option linter.unusedSimpArgs false
open Go.RowKit

theorem num_u8 {f : Nat} (h : f < 256) : num [UInt8.ofNat f] = f := by
  simp [num]; omega
theorem num_be16 {n : Nat} (h : n < 65536) : num (be16 (n : Int)) = n ∧ (be16 (n : Int)).length = 2 := by
  refine ⟨?_, rfl⟩
  have e1 : ((n : Int) / 256 % 256).toNat = n / 256 % 256 := by omega
  have e2 : ((n : Int) % 256).toNat = n % 256 := by omega
  simp [num, be16, e1, e2]
  omega
theorem num_be32 {n : Nat} (h : n < 4294967296) : num (be32 (n : Int)) = n ∧ (be32 (n : Int)).length = 4 := by
  have := num_numB true h
  rw [nar_wide] at this
  unfold numB at this
  rw [if_pos rfl] at this
  exact ⟨this.1, rfl⟩
theorem nextA_whole {f k : Nat} {v r : List UInt8} (hf : f = 64 ∨ f = 128 ∨ f = 192 ∨ f = 224) (hk : k < 256) (hv : v.length < 65536) : ∃ f', flOk f' f = true ∧ nextA (wholeL f k v ++ r) = ⟨f', k, v, r, false⟩ := by
  by_cases hl : 255 < v.length
  · have hw : wholeL f k v ++ r = [UInt8.ofNat (f + 16)] ++ ([UInt8.ofNat k] ++ (be16 (v.length : Int) ++ (v ++ r))) := by unfold wholeL; rw [if_pos hl]; simp
    have hf2 : f + 16 < 256 := by omega
    have h1 : n1 (wholeL f k v ++ r) = ([UInt8.ofNat (f + 16)], [UInt8.ofNat k] ++ (be16 (v.length : Int) ++ (v ++ r)), false) := by unfold n1; rw [hw]; exact rdTake_app _ _ _ _ rfl
    have h2 : n2 (wholeL f k v ++ r) = ([UInt8.ofNat k], be16 (v.length : Int) ++ (v ++ r), false) := by unfold n2; rw [h1]; exact rdTake_app _ _ _ _ rfl
    have hx : longN (num [UInt8.ofNat (f + 16)]) = 2 := by rw [num_u8 hf2]; unfold longN; rw [if_pos (by omega)]
    have h3 : n3 (wholeL f k v ++ r) = (be16 (v.length : Int), v ++ r, false) := by unfold n3; rw [h2, h1]; exact rdTake_app _ _ _ _ hx
    have h4 : n4 (wholeL f k v ++ r) = (v, r, false) := by unfold n4; rw [h3]; exact rdTake_app _ _ _ _ (by rw [(num_be16 hv).1])
    refine ⟨f + 16, by simp [flOk], ?_⟩
    unfold nextA
    rw [h1, h2, h4, num_u8 hf2, num_u8 hk]
  · have hw : wholeL f k v ++ r = [UInt8.ofNat f] ++ ([UInt8.ofNat k] ++ ([UInt8.ofNat v.length] ++ (v ++ r))) := by unfold wholeL; rw [if_neg hl]; simp
    have hf2 : f < 256 := by omega
    have h1 : n1 (wholeL f k v ++ r) = ([UInt8.ofNat f], [UInt8.ofNat k] ++ ([UInt8.ofNat v.length] ++ (v ++ r)), false) := by unfold n1; rw [hw]; exact rdTake_app _ _ _ _ rfl
    have h2 : n2 (wholeL f k v ++ r) = ([UInt8.ofNat k], [UInt8.ofNat v.length] ++ (v ++ r), false) := by unfold n2; rw [h1]; exact rdTake_app _ _ _ _ rfl
    have hx : longN (num [UInt8.ofNat f]) = 1 := by rw [num_u8 hf2]; unfold longN; rw [if_neg (by omega)]
    have h3 : n3 (wholeL f k v ++ r) = ([UInt8.ofNat v.length], v ++ r, false) := by unfold n3; rw [h2, h1]; exact rdTake_app _ _ _ _ hx
    have h4 : n4 (wholeL f k v ++ r) = (v, r, false) := by unfold n4; rw [h3]; exact rdTake_app _ _ _ _ (by rw [num_u8 (by omega)])
    refine ⟨f, by simp [flOk], ?_⟩
    unfold nextA
    rw [h1, h2, h4, num_u8 hf2, num_u8 hk]
/-- Some bytes lead from one state to another one. -/
def Runs (wide : Bool) (l : List UInt8) (S Sf : Rs) : Prop := ∃ n, runF wide n l S = some Sf
theorem Runs.nil (wide : Bool) (S : Rs) : Runs wide [] S S := ⟨0, rfl⟩
theorem Runs.stop {wide : Bool} {S Sf : Rs} (h : Runs wide [] S Sf) : Sf = S := by obtain ⟨n, h⟩ := h; exact runF_end h
theorem Runs.step {wide : Bool} {l : List UInt8} {S Sf : Rs} (h : Runs wide l S Sf) (hl : l ≠ []) : ∃ T, (nextA l).bad = false ∧ stepF wide S (nextA l) = some T ∧ Runs wide (nextA l).rest T Sf := by
  obtain ⟨n, h⟩ := h
  obtain ⟨m, T, h1, h2, h3⟩ := runF_step h hl
  exact ⟨T, h1, h2, m, h3⟩
theorem runs_whole {wide : Bool} {f k : Nat} {v r : List UInt8} {S T Sf : Rs} (hf : f = 64 ∨ f = 128 ∨ f = 192 ∨ f = 224) (hk : k < 256) (hv : v.length < 65536)
    (hs : ∀ f', flOk f' f = true → stepF wide S ⟨f', k, v, r, false⟩ = some T) (h : Runs wide r T Sf) : Runs wide (wholeL f k v ++ r) S Sf := by
  obtain ⟨n, h⟩ := h
  obtain ⟨f', hf', he⟩ := nextA_whole (r := r) hf hk hv
  have hne : ¬ (wholeL f k v ++ r = []) := by unfold wholeL; split <;> simp
  refine ⟨n + 1, ?_⟩
  simp only [runF, hne, if_false, he, Bool.false_eq_true, hs f' hf', Option.bind_some]
  exact h
theorem runs_opt {wide : Bool} {b : Bool} {f k : Nat} {v r : List UInt8} {S T Sf : Rs} (hf : f = 64 ∨ f = 128 ∨ f = 192 ∨ f = 224) (hk : k < 256) (hv : b = true → v.length < 65536)
    (hyes : b = true → ∀ f', flOk f' f = true → stepF wide S ⟨f', k, v, r, false⟩ = some T) (hno : b = false → S = T) (h : Runs wide r T Sf) : Runs wide (oneB b f k v ++ r) S Sf := by
  cases b with
  | true => exact runs_whole hf hk (hv rfl) (hyes rfl) h
  | false => rw [hno rfl]; simpa [oneB] using h
theorem nums4_put : ∀ (z : List Nat), (∀ x ∈ z, x < 4294967296) → nums4 (numsB true z) = z
  | [], _ => rfl
  | x :: z, h => by
    have e : numsB true (x :: z) = be32 (x : Int) ++ numsB true z := by simp [numsB, numB]
    have hx := h x (by simp)
    rw [e]
    show num (be32 (x : Int)) :: nums4 (numsB true z) = _
    rw [(num_be32 hx).1, nums4_put z (fun y hy => h y (by simp [hy]))]
theorem aggr_parts (wide : Bool) {sa ad : Nat} (h1 : sa < 4294967296) (h2 : ad < 4294967296) : (aggrB wide sa ad).length = (if wide = true then 8 else 6) ∧ num ((aggrB wide sa ad).take ((aggrB wide sa ad).length - 4)) = nar wide sa ∧ num ((aggrB wide sa ad).drop ((aggrB wide sa ad).length - 4)) = ad := by
  have hl := (num_numB wide h1).2
  have hb := num_be32 h2
  have hL : (aggrB wide sa ad).length = (numB wide sa).length + 4 := by unfold aggrB; rw [List.length_append, hb.2]
  have e4 : (aggrB wide sa ad).length - 4 = (numB wide sa).length := by omega
  rw [e4]
  refine ⟨?_, ?_, ?_⟩
  · rw [hL]
    cases wide with
    | true => unfold nextN at hl; rw [if_pos rfl] at hl; rw [if_pos rfl]; omega
    | false => unfold nextN at hl; rw [if_neg (by decide)] at hl; rw [if_neg (by decide)]; omega
  · unfold aggrB
    rw [List.take_left']
    · exact (num_numB wide h1).1
    · rfl
  · unfold aggrB
    rw [List.drop_left']
    · exact hb.1
    · rfl
theorem known_of (k : Nat) (h : k < 9 ∨ k = 17 ∨ k = 18) (h0 : 0 < k) : (lookN (k : Int)).isNone = false := by
  have : k = 1 ∨ k = 2 ∨ k = 3 ∨ k = 4 ∨ k = 5 ∨ k = 6 ∨ k = 7 ∨ k = 8 ∨ k = 17 ∨ k = 18 := by omega
  rcases this with rfl | rfl | rfl | rfl | rfl | rfl | rfl | rfl | rfl | rfl <;> decide
/-- Raw attributes, in order. -/
theorem raws_new : ∀ (L : List Rw) (a : Int), rawsF a (L.map Rw.abs) = true → ∀ x : Nat, x ∈ L.map (fun s => s.ty.toNat) → (lookN (x : Int)).isNone = true
  | [], _, _, x, hx => by simp at hx
  | s :: L, a, hr, x, hx => by
    have hr' : (rawOk a s.abs && rawsF s.abs.2.1 (L.map Rw.abs)) = true := hr
    rw [Bool.and_eq_true] at hr'
    rcases List.mem_cons.1 (by simpa using hx : x ∈ s.ty.toNat :: L.map (fun s => s.ty.toNat)) with rfl | hx
    · have h3 := hr'.1
      unfold rawOk at h3
      simp only [Bool.and_eq_true, decide_eq_true_eq, Bool.not_eq_true'] at h3
      have h4 : knownB s.ty = false := h3.1.1.2
      by_cases h0 : 0 ≤ s.ty
      · have e : ((s.ty.toNat : Nat) : Int) = s.ty := by omega
        rw [e]
        unfold knownB at h4
        cases hq : lookN s.ty with
        | none => rfl
        | some x => rw [hq] at h4; cases h4
      · have e : ((s.ty.toNat : Nat) : Int) = 0 := by omega
        rw [e]
        decide
    · exact raws_new L _ hr'.2 x hx
theorem runs_raws {wide : Bool} {r : List UInt8} {Sf : Rs} : ∀ (L : List Rw) (S : Rs) (a : Int), rawsF a (L.map Rw.abs) = true → -1 ≤ a → (∀ x ∈ S.raws, x.2.1 ≤ a) → S.raws.length + L.length ≤ 8 → (∀ x ∈ S.kinds, (0 < x ∧ x < 9) ∨ (x : Int) ≤ a) →
    Runs wide r { S with raws := S.raws ++ L.map Rw.abs, kinds := S.kinds ++ L.map (fun s => s.ty.toNat) } Sf → Runs wide (rawsB L ++ r) S Sf
  | [], S, a, _, _, _, _, _, h => by simpa [rawsB] using h
  | s :: L, S, a, hr, ha, hra, hl, hks, h => by
    have hr' : (rawOk a s.abs && rawsF s.abs.2.1 (L.map Rw.abs)) = true := hr
    rw [Bool.and_eq_true] at hr'
    obtain ⟨hok, hrest⟩ := hr'
    unfold rawOk at hok
    simp only [Bool.and_eq_true, decide_eq_true_eq, Bool.not_eq_true'] at hok
    obtain ⟨⟨⟨⟨h1, h2⟩, h3⟩, h4⟩, h5⟩ := hok
    have e1 : s.abs.2.1 = s.ty := rfl
    have e2 : s.abs.1 = s.flags := rfl
    have e3 : s.abs.2.2 = s.data := rfl
    rw [e1] at h1 h2 h3 hrest
    rw [e2] at h4
    rw [e3] at h5
    obtain ⟨t, ht⟩ : ∃ t : Nat, s.ty = (t : Int) := ⟨s.ty.toNat, by omega⟩
    have hb : rawsB (s :: L) ++ r = wholeL 224 t s.data ++ (rawsB L ++ r) := by
      simp [rawsB, h4, ht]
    rw [ht] at h1 h2 h3 hrest
    have hn : (lookN (t : Int)).isNone = true := by
      unfold knownB at h3
      cases hq : lookN (t : Int) with
      | none => rfl
      | some x => rw [hq] at h3; cases h3
    have hnk : t ∉ S.kinds := fun hm => by
      rcases hks t hm with ⟨q0, q⟩ | q
      · rw [known_of t (.inl q) q0] at hn; cases hn
      · omega
    rw [hb]
    refine runs_whole (.inr (.inr (.inr rfl))) (by omega) (by omega) (fun f' hf' => stR (v := s.data) (k := t) hnk ⟨hn, hf', h5, by simp at hl; omega, fun x hx => by have := hra x hx; omega⟩) ?_
    refine runs_raws L _ (t : Int) hrest (by omega) ?_ ?_ ?_ ?_
    · intro x hx
      rcases List.mem_append.1 hx with hx | hx
      · have := hra x hx; omega
      · rw [List.mem_singleton.1 hx]; exact Int.le_refl _
    · simp at hl ⊢; omega
    · intro x hx
      rcases List.mem_append.1 hx with hx | hx
      · rcases hks x hx with q | q
        · exact .inl q
        · exact .inr (by omega)
      · rw [List.mem_singleton.1 hx]; exact .inr (Int.le_refl _)
    · have es : s.abs = (224, (t : Int), s.data) := by unfold Rw.abs; rw [h4, ht]
      simpa [es, ht, List.append_assoc] using h
theorem not_in {k n : Nat} {ks : List Nat} (h : ∀ x ∈ ks, 0 < x ∧ x < n) (hn : n ≤ k) : k ∉ ks := fun hm => by have := h k hm; omega
theorem in_more {n m : Nat} {b : Bool} {ks : List Nat} (h : ∀ x ∈ ks, 0 < x ∧ x < n) (h0 : 0 < n) (hm : n < m) : ∀ x ∈ ks ++ (if b = true then [n] else []), 0 < x ∧ x < m := by
  intro x hx
  rcases List.mem_append.1 hx with hx | hx
  · have := h x hx; omega
  · cases b with
    | true => simp at hx; omega
    | false => simp at hx
set_option maxHeartbeats 1600000 in
/-- Attributes that are put are read. -/
theorem back4 (org next sa ad : Nat) (path : List Sg) (med pref : Int) (mm mp : Nat) (atomic has : Bool) (comms : List Nat) (raws : List Rw) (wide : Bool)
    (ho : org ≤ 2) (hr : rightB path = true) (hpf : ∀ s ∈ path, ∀ x ∈ s.nums, x < 4294967296) (hnx : nextB next = true) (hn : next < 4294967296)
    (hm1 : -1 ≤ med) (hm2 : 0 ≤ med → med = (mm : Int)) (hmm : mm < 4294967296) (hp1 : -1 ≤ pref) (hp2 : 0 ≤ pref → pref = (mp : Int)) (hmp : mp < 4294967296)
    (hha : has = false → sa = 0 ∧ ad = 0) (hsa : sa < 4294967296) (had : ad < 4294967296)
    (hcl : comms.length ≤ 32) (hcf : ∀ n ∈ comms, n < 4294967296) (hraw : rawsF (-1) (raws.map Rw.abs) = true) (hrl : raws.length ≤ 8) :
    ∃ ks, Runs wide (putA org next sa ad path med pref mm mp atomic has comms raws wide) rs0 ⟨org, path.map (narS wide), next, med, pref, atomic, has, nar wide sa, ad, comms, raws.map Rw.abs, ks, if (!wide && bigs (flatN path)) = true then path.map Sg.abs else [], if (!wide && bigB sa) = true then aggrB true sa ad else []⟩ := by
  have hlp : ∀ wd, (putB wd path).length < 65536 := fun wd => by
    obtain ⟨q1, q2, _⟩ := right_each hr
    have := putB_len wd path
    omega
  have ha := fun wd => aggr_parts wd hsa had
  have hz : nar wide 0 = 0 := by unfold nar; split <;> rfl
  unfold putA
  simp only [List.nil_append, List.append_assoc]
  have n1 : ∀ x : Nat, x < 4294967296 → num (numsB true [x]) = x ∧ (numsB true [x]).length = 4 := fun x hx => by
    have e : numsB true [x] = be32 (x : Int) := by simp [numsB, numB]
    rw [e]; exact num_be32 hx
  have hlen4 : (numsB true comms).length = 4 * comms.length := by
    have e : ∀ z : List Nat, (numsB true z).length = 4 * z.length := fun z => by
      induction z with
      | nil => rfl
      | cons x z ih =>
        have e : numsB true (x :: z) = be32 (x : Int) ++ numsB true z := by simp [numsB, numB]
        rw [e, List.length_append, ih]
        simp [be32]
        omega
    exact e comms
  have c0 : ∀ x ∈ ([] : List Nat), 0 < x ∧ x < 1 := fun x hx => by simp at hx
  obtain ⟨K1, hK1⟩ : ∃ K, K = ([] : List Nat) ++ (if true = true then [1] else []) := ⟨_, rfl⟩
  have c1 : ∀ x ∈ K1, 0 < x ∧ x < 2 := by rw [hK1]; exact in_more c0 (by decide) (by decide)
  have y1 : true = true → K1 = ([] : List Nat) ++ [1] := fun h => by rw [hK1, if_pos h]
  have z1 : true = false → K1 = ([] : List Nat) := fun h => by first | cases h; done | rw [hK1, if_neg (by rw [h]; decide), List.append_nil]
  obtain ⟨K2, hK2⟩ : ∃ K, K = K1 ++ (if true = true then [2] else []) := ⟨_, rfl⟩
  have c2 : ∀ x ∈ K2, 0 < x ∧ x < 3 := by rw [hK2]; exact in_more c1 (by decide) (by decide)
  have y2 : true = true → K2 = K1 ++ [2] := fun h => by rw [hK2, if_pos h]
  have z2 : true = false → K2 = K1 := fun h => by first | cases h; done | rw [hK2, if_neg (by rw [h]; decide), List.append_nil]
  obtain ⟨K3, hK3⟩ : ∃ K, K = K2 ++ (if true = true then [3] else []) := ⟨_, rfl⟩
  have c3 : ∀ x ∈ K3, 0 < x ∧ x < 4 := by rw [hK3]; exact in_more c2 (by decide) (by decide)
  have y3 : true = true → K3 = K2 ++ [3] := fun h => by rw [hK3, if_pos h]
  have z3 : true = false → K3 = K2 := fun h => by first | cases h; done | rw [hK3, if_neg (by rw [h]; decide), List.append_nil]
  obtain ⟨K4, hK4⟩ : ∃ K, K = K3 ++ (if (decide (0 ≤ med)) = true then [4] else []) := ⟨_, rfl⟩
  have c4 : ∀ x ∈ K4, 0 < x ∧ x < 5 := by rw [hK4]; exact in_more c3 (by decide) (by decide)
  have y4 : (decide (0 ≤ med)) = true → K4 = K3 ++ [4] := fun h => by rw [hK4, if_pos h]
  have z4 : (decide (0 ≤ med)) = false → K4 = K3 := fun h => by first | cases h; done | rw [hK4, if_neg (by rw [h]; decide), List.append_nil]
  obtain ⟨K5, hK5⟩ : ∃ K, K = K4 ++ (if (decide (0 ≤ pref)) = true then [5] else []) := ⟨_, rfl⟩
  have c5 : ∀ x ∈ K5, 0 < x ∧ x < 6 := by rw [hK5]; exact in_more c4 (by decide) (by decide)
  have y5 : (decide (0 ≤ pref)) = true → K5 = K4 ++ [5] := fun h => by rw [hK5, if_pos h]
  have z5 : (decide (0 ≤ pref)) = false → K5 = K4 := fun h => by first | cases h; done | rw [hK5, if_neg (by rw [h]; decide), List.append_nil]
  obtain ⟨K6, hK6⟩ : ∃ K, K = K5 ++ (if atomic = true then [6] else []) := ⟨_, rfl⟩
  have c6 : ∀ x ∈ K6, 0 < x ∧ x < 7 := by rw [hK6]; exact in_more c5 (by decide) (by decide)
  have y6 : atomic = true → K6 = K5 ++ [6] := fun h => by rw [hK6, if_pos h]
  have z6 : atomic = false → K6 = K5 := fun h => by first | cases h; done | rw [hK6, if_neg (by rw [h]; decide), List.append_nil]
  obtain ⟨K7, hK7⟩ : ∃ K, K = K6 ++ (if has = true then [7] else []) := ⟨_, rfl⟩
  have c7 : ∀ x ∈ K7, 0 < x ∧ x < 8 := by rw [hK7]; exact in_more c6 (by decide) (by decide)
  have y7 : has = true → K7 = K6 ++ [7] := fun h => by rw [hK7, if_pos h]
  have z7 : has = false → K7 = K6 := fun h => by first | cases h; done | rw [hK7, if_neg (by rw [h]; decide), List.append_nil]
  obtain ⟨K8, hK8⟩ : ∃ K, K = K7 ++ (if (decide (0 < comms.length)) = true then [8] else []) := ⟨_, rfl⟩
  have c8 : ∀ x ∈ K8, 0 < x ∧ x < 9 := by rw [hK8]; exact in_more c7 (by decide) (by decide)
  have y8 : (decide (0 < comms.length)) = true → K8 = K7 ++ [8] := fun h => by rw [hK8, if_pos h]
  have z8 : (decide (0 < comms.length)) = false → K8 = K7 := fun h => by first | cases h; done | rw [hK8, if_neg (by rw [h]; decide), List.append_nil]
  have cr := raws_new raws (-1) hraw
  obtain ⟨KR, hKR⟩ : ∃ K, K = K8 ++ raws.map (fun s => s.ty.toNat) := ⟨_, rfl⟩
  have k17 : 17 ∉ KR := fun hm => by
    rw [hKR] at hm
    rcases List.mem_append.1 hm with q | q
    · have := c8 17 q; omega
    · have := cr 17 q; revert this; decide
  obtain ⟨K17, hK17⟩ : ∃ K, K = KR ++ (if (!wide && bigs (flatN path)) = true then [17] else []) := ⟨_, rfl⟩
  have k18 : 18 ∉ K17 := fun hm => by
    rw [hK17, hKR] at hm
    rcases List.mem_append.1 hm with hm | hm
    · rcases List.mem_append.1 hm with q | q
      · have := c8 18 q; omega
      · have := cr 18 q; revert this; decide
    · split at hm <;> simp at hm
  obtain ⟨K18, hK18⟩ : ∃ K, K = K17 ++ (if (!wide && bigB sa) = true then [18] else []) := ⟨_, rfl⟩
  refine ⟨K18, ?_⟩
  rw [show (oneB (!wide && bigB sa) 192 18 (aggrB true sa ad)) = oneB (!wide && bigB sa) 192 18 (aggrB true sa ad) ++ [] from (List.append_nil _).symm]
  refine runs_opt (S := ⟨0, [], 0, -1, -1, false, false, 0, 0, [], [], [], [], []⟩) (T := ⟨org, [], 0, -1, -1, false, false, 0, 0, [], [], K1, [], []⟩) (.inl rfl) (by decide) (fun hb => by simp) (fun hb f' hf' => (st1 (not_in c0 (by decide)) ⟨hf', rfl, by rw [num_u8 (by omega)]; exact ho⟩).trans (by rw [y1 rfl, num_u8 (show org < 256 from (by omega))])) (fun hb => by cases hb) ?_
  refine runs_opt (S := ⟨org, [], 0, -1, -1, false, false, 0, 0, [], [], K1, [], []⟩) (T := ⟨org, path.map (narS wide), 0, -1, -1, false, false, 0, 0, [], [], K2, [], []⟩) (.inl rfl) (by decide) (fun hb => hlp wide) (fun hb f' hf' => (st2 (not_in c1 (by decide)) hf' (readL_put wide hr hpf)).trans (by rw [y2 rfl])) (fun hb => by cases hb) ?_
  refine runs_opt (S := ⟨org, path.map (narS wide), 0, -1, -1, false, false, 0, 0, [], [], K2, [], []⟩) (T := ⟨org, path.map (narS wide), next, -1, -1, false, false, 0, 0, [], [], K3, [], []⟩) (.inl rfl) (by decide) (fun hb => by rw [(n1 next hn).2]; decide) (fun hb f' hf' => (st3 (not_in c2 (by decide)) ⟨hf', (n1 next hn).2, by rw [(n1 next hn).1]; exact hnx⟩).trans (by rw [y3 rfl, (n1 next hn).1])) (fun hb => by cases hb) ?_
  refine runs_opt (S := ⟨org, path.map (narS wide), next, -1, -1, false, false, 0, 0, [], [], K3, [], []⟩) (T := ⟨org, path.map (narS wide), next, med, -1, false, false, 0, 0, [], [], K4, [], []⟩) (.inr (.inl rfl)) (by decide) (fun hb => by rw [(n1 mm hmm).2]; decide) (fun hb f' hf' => (st4 (not_in c3 (by decide)) ⟨hf', (n1 mm hmm).2⟩).trans (by rw [y4 hb, (n1 mm hmm).1, ← hm2 (of_decide_eq_true hb)])) (fun hb => by rw [z4 hb, show med = -1 from (by have := of_decide_eq_false hb; omega)]) ?_
  refine runs_opt (S := ⟨org, path.map (narS wide), next, med, -1, false, false, 0, 0, [], [], K4, [], []⟩) (T := ⟨org, path.map (narS wide), next, med, pref, false, false, 0, 0, [], [], K5, [], []⟩) (.inl rfl) (by decide) (fun hb => by rw [(n1 mp hmp).2]; decide) (fun hb f' hf' => (st5 (not_in c4 (by decide)) ⟨hf', (n1 mp hmp).2⟩).trans (by rw [y5 hb, (n1 mp hmp).1, ← hp2 (of_decide_eq_true hb)])) (fun hb => by rw [z5 hb, show pref = -1 from (by have := of_decide_eq_false hb; omega)]) ?_
  refine runs_opt (S := ⟨org, path.map (narS wide), next, med, pref, false, false, 0, 0, [], [], K5, [], []⟩) (T := ⟨org, path.map (narS wide), next, med, pref, atomic, false, 0, 0, [], [], K6, [], []⟩) (.inl rfl) (by decide) (fun hb => by simp) (fun hb f' hf' => (st6 (not_in c5 (by decide)) ⟨hf', rfl⟩).trans (by rw [y6 hb, hb])) (fun hb => by rw [z6 hb, hb]) ?_
  refine runs_opt (S := ⟨org, path.map (narS wide), next, med, pref, atomic, false, 0, 0, [], [], K6, [], []⟩) (T := ⟨org, path.map (narS wide), next, med, pref, atomic, has, nar wide sa, ad, [], [], K7, [], []⟩) (.inr (.inr (.inl rfl))) (by decide) (fun hb => by have := aggrB_len wide sa ad; omega) (fun hb f' hf' => (st7 (not_in c6 (by decide)) ⟨hf', (ha wide).1⟩).trans (by rw [y7 hb, (ha wide).2.1, (ha wide).2.2, hb])) (fun hb => by rw [z7 hb, hb, (hha hb).1, (hha hb).2, hz]) ?_
  refine runs_opt (S := ⟨org, path.map (narS wide), next, med, pref, atomic, has, nar wide sa, ad, [], [], K7, [], []⟩) (T := ⟨org, path.map (narS wide), next, med, pref, atomic, has, nar wide sa, ad, comms, [], K8, [], []⟩) (.inr (.inr (.inl rfl))) (by decide) (fun hb => by rw [hlen4]; omega) (fun hb f' hf' => (st8 (not_in c7 (by decide)) ⟨hf', by rw [hlen4]; omega, by rw [hlen4]; omega⟩).trans (by rw [y8 hb, nums4_put comms hcf, List.nil_append])) (fun hb => by rw [z8 hb, show comms = [] from (by have := of_decide_eq_false hb; exact List.length_eq_zero_iff.1 (by omega))]) ?_
  refine runs_raws raws ⟨org, path.map (narS wide), next, med, pref, atomic, has, nar wide sa, ad, comms, [], K8, [], []⟩ (-1) hraw (Int.le_refl _) (fun x hx => by simp at hx) (by simp; omega) (fun x hx => .inl (c8 x hx)) ?_
  show Runs wide _ ⟨org, path.map (narS wide), next, med, pref, atomic, has, nar wide sa, ad, comms, [] ++ raws.map Rw.abs, K8 ++ raws.map (fun s => s.ty.toNat), [], []⟩ _
  rw [← hKR, List.nil_append]
  refine runs_opt (S := ⟨org, path.map (narS wide), next, med, pref, atomic, has, nar wide sa, ad, comms, raws.map Rw.abs, KR, [], []⟩) (T := ⟨org, path.map (narS wide), next, med, pref, atomic, has, nar wide sa, ad, comms, raws.map Rw.abs, K17, if (!wide && bigs (flatN path)) = true then path.map Sg.abs else [], []⟩) (.inr (.inr (.inl rfl))) (by decide) (fun _ => hlp true) (fun hb f' hf' => (st17 k17 hf').trans (by simp only [hK17, if_pos hb, readL_put true hr hpf, narS_wide, Option.getD_some])) (fun hb => by rw [hK17, if_neg (c := (!wide && bigs (flatN path)) = true) (by rw [hb]; decide), if_neg (c := (!wide && bigs (flatN path)) = true) (by rw [hb]; decide), List.append_nil]) ?_
  refine runs_opt (S := ⟨org, path.map (narS wide), next, med, pref, atomic, has, nar wide sa, ad, comms, raws.map Rw.abs, K17, if (!wide && bigs (flatN path)) = true then path.map Sg.abs else [], []⟩) (T := ⟨org, path.map (narS wide), next, med, pref, atomic, has, nar wide sa, ad, comms, raws.map Rw.abs, K18, if (!wide && bigs (flatN path)) = true then path.map Sg.abs else [], if (!wide && bigB sa) = true then aggrB true sa ad else []⟩) (.inr (.inr (.inl rfl))) (by decide) (fun _ => by have := aggrB_len true sa ad; omega) (fun hb f' hf' => (st18 k18 hf').trans (by simp only [hK18, if_pos hb])) (fun hb => by rw [hK18, if_neg (c := (!wide && bigB sa) = true) (by rw [hb]; decide), if_neg (c := (!wide && bigB sa) = true) (by rw [hb]; decide), List.append_nil]) ?_
  exact Runs.nil _ _
end Go.Proofs.YtnaangnmlbgmkaaGreatDoor

/-
  The attribute that a reader is at; whether one may have its flags and its size.
-/
namespace Go.Proofs.YtnaangnmlbgmkaaGreatDoor
set_option linter.unusedVariables false
set_option linter.unusedSimpArgs false
open Go.RowKit

theorem bears_fact (k fl na wi un f : Int) (w : World) (e1 : bits .and .i64 f 32 = 0) (e2 : bits .and .i64 f 192 = fl) :
    Calls Tryz.prog 101 #[.agg #[.int .i64 k, .int .i64 fl, .int .i64 na, .int .i64 wi, .int .i64 un], .int .i64 f] w fun e w' => e = .returned (.bool true) ∧ Below w.heap.size w w' := by
  have hb0 := (Below.refl w.heap.size w).alloc (Nat.le_refl _) (.cells #[.int .i64 k, .int .i64 fl, .int .i64 na, .int .i64 wi, .int .i64 un] 121)
  have HB := Lib.hid hb0
  clear hb0
  go_enter Tryz.func101, Tryz.ntmps101
  go_wp2_with fail
  go_ret
  exact ⟨by simp, HB.out⟩
theorem bears_ok (k fl na wi un : Int) (f g : Nat) (w : World) (hg : g = 64 ∨ g = 128 ∨ g = 192) (hfl : fl = (g : Int)) (hf : flOk f g = true) :
    Calls Tryz.prog 101 #[.agg #[.int .i64 k, .int .i64 fl, .int .i64 na, .int .i64 wi, .int .i64 un], .int .i64 (f : Int)] w fun e w' => e = .returned (.bool true) ∧ Below w.heap.size w w' := by
  have hf' : f = g ∨ f = g + 16 := by simpa [flOk] using hf
  subst hfl
  rcases hg with rfl | rfl | rfl <;> rcases hf' with rfl | rfl <;> exact bears_fact _ _ _ _ _ _ w (by decide) (by decide)
theorem fits_unit (k fl na wi un : Int) (n : Nat) (wide : Bool) (w : World) (hu : 0 < un) (hu2 : un ≤ 4) (hn : ((n : Int) % un == 0) = true) (hl : n ≤ 1000000) :
    Calls Tryz.prog 103 #[.agg #[.int .i64 k, .int .i64 fl, .int .i64 na, .int .i64 wi, .int .i64 un], .int .i64 (n : Int), .bool wide] w fun e w' => e = .returned (.bool true) ∧ Below w.heap.size w w' := by
  have hb0 := (Below.refl w.heap.size w).alloc (Nat.le_refl _) (.cells #[.int .i64 k, .int .i64 fl, .int .i64 na, .int .i64 wi, .int .i64 un] 121)
  have HB := Lib.hid hb0
  clear hb0
  go_enter Tryz.func103, Tryz.ntmps103
  go_wp2_with fail
  go_ret
  exact ⟨by simp, HB.out⟩
theorem fits_wide (k fl na un : Int) (n : Nat) (w : World) (hu : un = 0) (hl : n ≤ 1000000) :
    Calls Tryz.prog 103 #[.agg #[.int .i64 k, .int .i64 fl, .int .i64 na, .int .i64 (n : Int), .int .i64 un], .int .i64 (n : Int), .bool true] w fun e w' => e = .returned (.bool true) ∧ Below w.heap.size w w' := by
  subst hu
  have hb0 := (Below.refl w.heap.size w).alloc (Nat.le_refl _) (.cells #[.int .i64 k, .int .i64 fl, .int .i64 na, .int .i64 (n : Int), .int .i64 0] 121)
  have HB := Lib.hid hb0
  clear hb0
  go_enter Tryz.func103, Tryz.ntmps103
  go_wp2_with fail
  go_ret
  exact ⟨by simp, HB.out⟩
theorem fits_narrow (k fl wi un : Int) (n : Nat) (w : World) (hu : un = 0) (hl : n ≤ 1000000) :
    Calls Tryz.prog 103 #[.agg #[.int .i64 k, .int .i64 fl, .int .i64 (n : Int), .int .i64 wi, .int .i64 un], .int .i64 (n : Int), .bool false] w fun e w' => e = .returned (.bool true) ∧ Below w.heap.size w w' := by
  subst hu
  have hb0 := (Below.refl w.heap.size w).alloc (Nat.le_refl _) (.cells #[.int .i64 k, .int .i64 fl, .int .i64 (n : Int), .int .i64 wi, .int .i64 0] 121)
  have HB := Lib.hid hb0
  clear hb0
  go_enter Tryz.func103, Tryz.ntmps103
  go_wp2_with fail
  go_ret
  exact ⟨by simp, HB.out⟩

theorem ext_bit (f : Nat) (hf : f < 256) : (bits .and .i64 (f : Int) 16 = 0 ∧ f / 16 % 2 ≠ 1) ∨ (bits .and .i64 (f : Int) 16 = 16 ∧ f / 16 % 2 = 1) := by
  have all : ∀ f : Fin 256, (bits .and .i64 (f.val : Int) 16 = 0 ∧ f.val / 16 % 2 ≠ 1) ∨ (bits .and .i64 (f.val : Int) 16 = 16 ∧ f.val / 16 % 2 = 1) := by decide +kernel
  exact all ⟨f, hf⟩
theorem n_less (l : List UInt8) : (n1 l).2.1.length ≤ l.length ∧ (n2 l).2.1.length ≤ l.length ∧ (n3 l).2.1.length ≤ l.length ∧ (n4 l).2.1.length ≤ l.length := by
  have h1 := rdTake_rest l false 1
  have h2 := rdTake_rest (n1 l).2.1 (n1 l).2.2 1
  have h3 := rdTake_rest (n2 l).2.1 (n2 l).2.2 (longN (num (n1 l).1))
  have h4 := rdTake_rest (n3 l).2.1 (n3 l).2.2 ((num (n3 l).1 : Nat) : Int)
  refine ⟨h1, ?_, ?_, ?_⟩
  · exact Nat.le_trans h2 h1
  · exact Nat.le_trans h3 (Nat.le_trans h2 h1)
  · exact Nat.le_trans h4 (Nat.le_trans h3 (Nat.le_trans h2 h1))
/-- What a reader leaves that told the attribute it is at. -/
def NextPost4 (w : World) (B g : Nat) (x : Pa) (e : Ending) (w' : World) : Prop :=
  ∃ A c A2 n2 c2, e = .returned (.tuple #[.agg #[.int .i64 (x.fl : Int), .int .i64 (x.kind : Int), .slice A x.val.length c, .slice A2 n2 c2], .bool true]) ∧ x.val.length ≤ c ∧ c ≤ maxLen ∧ Own w' w.heap.size 5 (.slice A x.val.length c) x.val ∧ Rd w' B g x.rest x.bad ∧ w.grownBy w' (some g)
end Go.Proofs.YtnaangnmlbgmkaaGreatDoor

/-
  The attribute that a reader is at, where bytes do not lack.
-/
namespace Go.Proofs.YtnaangnmlbgmkaaGreatDoor
set_option linter.unusedVariables false
set_option linter.unusedSimpArgs false
open Go.RowKit

/-- A block is written that was not there before. -/
theorem grown_new {w w1 w2 : World} {g k : Nat} (h : w.grownBy w1 (some g)) (q : w1.grownBy w2 (some k)) (hk : w.heap.size ≤ k) : w.grownBy w2 (some g) :=
  ⟨q.os.trans h.os, q.tape.trans h.tape, q.output.trans h.output, Nat.le_trans h.size q.size, fun i hi hne => (q.block i (Nat.lt_of_lt_of_le hi h.size) (fun e => by cases e; omega)).trans (h.block i hi hne)⟩
theorem grown_set4 (w : World) (g : Nat) (a b c d : Value) : w.grownBy ((((w.setCell ⟨g, 0, none⟩ a).setCell ⟨g, 1, none⟩ b).setCell ⟨g, 2, none⟩ c).setCell ⟨g, 3, none⟩ d) (some g) :=
  grown_setCell (grown_setCell (grown_setCell (grown_setCell (grown_refl _ _) _ _) _ _) _ _) _ _
theorem cells4 {w : World} {g T : Nat} {a b c d : Value} (h : Blk w g T [a, b, c, d]) : w.cell? ⟨g, 0, none⟩ = some a ∧ w.cell? ⟨g, 1, none⟩ = some b ∧ w.cell? ⟨g, 2, none⟩ = some c ∧ w.cell? ⟨g, 3, none⟩ = some d := ⟨h.cell 0, h.cell 1, h.cell 2, h.cell 3⟩
theorem free4 {w : World} {g T : Nat} {cs : List Value} (h : Blk w g T cs) : w.frozen? ⟨g, 0, none⟩ = false ∧ w.frozen? ⟨g, 1, none⟩ = false ∧ w.frozen? ⟨g, 2, none⟩ = false ∧ w.frozen? ⟨g, 3, none⟩ = false := ⟨h.free 0, h.free 1, h.free 2, h.free 3⟩
theorem Blk.set4 {w : World} {g T : Nat} {a0 b0 c0 d0 : Value} (a b c d : Value) (hk : Blk w g T [a0, b0, c0, d0]) : Blk ((((w.setCell ⟨g, 0, none⟩ a).setCell ⟨g, 1, none⟩ b).setCell ⟨g, 2, none⟩ c).setCell ⟨g, 3, none⟩ d) g T [a, b, c, d] :=
  (((hk.set 0 a).set 1 b).set 2 c).set 3 d
/-- Where next stands. -/
structure NxSt (w : World) (B g : Nat) (l : List UInt8) (s : Bool) (W : World) : Prop where
  rd : Rd W B g l s
  res : Blk W w.heap.size 101 [.int .i64 0, .int .i64 0, .slice none 0 0, .slice none 0 0]
  grown : w.grownBy W (some g)
  lt : g < w.heap.size
theorem NxSt.go {w W W' : World} {B g : Nat} {l r : List UInt8} {s t : Bool} (S : NxSt w B g l s W) (hr : Rd W' B g r t) (hg : W.grownBy W' (some g)) : NxSt w B g r t W' :=
  ⟨hr, S.res.grown hg (by have := S.lt; omega), grown_trans S.grown hg, S.lt⟩
/-- A slice of bytes is cut somewhere within. -/
theorem slice_some (A : Option Addr) (n c a b : Nat) (h1 : a ≤ b) (h2 : b ≤ c) : ∃ A2 n2 c2, ∀ w, (Instr.slice 33 (.slice A n c) (some (.int .i64 (a : Int))) (some (.int .i64 (b : Int))) none).run Tryz.prog w = .ok (.slice A2 n2 c2) w := by
  refine ⟨if c = a then A else A.map (·.add (a * 1)), b - a, c - a, fun w => ?_⟩
  have hs : (sizeOf (Tryz.prog.elem 33)).run Tryz.prog w = .ok 1 w := by kernel_rfl
  rw [run_slice_lh (w := w) (t := 33) (a := A) (len := n) (cap := c) (ht := show Tryz.prog.underlying 33 = some (.slice (Tryz.prog.elem 33)) by kernel_rfl) (kl := .i64) (kh := .i64) (l := (a : Int)) (h := (b : Int)) (h0 := by omega) (h1 := by omega) (h2 := by omega), hs]
  rfl
/-- The way to the end: the result is written. -/
theorem NxSt.fin {w W W3 : World} {B g : Nat} {r : List UInt8} {s : Bool} {v : List UInt8} {A4 : Option Addr} {c4 : Nat} (S : NxSt w B g r s W) (ho : Own W W3.heap.size 5 (.slice A4 v.length c4) v) (hf : v.length ≤ c4 ∧ c4 ≤ maxLen) (h3 : w.heap.size < W3.heap.size) (hB : B ≤ g) {f k : Nat} (v3 : Value) :
    (((((W.setCell ⟨w.heap.size, 0, none⟩ (.int .i64 (f : Int))).setCell ⟨w.heap.size, 1, none⟩ (.int .i64 (k : Int))).setCell ⟨w.heap.size, 2, none⟩ (.slice A4 v.length c4)).setCell ⟨w.heap.size, 3, none⟩ v3).cell? ⟨w.heap.size, 0, none⟩ = some (.int .i64 (f : Int)) ∧
      ((((W.setCell ⟨w.heap.size, 0, none⟩ (.int .i64 (f : Int))).setCell ⟨w.heap.size, 1, none⟩ (.int .i64 (k : Int))).setCell ⟨w.heap.size, 2, none⟩ (.slice A4 v.length c4)).setCell ⟨w.heap.size, 3, none⟩ v3).cell? ⟨w.heap.size, 1, none⟩ = some (.int .i64 (k : Int)) ∧
      ((((W.setCell ⟨w.heap.size, 0, none⟩ (.int .i64 (f : Int))).setCell ⟨w.heap.size, 1, none⟩ (.int .i64 (k : Int))).setCell ⟨w.heap.size, 2, none⟩ (.slice A4 v.length c4)).setCell ⟨w.heap.size, 3, none⟩ v3).cell? ⟨w.heap.size, 2, none⟩ = some (.slice A4 v.length c4) ∧
      ((((W.setCell ⟨w.heap.size, 0, none⟩ (.int .i64 (f : Int))).setCell ⟨w.heap.size, 1, none⟩ (.int .i64 (k : Int))).setCell ⟨w.heap.size, 2, none⟩ (.slice A4 v.length c4)).setCell ⟨w.heap.size, 3, none⟩ v3).cell? ⟨w.heap.size, 3, none⟩ = some v3) ∧
    ((∃ A2 n2 c2, v3 = .slice A2 n2 c2) → NextPost4 w B g ⟨f, k, v, r, s⟩ (.returned (.tuple #[.agg #[.int .i64 (f : Int), .int .i64 (k : Int), .slice A4 v.length c4, v3], .bool true])) ((((W.setCell ⟨w.heap.size, 0, none⟩ (.int .i64 (f : Int))).setCell ⟨w.heap.size, 1, none⟩ (.int .i64 (k : Int))).setCell ⟨w.heap.size, 2, none⟩ (.slice A4 v.length c4)).setCell ⟨w.heap.size, 3, none⟩ v3)) := by
  have hg4 := grown_set4 W w.heap.size (.int .i64 (f : Int)) (.int .i64 (k : Int)) (.slice A4 v.length c4) v3
  have k4 := S.res.set4 (.int .i64 (f : Int)) (.int .i64 (k : Int)) (.slice A4 v.length c4) v3
  refine ⟨cells4 k4, ?_⟩
  rintro ⟨A2, n2, c2, rfl⟩
  have hlt := S.lt
  refine ⟨A4, c4, A2, n2, c2, rfl, hf.1, hf.2, (ho.beside hg4 h3).lower (Nat.le_of_lt h3), S.rd.grown hg4 (by omega) (by omega), ?_⟩
  exact grown_new S.grown hg4 (Nat.le_refl _)
set_option maxHeartbeats 6400000 in
theorem next4_any (B g : Nat) (l b : List UInt8) (A : Option Addr) (c : Nat) (w : World) (h : Rd w B g l false) (hl : l.length ≤ 1000000) (hb : b.length ≤ 1000000) (hc : b.length ≤ c) (hm : c ≤ maxLen) (hlb : l.length ≤ b.length) (hbad : (nextA l).bad = false) :
    Calls Tryz.prog 59 #[.pointer (some ⟨g, 0, none⟩), .slice A b.length c] w (NextPost4 w B g (nextA l)) := by
  have hBg : B ≤ g := h.1
  have hgl := h.lt
  have hxt := ext_bit (num (n1 l).1) (num_one_lt l false)
  have hless := n_less l
  obtain ⟨x1, h1⟩ : ∃ x, x = n1 l := ⟨_, rfl⟩
  obtain ⟨x2, h2⟩ : ∃ x, x = n2 l := ⟨_, rfl⟩
  obtain ⟨x3, h3⟩ : ∃ x, x = n3 l := ⟨_, rfl⟩
  obtain ⟨x4, h4⟩ : ∃ x, x = n4 l := ⟨_, rfl⟩
  have hN : nextA l = ⟨num x1.1, num x2.1, x4.1, x4.2.1, x4.2.2⟩ := by rw [h1, h2, h4]; rfl
  rw [hN] at hbad ⊢
  have q1 := Byte_any B g l false
  have q2 := Byte_any B g x1.2.1 x1.2.2
  have q3a := Byte_any B g x2.2.1 x2.2.2
  have q3b := U16_any B g x2.2.1 x2.2.2
  have q4 := fun W hr => Take_any ((num x3.1 : Nat) : Int) B g x3.2.1 x3.2.2 W hr (by rw [h3]; have := hless.2.2.1; omega)
  rw [show rdTake l false 1 = x1 from h1.symm] at q1
  rw [show rdTake x1.2.1 x1.2.2 1 = x2 by rw [h1, h2]; rfl] at q2
  rw [show rdTake x3.2.1 x3.2.2 ((num x3.1 : Nat) : Int) = x4 by rw [h3, h4]; rfl] at q4
  rw [← h1] at hxt
  have e3 : x3 = rdTake x2.2.1 x2.2.2 (longN (num x1.1)) := by rw [h3, h2, h1]; rfl
  have hl4 : x4.2.1.length ≤ l.length := by rw [h4]; exact hless.2.2.2
  have HL := Lib.hid (And.intro hl (And.intro hb (And.intro hc (And.intro hm (And.intro hlb hl4)))))
  have S0 := Lib.hid (show NxSt w B g l false (w.alloc (.cells #[.int .i64 0, .int .i64 0, .slice none 0 0, .slice none 0 0] 101)) from
    ⟨h.below ((Below.refl _ _).alloc (Nat.le_refl _) _) hgl, Blk.new w _ _, grown_alloc (grown_refl _ _) _, hgl⟩)
  have Q1 := Lib.hid q1; have Q2 := Lib.hid q2; have Q4 := Lib.hid q4
  have HBG := Lib.hid hBg
  have QLE := fun W hr => Left_any B g l false W hr
  have QL := Lib.hid QLE
  obtain ⟨f, hf⟩ : ∃ f, f = num x1.1 := ⟨_, rfl⟩
  obtain ⟨k, hk⟩ : ∃ f, f = num x2.1 := ⟨_, rfl⟩
  obtain ⟨n, hn⟩ : ∃ f, f = num x3.1 := ⟨_, rfl⟩
  unfold NumPost at Q1 Q2
  rw [← hf] at Q1 hxt e3
  rw [← hk] at Q2
  rw [← hn] at Q4
  rw [← hf, ← hk]
  have HK := Lib.hid hk
  obtain ⟨pre, hpre⟩ : ∃ p : Nat, (b.length : Int) - (l.length : Int) = (p : Int) := ⟨b.length - l.length, by omega⟩
  have HPRE := Lib.hid hpre
  clear h hl hb hc hm hlb hless h1 h2 h3 h4 hN q1 q2 q4 hl4 hk hBg QLE hf hpre
  rcases hxt with ⟨hx1, hx2⟩ | ⟨hx1, hx2⟩
  · have hxb : ((0 : Int) != 0) = false := rfl
    have q3 : ∀ W, Rd W B g x2.2.1 x2.2.2 → Calls Tryz.prog 96 #[.pointer (some ⟨g, 0, none⟩)] W (NumPost .i64 W B g x3.1 x3.2.1 x3.2.2) := by
      intro W hr
      have := q3a W hr
      rw [e3, show longN f = 1 by unfold longN; rw [if_neg hx2]]
      exact this
    unfold NumPost at q3
    rw [← hn] at q3
    have Q3 := Lib.hid q3
    clear q3 q3a q3b hn e3 hx2
    have hb9 : (l.length : Int) ≤ (b.length : Int) := by have := HL.out; omega
    have hb8 : (b.length : Int) ≤ 1000000 := by have := HL.out; omega
    go_enter Tryz.func59, Tryz.ntmps59
    go_wp2_with fail
    refine (QL.out _ S0.out.rd).mono ?_
    rintro e wl ⟨rfl, rfl⟩
    go_wp2_with fail
    refine (Q1.out _ S0.out.rd).mono ?_
    rintro e w1 ⟨rfl, hr, hg⟩
    have S1 := Lib.hid (S0.out.go hr hg)
    clear hr hg S0 Q1
    go_wp2_with fail
    refine (Q2.out _ S1.out.rd).mono ?_
    rintro e w2 ⟨rfl, hr, hg⟩
    have S2 := Lib.hid (S1.out.go hr hg)
    clear hr hg S1 Q2
    go_wp2_with fail
    refine (Q3.out _ S2.out.rd).mono ?_
    rintro e w3 ⟨rfl, hr, hg⟩
    have S3 := Lib.hid (S2.out.go hr hg)
    clear hr hg S2 Q3
    go_wp2_with fail
    refine (Q4.out _ S3.out.rd).mono ?_
    rintro e w4 ⟨A4, c4, rfl, f1, f2, ho, hr, hg⟩
    have S4 := Lib.hid (S3.out.go hr hg)
    have HO := Lib.hid ho; have HF := Lib.hid (And.intro f1 f2)
    have QE := Lib.hid (Err_any B g x4.2.1 x4.2.2 w4 hr)
    rw [hbad] at QE
    rw [show errN false = 0 from rfl] at QE
    have QM := Lib.hid (Left_any B g x4.2.1 x4.2.2 w4 hr)
    have HS3 := Lib.hid (show w.heap.size < w3.heap.size from S3.out.res.lt)
    clear hr hg S3 Q4 ho f1 f2
    go_wp2_with fail
    refine QE.out.mono ?_
    rintro e w5 ⟨rfl, rfl⟩
    go_wp2_with fail
    refine QM.out.mono ?_
    rintro e w6 ⟨rfl, rfl⟩
    have kr := S4.out.res
    have r4 := cells4 kr
    have f4 := free4 kr
    obtain ⟨hi, ehi⟩ : ∃ p : Nat, (b.length : Int) - (x4.2.1.length : Int) = (p : Int) := ⟨b.length - x4.2.1.length, by have := HL.out; omega⟩
    have ep := HPRE.out
    have b1 : (pre : Int) ≤ (hi : Int) := by have := HL.out; omega
    have b2 : (hi : Int) ≤ (c : Int) := by have := HL.out; omega
    have b3 : (0 : Int) ≤ (pre : Int) := by omega
    clear kr
    have HFIN := Lib.hid (fun v3 => NxSt.fin (show NxSt w B g x4.2.1 false w4 by have h := S4.out; rw [hbad] at h; exact h) HO.out HF.out HS3.out HBG.out (f := f) (k := k) v3)
    obtain ⟨A2, n2, c2, xs⟩ := slice_some A b.length c pre hi (by omega) (by omega)
    have hw1 : IntKind.i64.wrap (pre : Int) = (pre : Int) := IntWalk.i64_in _ (by have := HL.out; omega)
    have hw2 : IntKind.i64.wrap (hi : Int) = (hi : Int) := IntWalk.i64_in _ (by have := HL.out; omega)
    clear b1 b2 b3 hb9 hb8
    go_wp2_with fail
    exact bodyPost_ret (v := .tuple #[.agg #[.int .i64 (f : Int), .int .i64 (k : Int), .slice A4 x4.1.length c4, .slice A2 n2 c2], .bool true]) (by simp [results, Tryz.results59, go_sem, (HFIN.out _).1]) rfl (by rw [hbad]; exact (HFIN.out _).2 ⟨_, _, _, rfl⟩)
  · have hxb : ((16 : Int) != 0) = true := rfl
    have q3 : ∀ W, Rd W B g x2.2.1 x2.2.2 → Calls Tryz.prog 27 #[.pointer (some ⟨g, 0, none⟩)] W (NumPost .i64 W B g x3.1 x3.2.1 x3.2.2) := by
      intro W hr
      have := q3b W hr
      rw [e3, show longN f = 2 by unfold longN; rw [if_pos hx2]]
      exact this
    unfold NumPost at q3
    rw [← hn] at q3
    have Q3 := Lib.hid q3
    clear q3 q3a q3b hn e3 hx2
    have hb9 : (l.length : Int) ≤ (b.length : Int) := by have := HL.out; omega
    have hb8 : (b.length : Int) ≤ 1000000 := by have := HL.out; omega
    go_enter Tryz.func59, Tryz.ntmps59
    go_wp2_with fail
    refine (QL.out _ S0.out.rd).mono ?_
    rintro e wl ⟨rfl, rfl⟩
    go_wp2_with fail
    refine (Q1.out _ S0.out.rd).mono ?_
    rintro e w1 ⟨rfl, hr, hg⟩
    have S1 := Lib.hid (S0.out.go hr hg)
    clear hr hg S0 Q1
    go_wp2_with fail
    refine (Q2.out _ S1.out.rd).mono ?_
    rintro e w2 ⟨rfl, hr, hg⟩
    have S2 := Lib.hid (S1.out.go hr hg)
    clear hr hg S1 Q2
    go_wp2_with fail
    refine (Q3.out _ S2.out.rd).mono ?_
    rintro e w3 ⟨rfl, hr, hg⟩
    have S3 := Lib.hid (S2.out.go hr hg)
    clear hr hg S2 Q3
    go_wp2_with fail
    refine (Q4.out _ S3.out.rd).mono ?_
    rintro e w4 ⟨A4, c4, rfl, f1, f2, ho, hr, hg⟩
    have S4 := Lib.hid (S3.out.go hr hg)
    have HO := Lib.hid ho; have HF := Lib.hid (And.intro f1 f2)
    have QE := Lib.hid (Err_any B g x4.2.1 x4.2.2 w4 hr)
    rw [hbad] at QE
    rw [show errN false = 0 from rfl] at QE
    have QM := Lib.hid (Left_any B g x4.2.1 x4.2.2 w4 hr)
    have HS3 := Lib.hid (show w.heap.size < w3.heap.size from S3.out.res.lt)
    clear hr hg S3 Q4 ho f1 f2
    go_wp2_with fail
    refine QE.out.mono ?_
    rintro e w5 ⟨rfl, rfl⟩
    go_wp2_with fail
    refine QM.out.mono ?_
    rintro e w6 ⟨rfl, rfl⟩
    have kr := S4.out.res
    have r4 := cells4 kr
    have f4 := free4 kr
    obtain ⟨hi, ehi⟩ : ∃ p : Nat, (b.length : Int) - (x4.2.1.length : Int) = (p : Int) := ⟨b.length - x4.2.1.length, by have := HL.out; omega⟩
    have ep := HPRE.out
    have b1 : (pre : Int) ≤ (hi : Int) := by have := HL.out; omega
    have b2 : (hi : Int) ≤ (c : Int) := by have := HL.out; omega
    have b3 : (0 : Int) ≤ (pre : Int) := by omega
    clear kr
    have HFIN := Lib.hid (fun v3 => NxSt.fin (show NxSt w B g x4.2.1 false w4 by have h := S4.out; rw [hbad] at h; exact h) HO.out HF.out HS3.out HBG.out (f := f) (k := k) v3)
    obtain ⟨A2, n2, c2, xs⟩ := slice_some A b.length c pre hi (by omega) (by omega)
    have hw1 : IntKind.i64.wrap (pre : Int) = (pre : Int) := IntWalk.i64_in _ (by have := HL.out; omega)
    have hw2 : IntKind.i64.wrap (hi : Int) = (hi : Int) := IntWalk.i64_in _ (by have := HL.out; omega)
    clear b1 b2 b3 hb9 hb8
    go_wp2_with fail
    exact bodyPost_ret (v := .tuple #[.agg #[.int .i64 (f : Int), .int .i64 (k : Int), .slice A4 x4.1.length c4, .slice A2 n2 c2], .bool true]) (by simp [results, Tryz.results59, go_sem, (HFIN.out _).1]) rfl (by rw [hbad]; exact (HFIN.out _).2 ⟨_, _, _, rfl⟩)
end Go.Proofs.YtnaangnmlbgmkaaGreatDoor

/-
  What one attribute says is taken in, kind by kind (written by gen04y.py).
-/
namespace Go.Proofs.YtnaangnmlbgmkaaGreatDoor
set_option linter.unusedVariables false
set_option linter.unusedSimpArgs false
open Go.RowKit

theorem rdTake_all (l : List UInt8) (n : Int) (hn : n = (l.length : Int)) : rdTake l false n = (l, [], false) := by
  have := rdTake_app l [] false n hn
  rwa [List.append_nil] at this
/-- A fault that is none. -/
def fault0 : Value := .agg #[.int .i64 0, .int .i64 0, .slice none 0 0]
/-- What say leaves: the block of what was read so far, with other cells. -/
def SayPost (W : World) (gx : Nat) (cs : List Value) (e : Ending) (W' : World) : Prop := e = .returned fault0 ∧ Blk W' gx 99 cs ∧ W.grownBy W' (some gx)
theorem grown_below {w w1 w2 : World} {g : Nat} (h : Below w.heap.size w w1) (k : w1.grownBy w2 (some g)) : w.grownBy w2 (some g) :=
  ⟨k.os.trans h.os, k.tape.trans h.tape, k.output.trans h.output, Nat.le_trans h.size k.size, fun i hi hne => (k.block i (Nat.lt_of_lt_of_le hi h.size) hne).trans (h.block i hi)⟩
/-- Where say stands: the part, the result, the reader are blocks of its own. -/
structure SaySt (w : World) (gx : Nat) (cs : List Value) (l : List UInt8) (W : World) : Prop where
  blk : Blk W gx 99 cs
  lt : gx < w.heap.size
  res : Blk W (w.heap.size + 1) 43 [.int .i64 0, .int .i64 0, .slice none 0 0]
  below : Below w.heap.size w W
  rd : Rd W (w.heap.size + 2) (w.heap.size + 2) l false
theorem SaySt.go {w W W' : World} {gx : Nat} {cs : List Value} {l r : List UInt8} (S : SaySt w gx cs l W) (hr : Rd W' (w.heap.size + 2) (w.heap.size + 2) r false) (hg : W.grownBy W' (some (w.heap.size + 2))) : SaySt w gx cs r W' :=
  ⟨S.blk.grown hg (by have := S.lt; omega), S.lt, S.res.grown hg (by omega), S.below.grown hg S.below.size (fun k hk => by cases hk; omega), hr⟩
/-- The way to the end: one cell of what was read so far is written, then the result. -/
theorem SaySt.end {w W : World} {gx : Nat} {cs : List Value} {l : List UInt8} (S : SaySt w gx cs l W) (i : Nat) (v : Value) :
    Blk ((((W.setCell ⟨gx, i, none⟩ v).setCell ⟨w.heap.size + 1, 0, none⟩ (.int .i64 0)).setCell ⟨w.heap.size + 1, 1, none⟩ (.int .i64 0)).setCell ⟨w.heap.size + 1, 2, none⟩ (.slice none 0 0)) gx 99 (cs.set i v) ∧ w.grownBy ((((W.setCell ⟨gx, i, none⟩ v).setCell ⟨w.heap.size + 1, 0, none⟩ (.int .i64 0)).setCell ⟨w.heap.size + 1, 1, none⟩ (.int .i64 0)).setCell ⟨w.heap.size + 1, 2, none⟩ (.slice none 0 0)) (some gx) :=
  ⟨(S.blk.set i v).grown (grown_set3 _ (w.heap.size + 1) (.int .i64 0) (.int .i64 0) (.slice none 0 0)) (by have := S.lt; omega),
   grown_new (grown_below S.below (grown_setCell (grown_refl _ _) i v)) (grown_set3 _ (w.heap.size + 1) (.int .i64 0) (.int .i64 0) (.slice none 0 0)) (by omega)⟩
theorem SaySt.resAt {w W : World} {gx : Nat} {cs : List Value} {l : List UInt8} (S : SaySt w gx cs l W) (i : Nat) (v : Value) : Blk (W.setCell ⟨gx, i, none⟩ v) (w.heap.size + 1) 43 [.int .i64 0, .int .i64 0, .slice none 0 0] :=
  S.res.grown (grown_setCell (grown_refl _ (some gx)) i v) (by have := S.lt; omega)
theorem SaySt.start {w W0 w1 : World} {gx : Nat} {cs : List Value} {l : List UInt8} {p : Obj} (hx : Blk w gx 99 cs) (hw : W0 = (w.alloc p).alloc (.cells #[.int .i64 0, .int .i64 0, .slice none 0 0] 43))
    (hr : Rd w1 W0.heap.size W0.heap.size l false) (hb : Below W0.heap.size W0 w1) : SaySt w gx cs l w1 := by
  have hb1 : Below w.heap.size w W0 := by rw [hw]; exact ((Below.refl _ _).alloc (Nat.le_refl _) _).alloc (by simp) _
  have hz : W0.heap.size = w.heap.size + 2 := by rw [hw]; simp
  have kf : Blk W0 (w.heap.size + 1) 43 [.int .i64 0, .int .i64 0, .slice none 0 0] := by
    have := Blk.new (w.alloc p) 43 [.int .i64 0, .int .i64 0, .slice none 0 0]
    rw [hw]
    simpa using this
  refine ⟨(hx.below hb1 hx.lt).below hb (Nat.lt_of_lt_of_le hx.lt hb1.size), hx.lt, kf.below hb kf.lt, hb1.trans (hb.mono hb1.size), ?_⟩
  rw [← hz]; exact hr
set_option maxHeartbeats 3200000 in
theorem say1_any (gx : Nat) (wide : Bool) (vo vp vn vm vf va vh vs vd vc vr vk vw vg : Value) (f : Int) (A A2 : Option Addr) (c n2 c2 : Nat) (l : List UInt8) (w : World) (hx : Blk w gx 99 [.bool wide, vo, vp, vn, vm, vf, va, vh, vs, vd, vc, vr, vk, vw, vg]) (h : Bytes w A l) (hc : l.length ≤ c) (hm : c ≤ maxLen) (hv : l.length = 1 ∧ num l ≤ 2) :
    Calls Tryz.prog 104 #[.pointer (some ⟨gx, 0, none⟩), .agg #[.int .i64 f, .int .i64 1, .slice A l.length c, .slice A2 n2 c2]] w (SayPost w gx [.bool wide, .int .i64 (num l : Int), vp, vn, vm, vf, va, vh, vs, vd, vc, vr, vk, vw, vg]) := by
  obtain ⟨W0, hW0⟩ : ∃ W0, W0 = (w.alloc (.cells #[.int .i64 f, .int .i64 1, .slice A l.length c, .slice A2 n2 c2] 101)).alloc (.cells #[.int .i64 0, .int .i64 0, .slice none 0 0] 43) := ⟨_, rfl⟩
  have hb1 : Below w.heap.size w W0 := by rw [hW0]; exact ((Below.refl _ _).alloc (Nat.le_refl _) _).alloc (by simp) _
  have kp : Blk W0 w.heap.size 101 [.int .i64 f, .int .i64 1, .slice A l.length c, .slice A2 n2 c2] := by
    rw [hW0]
    exact (Blk.new w _ _).below ((Below.refl _ _).alloc (Nat.le_refl _) _) (by simp)
  have p2 : W0.cell? ⟨w.heap.size, 2, none⟩ = some (.slice A l.length c) := kp.cell 2
  have QN := Lib.hid (New_any A l.length c l rfl W0 (h.below hb1) hc hm)
  have HST := Lib.hid (fun (w1 : World) (hr : Rd w1 W0.heap.size W0.heap.size l false) (hb : Below W0.heap.size W0 w1) => SaySt.start hx hW0 hr hb)
  have hz : W0.heap.size = w.heap.size + 2 := by rw [hW0]; simp
  have HZ := Lib.hid hz
  have hsx : ¬ w.heap.size = gx := by have := hx.lt; omega
  have HKP := Lib.hid (fun (w1 : World) (hb : Below W0.heap.size W0 w1) => kp.below hb kp.lt)
  have HW0 := Lib.hid hW0; have HV := Lib.hid hv; have HLT := Lib.hid hx.lt
  clear hb1 kp hW0 hz hx h hc hm hv
  go_enter Tryz.func104, Tryz.ntmps104
  go_wp2_with (rw [← HW0.out])
  refine QN.out.mono ?_
  rintro e w1 ⟨rfl, hr1, hb1⟩
  have S1 := Lib.hid (HST.out w1 hr1 hb1)
  have kp1 := HKP.out w1 hb1
  have p1 : w1.cell? ⟨w.heap.size, 1, none⟩ = some (.int .i64 1) := kp1.cell 1
  rw [HZ.out]
  clear hr1 hb1 p2 QN HST HW0 HKP kp1
  have Q := Lib.hid (Byte_any (w.heap.size + 2) (w.heap.size + 2) l false w1 S1.out.rd)
  rw [rdTake_all l 1 (by have := HV.out.1; omega)] at Q
  go_wp2_with fail
  refine Q.out.mono ?_
  rintro e w2 ⟨rfl, hr2, hg2⟩
  have S2 := Lib.hid (S1.out.go hr2 hg2)
  clear hr2 hg2 Q S1
  have hnl : num l < 4294967296 := num_lt4 (by have := HV.out.1; omega)
  have h2 : ¬ (2 : Int) < ((num l : Nat) : Int) := by have := HV.out.2; omega
  obtain ⟨n, hn⟩ : ∃ n, n = num l := ⟨_, rfl⟩
  simp only [← hn] at *
  clear hn
  have x1 : w2.cell? ⟨gx, 1, none⟩ = some vo := S2.out.blk.cell 1
  have y1 := S2.out.blk.free 1
  have kr := S2.out.resAt 1 (.int .i64 (n : Int))
  have c3 := cells3 kr
  have f3 := free3 kr
  have r3 := cells3 (kr.set3 (.int .i64 0) (.int .i64 0) (.slice none 0 0))
  have HE := Lib.hid (S2.out.end 1 (.int .i64 (n : Int)))
  have hlt := HLT.out
  have hne1 : ¬ gx = w.heap.size + 1 := by omega
  have hne2 : ¬ w.heap.size + 1 = gx := by omega
  clear kr hlt
  go_wp2_with fail
  exact bodyPost_ret (v := fault0) (by simp [results, Tryz.results104, go_sem, fault0, r3]) rfl ⟨rfl, HE.out⟩
set_option maxHeartbeats 3200000 in
theorem say3_any (gx : Nat) (wide : Bool) (vo vp vn vm vf va vh vs vd vc vr vk vw vg : Value) (f : Int) (A A2 : Option Addr) (c n2 c2 : Nat) (l : List UInt8) (w : World) (hx : Blk w gx 99 [.bool wide, vo, vp, vn, vm, vf, va, vh, vs, vd, vc, vr, vk, vw, vg]) (h : Bytes w A l) (hc : l.length ≤ c) (hm : c ≤ maxLen) (hv : l.length = 4 ∧ nextB (num l) = true) :
    Calls Tryz.prog 104 #[.pointer (some ⟨gx, 0, none⟩), .agg #[.int .i64 f, .int .i64 3, .slice A l.length c, .slice A2 n2 c2]] w (SayPost w gx [.bool wide, vo, vp, .int .u32 (num l : Int), vm, vf, va, vh, vs, vd, vc, vr, vk, vw, vg]) := by
  obtain ⟨W0, hW0⟩ : ∃ W0, W0 = (w.alloc (.cells #[.int .i64 f, .int .i64 3, .slice A l.length c, .slice A2 n2 c2] 101)).alloc (.cells #[.int .i64 0, .int .i64 0, .slice none 0 0] 43) := ⟨_, rfl⟩
  have hb1 : Below w.heap.size w W0 := by rw [hW0]; exact ((Below.refl _ _).alloc (Nat.le_refl _) _).alloc (by simp) _
  have kp : Blk W0 w.heap.size 101 [.int .i64 f, .int .i64 3, .slice A l.length c, .slice A2 n2 c2] := by
    rw [hW0]
    exact (Blk.new w _ _).below ((Below.refl _ _).alloc (Nat.le_refl _) _) (by simp)
  have p2 : W0.cell? ⟨w.heap.size, 2, none⟩ = some (.slice A l.length c) := kp.cell 2
  have QN := Lib.hid (New_any A l.length c l rfl W0 (h.below hb1) hc hm)
  have HST := Lib.hid (fun (w1 : World) (hr : Rd w1 W0.heap.size W0.heap.size l false) (hb : Below W0.heap.size W0 w1) => SaySt.start hx hW0 hr hb)
  have hz : W0.heap.size = w.heap.size + 2 := by rw [hW0]; simp
  have HZ := Lib.hid hz
  have hsx : ¬ w.heap.size = gx := by have := hx.lt; omega
  have HKP := Lib.hid (fun (w1 : World) (hb : Below W0.heap.size W0 w1) => kp.below hb kp.lt)
  have HW0 := Lib.hid hW0; have HV := Lib.hid hv; have HLT := Lib.hid hx.lt
  clear hb1 kp hW0 hz hx h hc hm hv
  go_enter Tryz.func104, Tryz.ntmps104
  go_wp2_with (rw [← HW0.out])
  refine QN.out.mono ?_
  rintro e w1 ⟨rfl, hr1, hb1⟩
  have S1 := Lib.hid (HST.out w1 hr1 hb1)
  have kp1 := HKP.out w1 hb1
  have p1 : w1.cell? ⟨w.heap.size, 1, none⟩ = some (.int .i64 3) := kp1.cell 1
  rw [HZ.out]
  clear hr1 hb1 p2 QN HST HW0 HKP kp1
  have Q := Lib.hid (U32_any (w.heap.size + 2) (w.heap.size + 2) l false w1 S1.out.rd)
  rw [rdTake_all l 4 (by have := HV.out.1; omega)] at Q
  go_wp2_with fail
  refine Q.out.mono ?_
  rintro e w2 ⟨rfl, hr2, hg2⟩
  have S2 := Lib.hid (S1.out.go hr2 hg2)
  clear hr2 hg2 Q S1
  have hnl : num l < 4294967296 := num_lt4 (by have := HV.out.1; omega)
  have QX := Lib.hid (fun W => Next_any (num l) W hnl)
  rw [HV.out.2] at QX
  obtain ⟨n, hn⟩ : ∃ n, n = num l := ⟨_, rfl⟩
  simp only [← hn] at *
  clear hn
  have x1 : w2.cell? ⟨gx, 3, none⟩ = some vn := S2.out.blk.cell 3
  have y1 := S2.out.blk.free 3
  have kr := S2.out.resAt 3 (.int .u32 (n : Int))
  have c3 := cells3 kr
  have f3 := free3 kr
  have r3 := cells3 (kr.set3 (.int .i64 0) (.int .i64 0) (.slice none 0 0))
  have HE := Lib.hid (S2.out.end 3 (.int .u32 (n : Int)))
  have hlt := HLT.out
  have hne1 : ¬ gx = w.heap.size + 1 := by omega
  have hne2 : ¬ w.heap.size + 1 = gx := by omega
  clear kr hlt
  go_wp2_with fail
  refine (QX.out _).mono ?_
  rintro e w3 ⟨rfl, rfl⟩
  go_wp2_with fail
  exact bodyPost_ret (v := fault0) (by simp [results, Tryz.results104, go_sem, fault0, r3]) rfl ⟨rfl, HE.out⟩
set_option maxHeartbeats 3200000 in
theorem say4_any (gx : Nat) (wide : Bool) (vo vp vn vm vf va vh vs vd vc vr vk vw vg : Value) (f : Int) (A A2 : Option Addr) (c n2 c2 : Nat) (l : List UInt8) (w : World) (hx : Blk w gx 99 [.bool wide, vo, vp, vn, vm, vf, va, vh, vs, vd, vc, vr, vk, vw, vg]) (h : Bytes w A l) (hc : l.length ≤ c) (hm : c ≤ maxLen) (hv : l.length = 4) :
    Calls Tryz.prog 104 #[.pointer (some ⟨gx, 0, none⟩), .agg #[.int .i64 f, .int .i64 4, .slice A l.length c, .slice A2 n2 c2]] w (SayPost w gx [.bool wide, vo, vp, vn, .int .i64 (num l : Int), vf, va, vh, vs, vd, vc, vr, vk, vw, vg]) := by
  obtain ⟨W0, hW0⟩ : ∃ W0, W0 = (w.alloc (.cells #[.int .i64 f, .int .i64 4, .slice A l.length c, .slice A2 n2 c2] 101)).alloc (.cells #[.int .i64 0, .int .i64 0, .slice none 0 0] 43) := ⟨_, rfl⟩
  have hb1 : Below w.heap.size w W0 := by rw [hW0]; exact ((Below.refl _ _).alloc (Nat.le_refl _) _).alloc (by simp) _
  have kp : Blk W0 w.heap.size 101 [.int .i64 f, .int .i64 4, .slice A l.length c, .slice A2 n2 c2] := by
    rw [hW0]
    exact (Blk.new w _ _).below ((Below.refl _ _).alloc (Nat.le_refl _) _) (by simp)
  have p2 : W0.cell? ⟨w.heap.size, 2, none⟩ = some (.slice A l.length c) := kp.cell 2
  have QN := Lib.hid (New_any A l.length c l rfl W0 (h.below hb1) hc hm)
  have HST := Lib.hid (fun (w1 : World) (hr : Rd w1 W0.heap.size W0.heap.size l false) (hb : Below W0.heap.size W0 w1) => SaySt.start hx hW0 hr hb)
  have hz : W0.heap.size = w.heap.size + 2 := by rw [hW0]; simp
  have HZ := Lib.hid hz
  have hsx : ¬ w.heap.size = gx := by have := hx.lt; omega
  have HKP := Lib.hid (fun (w1 : World) (hb : Below W0.heap.size W0 w1) => kp.below hb kp.lt)
  have HW0 := Lib.hid hW0; have HV := Lib.hid hv; have HLT := Lib.hid hx.lt
  clear hb1 kp hW0 hz hx h hc hm hv
  go_enter Tryz.func104, Tryz.ntmps104
  go_wp2_with (rw [← HW0.out])
  refine QN.out.mono ?_
  rintro e w1 ⟨rfl, hr1, hb1⟩
  have S1 := Lib.hid (HST.out w1 hr1 hb1)
  have kp1 := HKP.out w1 hb1
  have p1 : w1.cell? ⟨w.heap.size, 1, none⟩ = some (.int .i64 4) := kp1.cell 1
  rw [HZ.out]
  clear hr1 hb1 p2 QN HST HW0 HKP kp1
  have Q := Lib.hid (U32_any (w.heap.size + 2) (w.heap.size + 2) l false w1 S1.out.rd)
  rw [rdTake_all l 4 (by have := HV.out; omega)] at Q
  go_wp2_with fail
  refine Q.out.mono ?_
  rintro e w2 ⟨rfl, hr2, hg2⟩
  have S2 := Lib.hid (S1.out.go hr2 hg2)
  clear hr2 hg2 Q S1
  have hnl : num l < 4294967296 := num_lt4 (by have := HV.out; omega)
  have hcv : IntKind.i64.wrap ((num l : Nat) : Int) = ((num l : Nat) : Int) := IntWalk.i64_in _ (by omega)
  obtain ⟨n, hn⟩ : ∃ n, n = num l := ⟨_, rfl⟩
  simp only [← hn] at *
  clear hn
  have x1 : w2.cell? ⟨gx, 4, none⟩ = some vm := S2.out.blk.cell 4
  have y1 := S2.out.blk.free 4
  have kr := S2.out.resAt 4 (.int .i64 (n : Int))
  have c3 := cells3 kr
  have f3 := free3 kr
  have r3 := cells3 (kr.set3 (.int .i64 0) (.int .i64 0) (.slice none 0 0))
  have HE := Lib.hid (S2.out.end 4 (.int .i64 (n : Int)))
  have hlt := HLT.out
  have hne1 : ¬ gx = w.heap.size + 1 := by omega
  have hne2 : ¬ w.heap.size + 1 = gx := by omega
  clear kr hlt
  go_wp2_with fail
  exact bodyPost_ret (v := fault0) (by simp [results, Tryz.results104, go_sem, fault0, r3]) rfl ⟨rfl, HE.out⟩
set_option maxHeartbeats 3200000 in
theorem say5_any (gx : Nat) (wide : Bool) (vo vp vn vm vf va vh vs vd vc vr vk vw vg : Value) (f : Int) (A A2 : Option Addr) (c n2 c2 : Nat) (l : List UInt8) (w : World) (hx : Blk w gx 99 [.bool wide, vo, vp, vn, vm, vf, va, vh, vs, vd, vc, vr, vk, vw, vg]) (h : Bytes w A l) (hc : l.length ≤ c) (hm : c ≤ maxLen) (hv : l.length = 4) :
    Calls Tryz.prog 104 #[.pointer (some ⟨gx, 0, none⟩), .agg #[.int .i64 f, .int .i64 5, .slice A l.length c, .slice A2 n2 c2]] w (SayPost w gx [.bool wide, vo, vp, vn, vm, .int .i64 (num l : Int), va, vh, vs, vd, vc, vr, vk, vw, vg]) := by
  obtain ⟨W0, hW0⟩ : ∃ W0, W0 = (w.alloc (.cells #[.int .i64 f, .int .i64 5, .slice A l.length c, .slice A2 n2 c2] 101)).alloc (.cells #[.int .i64 0, .int .i64 0, .slice none 0 0] 43) := ⟨_, rfl⟩
  have hb1 : Below w.heap.size w W0 := by rw [hW0]; exact ((Below.refl _ _).alloc (Nat.le_refl _) _).alloc (by simp) _
  have kp : Blk W0 w.heap.size 101 [.int .i64 f, .int .i64 5, .slice A l.length c, .slice A2 n2 c2] := by
    rw [hW0]
    exact (Blk.new w _ _).below ((Below.refl _ _).alloc (Nat.le_refl _) _) (by simp)
  have p2 : W0.cell? ⟨w.heap.size, 2, none⟩ = some (.slice A l.length c) := kp.cell 2
  have QN := Lib.hid (New_any A l.length c l rfl W0 (h.below hb1) hc hm)
  have HST := Lib.hid (fun (w1 : World) (hr : Rd w1 W0.heap.size W0.heap.size l false) (hb : Below W0.heap.size W0 w1) => SaySt.start hx hW0 hr hb)
  have hz : W0.heap.size = w.heap.size + 2 := by rw [hW0]; simp
  have HZ := Lib.hid hz
  have hsx : ¬ w.heap.size = gx := by have := hx.lt; omega
  have HKP := Lib.hid (fun (w1 : World) (hb : Below W0.heap.size W0 w1) => kp.below hb kp.lt)
  have HW0 := Lib.hid hW0; have HV := Lib.hid hv; have HLT := Lib.hid hx.lt
  clear hb1 kp hW0 hz hx h hc hm hv
  go_enter Tryz.func104, Tryz.ntmps104
  go_wp2_with (rw [← HW0.out])
  refine QN.out.mono ?_
  rintro e w1 ⟨rfl, hr1, hb1⟩
  have S1 := Lib.hid (HST.out w1 hr1 hb1)
  have kp1 := HKP.out w1 hb1
  have p1 : w1.cell? ⟨w.heap.size, 1, none⟩ = some (.int .i64 5) := kp1.cell 1
  rw [HZ.out]
  clear hr1 hb1 p2 QN HST HW0 HKP kp1
  have Q := Lib.hid (U32_any (w.heap.size + 2) (w.heap.size + 2) l false w1 S1.out.rd)
  rw [rdTake_all l 4 (by have := HV.out; omega)] at Q
  go_wp2_with fail
  refine Q.out.mono ?_
  rintro e w2 ⟨rfl, hr2, hg2⟩
  have S2 := Lib.hid (S1.out.go hr2 hg2)
  clear hr2 hg2 Q S1
  have hnl : num l < 4294967296 := num_lt4 (by have := HV.out; omega)
  have hcv : IntKind.i64.wrap ((num l : Nat) : Int) = ((num l : Nat) : Int) := IntWalk.i64_in _ (by omega)
  obtain ⟨n, hn⟩ : ∃ n, n = num l := ⟨_, rfl⟩
  simp only [← hn] at *
  clear hn
  have x1 : w2.cell? ⟨gx, 5, none⟩ = some vf := S2.out.blk.cell 5
  have y1 := S2.out.blk.free 5
  have kr := S2.out.resAt 5 (.int .i64 (n : Int))
  have c3 := cells3 kr
  have f3 := free3 kr
  have r3 := cells3 (kr.set3 (.int .i64 0) (.int .i64 0) (.slice none 0 0))
  have HE := Lib.hid (S2.out.end 5 (.int .i64 (n : Int)))
  have hlt := HLT.out
  have hne1 : ¬ gx = w.heap.size + 1 := by omega
  have hne2 : ¬ w.heap.size + 1 = gx := by omega
  clear kr hlt
  go_wp2_with fail
  exact bodyPost_ret (v := fault0) (by simp [results, Tryz.results104, go_sem, fault0, r3]) rfl ⟨rfl, HE.out⟩
set_option maxHeartbeats 3200000 in
theorem say6_any (gx : Nat) (wide : Bool) (vo vp vn vm vf va vh vs vd vc vr vk vw vg : Value) (f : Int) (A A2 : Option Addr) (c n2 c2 : Nat) (l : List UInt8) (w : World) (hx : Blk w gx 99 [.bool wide, vo, vp, vn, vm, vf, va, vh, vs, vd, vc, vr, vk, vw, vg]) (h : Bytes w A l) (hc : l.length ≤ c) (hm : c ≤ maxLen) (hv : l.length = 0) :
    Calls Tryz.prog 104 #[.pointer (some ⟨gx, 0, none⟩), .agg #[.int .i64 f, .int .i64 6, .slice A l.length c, .slice A2 n2 c2]] w (SayPost w gx [.bool wide, vo, vp, vn, vm, vf, .bool true, vh, vs, vd, vc, vr, vk, vw, vg]) := by
  obtain ⟨W0, hW0⟩ : ∃ W0, W0 = (w.alloc (.cells #[.int .i64 f, .int .i64 6, .slice A l.length c, .slice A2 n2 c2] 101)).alloc (.cells #[.int .i64 0, .int .i64 0, .slice none 0 0] 43) := ⟨_, rfl⟩
  have hb1 : Below w.heap.size w W0 := by rw [hW0]; exact ((Below.refl _ _).alloc (Nat.le_refl _) _).alloc (by simp) _
  have kp : Blk W0 w.heap.size 101 [.int .i64 f, .int .i64 6, .slice A l.length c, .slice A2 n2 c2] := by
    rw [hW0]
    exact (Blk.new w _ _).below ((Below.refl _ _).alloc (Nat.le_refl _) _) (by simp)
  have p2 : W0.cell? ⟨w.heap.size, 2, none⟩ = some (.slice A l.length c) := kp.cell 2
  have QN := Lib.hid (New_any A l.length c l rfl W0 (h.below hb1) hc hm)
  have HST := Lib.hid (fun (w1 : World) (hr : Rd w1 W0.heap.size W0.heap.size l false) (hb : Below W0.heap.size W0 w1) => SaySt.start hx hW0 hr hb)
  have hz : W0.heap.size = w.heap.size + 2 := by rw [hW0]; simp
  have HZ := Lib.hid hz
  have hsx : ¬ w.heap.size = gx := by have := hx.lt; omega
  have HKP := Lib.hid (fun (w1 : World) (hb : Below W0.heap.size W0 w1) => kp.below hb kp.lt)
  have HW0 := Lib.hid hW0; have HV := Lib.hid hv; have HLT := Lib.hid hx.lt
  clear hb1 kp hW0 hz hx h hc hm hv
  go_enter Tryz.func104, Tryz.ntmps104
  go_wp2_with (rw [← HW0.out])
  refine QN.out.mono ?_
  rintro e w1 ⟨rfl, hr1, hb1⟩
  have S1 := Lib.hid (HST.out w1 hr1 hb1)
  have kp1 := HKP.out w1 hb1
  have p1 : w1.cell? ⟨w.heap.size, 1, none⟩ = some (.int .i64 6) := kp1.cell 1
  rw [HZ.out]
  clear hr1 hb1 p2 QN HST HW0 HKP kp1
  have x1 : w1.cell? ⟨gx, 6, none⟩ = some va := S1.out.blk.cell 6
  have y1 := S1.out.blk.free 6
  have kr := S1.out.resAt 6 (.bool true)
  have c3 := cells3 kr
  have f3 := free3 kr
  have r3 := cells3 (kr.set3 (.int .i64 0) (.int .i64 0) (.slice none 0 0))
  have HE := Lib.hid (S1.out.end 6 (.bool true))
  have hlt := HLT.out
  have hne1 : ¬ gx = w.heap.size + 1 := by omega
  have hne2 : ¬ w.heap.size + 1 = gx := by omega
  clear kr hlt
  go_wp2_with fail
  exact bodyPost_ret (v := fault0) (by simp [results, Tryz.results104, go_sem, fault0, r3]) rfl ⟨rfl, HE.out⟩
end Go.Proofs.YtnaangnmlbgmkaaGreatDoor
