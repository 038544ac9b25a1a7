/-
  Texts of this seat, put together: Clos4, PutSt4, PutLp4.
-/
import Derived.Test.YtnaangnmlbgmkaaGreatDoorPut14Mg
import Derived.Test.YtnaangnmlbgmkaaGreatDoorMg1
/-
  The values that Put's closures tell (written by gen04c.py).
-/
namespace Go.Proofs.YtnaangnmlbgmkaaGreatDoor
set_option linter.unusedVariables false
set_option linter.unusedSimpArgs false
open Go.RowKit

set_option maxHeartbeats 1600000 in
theorem clos2_any (a : Av) (w : World) (g : Nat) (hk : Blk w g 28 a.row) (x : Nat) (hx : a.org = (x : Int)) (h9 : x < 256) :
    Calls Tryz.prog 79 #[.pointer (some ⟨g, 0, none⟩)] w (RetBytes w [UInt8.ofNat x]) := by
  obtain ⟨org, pa, pc, path, next, med, pref, atomic, has, aas, aad, ca, cc, comms, ra, rc, raws⟩ := a
  unfold Av.row at hk
  dsimp only at hk hx
  subst hx
  have k0 : w.cell? ⟨g, 0, none⟩ = some _ := hk.cell 0
  have w1 := wrapU8 h9
  have ho := own_one w 5 x h9
  have hb := (Below.refl w.heap.size w).alloc (Nat.le_refl _) (.cells #[.int .u8 (x : Int)] 5)
  have HO := Lib.hid ho; have HB := Lib.hid hb
  clear ho hb hk h9
  go_enter Tryz.func79, Tryz.ntmps79
  go_wp2_with fail
  go_ret
  exact ⟨_, _, rfl, by simp, by unfold maxLen; simp, HO.out, HB.out⟩
set_option maxHeartbeats 1600000 in
theorem clos3_any (a : Av) (w : World) (g : Nat) (hk : Blk w g 28 a.row) (wide : Bool) (g2 : Nat) (hk2 : Blk w g2 4 [.bool wide]) (hp : Segs w w.heap.size a.pathA a.path) (hl : a.path.length ≤ 1000000000) (ht : totN a.path ≤ 1000000000) :
    Calls Tryz.prog 80 #[.pointer (some ⟨g, 0, none⟩), .pointer (some ⟨g2, 0, none⟩)] w (RetBytes w (putB wide a.path)) := by
  obtain ⟨org, pa, pc, path, next, med, pref, atomic, has, aas, aad, ca, cc, comms, ra, rc, raws⟩ := a
  unfold Av.row at hk
  dsimp only at hk hp hl ht ⊢
  have k1 : w.cell? ⟨g, 1, none⟩ = some _ := hk.cell 1
  have m0 : w.cell? ⟨g2, 0, none⟩ = some _ := hk2.cell 0
  have Q := Lib.hid (Put3_any pa pc path wide w hp hl ht)
  clear hk hp hl ht hk2
  go_enter Tryz.func80, Tryz.ntmps80
  go_wp2_with fail
  refine Q.out.mono ?_
  rintro e w1 ⟨A1, c1, rfl, hr⟩
  go_wp2_with fail
  go_ret
  exact ⟨_, _, rfl, hr⟩
theorem clos4_any (w : World) : Calls Tryz.prog 83 #[] w (RetBytes w []) := by
  go_enter Tryz.func83, Tryz.ntmps83
  go_wp2_with fail
  go_ret
  exact ⟨none, 0, rfl, Nat.le_refl _, Nat.zero_le _, Own.nil _ _ _, Below.refl _ _⟩
set_option maxHeartbeats 3200000 in
theorem clos5_any (a : Av) (w : World) (g : Nat) (hk : Blk w g 28 a.row) (wide : Bool) (g2 : Nat) (hk2 : Blk w g2 4 [.bool wide]) (sa ad : Nat) (hs : a.aas = (sa : Int)) (hd : a.aad = (ad : Int)) (h1 : sa < 4294967296) (h2 : ad < 4294967296) :
    Calls Tryz.prog 84 #[.pointer (some ⟨g, 0, none⟩), .pointer (some ⟨g2, 0, none⟩)] w (RetBytes w (aggrB wide sa ad)) := by
  have q := aggregator_any a sa ad wide w hs hd h1 h2
  unfold Av.row at q
  obtain ⟨org, pa, pc, path, next, med, pref, atomic, has, aas, aad, ca, cc, comms, ra, rc, raws⟩ := a
  unfold Av.row at hk
  dsimp only at hk hs hd q
  have k0 : w.cell? ⟨g, 0, none⟩ = some _ := hk.cell 0
  have k1 : w.cell? ⟨g, 1, none⟩ = some _ := hk.cell 1
  have k2 : w.cell? ⟨g, 2, none⟩ = some _ := hk.cell 2
  have k3 : w.cell? ⟨g, 3, none⟩ = some _ := hk.cell 3
  have k4 : w.cell? ⟨g, 4, none⟩ = some _ := hk.cell 4
  have k5 : w.cell? ⟨g, 5, none⟩ = some _ := hk.cell 5
  have k6 : w.cell? ⟨g, 6, none⟩ = some _ := hk.cell 6
  have k7 : w.cell? ⟨g, 7, none⟩ = some _ := hk.cell 7
  have k8 : w.cell? ⟨g, 8, none⟩ = some _ := hk.cell 8
  have k9 : w.cell? ⟨g, 9, none⟩ = some _ := hk.cell 9
  have k10 : w.cell? ⟨g, 10, none⟩ = some _ := hk.cell 10
  have m0 : w.cell? ⟨g2, 0, none⟩ = some _ := hk2.cell 0
  have Q := Lib.hid q
  clear hk q hs hd h1 h2 hk2
  go_enter Tryz.func84, Tryz.ntmps84
  go_wp2_with fail
  refine Q.out.mono ?_
  rintro e w1 ⟨A1, c1, rfl, hr⟩
  go_wp2_with fail
  go_ret
  exact ⟨_, _, rfl, hr⟩
set_option maxHeartbeats 1600000 in
theorem clos6_any (a : Av) (w : World) (g : Nat) (hk : Blk w g 28 a.row) (hp : Segs w w.heap.size a.pathA a.path) (hl : a.path.length ≤ 1000000000) (ht : totN a.path ≤ 1000000000) :
    Calls Tryz.prog 89 #[.pointer (some ⟨g, 0, none⟩)] w (RetBytes w (putB true a.path)) := by
  obtain ⟨org, pa, pc, path, next, med, pref, atomic, has, aas, aad, ca, cc, comms, ra, rc, raws⟩ := a
  unfold Av.row at hk
  dsimp only at hk hp hl ht ⊢
  have k1 : w.cell? ⟨g, 1, none⟩ = some _ := hk.cell 1
  have Q := Lib.hid (Put3_any pa pc path true w hp hl ht)
  clear hk hp hl ht
  go_enter Tryz.func89, Tryz.ntmps89
  go_wp2_with fail
  refine Q.out.mono ?_
  rintro e w1 ⟨A1, c1, rfl, hr⟩
  go_wp2_with fail
  go_ret
  exact ⟨_, _, rfl, hr⟩
set_option maxHeartbeats 3200000 in
theorem clos7_any (a : Av) (w : World) (g : Nat) (hk : Blk w g 28 a.row) (sa ad : Nat) (hs : a.aas = (sa : Int)) (hd : a.aad = (ad : Int)) (h1 : sa < 4294967296) (h2 : ad < 4294967296) :
    Calls Tryz.prog 90 #[.pointer (some ⟨g, 0, none⟩)] w (RetBytes w (aggrB true sa ad)) := by
  have q := aggregator_any a sa ad true w hs hd h1 h2
  unfold Av.row at q
  obtain ⟨org, pa, pc, path, next, med, pref, atomic, has, aas, aad, ca, cc, comms, ra, rc, raws⟩ := a
  unfold Av.row at hk
  dsimp only at hk hs hd q
  have k0 : w.cell? ⟨g, 0, none⟩ = some _ := hk.cell 0
  have k1 : w.cell? ⟨g, 1, none⟩ = some _ := hk.cell 1
  have k2 : w.cell? ⟨g, 2, none⟩ = some _ := hk.cell 2
  have k3 : w.cell? ⟨g, 3, none⟩ = some _ := hk.cell 3
  have k4 : w.cell? ⟨g, 4, none⟩ = some _ := hk.cell 4
  have k5 : w.cell? ⟨g, 5, none⟩ = some _ := hk.cell 5
  have k6 : w.cell? ⟨g, 6, none⟩ = some _ := hk.cell 6
  have k7 : w.cell? ⟨g, 7, none⟩ = some _ := hk.cell 7
  have k8 : w.cell? ⟨g, 8, none⟩ = some _ := hk.cell 8
  have k9 : w.cell? ⟨g, 9, none⟩ = some _ := hk.cell 9
  have k10 : w.cell? ⟨g, 10, none⟩ = some _ := hk.cell 10
  have Q := Lib.hid q
  clear hk q hs hd h1 h2
  go_enter Tryz.func90, Tryz.ntmps90
  go_wp2_with fail
  refine Q.out.mono ?_
  rintro e w1 ⟨A1, c1, rfl, hr⟩
  go_wp2_with fail
  go_ret
  exact ⟨_, _, rfl, hr⟩
theorem enters_p2 : ∀ args w, (callFunc 79 args).run Tryz.prog w = .ok (.enter 79 args) w := enters_of Tryz.func79 (by kernel_rfl) rfl
theorem enters_p3 : ∀ args w, (callFunc 80 args).run Tryz.prog w = .ok (.enter 80 args) w := enters_of Tryz.func80 (by kernel_rfl) rfl
theorem enters_p4 : ∀ args w, (callFunc 83 args).run Tryz.prog w = .ok (.enter 83 args) w := enters_of Tryz.func83 (by kernel_rfl) rfl
theorem enters_p5 : ∀ args w, (callFunc 84 args).run Tryz.prog w = .ok (.enter 84 args) w := enters_of Tryz.func84 (by kernel_rfl) rfl
theorem enters_p6 : ∀ args w, (callFunc 89 args).run Tryz.prog w = .ok (.enter 89 args) w := enters_of Tryz.func89 (by kernel_rfl) rfl
theorem enters_p7 : ∀ args w, (callFunc 90 args).run Tryz.prog w = .ok (.enter 90 args) w := enters_of Tryz.func90 (by kernel_rfl) rfl
theorem enters_f1 : ∀ args w, (callFunc 118 args).run Tryz.prog w = .ok (.enter 118 args) w := enters_of Tryz.func118 (by kernel_rfl) rfl
end Go.Proofs.YtnaangnmlbgmkaaGreatDoor

/-
  What Put has put so far, and one attribute more.
-/
namespace Go.Proofs.YtnaangnmlbgmkaaGreatDoor
set_option linter.unusedVariables false
set_option linter.unusedSimpArgs false
open Go.RowKit

/-- Between two of Put's attributes: the attributes in block gA, the width in gW, the bytes so far behind gO. -/
structure PutSt (w : World) (gA gW gO : Nat) (a : Av) (wide : Bool) (l : List UInt8) (W : World) : Prop where
  below : Below w.heap.size w W
  blkA : Blk W gA 28 a.row
  blkW : Blk W gW 4 [.bool wide]
  neA : gA ≠ gO
  neW : gW ≠ gO
  base : w.heap.size ≤ gO
  len : l.length ≤ 900000
  out : ∃ v, OutAt w.heap.size W gO v l
theorem PutSt.later {w W W' : World} {gA gW gO : Nat} {a : Av} {wide : Bool} {l : List UInt8} (h : PutSt w gA gW gO a wide l W) (hb : Below W.heap.size W W') : PutSt w gA gW gO a wide l W' := by
  obtain ⟨v, ho⟩ := h.out
  exact ⟨h.below.trans (hb.mono h.below.size), h.blkA.below hb h.blkA.lt, h.blkW.below hb h.blkW.lt, h.neA, h.neW, h.base, h.len, v, ho.1.below hb ho.1.lt, ho.2.below hb⟩
/-- One attribute. -/
def oneB (there : Bool) (fl k : Nat) (d : List UInt8) : List UInt8 := if there then wholeL fl k d else []
theorem put_step {w W : World} {gA gW gO : Nat} {a : Av} {wide : Bool} {l : List UInt8} (S : PutSt w gA gW gO a wide l W) (ht : TabK w) (there : Bool) (K : Int) (k fl l1 l3 l4 l5 : Nat) (hK : K = (k : Int))
    (hL : lookN (k : Int) = some ((l1 : Int), (fl : Int), (l3 : Int), (l4 : Int), (l5 : Int))) (hf : fl = 64 ∨ fl = 128 ∨ fl = 192 ∨ fl = 224) (hk : k < 256)
    (fv : Nat) (lb : Array Value) (eg : ∀ args w, (callFunc fv args).run Tryz.prog w = .ok (.enter fv args) w) (d : List UInt8) (hd : there = true → ∀ W', Below W.heap.size W W' → Calls Tryz.prog fv lb W' (RetBytes W' d))
    (hz : (l ++ oneB there fl k d).length ≤ 900000) (hdl : d.length ≤ 900000) :
    Calls Tryz.prog 76 #[.bool there, .int .i64 K, .func (.func fv) #[] lb, .pointer (some ⟨gO, 0, none⟩)] W fun e W' => e = .returned (.tuple #[]) ∧ PutSt w gA gW gO a wide (l ++ oneB there fl k d) W' := by
  subst hK
  obtain ⟨hb, hA, hW, nA, nW, hB, hl, v, ho⟩ := S
  have fin : ∀ (e : Ending) (W' : World) (l' : List UInt8), PutRet w W gO v l' e W' → l'.length ≤ 900000 → e = .returned (.tuple #[]) ∧ PutSt w gA gW gO a wide l' W' := by
    rintro e W' l' ⟨rfl, hb', kp, v', ho'⟩ hl'
    exact ⟨rfl, hb', kp.blk hA nA ho.2 (by decide), kp.blk hW nW ho.2 (by decide), nA, nW, hB, hl', v', ho'⟩
  cases there with
  | false =>
    refine (put1_no w W (k : Int) _ gO v l hb ho).mono fun e W' r => ?_
    have e0 : l ++ oneB false fl k d = l := by simp [oneB]
    rw [e0]
    exact fin e W' l r hl
  | true =>
    refine (put1_yes w W k fl l1 l3 l4 l5 hL hf hk fv lb eg d (hd rfl) gO hB v l hb ho (ht.below hb ht.lt) (by omega) (by omega)).mono fun e W' r => ?_
    exact fin e W' _ r hz
/-- The closure of some numbers. -/
theorem four_blk (A : Option Addr) (n c : Nat) (w : World) :
    Calls Tryz.prog 82 #[.slice A n c] w fun e w' => e = .returned (.func (.func 118) #[] #[.pointer (some ⟨w.heap.size, 0, none⟩)]) ∧ Below w.heap.size w w' ∧ Blk w' w.heap.size 25 [.slice A n c] := by
  refine (four_any A n c w).mono fun e w' h => ?_
  obtain ⟨he, rfl⟩ := h
  exact ⟨he, (Below.refl _ _).alloc (Nat.le_refl _) _, Blk.new w _ _⟩
theorem four_clos {w : World} {b : Nat} {A : Option Addr} {c : Nat} {z : List Nat} (hk : Blk w b 25 [.slice A z.length c]) (h : At32 w w.heap.size A z) (hz : ∀ n ∈ z, n < 4294967296) (hl : z.length ≤ 1000000) :
    ∀ W', Below w.heap.size w W' → Calls Tryz.prog 118 #[.pointer (some ⟨b, 0, none⟩)] W' (RetBytes W' (numsB true z)) := by
  intro W' hb
  exact four1_any b A c z W' ((hk.below hb hk.lt).cell 0) ((h.below hb (Nat.le_refl _)).lift hb.size) hz hl
theorem at32_one {w w' : World} {m : Nat} (hb : Below (w.alloc (.cells #[.int .u32 (m : Int)] 24)).heap.size (w.alloc (.cells #[.int .u32 (m : Int)] 24)) w') : At32 w' w'.heap.size (some ⟨w.heap.size, 0, none⟩) [m] := by
  intro _
  have hk := (Blk.new w 24 [.int .u32 (m : Int)]).below hb (by simp)
  refine ⟨w.heap.size, 0, rfl, hk.lt, fun i hi => ?_⟩
  obtain rfl : i = 0 := by simpa using hi
  exact hk.cell 0
theorem below_boxed {w w' : World} {o : Obj} (hb : Below (w.alloc o).heap.size (w.alloc o) w') : Below w.heap.size w w' := ((Below.refl _ _).alloc (Nat.le_refl _) o).trans (hb.mono (by simp))
theorem nums_one (m : Nat) : (numsB true [m]).length ≤ 4 := by have := numsB_len true [m]; simpa using this
theorem oneB_len (t : Bool) (f k : Nat) (d : List UInt8) : (oneB t f k d).length ≤ d.length + 4 := by
  unfold oneB
  split
  · exact wholeL_len f k d
  · simp
end Go.Proofs.YtnaangnmlbgmkaaGreatDoor

/-
  Raw attributes' bytes, and one more of them behind what Put has put.
-/
namespace Go.Proofs.YtnaangnmlbgmkaaGreatDoor
set_option linter.unusedVariables false
set_option linter.unusedSimpArgs false
open Go.RowKit

theorem PutSt.put {w W w5 w6 : World} {gA gW gO : Nat} {a : Av} {wide : Bool} {l l' : List UInt8} {v v6 : Value} (S : PutSt w gA gW gO a wide l W) (ho : OutAt w.heap.size W gO v l) (hb5 : Below W.heap.size W w5)
    (hg6 : w5.grownBy w6 v.ownBlock) (hb6 : Below w.heap.size w w6) (hk6 : Blk w6 gO 33 [v]) (ho6 : Own w6 w.heap.size 5 v6 l') (hl : l'.length ≤ 900000) : PutSt w gA gW gO a wide l' (w6.setCell ⟨gO, 0, none⟩ v6) := by
  have kp : KpO gO v W (w6.setCell ⟨gO, 0, none⟩ v6) := ⟨by have z1 := hb5.size; have z2 := hg6.size; simp only [World.setCell, Array.size_modify]; omega, fun j hj hjg hjv => (Below.heap_setCell w6 ⟨gO, 0, none⟩ _ j (fun e => hjg (by simp [e]))).trans ((hg6.block j (Nat.lt_of_lt_of_le hj hb5.size) (fun e => hjv e.symm)).trans (hb5.block j hj))⟩
  exact ⟨hb6.setCell (p := ⟨gO, 0, none⟩) S.base _, kp.blk S.blkA S.neA ho.2 (by decide), kp.blk S.blkW S.neW ho.2 (by decide), S.neA, S.neW, S.base, hl, v6, hk6.set 0 _, ho6.away hk6 (by decide) 0⟩
/-- Raw attributes' bytes. -/
def rawsB (L : List Rw) : List UInt8 := L.flatMap fun s => wholeL s.flags.toNat s.ty.toNat s.data
theorem rawsB_step {L : List Rw} {j : Nat} {s : Rw} (hs : L[j]? = some s) : rawsB (L.take (j + 1)) = rawsB (L.take j) ++ wholeL s.flags.toNat s.ty.toNat s.data := by
  unfold rawsB
  rw [List.take_add_one, hs]
  simp
theorem rawsB_len (L : List Rw) (h : ∀ s ∈ L, s.data.length ≤ 64) : (rawsB L).length ≤ 68 * L.length := by
  induction L with
  | nil => simp [rawsB]
  | cons s L ih =>
    have h1 := ih fun t ht => h t (List.mem_cons_of_mem _ ht)
    have h2 := h s (List.mem_cons_self ..)
    have h3 := wholeL_len s.flags.toNat s.ty.toNat s.data
    unfold rawsB at h1 ⊢
    rw [List.flatMap_cons, List.length_append, List.length_cons]
    omega
theorem raws_each (L : List Rw) (a : Int) (ha : -1 ≤ a) (h : rawsF a (L.map Rw.abs) = true) : ∀ s ∈ L, ∃ f t : Nat, s.flags = (f : Int) ∧ s.ty = (t : Int) ∧ f = 224 ∧ t < 256 ∧ s.data.length ≤ 64 := by
  induction L generalizing a with
  | nil => intro s hs; simp at hs
  | cons s L ih =>
    intro t ht
    have h' : rawOk a s.abs = true ∧ rawsF s.ty (L.map Rw.abs) = true := by
      have e : rawsF a ((s :: L).map Rw.abs) = (rawOk a s.abs && rawsF s.ty (L.map Rw.abs)) := rfl
      rw [e, Bool.and_eq_true] at h
      exact h
    have hr := h'.1
    unfold rawOk Rw.abs at hr
    simp only [Bool.and_eq_true, decide_eq_true_eq, Bool.not_eq_true'] at hr
    obtain ⟨⟨⟨⟨h1, h2⟩, h3⟩, h4⟩, h5⟩ := hr
    rcases List.mem_cons.1 ht with rfl | hm
    · exact ⟨224, t.ty.toNat, h4, by omega, rfl, by omega, h5⟩
    · exact ih s.ty (by omega) h'.2 t hm
end Go.Proofs.YtnaangnmlbgmkaaGreatDoor
