/-
  Texts of this seat, put together: Keep4, OwnU5, TwoP5, UReadP5, KeepP5, StepU4, Back4W.
-/
import Derived.Maps.AppendAt
import Derived.Test.YtnaangnmlbgmkaaGreatDoorSayC4Mg
import Derived.Test.YtnaangnmlbgmkaaGreatDoorReadB4Mg
import Derived.Test.YtnaangnmlbgmkaaGreatDoorOwnA5Mg
import Derived.Test.YtnaangnmlbgmkaaGreatDoorMg19
import Derived.Test.YtnaangnmlbgmkaaGreatDoorMg1
import Derived.Test.YtnaangnmlbgmkaaGreatDoorMg22
import Derived.Test.YtnaangnmlbgmkaaGreatDoorURead5Mg
import Derived.Test.YtnaangnmlbgmkaaGreatDoorMg8
import Derived.Test.YtnaangnmlbgmkaaGreatDoorRefSame4Mg
import Derived.Test.YtnaangnmlbgmkaaGreatDoorRefRight4Mg
import Derived.Test.YtnaangnmlbgmkaaGreatDoorMg15
/-
  An attribute that is not known here is taken in: it comes behind all that are there.
-/
namespace Go.Proofs.YtnaangnmlbgmkaaGreatDoor
set_option linter.unusedVariables false
set_option linter.unusedSimpArgs false
open Go.RowKit

theorem isRaw : IsRow Tryz.prog 26 77 (.agg #[.int .i64 0, .int .i64 0, .slice none 0 0]) 3 40 := ⟨Tryz.underlying26, by kernel_rfl, rfl, by decide, by decide⟩
theorem isNaN_int (x : Int) (w : World) : Calls Tryz.prog 135 #[.int .i64 x] w fun e w' => e = .returned (.bool false) ∧ w' = w := by
  go_enter Tryz.func135, Tryz.ntmps135
  go_wp2_with fail
  go_ret
  exact ⟨rfl, rfl⟩
theorem Compare_less (x y : Int) (h : x < y) (w : World) : Calls Tryz.prog 125 #[.int .i64 x, .int .i64 y] w fun e w' => e = .returned (.int .i64 (-1)) ∧ w' = w := by
  go_enter Tryz.func125, Tryz.ntmps125
  go_wp2_with (go_at_call 135; refine (isNaN_int _ _).mono ?_; rintro e wx ⟨rfl, rfl⟩)
  go_ret
  exact ⟨rfl, rfl⟩
theorem keepCmp_less (f t : Int) (A : Option Addr) (n c : Nat) (k : Int) (h : t < k) (w : World) :
    Calls Tryz.prog 124 #[.agg #[.int .i64 f, .int .i64 t, .slice A n c], .int .i64 k] w fun e w' => e = .returned (.int .i64 (-1)) ∧ Below w.heap.size w w' := by
  have Q := Lib.hid (Compare_less t k h)
  clear h
  go_enter Tryz.func124, Tryz.ntmps124
  go_wp2_with (go_at_call 125; refine (Q.out _).mono ?_; rintro e wx ⟨rfl, rfl⟩)
  go_ret
  exact ⟨rfl, (Below.refl _ _).alloc (Nat.le_refl _) _⟩
set_option maxRecDepth 100000 in
set_option maxHeartbeats 6400000 in
/-- All that are there come ahead of it. -/
theorem SearchEnd_any (A : Option Addr) (c : Nat) (L : List Rw) (k : Int) (w : World) (h : RwIn w w.heap.size A L) (hc : L.length ≤ c) (hl : L.length ≤ 1000) (hk : ∀ s ∈ L, s.ty < k) :
    Calls Tryz.prog 123 #[.slice A L.length c, .int .i64 k, .func (.func 124) #[] #[]] w fun e w' => e = .returned (.tuple #[.int .i64 (L.length : Int), .bool false]) ∧ Below w.heap.size w w' := by
  have HIN := Lib.hid h; have HK := Lib.hid hk
  clear h hk
  go_enter Tryz.func123, Tryz.ntmps123
  go_wp2_with fail
  go_loopw [9, 10] (fun vi vj wr => ∃ i : Nat, i ≤ L.length ∧ vi = .int .i64 (i : Int) ∧ vj = .int .i64 (L.length : Int) ∧ Below w.heap.size w wr) (fun i _ _ => L.length - (intOf i).toNat)
  case atStart => exact ⟨0, Nat.zero_le _, rfl, rfl, Below.refl _ _⟩
  case round =>
    obtain ⟨i, hi, rfl, rfl, hb⟩ := hrel
    have HB := Lib.hid hb
    clear hb
    by_cases hlt : i < L.length
    · have hi1 : (i : Int) < (L.length : Int) := by omega
      have hm : (i + L.length) / 2 < L.length := by omega
      obtain ⟨y, hy⟩ : ∃ y, L[(i + L.length) / 2]? = some y := ⟨_, List.getElem?_eq_getElem hm⟩
      obtain ⟨b, off, rfl, _, c0, c1, c2, _⟩ := (HIN.out.below HB.out (Nat.le_refl _)).at hy
      have Q := Lib.hid (keepCmp_less y.flags y.ty y.adr y.data.length y.cap k (HK.out y (List.mem_of_getElem? hy)))
      clear hy
      go_wp2_with fail
      refine (Q.out _).mono ?_
      rintro e wx ⟨rfl, hbx⟩
      go_wp2_with fail
      have HBX := Lib.hid (HB.out.trans (hbx.mono HB.out.size))
      clear hbx
      go_roundw
      case rel => exact ⟨(i + L.length) / 2 + 1, by omega, by go_num, rfl, HBX.out⟩
      case measure => simp only [intOf]; omega
    · have hi1 : ¬ (i : Int) < (L.length : Int) := by omega
      obtain rfl : i = L.length := by omega
      go_wp2_with fail
      go_ret2
      exact ⟨rfl, HB.out⟩
set_option maxRecDepth 100000 in
set_option maxHeartbeats 3200000 in
theorem InsertEnd_any (base : Nat) (A : Option Addr) (n c : Nat) (xs cs : List Value) (wr : World) (hown : wr.ownsRow base 77 3 (.slice A n c) n xs) (hn : n ≤ 1000) (hnc : n ≤ c) (hcm : c ≤ maxLen) (hl : cs.length = 3) (h1 : ∀ u ∈ cs, u.oneCell' = true) (hb : base ≤ wr.heap.size) :
    Calls Tryz.prog 126 #[.slice A n c, .int .i64 (n : Int), .slice (some ⟨wr.heap.size, 0, none⟩) 1 1] (wr.alloc (.cells cs.toArray 77)) fun e w' => ∃ v', e = .returned v' ∧ w'.ownsRow base 77 3 v' (n + 1) (xs ++ cs) ∧ wr.grownBy w' (Value.slice A n c).ownBlock := by
  have HO := Lib.hid hown; have HL := Lib.hid hl; have H1 := Lib.hid h1
  have hn2 : 0 ≤ (n : Int) := by omega
  obtain ⟨W0, hW0⟩ : ∃ W0, W0 = wr.alloc (.cells cs.toArray 77) := ⟨_, rfl⟩
  have HW := Lib.hid hW0
  rw [← hW0]
  have hn1 : (n : Int) ≤ (c : Int) := by omega
  have hm1 : c ≤ 9223372036854775807 := by unfold maxLen at hcm; omega
  clear hown hl h1 hcm hW0
  by_cases hcn : c = n
  · subst hcn
    go_enter Tryz.func126, Tryz.ntmps126
    go_wp2_with (at_builtin; refine wpList_app_one' isRaw rfl (.tmp 23) (.tmp 24) rfl base _ _ _ rfl wr cs HW.out HO.out rfl HL.out H1.out (by omega) hb ?_)
    intro v' w' ho hg
    have HO2 := Lib.hid ho; have HG2 := Lib.hid hg
    clear ho hg
    go_wp2_with fail
    go_ret
    exact ⟨v', rfl, HO2.out, HG2.out⟩
  · go_enter Tryz.func126, Tryz.ntmps126
    go_wp2_with (at_builtin; refine wpList_app_one' isRaw rfl (.tmp 23) (.tmp 24) rfl base _ _ _ rfl wr cs HW.out HO.out rfl HL.out H1.out (by omega) hb ?_)
    intro v' w' ho hg
    have HO2 := Lib.hid ho; have HG2 := Lib.hid hg
    clear ho hg
    go_wp2_with fail
    go_ret
    exact ⟨v', rfl, HO2.out, HG2.out⟩
end Go.Proofs.YtnaangnmlbgmkaaGreatDoor

/-
  An update with lists of its own: what own tells says the same; without news it has no attributes.
-/
namespace Go.Proofs.YtnaangnmlbgmkaaGreatDoor
set_option linter.unusedVariables false
set_option linter.unusedSimpArgs false
open Go.RowKit

theorem blk_mid5 {g T : Nat} : ∀ (vs cs pre suf : List Value) (w : World), Blk w g T (pre ++ (cs ++ suf)) → cs.length = vs.length → Blk (w.setCells g pre.length vs) g T (pre ++ (vs ++ suf))
  | [], [], pre, suf, w, h, _ => h
  | v :: vs, c :: cs, pre, suf, w, h, hl => by
    have h1 := h.set pre.length v
    have e : (pre ++ (c :: cs ++ suf)).set pre.length v = (pre ++ [v]) ++ (cs ++ suf) := by simp
    rw [e] at h1
    have h2 := blk_mid5 vs cs (pre ++ [v]) suf _ h1 (by simpa using hl)
    have e2 : (pre ++ [v]).length = pre.length + 1 := by simp
    rw [e2] at h2
    simpa [World.setCells] using h2
  | [], _ :: _, _, _, _, _, hl => by simp at hl
  | _ :: _, [], _, _, _, _, hl => by simp at hl
theorem run_storeUA {w : World} {g T : Nat} {p q : Value} {cs : List Value} {u : Av} (h : Blk w g T (p :: (cs ++ [q]))) (hl : cs.length = 11) :
    ∃ w', (Instr.storeAt 28 (.pointer (some ⟨g, 1, none⟩)) u.agg).run Tryz.prog w = .ok () w' ∧ Blk w' g T (p :: (u.row ++ [q])) ∧ w.grownBy w' (some g) := by
  have hr : u.row.length = 11 := rfl
  have hs := run_storeCells_cells (P := Tryz.prog) g 1 u.row 0 w (fun j hj => by rw [h.cell, List.getElem?_eq_getElem (by simp; omega)]; rfl) (fun j hj => h.free _) (rowA_one u)
  refine ⟨w.setCells g 1 u.row, ?_, blk_mid5 u.row cs [p] [q] w h (by omega), grown_setCells5 _ _ _ _ (grown_refl _ _)⟩
  have e : (Value.cells u.agg).toList = u.row := rfl
  have e2 : (Value.cells u.agg).size = 11 := rfl
  have e3 : (sizeOf 28).run Tryz.prog w = .ok 11 w := by kernel_rfl
  simp [Instr.storeAt, Instr.sureAddr, storeVar, Sem.run_bind, e3, e, e2, hs, Result.andThen]
section
variable {ops : Array Oper} {rest : List Oper} {o : Oper} {a : Act} {Q : Exit → Act → World → Prop}
theorem wpList_storeUA (w : World) (hg : o.guard = none) (hd : o.dst = none) (p x : Operand) (hop : o.op = Op.store 28 p x) (g T : Nat) (c0 c1 : Value) (cs : List Value) (u : Av) (hp : a.eval p = .pointer (some ⟨g, 1, none⟩)) (hx : a.eval x = u.agg) (h : Blk w g T (c0 :: (cs ++ [c1]))) (hl : cs.length = 11)
    (hK : ∀ w', Blk w' g T (c0 :: (u.row ++ [c1])) → w.grownBy w' (some g) → wpList Tryz.prog ops Q rest a w') : wpList Tryz.prog ops Q (o :: rest) a w := by
  refine wpList_plain hg fun K' hK' => ?_
  obtain ⟨w', hrun, r1, r2⟩ := run_storeUA (u := u) h hl
  unfold Oper.wp
  simp [execOp, hop, hp, hx, hrun, Result.andThen, hd]
  have e : a.put none undef = a := rfl
  exact hK' _ _ (by rw [hd]; exact hK w' r1 r2)
end
/-- An update whose lists are all of one's own. -/
structure OwnUv (B : Nat) (W : World) (x : Uv) : Prop where
  gone : W.ownsRow B 54 2 (.slice x.goneA x.gone.length x.goneC) x.gone.length (flatP x.gone)
  goneC : x.gone.length ≤ x.goneC ∧ x.goneC ≤ maxLen
  goneF : ∀ p ∈ x.gone, PxFit p
  attrs : OwnAv W x.attrs
  news : W.ownsRow B 54 2 (.slice x.newsA x.news.length x.newsC) x.news.length (flatP x.news)
  newsC : x.news.length ≤ x.newsC ∧ x.newsC ≤ maxLen
  newsF : ∀ p ∈ x.news, PxFit p
theorem OwnUv.inn {B : Nat} {W : World} {x : Uv} (h : OwnUv B W x) : x.In W W.heap.size :=
  ⟨pxs_own h.gone, h.goneC, h.goneF, h.attrs.inn, pxs_own h.news, h.newsC, h.newsF⟩
theorem OwnUv.lower {B B' : Nat} {W : World} {x : Uv} (h : OwnUv B W x) (hB : B' ≤ B) : OwnUv B' W x :=
  ⟨row_lower h.gone hB, h.goneC, h.goneF, h.attrs, row_lower h.news hB, h.newsC, h.newsF⟩
theorem OwnUv.later {B : Nat} {W W' : World} {x : Uv} (h : OwnUv B W x) (hb : Below W.heap.size W W') : OwnUv B W' x :=
  ⟨row_below h.gone hb, h.goneC, h.goneF, h.attrs.later hb, row_below h.news hb, h.newsC, h.newsF⟩
theorem OwnUv.keeps {B : Nat} {W W' : World} {x : Uv} {g T : Nat} {cs : List Value} (h : OwnUv B W x) (hk : Blk W g T cs) (t0 : (54 : TypeId) ≠ T) (t1 : (112 : TypeId) ≠ T) (t2 : (24 : TypeId) ≠ T) (t3 : (77 : TypeId) ≠ T) (t4 : (5 : TypeId) ≠ T) (hg : W.grownBy W' (some g)) : OwnUv B W' x :=
  ⟨row_keep h.gone hk t0 hg, h.goneC, h.goneF, h.attrs.keeps hk t1 t2 t3 t4 hg, row_keep h.news hk t0 hg, h.newsC, h.newsF⟩
/-- A row of prefixes that lies below B is written: what lies from there on stays. -/
theorem row_apart5 {W W' : World} {B T size n g : Nat} {v : Value} {xs : List Value} (h : W.ownsRow B T size v n xs) (hg : W.grownBy W' (some g)) (hB : g < B) : W'.ownsRow B T size v n xs := by
  refine World.ownsRow.kept h hg ?_
  cases he : v.ownBlock with
  | none => exact .inl rfl
  | some k =>
    right
    intro e
    have := (World.ownsRow.lt h k he).1
    have e2 : k = g := by simpa using e
    omega
theorem noneA_own (W : World) : OwnAv W noneA := ⟨⟨0, World.ownsRow_nil _ _ _ _, fun s hs => by cases hs⟩, ⟨Nat.le_refl _, Nat.zero_le _⟩, ⟨0, World.ownsRow_nil _ _ _ _⟩, ⟨Nat.le_refl _, Nat.zero_le _⟩, ⟨0, World.ownsRow_nil _ _ _ _, fun s hs => by cases hs⟩, ⟨Nat.le_refl _, Nat.zero_le _⟩⟩
/-- What own leaves. -/
def RetOwU (w : World) (u : Uv) (e : Ending) (w' : World) : Prop :=
  ∃ x : Uv, e = .returned (.agg x.row.toArray) ∧ OwnUv w.heap.size w' x ∧ Below w.heap.size w w' ∧ x.gone = u.gone ∧ x.news = u.news ∧ (u.news = [] → x.attrs = noneA) ∧ (u.news ≠ [] → x.attrs.org = u.attrs.org ∧ x.attrs.path.map Sg.abs = u.attrs.path.map Sg.abs ∧ x.attrs.next = u.attrs.next ∧ x.attrs.med = u.attrs.med ∧ x.attrs.pref = u.attrs.pref ∧ x.attrs.atomic = u.attrs.atomic ∧ x.attrs.has = u.attrs.has ∧ x.attrs.aas = u.attrs.aas ∧ x.attrs.aad = u.attrs.aad ∧ x.attrs.comms = u.attrs.comms ∧ x.attrs.raws.map Rw.abs = u.attrs.raws.map Rw.abs)
/-- What each operation of own's first region told. -/
def OwD (B gB : Nat) (u : Uv) : Nat → World → Value → Prop
  | 0, _, v => v = .pointer (some ⟨gB, 0, none⟩)
  | 1, _, v => v = .slice u.goneA u.gone.length u.goneC
  | 2, W, v => ∃ A c, v = .slice A u.gone.length c ∧ u.gone.length ≤ c ∧ c ≤ maxLen ∧ W.ownsRow B 54 2 (.slice A u.gone.length c) u.gone.length (flatP u.gone)
  | 3, _, v => v = .pointer (some ⟨gB, 12, none⟩)
  | 4, _, v => v = .slice u.newsA u.news.length u.newsC
  | 5, W, v => ∃ A c, v = .slice A u.news.length c ∧ u.news.length ≤ c ∧ c ≤ maxLen ∧ W.ownsRow B 54 2 (.slice A u.news.length c) u.news.length (flatP u.news)
  | 6, W, v => ∃ A c A' c', v = .agg #[.slice A u.gone.length c, .int .i64 0, .slice none 0 0, .int .u32 0, .int .i64 0, .int .i64 0, .bool false, .bool false, .int .u32 0, .int .u32 0, .slice none 0 0, .slice none 0 0, .slice A' u.news.length c'] ∧ u.gone.length ≤ c ∧ c ≤ maxLen ∧ W.ownsRow B 54 2 (.slice A u.gone.length c) u.gone.length (flatP u.gone) ∧ u.news.length ≤ c' ∧ c' ≤ maxLen ∧ W.ownsRow B 54 2 (.slice A' u.news.length c') u.news.length (flatP u.news)
  | 7, W, v => ∃ g, v = .pointer (some ⟨g, 0, none⟩) ∧ B ≤ g ∧ Blk W g 30 noneU
  | _, _, _ => True
theorem OwD.keep {B gB : Nat} {u : Uv} (i : Nat) (w w' : World) (v : Value) (h : OwD B gB u i w v) (hb : Below w.heap.size w w') : OwD B gB u i w' v := by
  rcases i with _ | _ | _ | _ | _ | _ | _ | _ | i
  · exact h
  · exact h
  · obtain ⟨A, c, h1, h2, h3, h4⟩ := h
    exact ⟨A, c, h1, h2, h3, row_below h4 hb⟩
  · exact h
  · exact h
  · obtain ⟨A, c, h1, h2, h3, h4⟩ := h
    exact ⟨A, c, h1, h2, h3, row_below h4 hb⟩
  · obtain ⟨A, c, A', c', h1, h2, h3, h4, h5, h6, h7⟩ := h
    exact ⟨A, c, A', c', h1, h2, h3, row_below h4 hb, h5, h6, row_below h7 hb⟩
  · obtain ⟨g, h1, h2, h3⟩ := h
    exact ⟨g, h1, h2, h3.below hb h3.lt⟩
  · trivial
theorem flatP_len (L : List Px) : (flatP L).length = L.length * 2 := by
  induction L with
  | nil => rfl
  | cons s L ih => simp only [flatP, List.flatMap_cons, List.length_append, List.length_cons] at ih ⊢; rw [ih]; simp; omega
theorem flatP_one (L : List Px) : ∀ u ∈ flatP L, u.oneCell' = true := by
  intro u hu
  obtain ⟨s, _, hs⟩ := List.mem_flatMap.1 hu
  simp only [List.mem_cons, List.not_mem_nil, or_false] at hs
  rcases hs with rfl | rfl <;> rfl
theorem rows_at_pxs {w : World} {B : Nat} {A : Option Addr} {L : List Px} (h : PxsIn w B A L) : RowAt w B A (flatP L) := by
  intro hne
  obtain ⟨b, off, hA, hlt, hc⟩ := h (by intro e; rw [e] at hne; exact hne rfl)
  refine ⟨b, off, hA, hlt, fun j u hu => ?_⟩
  have hj : j < L.length * 2 := by have := (List.getElem?_eq_some_iff.1 hu).1; rwa [flatP_len] at this
  obtain ⟨s, hs⟩ : ∃ s, L[j / 2]? = some s := ⟨_, List.getElem?_eq_getElem (by omega)⟩
  obtain ⟨k1, k2⟩ := hc _ _ hs
  obtain ⟨q1, q2⟩ := flatP_at L _ _ hs
  rcases (show j = j / 2 * 2 ∨ j = j / 2 * 2 + 1 by omega) with e | e
  · rw [e] at hu ⊢
    rw [q1] at hu
    show w.cell? ⟨b, off + j / 2 * 2, none⟩ = some u
    rw [k1]; exact hu
  · rw [e] at hu ⊢
    rw [q2] at hu
    show w.cell? ⟨b, off + j / 2 * 2 + 1, none⟩ = some u
    rw [k2]; exact hu
theorem run_buildU2 (w : World) (A B : Option Addr) (n m c d : Nat) : (Instr.build 30 #[(0, .slice A n c), (2, .slice B m d)]).run Tryz.prog w = .ok (.agg #[.slice A n c, .int .i64 0, .slice none 0 0, .int .u32 0, .int .i64 0, .int .i64 0, .bool false, .bool false, .int .u32 0, .int .u32 0, .slice none 0 0, .slice none 0 0, .slice B m d]) w := by kernel_rfl
theorem opTo_build2 {o : Oper} {ev : Operand → Value} {W : World} {Post : Value → World → Prop} {A B : Option Addr} {n m c d : Nat} (p q : Operand) (hop : o.op = Op.build 30 #[(0, p), (2, q)]) (hp : ev p = .slice A n c) (hq : ev q = .slice B m d)
    (h : Post (.agg #[.slice A n c, .int .i64 0, .slice none 0 0, .int .u32 0, .int .i64 0, .int .i64 0, .bool false, .bool false, .int .u32 0, .int .u32 0, .slice none 0 0, .slice none 0 0, .slice B m d]) W) : OpTo Tryz.prog o ev W Post := by
  unfold OpTo
  simp [execOp, hop, hp, hq, run_buildU2, Result.andThen]
  exact h
theorem noneA_row : noneA.row = [.int .i64 0, .slice none 0 0, .int .u32 0, .int .i64 0, .int .i64 0, .bool false, .bool false, .int .u32 0, .int .u32 0, .slice none 0 0, .slice none 0 0] := rfl
set_option maxHeartbeats 12800000 in
set_option maxRecDepth 100000 in
theorem ownU_any (u : Uv) (w : World) (h : u.In w w.heap.size) (hl : u.attrs.path.length ≤ 1000000 ∧ (∀ s ∈ u.attrs.path, s.nums.length ≤ 1000000000) ∧ u.attrs.comms.length ≤ 1000000 ∧ u.attrs.raws.length ≤ 1000000 ∧ ∀ s ∈ u.attrs.raws, s.data.length ≤ 1000000) (hl2 : u.gone.length ≤ 1000000 ∧ u.news.length ≤ 1000000) :
    Calls Tryz.prog 37 #[.agg u.row.toArray] w (RetOwU w u) := by
  obtain ⟨W0, hW0⟩ : ∃ W0, W0 = (w.alloc (.cells u.row.toArray 30)).alloc (.cells noneU.toArray 30) := ⟨_, rfl⟩
  have hb0 : Below w.heap.size w W0 := by rw [hW0]; exact ((Below.refl _ _).alloc (Nat.le_refl _) _).alloc (by simp) _
  have kx : Blk W0 w.heap.size 30 u.row := by
    rw [hW0]
    exact (Blk.new w _ _).below ((Below.refl _ _).alloc (Nat.le_refl _) _) (by simp)
  have kr : Blk W0 (w.heap.size + 1) 30 noneU := by
    have := Blk.new (w.alloc (.cells u.row.toArray 30)) 30 noneU
    rw [hW0]
    simpa using this
  have hz : W0.heap.size = w.heap.size + 2 := by rw [hW0]; simp
  have HIN := Lib.hid (fun (W : World) (q : Below W0.heap.size W0 W) => (h.below (hb0.trans (q.mono hb0.size)) (Nat.le_refl _)).lift (hb0.trans (q.mono hb0.size)).size)
  have HUV := Lib.hid (fun (W : World) (q : Below W0.heap.size W0 W) => uv_blk (kx.below q kx.lt))
  have HKX := Lib.hid (fun (W : World) (q : Below W0.heap.size W0 W) => kx.below q kx.lt)
  have HKR := Lib.hid (fun (W : World) (q : Below W0.heap.size W0 W) => kr.below q kr.lt)
  have HL := Lib.hid hl; have HL2 := Lib.hid hl2; have HB0 := Lib.hid hb0; have HZ := Lib.hid hz
  have HGF := Lib.hid (And.intro h.goneF h.newsF)
  have HW0 := Lib.hid (show W0 = (w.alloc (.cells u.row.toArray 30)).alloc (.cells #[.slice none 0 0, .int .i64 0, .slice none 0 0, .int .u32 0, .int .i64 0, .int .i64 0, .bool false, .bool false, .int .u32 0, .int .u32 0, .slice none 0 0, .slice none 0 0, .slice none 0 0] 30) from hW0)
  have QG := Lib.hid (fun (W : World) (q : Below W0.heap.size W0 W) => CloneP_any u.goneA u.gone.length u.goneC (flatP u.gone) (flatP_len _) W (rows_at_pxs (HIN.out W q).gone) (flatP_one _) (by have := HL2.out; omega))
  have QN := Lib.hid (fun (W : World) (q : Below W0.heap.size W0 W) => CloneP_any u.newsA u.news.length u.newsC (flatP u.news) (flatP_len _) W (rows_at_pxs (HIN.out W q).news) (flatP_one _) (by have := HL2.out; omega))
  clear hW0 hb0 kx kr hz h hl hl2
  go_enter Tryz.func37, Tryz.ntmps37
  go_wp2_with (first
    | (refine wpList_boxU _ rfl (.tmp 0) rfl u rfl ?_)
    | (rw [← HW0.out]))
  refine region_tail (by kernel_rfl) 8 (OwD W0.heap.size w.heap.size u) (fun W W' => Below W.heap.size W W') (fun _ W => Below W0.heap.size W0 W) OwD.keep (by kernel_rfl) (by kernel_rfl) (by decide) (Below.refl _ _).drew ?_ ?_
  · intro i o him ho A W hJ hfree hsz hdep
    have e1 : A.tmps.getD 1 undef = .pointer (some ⟨w.heap.size, 0, none⟩) := hfree 1 (by kernel_rfl)
    rcases i with _ | _ | _ | _ | _ | _ | _ | _ | i
    · cases (show some _ = some o from ho)
      unfold OpTo
      go_simp
      first | exact ⟨Below.refl _ _, rfl, hJ⟩ | exact ⟨Below.refl _ _, rfl⟩
    · cases (show some _ = some o from ho)
      have e4 : A.tmps.getD 4 undef = .pointer (some ⟨w.heap.size, 0, none⟩) := hdep 0 _ 4 rfl rfl (by kernel_rfl)
      have kc := (HUV.out W hJ).gone
      unfold OpTo
      go_simp
      first | exact ⟨Below.refl _ _, rfl, hJ⟩ | exact ⟨Below.refl _ _, rfl⟩
    · cases (show some _ = some o from ho)
      have e5 : A.tmps.getD 5 undef = .slice u.goneA u.gone.length u.goneC := hdep 1 _ 5 rfl rfl (by kernel_rfl)
      unfold OpTo
      go_simp
      refine (QG.out W hJ).mono ?_
      rintro e wx ⟨A2, c2, rfl, f1, f2, ho2, hb⟩
      exact ⟨_, rfl, hb, ⟨A2, c2, rfl, f1, f2, row_lower ho2 hJ.size⟩, hJ.trans (hb.mono hJ.size)⟩
    · cases (show some _ = some o from ho)
      unfold OpTo
      go_simp
      first | exact ⟨Below.refl _ _, rfl, hJ⟩ | exact ⟨Below.refl _ _, rfl⟩
    · cases (show some _ = some o from ho)
      have e7 : A.tmps.getD 7 undef = .pointer (some ⟨w.heap.size, 12, none⟩) := hdep 3 _ 7 rfl rfl (by kernel_rfl)
      have kc := (HUV.out W hJ).news
      unfold OpTo
      go_simp
      first | exact ⟨Below.refl _ _, rfl, hJ⟩ | exact ⟨Below.refl _ _, rfl⟩
    · cases (show some _ = some o from ho)
      have e8 : A.tmps.getD 8 undef = .slice u.newsA u.news.length u.newsC := hdep 4 _ 8 rfl rfl (by kernel_rfl)
      unfold OpTo
      go_simp
      refine (QN.out W hJ).mono ?_
      rintro e wx ⟨A2, c2, rfl, f1, f2, ho2, hb⟩
      exact ⟨_, rfl, hb, ⟨A2, c2, rfl, f1, f2, row_lower ho2 hJ.size⟩, hJ.trans (hb.mono hJ.size)⟩
    · cases (show some _ = some o from ho)
      obtain ⟨A2, c2, e6, f1, f2, o2⟩ := hdep 2 _ 6 rfl rfl (by kernel_rfl)
      obtain ⟨A3, c3, e9, f3, f4, o3⟩ := hdep 5 _ 9 rfl rfl (by kernel_rfl)
      have hd6 : OwD W0.heap.size w.heap.size u 6 W (.agg #[.slice A2 u.gone.length c2, .int .i64 0, .slice none 0 0, .int .u32 0, .int .i64 0, .int .i64 0, .bool false, .bool false, .int .u32 0, .int .u32 0, .slice none 0 0, .slice none 0 0, .slice A3 u.news.length c3]) := ⟨A2, c2, A3, c3, rfl, f1, f2, o2, f3, f4, o3⟩
      exact opTo_build2 (.tmp 6) (.tmp 9) rfl e6 e9 ⟨Below.refl _ _, hd6, hJ⟩
    · cases (show some _ = some o from ho)
      unfold OpTo
      go_simp
      have hd7 : OwD W0.heap.size w.heap.size u 7 (W.alloc (.cells noneU.toArray 30)) (.pointer (some ⟨W.heap.size, 0, none⟩)) := ⟨_, rfl, hJ.size, Blk.new W _ _⟩
      exact ⟨(Below.refl _ _).alloc (Nat.le_refl _) _, hd7, hJ.alloc hJ.size _⟩
    · omega
  · intro A W hJ hfree hsz hdf hall
    obtain ⟨A2, c2, A3, c3, q10, f1, f2, o2, f3, f4, o3⟩ := hall 6 _ (by decide) rfl
    obtain ⟨g, q3, hg, kg⟩ := hall 7 _ (by decide) rfl
    have q4 : A.tmps.getD 4 undef = .pointer (some ⟨w.heap.size, 0, none⟩) := hall 0 _ (by decide) rfl
    have q5 : A.tmps.getD 5 undef = .slice u.goneA u.gone.length u.goneC := hall 1 _ (by decide) rfl
    have q7 : A.tmps.getD 7 undef = .pointer (some ⟨w.heap.size, 12, none⟩) := hall 3 _ (by decide) rfl
    have q8 : A.tmps.getD 8 undef = .slice u.newsA u.news.length u.newsC := hall 4 _ (by decide) rfl
    obtain ⟨A4, c4, q6, _⟩ := hall 2 _ (by decide) rfl
    obtain ⟨A5, c5, q9, _⟩ := hall 5 _ (by decide) rfl
    have hA := act_eq (t := #[.agg u.row.toArray, .pointer (some ⟨w.heap.size, 0, none⟩), .pointer (some ⟨w.heap.size + 1, 0, none⟩), .pointer (some ⟨g, 0, none⟩), .pointer (some ⟨w.heap.size, 0, none⟩), .slice u.goneA u.gone.length u.goneC, .slice A4 u.gone.length c4, .pointer (some ⟨w.heap.size, 12, none⟩), .slice u.newsA u.news.length u.newsC, .slice A5 u.news.length c5, .agg #[.slice A2 u.gone.length c2, .int .i64 0, .slice none 0 0, .int .u32 0, .int .i64 0, .int .i64 0, .bool false, .bool false, .int .u32 0, .int .u32 0, .slice none 0 0, .slice none 0 0, .slice A3 u.news.length c3], undef, undef, undef, undef, undef, undef, undef, undef, undef]) hdf hsz (fun s hs => by
      rcases s with _ | _ | _ | _ | _ | _ | _ | _ | _ | _ | _ | _ | _ | _ | _ | _ | _ | _ | _ | _ | s
      · exact hfree 0 (by kernel_rfl)
      · exact hfree 1 (by kernel_rfl)
      · exact hfree 2 (by kernel_rfl)
      · exact q3
      · exact q4
      · exact q5
      · exact q6
      · exact q7
      · exact q8
      · exact q9
      · exact q10
      · exact hfree 11 (by kernel_rfl)
      · exact hfree 12 (by kernel_rfl)
      · exact hfree 13 (by kernel_rfl)
      · exact hfree 14 (by kernel_rfl)
      · exact hfree 15 (by kernel_rfl)
      · exact hfree 16 (by kernel_rfl)
      · exact hfree 17 (by kernel_rfl)
      · exact hfree 18 (by kernel_rfl)
      · exact hfree 19 (by kernel_rfl)
      · exfalso; simp at hs; omega)
    subst hA
    clear hfree hdf hsz hall q10 q3 q4 q5 q6 q7 q8 q9
    have HG := Lib.hid hg; have HJ := Lib.hid hJ; have KG := Lib.hid kg; have O2 := Lib.hid o2; have O3 := Lib.hid o3; have HC2 := Lib.hid (And.intro f1 f2); have HC3 := Lib.hid (And.intro f3 f4)
    clear kg hJ hg o2 o3 f1 f2 f3 f4
    show wpList _ _ _ [_] _ _
    go_wp2_with (refine wpList_storeU _ rfl rfl (.tmp 3) (.tmp 10) rfl g 30 noneU ⟨A2, c2, u.gone, noneA, A3, c3, u.news⟩ rfl rfl KG.out rfl ?_)
    intro w1 k1 hg1
    have J1 := Lib.hid (show Below W0.heap.size W0 w1 from HJ.out.grown hg1 HJ.out.size (fun k hk => by cases hk; exact HG.out))
    have P2 := Lib.hid (row_keep O2.out KG.out (by decide) hg1); have P3 := Lib.hid (row_keep O3.out KG.out (by decide) hg1)
    have K1 := Lib.hid k1
    have HNE := Lib.hid (show g ≠ w.heap.size + 1 by have := HG.out; have := HZ.out; omega)
    have kR := HKR.out w1 J1.out
    have KR := Lib.hid kR
    have c12 := (HUV.out w1 J1.out).news
    have HUA := Lib.hid (HUV.out w1 J1.out).attrs
    have BW := Lib.hid (HB0.out.trans (J1.out.mono HB0.out.size))
    clear k1 hg1 kR O2 O3 KG HJ
    by_cases hn : u.news.length = 0
    · have hnI : ¬ (0 : Int) < (u.news.length : Int) := by omega
      have HNN := Lib.hid (List.eq_nil_of_length_eq_zero hn)
      clear hn
      go_wp2_with (first
        | (refine wpList_loadU _ rfl (.tmp 3) rfl g ⟨A2, c2, u.gone, noneA, A3, c3, u.news⟩ rfl (uv_blk K1.out) ?_)
        | (refine wpList_storeU _ rfl rfl (.tmp 2) (.tmp 19) rfl (w.heap.size + 1) 30 noneU ⟨A2, c2, u.gone, noneA, A3, c3, u.news⟩ rfl rfl KR.out rfl ?_))
      intro w2 k2 hg2
      have Q2 := Lib.hid (row_keep P2.out KR.out (by decide) hg2); have Q3 := Lib.hid (row_keep P3.out KR.out (by decide) hg2)
      have BF := Lib.hid (BW.out.grown hg2 BW.out.size (fun k hk => by cases hk; omega))
      have HRA := Lib.hid (cells13 (show Blk w2 (w.heap.size + 1) 30 [.slice A2 u.gone.length c2, .int .i64 0, .slice none 0 0, .int .u32 0, .int .i64 0, .int .i64 0, .bool false, .bool false, .int .u32 0, .int .u32 0, .slice none 0 0, .slice none 0 0, .slice A3 u.news.length c3] from k2))
      clear k2 hg2
      go_wp2_with fail
      have ra := HRA.out
      refine bodyPost_ret (v := .agg (Uv.row ⟨A2, c2, u.gone, noneA, A3, c3, u.news⟩).toArray) ?_ rfl ⟨⟨A2, c2, u.gone, noneA, A3, c3, u.news⟩, rfl, ⟨row_lower Q2.out HB0.out.size, HC2.out, HGF.out.1, noneA_own _, row_lower Q3.out HB0.out.size, HC3.out, HGF.out.2⟩, BF.out, rfl, rfl, fun _ => rfl, fun h => absurd HNN.out h⟩
      simp [results, Tryz.results37, go_sem, Uv.row, Av.row, noneA, ra]
    · have hnI : (0 : Int) < (u.news.length : Int) := by omega
      have HNN := Lib.hid (show u.news ≠ [] from fun e => hn (by rw [e]; rfl))
      have QO := Lib.hid (ownAttrs_any u.attrs w1 (HIN.out w1 J1.out).attrs HL.out)
      clear hn
      go_wp2_with (refine wpList_loadA _ rfl (.tmp 15) rfl w.heap.size 1 u.attrs rfl HUA.out ?_)
      refine QO.out.mono ?_
      rintro e w2 ⟨x, rfl, hox, hb2, y1, y2, y3, y4, y5, y6, y7, y8, y9, y10, y11⟩
      have k2 : Blk w2 g 30 (.slice A2 u.gone.length c2 :: (noneA.row ++ [.slice A3 u.news.length c3])) := K1.out.below hb2 K1.out.lt
      have KK2 := Lib.hid k2
      have KR2 := Lib.hid (KR.out.below hb2 KR.out.lt)
      have R2 := Lib.hid (row_below P2.out hb2); have R3 := Lib.hid (row_below P3.out hb2)
      have HOX := Lib.hid hox
      have BW2 := Lib.hid (BW.out.trans (hb2.mono BW.out.size))
      have HY := Lib.hid (And.intro y1 (And.intro y2 (And.intro y3 (And.intro y4 (And.intro y5 (And.intro y6 (And.intro y7 (And.intro y8 (And.intro y9 (And.intro y10 y11))))))))))
      have hgw : w.heap.size ≤ g := by have := HG.out; have := HZ.out; omega
      clear hox hb2 y1 y2 y3 y4 y5 y6 y7 y8 y9 y10 y11 k2 QO c12 HUA P2 P3
      go_wp2_with (refine wpList_storeUA _ rfl rfl (.tmp 18) (.tmp 17) rfl g 30 (.slice A2 u.gone.length c2) (.slice A3 u.news.length c3) noneA.row x rfl rfl KK2.out rfl ?_)
      intro w3 k3 hg3
      have K3 := Lib.hid (show Blk w3 g 30 (Uv.row ⟨A2, c2, u.gone, x, A3, c3, u.news⟩) from k3)
      have KR3 := Lib.hid (KR2.out.grown hg3 (Ne.symm HNE.out))
      have S2 := Lib.hid (row_keep R2.out KK2.out (by decide) hg3); have S3 := Lib.hid (row_keep R3.out KK2.out (by decide) hg3)
      have HOX3 := Lib.hid (HOX.out.keeps KK2.out (by decide) (by decide) (by decide) (by decide) hg3)
      have BW3 := Lib.hid (BW2.out.grown hg3 BW2.out.size (fun k hk => by cases hk; exact hgw))
      clear k3 hg3
      go_wp2_with (first
        | (refine wpList_loadU _ rfl (.tmp 3) rfl g ⟨A2, c2, u.gone, x, A3, c3, u.news⟩ rfl (uv_blk K3.out) ?_)
        | (refine wpList_storeU _ rfl rfl (.tmp 2) (.tmp 19) rfl (w.heap.size + 1) 30 noneU ⟨A2, c2, u.gone, x, A3, c3, u.news⟩ rfl rfl KR3.out rfl ?_))
      intro w4 k4 hg4
      have T2 := Lib.hid (row_keep S2.out KR3.out (by decide) hg4); have T3 := Lib.hid (row_keep S3.out KR3.out (by decide) hg4)
      have HOX4 := Lib.hid (HOX3.out.keeps KR3.out (by decide) (by decide) (by decide) (by decide) hg4)
      have BF := Lib.hid (BW3.out.grown hg4 BW3.out.size (fun k hk => by cases hk; omega))
      obtain ⟨org, pa, pc, path, next, med, pref, atomic, has, aas, aad, ca, cc, comms, ra0, rc, raws⟩ := x
      have HRA := Lib.hid (cells13 (show Blk w4 (w.heap.size + 1) 30 [.slice A2 u.gone.length c2, .int .i64 org, .slice pa path.length pc, .int .u32 next, .int .i64 med, .int .i64 pref, .bool atomic, .bool has, .int .u32 aas, .int .u32 aad, .slice ca comms.length cc, .slice ra0 raws.length rc, .slice A3 u.news.length c3] from k4))
      clear k4 hg4
      go_wp2_with fail
      have ra := HRA.out
      refine bodyPost_ret (v := .agg (Uv.row ⟨A2, c2, u.gone, ⟨org, pa, pc, path, next, med, pref, atomic, has, aas, aad, ca, cc, comms, ra0, rc, raws⟩, A3, c3, u.news⟩).toArray) ?_ rfl ⟨⟨A2, c2, u.gone, ⟨org, pa, pc, path, next, med, pref, atomic, has, aas, aad, ca, cc, comms, ra0, rc, raws⟩, A3, c3, u.news⟩, rfl, ⟨row_lower T2.out HB0.out.size, HC2.out, HGF.out.1, HOX4.out, row_lower T3.out HB0.out.size, HC3.out, HGF.out.2⟩, BF.out, rfl, rfl, fun h => absurd h HNN.out, fun _ => HY.out⟩
      simp [results, Tryz.results37, go_sem, Uv.row, Av.row, ra]
end Go.Proofs.YtnaangnmlbgmkaaGreatDoor

/-
  Two rows of prefixes of one's own beside one another: all of a row is appended to one of them.
-/
namespace Go.Proofs.YtnaangnmlbgmkaaGreatDoor
set_option linter.unusedVariables false
set_option linter.unusedSimpArgs false
open Go.RowKit

theorem flatP_app (M N : List Px) : flatP (M ++ N) = flatP M ++ flatP N := by unfold flatP; rw [List.flatMap_append]
section
variable {w : World} {o : Oper} {a : Act} {Q : Exit → Act → World → Prop}
theorem wp_appendP {K : Act → World → Prop} (s x : Operand) (ho : o.op = .call { callee := .builtin .append, args := #[s, x], argTypes := #[22, 22] })
    (B : Nat) (v : Value) (M : List Px) (hs : a.eval s = v) (hown : w.ownsRow B 54 2 v M.length (flatP M)) (A : Option Addr) (c : Nat) (L : List Px) (hx : a.eval x = .slice A L.length c)
    (hL : PxsIn w w.heap.size A L) (hl : M.length + L.length ≤ 1000000) (hB : B ≤ w.heap.size)
    (h : ∀ v' w', w'.ownsRow B 54 2 v' (M ++ L).length (flatP (M ++ L)) → w.grownBy w' v.ownBlock → (v'.ownBlock = v.ownBlock ∨ v'.ownBlock = some w.heap.size) → K (a.put o.dst v') w') : o.wp Tryz.prog a w K Q := by
  obtain ⟨i, hi, hz0, hz1, hz2⟩ := info_parts isPx.info
  cases A with
  | none =>
    have hL0 : L = [] := by
      rcases L with _ | ⟨y, ys⟩
      · rfl
      · obtain ⟨_, _, h2, _⟩ := hL (by simp)
        cases h2
    subst hL0
    have hrun : (Builtin.append_ #[22, 22] o.type #[v, .slice none 0 c]).run Tryz.prog w = .ok v w := by
      rcases hown.2 with ⟨rfl, _⟩ | ⟨g, cap, cur, rfl, _, _, hnc, _⟩
      · simp [Builtin.append_, run_underlying isPx.ht, sizeOf, typeInfo, hi, Builtin.lenOf, Builtin.firstCells]
      · simp [Builtin.append_, run_underlying isPx.ht, sizeOf, typeInfo, hi, Builtin.lenOf, Builtin.firstCells, hnc, storeCells]
    unfold Oper.wp
    have hx' : a.eval x = .slice none 0 c := hx
    simp [execOp, ho, resolve, invoke, builtin, hs, hx', hrun, Result.andThen]
    exact h v w (by rw [List.append_nil]; exact hown) (World.grownBy.refl _ _) (.inl rfl)
  | some ad =>
    have hnews : ∀ j u, (flatP L)[j]? = some u → w.cell? (ad.add j) = some u := by
      intro j u hu
      obtain ⟨b, off, hA, _, hc⟩ := rows_at_pxs hL (by intro e; rw [e] at hu; simp at hu)
      obtain rfl := Option.some.inj hA
      rw [Addr.add_lit]
      exact hc j u hu
    obtain ⟨v', w', hr, h2, h3, h4, h5⟩ := run_append_own_at (P := Tryz.prog) w B 22 o.type 54 i _ 2 16 isPx.ht hi hz0 hz1 hz2 isPx.hzs isPx.pos v M.length (flatP M) hown ad L.length c (flatP L) (flatP_len _) hnews (flatP_one _) (by unfold maxLen; omega) (by omega) hB
    unfold Oper.wp execOp
    simp only [ho, resolve, invoke, builtin, Sem.run_bind, Sem.run_pure, Result.andThen_ok, List.map_toArray, List.map_cons, List.map_nil, hs, hx, hr]
    exact h v' w' (by rw [List.length_append, flatP_app]; exact h2) h3 h5
end
/-- Two rows of one's own, in blocks of their own. -/
structure TwoP (w : World) (B : Nat) (v u : Value) (M N : List Px) : Prop where
  one : w.ownsRow B 54 2 v M.length (flatP M)
  two : w.ownsRow B 54 2 u N.length (flatP N)
  sep : v.ownBlock = none ∨ v.ownBlock ≠ u.ownBlock
theorem TwoP.nil (w : World) (B : Nat) : TwoP w B (.slice none 0 0) (.slice none 0 0) [] [] := ⟨World.ownsRow_nil _ _ _ _, World.ownsRow_nil _ _ _ _, .inl rfl⟩
theorem TwoP.below {w w' : World} {B : Nat} {v u : Value} {M N : List Px} (h : TwoP w B v u M N) (hb : Below w.heap.size w w') : TwoP w' B v u M N := ⟨row_below h.one hb, row_below h.two hb, h.sep⟩
theorem TwoP.keep {w w' : World} {B g T : Nat} {v u : Value} {M N : List Px} {cs : List Value} (h : TwoP w B v u M N) (hk : Blk w g T cs) (ht : (54 : TypeId) ≠ T) (hg : w.grownBy w' (some g)) : TwoP w' B v u M N := ⟨row_keep h.one hk ht hg, row_keep h.two hk ht hg, h.sep⟩
/-- What is left of two rows where the first one grew, or the second one. -/
theorem TwoP.grow1 {w w' : World} {B : Nat} {v v' u : Value} {M M' N : List Px} (h : TwoP w B v u M N) (ho : w'.ownsRow B 54 2 v' M'.length (flatP M')) (hg : w.grownBy w' v.ownBlock) (hloc : v'.ownBlock = v.ownBlock ∨ v'.ownBlock = some w.heap.size) : TwoP w' B v' u M' N := by
  refine ⟨ho, World.ownsRow.kept h.two hg ?_, ?_⟩
  · rcases h.sep with e | e
    · rw [e]; cases u.ownBlock <;> simp
    · exact .inr fun q => e q.symm
  · rcases hloc with e | e
    · rw [e]; exact h.sep
    · right
      rw [e]
      intro q
      have := (h.two.lt _ q.symm).2
      omega
theorem TwoP.grow2 {w w' : World} {B : Nat} {v u u' : Value} {M N N' : List Px} (h : TwoP w B v u M N) (ho : w'.ownsRow B 54 2 u' N'.length (flatP N')) (hg : w.grownBy w' u.ownBlock) (hloc : u'.ownBlock = u.ownBlock ∨ u'.ownBlock = some w.heap.size) : TwoP w' B v u' M N' := by
  refine ⟨World.ownsRow.kept h.one hg h.sep, ho, ?_⟩
  rcases hloc with e | e
  · rw [e]; exact h.sep
  · by_cases hv : v.ownBlock = none
    · exact .inl hv
    · right
      rw [e]
      intro q
      have := (h.one.lt _ q).2
      omega
end Go.Proofs.YtnaangnmlbgmkaaGreatDoor

/-
  What update.Read tells lies in rows of one's own, laid by the call.
-/
namespace Go.Proofs.YtnaangnmlbgmkaaGreatDoor
set_option linter.unusedVariables false
set_option linter.unusedSimpArgs false
open Go.RowKit

def RowsP (B : Nat) (w : World) (u : Uv) : Prop := w.ownsRow B 54 2 (.slice u.goneA u.gone.length u.goneC) u.gone.length (flatP u.gone) ∧ w.ownsRow B 54 2 (.slice u.newsA u.news.length u.newsC) u.news.length (flatP u.news)
theorem RowsP.later {B : Nat} {w w' : World} {u : Uv} (h : RowsP B w u) (hb : Below w.heap.size w w') : RowsP B w' u := ⟨row_below h.1 hb, row_below h.2 hb⟩
set_option maxHeartbeats 12800000 in
set_option maxRecDepth 100000 in
theorem URead_noneP (A : Option Addr) (c : Nat) (l said : List UInt8) (G N : List Px) (S : Rs) (inner : Bool) (w : World) (h : Bytes w A l) (hc : l.length ≤ c) (hm : c ≤ maxLen) (hl : l = updB (pxB G) said (pxB N)) (hG : pxsOk G = true) (hGf : ∀ x ∈ G, PxFit x) (hN : pxsOk N = true) (hNf : ∀ x ∈ N, PxFit x)
    (hlen : l.length ≤ 100000) (hgl : (pxB G).length < 65536) (hsl : said.length < 65536) (hGl : G.length ≤ 1000000) (hNl : N.length ≤ 1000000)
    (hA : ∀ (W : World) (B : Option Addr) (d : Nat), Below w.heap.size w W → Bytes W B said → said.length ≤ d → d ≤ maxLen → Calls Tryz.prog 31 #[.slice B said.length d, .bool true] W (RetRd W S)) (hN0 : N = []) :
    Calls Tryz.prog 12 #[.slice A l.length c, .bool true, .bool inner, .int .u32 0] w fun e w' => ∃ u : Uv, e = .returned (.tuple #[.agg u.row.toArray, fault0]) ∧ (u.In w' w'.heap.size ∧ RowsP w.heap.size w' u) ∧ Below w.heap.size w w' ∧ u.gone = G ∧ u.news = N ∧ u.attrs = noneA := by
  have hb0 := ((Below.refl w.heap.size w).alloc (Nat.le_refl _) (.cells noneU.toArray 30)).alloc (by simp) (.cells #[.int .i64 0, .int .i64 0, .slice none 0 0] 43)
  obtain ⟨W0, hW0⟩ : ∃ W0, W0 = (w.alloc (.cells noneU.toArray 30)).alloc (.cells #[.int .i64 0, .int .i64 0, .slice none 0 0] 43) := ⟨_, rfl⟩
  have kr : Blk W0 w.heap.size 30 noneU := by
    rw [hW0]
    exact (Blk.new w _ _).below ((Below.refl _ _).alloc (Nat.le_refl _) _) (by simp)
  have kf : Blk W0 (w.heap.size + 1) 43 [.int .i64 0, .int .i64 0, .slice none 0 0] := by
    have := Blk.new (w.alloc (.cells noneU.toArray 30)) 43 [.int .i64 0, .int .i64 0, .slice none 0 0]
    rw [hW0]
    simpa using this
  rw [← hW0] at hb0
  have hz : W0.heap.size = w.heap.size + 2 := by rw [hW0]; simp
  have QN := Lib.hid (New_any A l.length c l rfl W0 (h.below hb0) hc hm)
  have HW0 := Lib.hid (show W0 = (w.alloc (.cells #[.slice none 0 0, .int .i64 0, .slice none 0 0, .int .u32 0, .int .i64 0, .int .i64 0, .bool false, .bool false, .int .u32 0, .int .u32 0, .slice none 0 0, .slice none 0 0, .slice none 0 0] 30)).alloc (.cells #[.int .i64 0, .int .i64 0, .slice none 0 0] 43) from hW0)
  have HB0 := Lib.hid hb0; have HKR := Lib.hid kr; have HKF := Lib.hid kf; have HZ := Lib.hid hz
  have HLL := Lib.hid (show 4 + (pxB G).length + said.length + (pxB N).length ≤ 100000 by rw [← updB_len5, ← hl]; exact hlen)
  have e1 : rdTake l false 2 = (be16 ((pxB G).length : Int), pxB G ++ (be16 (said.length : Int) ++ (said ++ pxB N)), false) := by rw [hl]; exact rdTake_appP _ _ 2 rfl
  have E1 := Lib.hid e1
  have HGL := Lib.hid (num_be16 hgl).1; have HSL := Lib.hid (num_be16 hsl).1
  have HLN := Lib.hid hlen
  have QA := Lib.hid hA
  have HP := Lib.hid (And.intro hG (And.intro hGf (And.intro hN (And.intro hNf (And.intro hGl hNl)))))
  have HN0 := Lib.hid hN0; clear hN0
  clear h hc hm hl hG hGf hN hNf hlen hgl hsl hA hb0 hW0 kr kf hz e1 hGl hNl
  go_enter Tryz.func12, Tryz.ntmps12
  go_wp2_with (rw [← HW0.out])
  refine QN.out.mono ?_
  rintro e w1 ⟨rfl, hr1, hb1⟩
  have R1 := Lib.hid hr1; have B1 := Lib.hid hb1
  clear hr1 hb1 QN HW0
  -- how many bytes go
  have q2 := U16_any _ _ _ _ _ R1.out
  rw [E1.out] at q2
  have Q2 := Lib.hid q2
  clear q2
  go_wp2_with fail
  refine Q2.out.mono ?_
  rintro e w2 ⟨rfl, hr2, hg2⟩
  rw [HGL.out]
  have q3 := Take_any (((pxB G).length : Nat) : Int) _ _ _ _ w2 hr2 (by have := HLL.out; simp only [List.length_append, be16_len]; omega)
  rw [rdTake_appP _ _ _ rfl] at q3
  have Q3 := Lib.hid q3
  have B2 := Lib.hid (B1.out.trans (below_of_grown hg2 B1.out.size (Nat.le_refl _)))
  clear hr2 hg2 q3 Q2
  go_wp2_with fail
  refine Q3.out.mono ?_
  rintro e w3 ⟨A3, c3, rfl, f1, f2, ho3, hr3, hg3⟩
  (try dsimp only at hr3)
  have R3 := Lib.hid hr3; have O3 := Lib.hid ho3; have HC3 := Lib.hid (And.intro f1 f2)
  have B3 := Lib.hid (B2.out.trans (below_of_grown hg3 B2.out.size (Nat.le_refl _)))
  clear hr3 hg3 ho3 f1 f2 Q3
  -- how many are said
  have q4 := U16_any _ _ _ _ _ R3.out
  have e4 : rdTake (be16 (said.length : Int) ++ (said ++ pxB N)) false 2 = (be16 (said.length : Int), said ++ pxB N, false) := rdTake_appP _ _ 2 rfl
  rw [e4] at q4
  clear e4
  have Q4 := Lib.hid q4
  clear q4
  go_wp2_with fail
  refine Q4.out.mono ?_
  rintro e w4 ⟨rfl, hr4, hg4⟩
  rw [HSL.out]
  have q5 := Take_any ((said.length : Nat) : Int) _ _ _ _ w4 hr4 (by have := HLL.out; simp only [List.length_append]; omega)
  rw [rdTake_appP _ _ _ rfl] at q5
  have Q5 := Lib.hid q5
  have B4 := Lib.hid (B3.out.trans (below_of_grown hg4 B3.out.size (Nat.le_refl _)))
  have O4 := Lib.hid (own_past O3.out R3.out hg4)
  have R4 := Lib.hid hr4
  clear hr4 hg4 q5 Q4 O3
  go_wp2_with fail
  refine Q5.out.mono ?_
  rintro e w5 ⟨A5, c5, rfl, f1, f2, ho5, hr5, hg5⟩
  (try dsimp only at hr5)
  have R5 := Lib.hid hr5; have O5 := Lib.hid ho5; have HC5 := Lib.hid (And.intro f1 f2)
  have B5 := Lib.hid (B4.out.trans (below_of_grown hg5 B4.out.size (Nat.le_refl _)))
  have O35 := Lib.hid (own_past O4.out R4.out hg5)
  clear hr5 hg5 ho5 f1 f2 Q5 O4
  go_wp2_with fail
  refine (Err_any _ _ _ _ _ R5.out).mono ?_
  rintro e wx ⟨rfl, rfl⟩
  simp only [errN]
  have QG := Lib.hid (List_ok A3 c3 (pxB G) G w5 O35.out.bytes HC3.out.1 HC3.out.2 rfl HP.out.1 HP.out.2.1 (by have := HLL.out; omega) HP.out.2.2.2.2.1)
  go_wp2_with fail
  refine QG.out.mono ?_
  rintro e w6 ⟨A6, c6, rfl, f1, f2, ho6, hb6⟩
  have O6 := Lib.hid ho6; have HC6 := Lib.hid (And.intro f1 f2)
  have B6 := Lib.hid (B5.out.trans (hb6.mono B5.out.size))
  have R6 := Lib.hid (R5.out.below hb6 R5.out.lt)
  have O56 := Lib.hid (row_below O5.out hb6)
  clear ho6 f1 f2 hb6 QG O35 O5
  have BW := Lib.hid (fun (W : World) (q : Below W0.heap.size W0 W) => HB0.out.trans (q.mono HB0.out.size))
  have Q7 := Lib.hid (QA.out w6 A5 c5 (BW.out _ B6.out) (Own.bytes O56.out) HC5.out.1 HC5.out.2)
  go_wp2_with fail
  refine Q7.out.mono ?_
  rintro e w7 ⟨x, kA, kc, rfl, hin, hb7, x1, x2, x3, x4, x5, x6, x7, x8, x9, x10, x11⟩
  have O7 := Lib.hid (row_below O6.out hb7)
  have R7 := Lib.hid (R6.out.below hb7 R6.out.lt)
  have R7lt := Lib.hid R7.out.lt
  have B7 := Lib.hid (B6.out.trans (hb7.mono B6.out.size))
  obtain ⟨W7, hW7⟩ : ∃ W7, W7 = (w7.alloc (.cells x.row.toArray 28)).alloc (.cells #[.int .i64 0, .int .i64 0, .slice none 0 0] 43) := ⟨_, rfl⟩
  have hb8 : Below w7.heap.size w7 W7 := by rw [hW7]; exact ((Below.refl _ _).alloc (Nat.le_refl _) _).alloc (by simp) _
  have kx : Blk W7 w7.heap.size 28 x.row := by
    rw [hW7]
    exact (Blk.new w7 _ _).below ((Below.refl _ _).alloc (Nat.le_refl _) _) (by simp)
  have kf : Blk W7 (w7.heap.size + 1) 43 [.int .i64 0, .int .i64 0, .slice none 0 0] := by
    have := Blk.new (w7.alloc (.cells x.row.toArray 28)) 43 [.int .i64 0, .int .i64 0, .slice none 0 0]
    rw [hW7]
    simpa using this
  have O8 := Lib.hid (row_below O7.out hb8)
  have R8 := Lib.hid (R7.out.below hb8 R7.out.lt)
  have B8 := Lib.hid (B7.out.trans (hb8.mono B7.out.size))
  have KX := Lib.hid kx
  
  have f0 : W7.cell? ⟨w7.heap.size + 1, 0, none⟩ = some (.int .i64 0) := kf.cell 0
  obtain ⟨org, pa, pc, path, next, med, pref, atomic, has, aas, aad, ca, cc, comms, ra, rc, raws⟩ := x
  have hW7' := (show W7 = (w7.alloc (.cells #[.int .i64 org, .slice pa path.length pc, .int .u32 next, .int .i64 med, .int .i64 pref, .bool atomic, .bool has, .int .u32 aas, .int .u32 aad, .slice ca comms.length cc, .slice ra raws.length rc] 28)).alloc (.cells #[.int .i64 0, .int .i64 0, .slice none 0 0] 43) from hW7)
  have HW7 := Lib.hid hW7'
  clear hW7 hW7' hin hb7 x1 x2 x3 x4 x5 x6 x7 x8 x9 x10 x11 hb8 kx kf Q7 O6 O56 O7 R6 R7 QA
  unfold Av.row fault0
  dsimp only
  rw [HW7.out] at f0
  go_wp2_with fail
  rw [← HW7.out]
  -- what comes
  refine (Left_any _ _ _ _ _ R8.out).mono ?_
  rintro e wx ⟨rfl, rfl⟩
  have q9 := Take_any (((pxB N).length : Nat) : Int) _ _ _ _ _ R8.out (by have := HLL.out; omega)
  have e9 : rdTake (pxB N) false (((pxB N).length : Nat) : Int) = (pxB N, [], false) := by
    have h := rdTake_appP (pxB N) [] (pxB N).length rfl
    rwa [List.append_nil] at h
  rw [e9] at q9
  have Q9 := Lib.hid q9
  clear q9 e9
  go_wp2_with fail
  refine Q9.out.mono ?_
  rintro e w9 ⟨A9, c9, rfl, f1, f2, ho9, hr9, hg9⟩
  have O9 := Lib.hid (own_pastP O8.out R8.out hg9)
  have B9 := Lib.hid (B8.out.trans (below_of_grown hg9 B8.out.size (Nat.le_refl _)))
  have KX9 := Lib.hid (KX.out.grown hg9 (by have := R7lt.out; omega))
  
  have QL := Lib.hid (List_ok A9 c9 (pxB N) N w9 ho9.bytes f1 f2 rfl HP.out.2.2.1 HP.out.2.2.2.1 (by have := HLL.out; omega) HP.out.2.2.2.2.2)
  clear ho9 hr9 hg9 f1 f2 Q9 KX O8 f0
  go_wp2_with fail
  refine QL.out.mono ?_
  rintro e w10 ⟨A10, c10, rfl, f1, f2, ho10, hb10⟩
  have O10 := Lib.hid (row_below O9.out hb10); have P10 := Lib.hid ho10
  have B10 := Lib.hid (B9.out.trans (hb10.mono B9.out.size))
  have KX10 := Lib.hid (KX9.out.below hb10 KX9.out.lt)
  
  have HC10 := Lib.hid (And.intro f1 f2)
  clear ho10 hb10 f1 f2 O9 KX9 QL
  have hn0 := HN0.out
  subst hn0
  have kR := HKR.out.below B10.out (by have := HZ.out; omega)
  have kF := HKF.out.below B10.out (by have := HZ.out; omega)
  have KR10 := Lib.hid kR; have KF10 := Lib.hid kF
  clear kR kF
  go_wp2_with (refine wpList_storeU _ rfl rfl (.tmp 8) (.tmp 72) rfl w.heap.size 30 noneU ⟨A6, c6, G, noneA, none, 0, []⟩ rfl rfl KR10.out rfl ?_)
  intro w11 k11 hg11
  have kf11 := KF10.out.grown hg11 (by omega)
  have ff := free3 kf11
  have cf := cells3 kf11
  have O11 := Lib.hid (row_keep O10.out KR10.out (by decide) hg11)
  have hgf := grown_set3 w11 (w.heap.size + 1) (.int .i64 0) (.int .i64 0) (.slice none 0 0)
  have ra := cells13 (show Blk _ w.heap.size 30 [.slice A6 G.length c6, .int .i64 0, .slice none 0 0, .int .u32 0, .int .i64 0, .int .i64 0, .bool false, .bool false, .int .u32 0, .int .u32 0, .slice none 0 0, .slice none 0 0, .slice none 0 0] from k11.grown hgf (by omega))
  have rf := cells3 (kf11.set3 (.int .i64 0) (.int .i64 0) (.slice none 0 0))
  have O12 := Lib.hid (row_keep O11.out kf11 (by decide) hgf)
  have BF := Lib.hid (((BW.out _ B10.out).grown hg11 (BW.out _ B10.out).size (fun k hk => by cases hk; exact Nat.le_refl _)).grown hgf (Nat.le_trans (BW.out _ B10.out).size hg11.size) (fun k hk => by cases hk; omega))
  have HRA := Lib.hid ra; have HRF := Lib.hid rf
  clear k11 hg11 kf11 hgf ra rf O11
  go_wp2_with fail
  have ra := HRA.out
  have rf := HRF.out
  refine bodyPost_ret (v := .tuple #[.agg (Uv.row ⟨A6, c6, G, noneA, none, 0, []⟩).toArray, fault0]) ?_ rfl ⟨⟨A6, c6, G, noneA, none, 0, []⟩, rfl, ⟨⟨pxs_own O12.out, HC6.out, HP.out.2.1, noneA_in _, PxsIn.nil _ _ _, ⟨Nat.le_refl _, Nat.zero_le _⟩, fun x hx => by cases hx⟩, ⟨row_lower O12.out (Nat.le_trans HB0.out.size B5.out.size), World.ownsRow_nil _ _ _ _⟩⟩, BF.out, rfl, rfl, rfl⟩
  simp [results, Tryz.results12, go_sem, fault0, Uv.row, Av.row, noneA, ra, rf]
end Go.Proofs.YtnaangnmlbgmkaaGreatDoor

/-
  All of a row of prefixes is appended to one of one's own: what stays; and the append as a step of a region that draws.
-/
namespace Go.Proofs.YtnaangnmlbgmkaaGreatDoor
set_option linter.unusedVariables false
set_option linter.unusedSimpArgs false
open Go.RowKit

theorem grown_own_below {W W' : World} {v : Value} {B : Nat} (hg : W.grownBy W' v.ownBlock) (hv : ∀ k, v.ownBlock = some k → B ≤ k) (hB : B ≤ W.heap.size) : Below B W W' := (Below.refl B W).grown hg hB hv
theorem TwoP.lo {w : World} {B : Nat} {v u : Value} {M N : List Px} (h : TwoP w B v u M N) : (∀ k, v.ownBlock = some k → k < w.heap.size) ∧ (∀ k, u.ownBlock = some k → k < w.heap.size) := ⟨fun k hk => (World.ownsRow.lt h.one k hk).2, fun k hk => (World.ownsRow.lt h.two k hk).2⟩
/-- What a row of prefixes grew by leaves the rest as it lay. -/
structure KeptP (C : Nat) (W W' : World) : Prop where
  uv : ∀ x, OwnUv C W x → OwnUv C W' x
  rows : ∀ y, RowsP C W y → RowsP C W' y
  blk : ∀ g cs, Blk W g 30 cs → Blk W' g 30 cs
theorem kept_own {W W' : World} {v : Value} {B C : Nat} {M : List Px} (ho : W.ownsRow B 54 2 v M.length (flatP M)) (hg : W.grownBy W' v.ownBlock) (hv : ∀ k, v.ownBlock = some k → k < C) : KeptP C W W' := by
  rcases id ho.2 with ⟨rfl, _⟩ | ⟨g, cap, cur, rfl, _, _, hnc, _⟩
  · have hb : Below W.heap.size W W' := (Below.refl _ W).grown hg (Nat.le_refl _) (fun k hk => by cases hk)
    exact ⟨fun x h => h.later hb, fun y h => h.later hb, fun g cs h => h.below hb h.lt⟩
  · obtain ⟨cs0, kb, _⟩ := own_row_blk ho
    have hgC : g < C := hv g rfl
    have hg' : W.grownBy W' (some g) := hg
    refine ⟨fun x h => ⟨row_apart5 h.gone hg' hgC, h.goneC, h.goneF, h.attrs.keeps kb (by decide) (by decide) (by decide) (by decide) hg', row_apart5 h.news hg' hgC, h.newsC, h.newsF⟩, fun y h => ⟨row_apart5 h.1 hg' hgC, row_apart5 h.2 hg' hgC⟩, fun g2 cs h => ?_⟩
    exact h.grown hg' (fun e => by
      subst e
      have h1 := h
      have h2 := kb
      unfold Blk at h1 h2
      rw [h1] at h2
      simp at h2)
section
variable {w : World} {o : Oper} {a : Act} {Q : Exit → Act → World → Prop}
theorem step_appendP {K : Act → World → Prop} {E : Prop} {ops : Array Oper} (hgd : o.guard = none) (s x : Operand) (ho : o.op = .call { callee := .builtin .append, args := #[s, x], argTypes := #[22, 22] })
    (B : Nat) (v : Value) (M : List Px) (hs : a.eval s = v) (hown : w.ownsRow B 54 2 v M.length (flatP M)) (A : Option Addr) (c : Nat) (L : List Px) (hx : a.eval x = .slice A L.length c)
    (hL : PxsIn w w.heap.size A L) (hl : M.length + L.length ≤ 1000000) (hB : B ≤ w.heap.size)
    (h : ∀ v' w', w'.ownsRow B 54 2 v' (M ++ L).length (flatP (M ++ L)) → w.grownBy w' v.ownBlock → (v'.ownBlock = v.ownBlock ∨ v'.ownBlock = some w.heap.size) → K (a.put o.dst v') w') : if Region.wanted o (yielded ops a.tmps) = true then Oper.wp Tryz.prog o a w K Q else E := by
  have hw : Region.wanted o (yielded ops a.tmps) = true := by simp [Region.wanted, hgd]
  rw [if_pos hw]
  exact wp_appendP s x ho B v M hs hown A c L hx hL hl hB h
end
end Go.Proofs.YtnaangnmlbgmkaaGreatDoor

/-
  One attribute more is taken in: kinds 7, 8, 18, and those that are not known here; so all kinds, of wide numbers.
-/
namespace Go.Proofs.YtnaangnmlbgmkaaGreatDoor
set_option linter.unusedVariables false
set_option linter.unusedSimpArgs false
open Go.RowKit

set_option maxHeartbeats 1600000 in
theorem take7_step (B gx f B' : Nat) (S T : Rs) (A A2 : Option Addr) (c n2 c2 : Nat) (l r : List UInt8) (b : Bool) (W : World) (h : RdI B gx true S W) (ht : TabK W) (ho : Own W B' 5 (.slice A l.length c) l) (hc : l.length ≤ c) (hm : c ≤ maxLen) (hl : l.length ≤ 1000000) (hs : stepF true S ⟨f, 7, l, r, b⟩ = some T) :
    Calls Tryz.prog 62 #[.pointer (some ⟨gx, 0, none⟩), .agg #[.int .i64 (f : Int), .int .i64 (7 : Int), .slice A l.length c, .slice A2 n2 c2]] W (TakePost4 B gx true S T W) := by
  obtain ⟨hk, ⟨hf, hn⟩, hT⟩ := inv7 hs
  subst hT
  have hn8 : l.length = 8 := by simpa using hn
  obtain ⟨pv, cv, rv, kv, wv, av, h1, h2⟩ := h
  refine take_known gx true _ f 192 7 192 6 8 0 A A2 c n2 c2 l W _ h1 ht rfl (by decide) rfl hf (fun W1 => by rw [hn8]; exact fits_wide _ _ 6 _ 8 W1 rfl (by decide)) (fun W2 W3 q kr hg => rdI_fault q kr (by have := h1.lt; omega) hg) (fun W1 hb hz => ?_)
  refine (say7_any gx B' _ _ _ _ _ _ _ _ _ _ _ _ _ _ (f : Int) A A2 c n2 c2 l W1 (h1.below hb h1.lt) (Own.below ho hb) hc hm hn8).mono fun e W2 hp => ?_
  obtain ⟨rfl, hb2, hg2⟩ := hp
  have h3 := rows_keep (h2.below hb) (h1.below hb h1.lt) hg2
  refine ⟨rfl, hg2, pv, cv, rv, kv, wv, av, ?_, ⟨h3.path, h3.comms, h3.raws, h3.kinds, h3.wpath, h3.aggr, h3.cnil⟩⟩
  rw [show l.length - 4 = 4 by omega]
  exact hb2
set_option maxHeartbeats 1600000 in
theorem take18_step (B gx f B' : Nat) (wide : Bool) (S T : Rs) (A A2 : Option Addr) (c n2 c2 : Nat) (l r : List UInt8) (b : Bool) (W : World) (h : RdI B gx wide S W) (ht : TabK W) (ho : Own W B' 5 (.slice A l.length c) l) (hc : l.length ≤ c) (hm : c ≤ maxLen) (hl : l.length ≤ 1000000) (hs : stepF wide S ⟨f, 18, l, r, b⟩ = some T) :
    Calls Tryz.prog 62 #[.pointer (some ⟨gx, 0, none⟩), .agg #[.int .i64 (f : Int), .int .i64 (18 : Int), .slice A l.length c, .slice A2 n2 c2]] W (TakePost4 B gx wide S T W) := by
  obtain ⟨hk, hf, hT⟩ := inv18 hs
  subst hT
  obtain ⟨pv, cv, rv, kv, wv, av, h1, h2⟩ := h
  refine take_known gx wide _ f 192 18 192 0 0 1 A A2 c n2 c2 l W _ h1 ht rfl (by decide) rfl hf (fun W1 => fits_unit _ _ _ _ 1 l.length wide W1 (by decide) (by decide) (by simp) hl) (fun W2 W3 q kr hg => rdI_fault q kr (by have := h1.lt; omega) hg) (fun W1 hb hz => ?_)
  refine (say18_any gx wide _ _ _ _ _ _ _ _ _ _ _ _ _ _ (f : Int) A A2 c n2 c2 l W1 (h1.below hb h1.lt) (Own.bytes (Own.below ho hb)) hc hm).mono fun e W2 hp => ?_
  obtain ⟨rfl, hb2, hg2⟩ := hp
  have h3 := rows_keep (h2.below hb) (h1.below hb h1.lt) hg2
  have ho3 := row_keep (Own.below ho hb) (h1.below hb h1.lt) (by decide) hg2
  exact ⟨rfl, hg2, pv, cv, rv, kv, wv, _, hb2, ⟨h3.path, h3.comms, h3.raws, h3.kinds, h3.wpath, ⟨B', ho3⟩, h3.cnil⟩⟩
set_option maxHeartbeats 1600000 in
theorem take8_step (B gx f : Nat) (wide : Bool) (S T : Rs) (A A2 : Option Addr) (c n2 c2 : Nat) (l r : List UInt8) (b : Bool) (W : World) (h : RdI B gx wide S W) (ht : TabK W) (hy : Bytes W A l) (hc : l.length ≤ c) (hm : c ≤ maxLen) (hl : l.length ≤ 1000000) (hs : stepF wide S ⟨f, 8, l, r, b⟩ = some T) (h0 : S.comms = []) :
    Calls Tryz.prog 62 #[.pointer (some ⟨gx, 0, none⟩), .agg #[.int .i64 (f : Int), .int .i64 (8 : Int), .slice A l.length c, .slice A2 n2 c2]] W (TakePost4 B gx wide S T W) := by
  obtain ⟨hk, ⟨hf, hn4, hn⟩, hT⟩ := inv8 hs
  subst hT
  obtain ⟨pv, cv, rv, kv, wv, av, h1, h2⟩ := h
  obtain rfl := h2.cnil h0
  have hmod : ((l.length : Int) % 4 == 0) = true := by
    have : (l.length : Int) % 4 = 0 := by omega
    simpa using this
  refine take_known gx wide _ f 192 8 192 0 0 4 A A2 c n2 c2 l W _ h1 ht rfl (by decide) rfl hf (fun W1 => fits_unit _ _ _ _ 4 l.length wide W1 (by decide) (by decide) hmod hl) (fun W2 W3 q kr hg => rdI_fault q kr (by have := h1.lt; omega) hg) (fun W1 hb hz => ?_)
  refine (say8_any gx wide _ _ _ _ _ _ _ _ _ _ _ _ _ (f : Int) A A2 c n2 c2 l W1 (h1.below hb h1.lt) (hy.below hb) hc hm ⟨hn4, hn⟩).mono fun e W2 hp => ?_
  obtain ⟨v, ⟨rfl, hb2, hg2⟩, ho, hnil⟩ := hp
  have h3 := rows_keep (h2.below hb) (h1.below hb h1.lt) hg2
  refine ⟨rfl, hg2, pv, v, rv, kv, wv, av, hb2, ⟨h3.path, ⟨W1.heap.size + 3, ?_⟩, h3.raws, h3.kinds, h3.wpath, h3.aggr, fun e => hnil ?_⟩⟩
  · show Own32 W2 (W1.heap.size + 3) v (S.comms ++ nums4 l)
    rw [h0, List.nil_append]
    exact ho
  · have e' : S.comms ++ nums4 l = [] := e
    rw [h0, List.nil_append] at e'
    exact e'
set_option maxRecDepth 100000 in
set_option maxHeartbeats 6400000 in
theorem keepU_any (B gx f k : Nat) (wide : Bool) (S : Rs) (A A2 : Option Addr) (c n2 c2 B' : Nat) (l : List UInt8) (W : World) (hB : B ≤ gx) (hB2 : B ≤ W.heap.size) (h : RdI B gx wide S W) (ho : Own W B' 5 (.slice A l.length c) l) (hc : l.length ≤ c) (hm : c ≤ maxLen) (hf : flOk f 224 = true) (hl : l.length ≤ 64) (h8 : S.raws.length < 8) (hr : ∀ r ∈ S.raws, r.2.1 < (k : Int)) :
    Calls Tryz.prog 100 #[.pointer (some ⟨gx, 0, none⟩), .agg #[.int .i64 (f : Int), .int .i64 (k : Int), .slice A l.length c, .slice A2 n2 c2]] W (TakeAny B gx wide S { S with raws := S.raws ++ [(224, (k : Int), l)] } W) := by
  obtain ⟨pv, cv, rv, kv, wv, av, h1, h2⟩ := h
  obtain ⟨L, hro, hra⟩ := h2.raws
  obtain ⟨rA, rc, hrv, hr1, hr2⟩ := own_form hro.row
  subst hrv
  have hL8 : L.length < 8 := by rw [← hra, List.length_map] at h8; exact h8
  have hLk : ∀ s ∈ L, s.ty < (k : Int) := fun s hs => by
    have := hr s.abs (by rw [← hra]; exact List.mem_map_of_mem hs)
    exact this
  have hf2 : f = 224 ∨ f = 240 := by
    unfold flOk at hf
    simpa using hf
  obtain ⟨W0, hW0⟩ : ∃ W0, W0 = (W.alloc (.cells #[.int .i64 (f : Int), .int .i64 (k : Int), .slice A l.length c, .slice A2 n2 c2] 101)).alloc (.cells #[.int .i64 0, .int .i64 0, .slice none 0 0] 43) := ⟨_, rfl⟩
  have hb1 : Below W.heap.size W W0 := by rw [hW0]; exact ((Below.refl _ _).alloc (Nat.le_refl _) _).alloc (by simp) _
  have kp : Blk W0 W.heap.size 101 [.int .i64 (f : Int), .int .i64 (k : Int), .slice A l.length c, .slice A2 n2 c2] := by
    rw [hW0]
    exact (Blk.new W _ _).below ((Below.refl _ _).alloc (Nat.le_refl _) _) (by simp)
  have kf : Blk W0 (W.heap.size + 1) 43 [.int .i64 0, .int .i64 0, .slice none 0 0] := by
    have := Blk.new (W.alloc (.cells #[.int .i64 (f : Int), .int .i64 (k : Int), .slice A l.length c, .slice A2 n2 c2] 101)) 43 [.int .i64 0, .int .i64 0, .slice none 0 0]
    rw [hW0]
    simpa using this
  have hin : RwIn W0 W0.heap.size rA L := (RwIn.below (rw_own hro) hb1 (Nat.le_refl _)).lift hb1.size
  have QS := Lib.hid (SearchEnd_any rA rc L (k : Int) W0 hin hr1 (by omega) hLk)
  have kx0 := h1.below hb1 h1.lt
  have c11 : W0.cell? ⟨gx, 11, none⟩ = some (.slice rA L.length rc) := kx0.cell 11
  have p0 : W0.cell? ⟨W.heap.size, 0, none⟩ = some (.int .i64 (f : Int)) := kp.cell 0
  have p1 : W0.cell? ⟨W.heap.size, 1, none⟩ = some (.int .i64 (k : Int)) := kp.cell 1
  have p2 : W0.cell? ⟨W.heap.size, 2, none⟩ = some (.slice A l.length c) := kp.cell 2
  have b1 : bits .and .i64 (f : Int) 128 = 128 := by rcases hf2 with rfl | rfl <;> kernel_rfl
  have b2 : bits .and .i64 (f : Int) 64 = 64 := by rcases hf2 with rfl | rfl <;> kernel_rfl
  have hd1 : decide ((64 : Int) < (l.length : Int)) = false := decide_eq_false (by omega)
  have hl64 : ¬ (64 : Int) < (l.length : Int) := by omega
  have hL88 : ¬ (8 : Int) ≤ (L.length : Int) := by omega
  have hgx : gx < W.heap.size := h1.lt
  have HKP := Lib.hid kp; have HKF := Lib.hid kf; have HKX := Lib.hid kx0; have HB1 := Lib.hid hb1; have HW0 := Lib.hid hW0
  have HRO := Lib.hid hro; have HRA := Lib.hid hra; have HR := Lib.hid (And.intro hr1 hr2); have HL8 := Lib.hid hL8
  have HRW := Lib.hid h2; have HOW := Lib.hid ho; have HBB := Lib.hid (And.intro hB hB2); have HGX := Lib.hid hgx; have HCM := Lib.hid (And.intro hc hm)
  clear hin kx0 kp kf hb1 hW0 hro hra hr1 hr2 hL8 hLk h1 h2 ho hB hB2 hc hm hf hl h8 hr hf2 hgx
  go_enter Tryz.func100, Tryz.ntmps100
  go_wp2_with (rw [← HW0.out])
  refine QS.out.mono ?_
  rintro e w1 ⟨rfl, hb2⟩
  have hb01 := HB1.out.trans (hb2.mono HB1.out.size)
  have kp1 := HKP.out.below hb2 HKP.out.lt
  have q1 : w1.cell? ⟨W.heap.size, 1, none⟩ = some (.int .i64 (k : Int)) := kp1.cell 1
  have q2 : w1.cell? ⟨W.heap.size, 2, none⟩ = some (.slice A l.length c) := kp1.cell 2
  have row1 := row_below HRO.out.row hb01
  have QI := Lib.hid (InsertEnd_any B rA L.length rc (flatR L) [.int .i64 224, .int .i64 (k : Int), .slice A l.length c] w1 row1 (by have := HL8.out; omega) HR.out.1 HR.out.2 rfl (by intro u hu; simp at hu; rcases hu with rfl | rfl | rfl <;> rfl) (Nat.le_trans HBB.out.2 hb01.size))
  have HB01 := Lib.hid hb01; have HROW := Lib.hid row1
  have HKX1 := Lib.hid (HKX.out.below hb2 HKX.out.lt); have HKF1 := Lib.hid (HKF.out.below hb2 HKF.out.lt)
  clear hb01 hb2 kp1 row1 c11 p0 p1 p2 QS
  go_wp2_with fail
  refine QI.out.mono ?_
  rintro e w2 ⟨v2, rfl, ho2, hg2⟩
  obtain ⟨A6, n6, rfl, _, _⟩ := own_form ho2
  have kx2 := blk_row HKX1.out HROW.out (by decide) hg2
  have kf2 := blk_row HKF1.out HROW.out (by decide) hg2
  have x11 : w2.cell? ⟨gx, 11, none⟩ = some (.slice rA L.length rc) := kx2.cell 11
  have y11 : w2.frozen? ⟨gx, 11, none⟩ = false := kx2.free 11
  have hs11 : w2.grownBy (w2.setCell ⟨gx, 11, none⟩ (.slice A6 (L.length + 1) n6)) (some gx) := grown_setCell (grown_refl _ _) _ _
  have hne : W.heap.size + 1 ≠ gx := by have := HGX.out; omega
  have kf3 := kf2.grown hs11 hne
  have kx3 : Blk (w2.setCell ⟨gx, 11, none⟩ (.slice A6 (L.length + 1) n6)) gx 99 (rdRow wide S pv cv (.slice A6 (L.length + 1) n6) kv wv av) := kx2.set 11 (.slice A6 (L.length + 1) n6)
  have c3 := cells3 kf3
  have f3 := free3 kf3
  have r3 := cells3 (kf3.set3 (.int .i64 0) (.int .i64 0) (.slice none 0 0))
  have hs3 := grown_set3 (w2.setCell ⟨gx, 11, none⟩ (.slice A6 (L.length + 1) n6)) (W.heap.size + 1) (.int .i64 0) (.int .i64 0) (.slice none 0 0)
  have kx4 := kx3.grown hs3 (Ne.symm hne)
  have rw1 := HRW.out.below HB01.out
  have rows2 : RowsR B w2 { S with raws := S.raws ++ [(224, (k : Int), l)] } pv cv (.slice A6 (L.length + 1) n6) kv wv av := by
    obtain ⟨g1, ⟨B2, g2⟩, _, g4, g5, ⟨B6, g6⟩, g7⟩ := rw1
    refine ⟨g1.beside HROW.out (by decide) (by decide) hg2, ⟨B2, row_beside g2 HROW.out (by decide) hg2⟩, ⟨L ++ [⟨224, (k : Int), A, c, l⟩], ⟨?_, fun s hs => ?_⟩, ?_⟩, row_beside g4 HROW.out (by decide) hg2, g5.beside HROW.out (by decide) (by decide) hg2, ⟨B6, row_beside g6 HROW.out (by decide) hg2⟩, g7⟩
    · rw [List.length_append, show flatR (L ++ [⟨224, (k : Int), A, c, l⟩]) = flatR L ++ [.int .i64 224, .int .i64 (k : Int), .slice A l.length c] by simp [flatR]]
      exact ho2
    · rcases List.mem_append.1 hs with hs | hs
      · obtain ⟨⟨B9, q⟩, q'⟩ := HRO.out.each s hs
        exact ⟨⟨B9, row_beside (row_below q HB01.out) HROW.out (by decide) hg2⟩, q'⟩
      · obtain rfl := List.mem_singleton.1 hs
        exact ⟨⟨B', row_beside (row_below HOW.out HB01.out) HROW.out (by decide) hg2⟩, HCM.out⟩
    · rw [List.map_append, HRA.out]; rfl
  have rows4 := (rows_keep rows2 kx2 hs11).keep kf3 (by decide) (by decide) (by decide) (by decide) (by decide) hs3
  have HBE := Lib.hid (((((HB01.out.mono HBB.out.2).grown hg2 (Nat.le_trans HBB.out.2 HB01.out.size) (fun j hj => (World.ownsRow.lt HROW.out j hj).1)).grown hs11 (Nat.le_trans (Nat.le_trans HBB.out.2 HB01.out.size) hg2.size) (fun j hj => by cases hj; exact HBB.out.1)).grown hs3 (Nat.le_trans (Nat.le_trans (Nat.le_trans HBB.out.2 HB01.out.size) hg2.size) hs11.size) (fun j hj => by cases hj; have := HBB.out.2; omega)))
  have HKT := Lib.hid (show KeepT gx 77 W ((((w2.setCell ⟨gx, 11, none⟩ (.slice A6 (L.length + 1) n6)).setCell ⟨W.heap.size + 1, 0, none⟩ (.int .i64 0)).setCell ⟨W.heap.size + 1, 1, none⟩ (.int .i64 0)).setCell ⟨W.heap.size + 1, 2, none⟩ (.slice none 0 0)) from fun g T cs hg hT hk =>
    ((blk_row (hk.below HB01.out hk.lt) HROW.out (Ne.symm hT) hg2).grown hs11 hg).grown hs3 (by have := hk.lt; omega))
  have HX4 := Lib.hid kx4; have HR4 := Lib.hid rows4
  clear rw1 rows2 rows4 kx4 hs3 kf3 kx3 kx2 kf2 hs11 ho2 hg2 q1 q2 QI
  go_wp2_with fail
  refine bodyPost_ret (v := fault0) (by simp [results, Tryz.results100, go_sem, fault0, r3]) rfl ?_
  exact ⟨rfl, HBE.out, HKT.out, pv, cv, _, kv, wv, av, HX4.out, HR4.out⟩
set_option maxRecDepth 100000 in
set_option maxHeartbeats 6400000 in
theorem takeU_step (B gx f k B' : Nat) (wide : Bool) (S T : Rs) (A A2 : Option Addr) (c n2 c2 : Nat) (l r : List UInt8) (b : Bool) (W : World) (hB : B ≤ gx) (hB2 : B ≤ W.heap.size) (h : RdI B gx wide S W) (ht : TabK W) (ho : Own W B' 5 (.slice A l.length c) l) (hc : l.length ≤ c) (hm : c ≤ maxLen) (hn : (lookN (k : Int)).isNone = true) (hs : stepF wide S ⟨f, k, l, r, b⟩ = some T) :
    Calls Tryz.prog 62 #[.pointer (some ⟨gx, 0, none⟩), .agg #[.int .i64 (f : Int), .int .i64 (k : Int), .slice A l.length c, .slice A2 n2 c2]] W (TakeAny B gx wide S T W) := by
  obtain ⟨hk, ⟨_, hf, hl, h8, hr⟩, hT⟩ := invR hn hs
  subst hT
  obtain ⟨W0, hW0⟩ : ∃ W0, W0 = (W.alloc (.cells #[.int .i64 (f : Int), .int .i64 (k : Int), .slice A l.length c, .slice A2 n2 c2] 101)).alloc (.cells #[.int .i64 0, .int .i64 0, .slice none 0 0] 43) := ⟨_, rfl⟩
  have hb1 : Below W.heap.size W W0 := by rw [hW0]; exact ((Below.refl _ _).alloc (Nat.le_refl _) _).alloc (by simp) _
  have kp : Blk W0 W.heap.size 101 [.int .i64 (f : Int), .int .i64 (k : Int), .slice A l.length c, .slice A2 n2 c2] := by
    rw [hW0]
    exact (Blk.new W _ _).below ((Below.refl _ _).alloc (Nat.le_refl _) _) (by simp)
  have kf : Blk W0 (W.heap.size + 1) 43 [.int .i64 0, .int .i64 0, .slice none 0 0] := by
    have := Blk.new (W.alloc (.cells #[.int .i64 (f : Int), .int .i64 (k : Int), .slice A l.length c, .slice A2 n2 c2] 101)) 43 [.int .i64 0, .int .i64 0, .slice none 0 0]
    rw [hW0]
    simpa using this
  have QL := Lib.hid (lookOf_any (k : Int) W0 (ht.below hb1 ht.lt))
  rw [show lookN (k : Int) = none from by simpa using hn] at QL
  unfold retLook at QL
  have p1 : W0.cell? ⟨W.heap.size, 1, none⟩ = some (.int .i64 (k : Int)) := kp.cell 1
  have hgx : gx < W.heap.size := by obtain ⟨_, _, _, _, _, _, h1, _⟩ := h; exact h1.lt
  have HP := Lib.hid kp; have HF := Lib.hid kf; have HB1 := Lib.hid hb1; have HW0 := Lib.hid hW0; have HGX := Lib.hid hgx
  have HI := Lib.hid h; have HOW := Lib.hid ho; have HBB := Lib.hid (And.intro hB hB2)
  have QK := Lib.hid (fun (W1 : World) (hb : Below W.heap.size W W1) => keepU_any B gx f k wide S A A2 c n2 c2 B' l W1 hB (Nat.le_trans hB2 hb.size) (h.below hb) (Own.below ho hb) hc hm hf hl h8 hr)
  clear hb1 kp kf hW0 hgx h ho hB hB2 hc hm hf hl h8 hr ht hk hs hn
  go_enter Tryz.func62, Tryz.ntmps62
  go_wp2_with (rw [← HW0.out])
  refine QL.out.mono ?_
  rintro e w1 ⟨rfl, hb⟩
  have hb2 : Below W0.heap.size W0 (w1.alloc (.cells #[.int .i64 0, .int .i64 0, .int .i64 0, .int .i64 0, .int .i64 0] 121)) := hb.alloc hb.size _
  have kp1 := HP.out.below hb2 HP.out.lt
  have pp := cells4 kp1
  have HB2 := Lib.hid (HB1.out.trans (hb2.mono HB1.out.size)); have HF1 := Lib.hid (HF.out.below hb2 HF.out.lt)
  clear hb hb2 kp1 p1 QL
  go_wp2_with fail
  refine (QK.out _ HB2.out).mono ?_
  rintro e w4 ⟨rfl, hb4, hk4, hI4⟩
  have kf4 := hk4 _ _ _ (by have := HGX.out; omega) (by decide) HF1.out
  have c3 := cells3 kf4
  have f3 := free3 kf4
  have r3 := cells3 (kf4.set3 (.int .i64 0) (.int .i64 0) (.slice none 0 0))
  have hs3 := grown_set3 w4 (W.heap.size + 1) (.int .i64 0) (.int .i64 0) (.slice none 0 0)
  have HBE := Lib.hid (((HB2.out.mono HBB.out.2).trans hb4).grown hs3 (Nat.le_trans (Nat.le_trans HBB.out.2 HB2.out.size) hb4.size) (fun j hj => by cases hj; have := HBB.out.2; omega))
  have HKT := Lib.hid (show KeepT gx 77 W (((w4.setCell ⟨W.heap.size + 1, 0, none⟩ (.int .i64 0)).setCell ⟨W.heap.size + 1, 1, none⟩ (.int .i64 0)).setCell ⟨W.heap.size + 1, 2, none⟩ (.slice none 0 0)) from fun g T cs hg hT hk =>
    (hk4 g T cs hg hT (hk.below HB2.out hk.lt)).grown hs3 (by have := hk.lt; omega))
  have HIE := Lib.hid (rdI_fault hI4 kf4 (by have := HGX.out; omega) hs3)
  clear hb4 hk4 hI4 kf4 hs3 pp QK
  unfold fault0
  go_wp2_with fail
  refine bodyPost_ret (v := fault0) (by simp [results, Tryz.results62, go_sem, fault0, r3]) rfl ?_
  exact ⟨rfl, HBE.out, HKT.out, HIE.out⟩
/-- All kinds, of wide numbers. -/
theorem steps_wide (B : Nat) : Steps (fun _ => true) B true := by
  intro gx f k S T A A2 c n2 c2 B' v r b W _ hB hB2 hI ht ho hc hm hl hs h8
  have hy := ho.bytes
  by_cases hn : (lookN (k : Int)).isNone = true
  · exact takeU_step B gx f k B' true S T A A2 c n2 c2 v r b W hB hB2 hI ht ho hc hm hn hs
  · have hk : k = 1 ∨ k = 2 ∨ k = 3 ∨ k = 4 ∨ k = 5 ∨ k = 6 ∨ k = 7 ∨ k = 8 ∨ k = 17 ∨ k = 18 := by
      apply Decidable.byContradiction
      intro hno
      apply hn
      rw [look_none (k := (k : Int))]
      · rfl
      · intro i x hi hx e
        rcases (show i = 0 ∨ i = 1 ∨ i = 2 ∨ i = 3 ∨ i = 4 ∨ i = 5 ∨ i = 6 ∨ i = 7 ∨ i = 8 ∨ i = 9 by omega) with rfl | rfl | rfl | rfl | rfl | rfl | rfl | rfl | rfl | rfl <;> (simp [looksL] at hx; subst hx; simp at e; omega)
    rcases hk with rfl | rfl | rfl | rfl | rfl | rfl | rfl | rfl | rfl | rfl
    · exact (take1_step B gx f true S T A A2 c n2 c2 v r b W hI ht hy hc hm hl hs).mono fun e W' h => h.all hB hB2
    · exact (take2_step B gx f true S T A A2 c n2 c2 v r b W hI ht hy hc hm hl hs).mono fun e W' h => h.all hB hB2
    · exact (take3_step B gx f true S T A A2 c n2 c2 v r b W hI ht hy hc hm hl hs).mono fun e W' h => h.all hB hB2
    · exact (take4_step B gx f true S T A A2 c n2 c2 v r b W hI ht hy hc hm hl hs).mono fun e W' h => h.all hB hB2
    · exact (take5_step B gx f true S T A A2 c n2 c2 v r b W hI ht hy hc hm hl hs).mono fun e W' h => h.all hB hB2
    · exact (take6_step B gx f true S T A A2 c n2 c2 v r b W hI ht hy hc hm hl hs).mono fun e W' h => h.all hB hB2
    · exact (take7_step B gx f B' S T A A2 c n2 c2 v r b W hI ht ho hc hm hl hs).mono fun e W' h => h.all hB hB2
    · exact (take8_step B gx f true S T A A2 c n2 c2 v r b W hI ht hy hc hm hl hs (h8 rfl)).mono fun e W' h => h.all hB hB2
    · exact (take17_step B gx f true S T A A2 c n2 c2 v r b W hI ht hy hc hm hl hs).mono fun e W' h => h.all hB hB2
    · exact (take18_step B gx f B' true S T A A2 c n2 c2 v r b W hI ht ho hc hm hl hs).mono fun e W' h => h.all hB hB2
end Go.Proofs.YtnaangnmlbgmkaaGreatDoor

/-
  P4.4: right attributes whose next one may be, put wide, are read as they were: the walk.
-/
namespace Go.Proofs.YtnaangnmlbgmkaaGreatDoor
set_option linter.unusedVariables false
set_option linter.unusedSimpArgs false
open Go.RowKit

theorem okB_all {a : Av} (h : a.okB = true) : 0 ≤ a.org ∧ a.org ≤ 2 ∧ rightB a.path = true ∧ a.path.length ≤ 8 ∧ totN a.path ≤ 64 ∧ (-1 ≤ a.med ∧ a.med ≤ 4294967295) ∧ (-1 ≤ a.pref ∧ a.pref ≤ 4294967295) ∧ (a.has = false → a.aas = 0 ∧ a.aad = 0) ∧ a.comms.length ≤ 32 ∧ rawsF (-1) (a.raws.map Rw.abs) = true ∧ a.raws.length ≤ 8 := by
  have h0 := h
  unfold Av.okB at h0
  unfold Av.okB rightB saidB at h
  simp only [Bool.and_eq_true, decide_eq_true_eq] at h h0
  obtain ⟨⟨⟨⟨⟨⟨⟨h1, h2⟩, h3, _, h4⟩, h5, h6⟩, h7, h8⟩, hh⟩, h9⟩, h10, h11⟩ := h
  obtain ⟨⟨⟨⟨⟨⟨_, hr⟩, _⟩, _⟩, _⟩, _⟩, _⟩ := h0
  refine ⟨h1, h2, hr, h3, h4, ⟨h5, h6⟩, ⟨h7, h8⟩, fun e => ?_, h9, h10, h11⟩
  rw [e] at hh
  simpa using hh
theorem raws_small : ∀ (L : List Rw) (b : Int), rawsF b (L.map Rw.abs) = true → ∀ s ∈ L, s.data.length ≤ 64
  | [], _, _, s, hs => by cases hs
  | x :: L, b, h, s, hs => by
    simp only [List.map_cons, rawsF, rawOk, Rw.abs, Bool.and_eq_true, decide_eq_true_eq] at h
    obtain ⟨⟨_, h4⟩, h5⟩ := h
    rcases List.mem_cons.1 hs with rfl | hs
    · exact h4
    · exact raws_small L x.ty h5 s hs
theorem u32_wrap_of (n : Int) (h : -1 ≤ n ∧ n ≤ 4294967295) : ∃ m : Nat, IntKind.u32.wrap n = (m : Int) ∧ m < 4294967296 ∧ (0 ≤ n → n = (m : Int)) := by
  refine ⟨(IntKind.u32.wrap n).toNat, ?_, ?_, ?_⟩
  · rw [IntKind.wrap_u32]; omega
  · rw [IntKind.wrap_u32]; omega
  · rw [IntKind.wrap_u32]; omega
theorem putA_small (org next sa ad : Nat) (path : List Sg) (med pref : Int) (mm mp : Nat) (atomic has : Bool) (comms : List Nat) (raws : List Rw) (h3 : path.length ≤ 8) (h4 : totN path ≤ 64) (h5 : comms.length ≤ 32) (h6 : raws.length ≤ 8) (h7 : ∀ s ∈ raws, s.data.length ≤ 64) (wide : Bool) :
    (putA org next sa ad path med pref mm mp atomic has comms raws wide).length ≤ 100000 := by
  have p1 := putB_len wide path
  have p2 := putB_len true path
  have q1 := numsB_len true [next]
  have q2 := numsB_len true [mm]
  have q3 := numsB_len true [mp]
  have q4 := numsB_len true comms
  have q5 := aggrB_len wide sa ad
  have q6 := aggrB_len true sa ad
  have q7 := rawsB_len raws h7
  have o1 := oneB_len true 64 1 [UInt8.ofNat org]
  have o2 := oneB_len true 64 2 (putB wide path)
  have o3 := oneB_len true 64 3 (numsB true [next])
  have o4 := oneB_len (decide (0 ≤ med)) 128 4 (numsB true [mm])
  have o5 := oneB_len (decide (0 ≤ pref)) 64 5 (numsB true [mp])
  have o6 := oneB_len atomic 64 6 []
  have o7 := oneB_len has 192 7 (aggrB wide sa ad)
  have o8 := oneB_len (decide (0 < comms.length)) 192 8 (numsB true comms)
  have o9 := oneB_len (!wide && bigs (flatN path)) 192 17 (putB true path)
  have o10 := oneB_len (!wide && bigB sa) 192 18 (aggrB true sa ad)
  unfold putA
  simp only [List.length_append, List.length_cons, List.length_nil] at *
  omega
/-- Attributes that may be, put wide: what is read of it is the same. -/
theorem back_all (a : Av) (w : World) (ht : TabK w) (ha : AvArg w a) (hok : a.okB = true) (N : Nat) (hN : a.next = (N : Int)) (hnb : nextB N = true) :
    ∃ (d : List UInt8) (Sf : Rs), (∀ W, Below w.heap.size w W → Calls Tryz.prog 44 #[.agg a.row.toArray, .bool true] W (RetPut W d)) ∧ RunK (fun _ => true) true d rs0 Sf ∧ d.length ≤ 100000 ∧
      ∀ x : Av, x.org = (Sf.org : Int) → x.path.map Sg.abs = Sf.path → x.next = (Sf.next : Int) → x.med = Sf.med → x.pref = Sf.pref → x.atomic = Sf.atomic → x.has = Sf.has → x.aas = (Sf.aas : Int) → x.aad = (Sf.aad : Int) → x.comms = Sf.comms → x.raws.map Rw.abs = Sf.raws → x.same a = true ∧ x.path.length = a.path.length ∧ x.raws.length = a.raws.length := by
  obtain ⟨h1, h2, hr, h3, h4, h5, h6, hha, h7, h8, h9⟩ := okB_all hok
  have hre := raws_small a.raws (-1) h8
  obtain ⟨hin, hcm, hfit, _, hnx, haa, had, _, _, _⟩ := ha
  obtain ⟨org, pa, pc, path, next, med, pref, atomic, has, aas, aad, ca, cc, comms, ra, rc, raws⟩ := a
  dsimp only at h1 h2 hr h3 h4 h5 h6 hha h7 h8 h9 hre hcm hfit hnx haa had hN
  obtain ⟨O, rfl⟩ := Int.eq_ofNat_of_zero_le h1
  obtain ⟨SA, rfl⟩ := Int.eq_ofNat_of_zero_le haa.1
  obtain ⟨AD, rfl⟩ := Int.eq_ofNat_of_zero_le had.1
  subst hN
  obtain ⟨mm, hwm, hmm, hm2⟩ := u32_wrap_of med h5
  obtain ⟨mp, hwp, hmp, hp2⟩ := u32_wrap_of pref h6
  obtain ⟨ks, n, hrun⟩ := back4 O N SA AD path med pref mm mp atomic has comms raws true (by omega) hr (fun s hs => (hfit s hs).1) hnb (by omega) h5.1 hm2 hmm h6.1 hp2 hmp (fun e => by have := hha e; omega) (by omega) (by omega) h7 hcm h8 h9
  refine ⟨_, _, fun W q => PutA_ok O N SA AD pa pc path med pref atomic has ca cc comms ra rc raws mm mp true W (ht.below q ht.lt) ((hin.below q (Nat.le_refl _)).lift q.size) hok (by omega) (by omega) (by omega) (by omega) hwm hmm hwp hmp (by omega) (by omega) (by omega) hcm (by omega) hre, ⟨n, Runs.all n _ _ _ hrun⟩, putA_small _ _ _ _ _ _ _ _ _ _ _ _ _ h3 h4 h7 h9 hre true, ?_⟩
  intro x e1 e2 e3 e4 e5 e6 e7 e8 e9 e10 e11
  have hpath : path.map (narS true) = path.map Sg.abs := List.map_congr_left fun s _ => by
    unfold narS Sg.abs
    rw [show s.nums.map (nar true) = s.nums from by rw [show nar true = id from funext nar_wide]; exact List.map_id _]
  dsimp only at e1 e2 e3 e4 e5 e6 e7 e8 e9 e10 e11
  rw [hpath] at e2
  rw [nar_wide] at e8
  refine ⟨?_, by have := congrArg List.length e2; simpa using this, by have := congrArg List.length e11; simpa using this⟩
  unfold Av.same sameP sameRs
  dsimp only
  rw [e1, e3, e4, e5, e6, e7, e8, e9, e10, decide_eq_true e2, decide_eq_true e11]
  simp [sameZ]
theorem below_two7 {w w1 w2 : World} (h : Below w.heap.size w w1) (k : Below w1.heap.size w1 w2) : Below w.heap.size w w2 := h.trans (k.mono h.size)
end Go.Proofs.YtnaangnmlbgmkaaGreatDoor
