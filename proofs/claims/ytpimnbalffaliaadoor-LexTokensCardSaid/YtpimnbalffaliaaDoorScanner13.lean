/-
  The steps of the scanner (written by gen13s.py).
-/
import Derived.Test.YtpimnbalffaliaaDoorScanB13
import Derived.Test.YtpimnbalffaliaaDoorScanC13
namespace Go.Proofs.YtpimnbalffaliaaDoor
set_option linter.unusedVariables false
set_option linter.unusedSimpArgs false
open Go.RowKit Go.Lib

set_option maxHeartbeats 3200000 in
theorem take_any (B g c : Nat) (b : List UInt8) (s : Sc) (w : World) (h : ScAt w B g s) (he : Utf8.encode (c : Int) = ⟨b.toArray⟩) (h1 : s.text.length ≤ 100000) (h2 : b.length ≤ 4) (h3 : s.words.length ≤ 100000) (ht : Tab w) (hst : s.st ≤ 5) :
    Calls Tryd.prog 22 #[.pointer (some ⟨g, 0, none⟩), .int .i32 (c : Int)] w (ScRet B g w (stepR s c b)) := by
  obtain ⟨_, _, c2, _, _, f2⟩ := h.cells
  rcases (show s.st = 0 ∨ s.st = 1 ∨ s.st = 2 ∨ s.st = 3 ∨ s.st = 4 ∨ s.st = 5 by omega) with k | k | k | k | k | k
  · have Q := Lib.hid (begin_any B g c b s w h he h1 h2 h3 ht k)
    rw [k] at c2
    clear h he ht hst k
    try clear k1
    try clear k2
    try clear k3
    go_enter Tryd.func22, Tryd.ntmps22
    go_wp2_with fail
    refine Q.out.mono ?_
    rintro e w1 ⟨rfl, s1, kp⟩
    have S1 := Lib.hid s1; have KP := Lib.hid kp; clear s1 kp
    go_wp2_with fail
    first | go_end0 | refine bodyPost_ret (results_none rfl _ _ _) rfl ?_
    exact ⟨rfl, S1.out, KP.out⟩
  · have Q := Lib.hid (goOn_any B g c b s w h he h1 h2 h3 ht k)
    rw [k] at c2
    clear h he ht hst k
    try clear k1
    try clear k2
    try clear k3
    go_enter Tryd.func22, Tryd.ntmps22
    go_wp2_with fail
    refine Q.out.mono ?_
    rintro e w1 ⟨rfl, s1, kp⟩
    have S1 := Lib.hid s1; have KP := Lib.hid kp; clear s1 kp
    go_wp2_with fail
    first | go_end0 | refine bodyPost_ret (results_none rfl _ _ _) rfl ?_
    exact ⟨rfl, S1.out, KP.out⟩
  · have Q := Lib.hid (within_any B g c b s w h he h1 h2 h3 ht k)
    rw [k] at c2
    clear h he ht hst k
    try clear k1
    try clear k2
    try clear k3
    go_enter Tryd.func22, Tryd.ntmps22
    go_wp2_with fail
    refine Q.out.mono ?_
    rintro e w1 ⟨rfl, s1, kp⟩
    have S1 := Lib.hid s1; have KP := Lib.hid kp; clear s1 kp
    go_wp2_with fail
    first | go_end0 | refine bodyPost_ret (results_none rfl _ _ _) rfl ?_
    exact ⟨rfl, S1.out, KP.out⟩
  · have Q := Lib.hid (stand_any B g c b s w h he h1 h2 h3 ht k)
    rw [k] at c2
    clear h he ht hst k
    try clear k1
    try clear k2
    try clear k3
    go_enter Tryd.func22, Tryd.ntmps22
    go_wp2_with fail
    refine Q.out.mono ?_
    rintro e w1 ⟨rfl, s1, kp⟩
    have S1 := Lib.hid s1; have KP := Lib.hid kp; clear s1 kp
    go_wp2_with fail
    first | go_end0 | refine bodyPost_ret (results_none rfl _ _ _) rfl ?_
    exact ⟨rfl, S1.out, KP.out⟩
  · have Q := Lib.hid (behind_any B g c b s w h he h1 h2 h3 ht k)
    rw [k] at c2
    clear h he ht hst k
    try clear k1
    try clear k2
    try clear k3
    go_enter Tryd.func22, Tryd.ntmps22
    go_wp2_with fail
    refine Q.out.mono ?_
    rintro e w1 ⟨rfl, s1, kp⟩
    have S1 := Lib.hid s1; have KP := Lib.hid kp; clear s1 kp
    go_wp2_with fail
    first | go_end0 | refine bodyPost_ret (results_none rfl _ _ _) rfl ?_
    exact ⟨rfl, S1.out, KP.out⟩
  · rw [stepR5 k]
    have H := Lib.hid h
    rw [k] at c2
    clear h he ht hst k
    try clear k1
    try clear k2
    try clear k3
    go_enter Tryd.func22, Tryd.ntmps22
    go_wp2_with fail
    first | go_end0 | refine bodyPost_ret (results_none rfl _ _ _) rfl ?_
    exact ⟨rfl, H.out, KpS.refl B g w⟩
end Go.Proofs.YtpimnbalffaliaaDoor
