/-
  The steps of the scanner (written by gen13s.py).
-/
import Derived.Test.YtpimnbalffaliaaDoorScanA13
namespace Go.Proofs.YtpimnbalffaliaaDoor
set_option linter.unusedVariables false
set_option linter.unusedSimpArgs false
open Go.RowKit Go.Lib

set_option maxHeartbeats 3200000 in
theorem begin_any (B g c : Nat) (b : List UInt8) (s : Sc) (w : World) (h : ScAt w B g s) (he : Utf8.encode (c : Int) = ⟨b.toArray⟩) (h1 : s.text.length ≤ 100000) (h2 : b.length ≤ 4) (h3 : s.words.length ≤ 100000) (ht : Tab w) (hst : s.st = 0) :
    Calls Tryd.prog 35 #[.pointer (some ⟨g, 0, none⟩), .int .i32 (c : Int)] w (ScRet B g w (stepR s c b)) := by
  have H := Lib.hid h
  by_cases k1 : c = 32
  · have k2 : c ≠ 34 := by omega
    have k3 : c ≠ 92 := by omega
    have z32 : ((c : Int) == 32) = true := by simp; omega
    have hv : stepR s c b = s := by unfold stepR; simp [hst, k1, k2, k3]
    rw [hv]
    clear h he ht hst hv
    try clear k1
    try clear k2
    try clear k3
    go_enter Tryd.func35, Tryd.ntmps35
    go_wp2_with fail
    first | go_end0 | refine bodyPost_ret (results_none rfl _ _ _) rfl ?_
    exact ⟨rfl, H.out, KpS.refl B g w⟩
  · by_cases k2 : c = 34
    · have k3 : c ≠ 92 := by omega
      have z32 : ((c : Int) == 32) = false := by simp; omega
      have z34 : ((c : Int) == 34) = true := by simp; omega
      have hv : stepR s c b = s.to 2 := by unfold stepR; simp [hst, k1, k2, k3]
      rw [hv]
      obtain ⟨_, c1, c2, _, f1, f2⟩ := H.out.cells
      clear h he ht hst hv
      try clear k1
      try clear k2
      try clear k3
      go_enter Tryd.func35, Tryd.ntmps35
      go_wp2_with fail
      first | go_end0 | refine bodyPost_ret (results_none rfl _ _ _) rfl ?_
      exact ⟨rfl, H.out.state 2, (KpS.refl B g w).set _ _⟩
    · by_cases k3 : c = 92
      · have z32 : ((c : Int) == 32) = false := by simp; omega
        have z34 : ((c : Int) == 34) = false := by simp; omega
        have hv : stepR s c b = s.put b 1 := by unfold stepR; simp [hst, k1, k2, k3]
        rw [hv]
        have Q := Lib.hid (put_any B g c b s w h he h1 h2)
        clear h he ht hst hv
        try clear k1
        try clear k2
        try clear k3
        go_enter Tryd.func35, Tryd.ntmps35
        go_wp2_with fail
        refine Q.out.mono ?_
        rintro e w1 ⟨rfl, s1, kp⟩
        obtain ⟨_, c1, c2, _, f1, f2⟩ := s1.cells
        have S1 := Lib.hid s1; have KP := Lib.hid kp; clear s1 kp
        go_wp2_with fail
        first | go_end0 | refine bodyPost_ret (results_none rfl _ _ _) rfl ?_
        exact ⟨rfl, S1.out.state 1, KP.out.set _ _⟩
      · have z32 : ((c : Int) == 32) = false := by simp; omega
        have z34 : ((c : Int) == 34) = false := by simp; omega
        have hv : stepR s c b = s.put b 1 := by unfold stepR; simp [hst, k1, k2, k3]
        rw [hv]
        have Q := Lib.hid (put_any B g c b s w h he h1 h2)
        clear h he ht hst hv
        try clear k1
        try clear k2
        try clear k3
        go_enter Tryd.func35, Tryd.ntmps35
        go_wp2_with fail
        refine Q.out.mono ?_
        rintro e w1 ⟨rfl, s1, kp⟩
        obtain ⟨_, c1, c2, _, f1, f2⟩ := s1.cells
        have S1 := Lib.hid s1; have KP := Lib.hid kp; clear s1 kp
        go_wp2_with fail
        first | go_end0 | refine bodyPost_ret (results_none rfl _ _ _) rfl ?_
        exact ⟨rfl, S1.out.state 1, KP.out.set _ _⟩
set_option maxHeartbeats 3200000 in
theorem goOn_any (B g c : Nat) (b : List UInt8) (s : Sc) (w : World) (h : ScAt w B g s) (he : Utf8.encode (c : Int) = ⟨b.toArray⟩) (h1 : s.text.length ≤ 100000) (h2 : b.length ≤ 4) (h3 : s.words.length ≤ 100000) (ht : Tab w) (hst : s.st = 1) :
    Calls Tryd.prog 36 #[.pointer (some ⟨g, 0, none⟩), .int .i32 (c : Int)] w (ScRet B g w (stepR s c b)) := by
  have H := Lib.hid h
  by_cases k1 : c = 32
  · have k2 : c ≠ 34 := by omega
    have k3 : c ≠ 92 := by omega
    have z32 : ((c : Int) == 32) = true := by simp; omega
    have hv : stepR s c b = s.ends (plainT s.text) := by unfold stepR; simp [hst, k1, k2, k3]
    rw [hv]
    have Q := Lib.hid (value_any s.text w (by unfold maxLen; omega) ht)
    have Q2 := Lib.hid (end_any B g (plainT s.text) s w h h3)
    obtain ⟨_, c1, c2, _, f1, f2⟩ := H.out.cells
    generalize (plainT s.text) = T at Q Q2 ⊢
    generalize T.dyn.val = V at Q Q2
    clear h he ht hst hv
    try clear k1
    try clear k2
    try clear k3
    go_enter Tryd.func36, Tryd.ntmps36
    go_wp2_with fail
    refine Q.out.mono ?_
    rintro e w1 ⟨rfl, rfl⟩
    go_wp2_with fail
    refine Q2.out.mono ?_
    rintro e w1 ⟨rfl, s1, kp⟩
    have S1 := Lib.hid s1; have KP := Lib.hid kp; clear s1 kp
    go_wp2_with fail
    first | go_end0 | refine bodyPost_ret (results_none rfl _ _ _) rfl ?_
    exact ⟨rfl, S1.out, KP.out⟩
  · by_cases k2 : c = 34
    · have k3 : c ≠ 92 := by omega
      have z32 : ((c : Int) == 32) = false := by simp; omega
      have z34 : ((c : Int) == 34) = true := by simp; omega
      have hv : stepR s c b = s.to 5 := by unfold stepR; simp [hst, k1, k2, k3]
      rw [hv]
      obtain ⟨_, c1, c2, _, f1, f2⟩ := H.out.cells
      clear h he ht hst hv
      try clear k1
      try clear k2
      try clear k3
      go_enter Tryd.func36, Tryd.ntmps36
      go_wp2_with fail
      first | go_end0 | refine bodyPost_ret (results_none rfl _ _ _) rfl ?_
      exact ⟨rfl, H.out.state 5, (KpS.refl B g w).set _ _⟩
    · by_cases k3 : c = 92
      · have z32 : ((c : Int) == 32) = false := by simp; omega
        have z34 : ((c : Int) == 34) = false := by simp; omega
        have hv : stepR s c b = s.put b 1 := by unfold stepR; simp [hst, k1, k2, k3]
        rw [hv]
        have Q := Lib.hid (put_any B g c b s w h he h1 h2)
        rw [hst] at Q
        clear h he ht hst hv
        try clear k1
        try clear k2
        try clear k3
        go_enter Tryd.func36, Tryd.ntmps36
        go_wp2_with fail
        refine Q.out.mono ?_
        rintro e w1 ⟨rfl, s1, kp⟩
        have S1 := Lib.hid s1; have KP := Lib.hid kp; clear s1 kp
        go_wp2_with fail
        first | go_end0 | refine bodyPost_ret (results_none rfl _ _ _) rfl ?_
        exact ⟨rfl, S1.out, KP.out⟩
      · have z32 : ((c : Int) == 32) = false := by simp; omega
        have z34 : ((c : Int) == 34) = false := by simp; omega
        have hv : stepR s c b = s.put b 1 := by unfold stepR; simp [hst, k1, k2, k3]
        rw [hv]
        have Q := Lib.hid (put_any B g c b s w h he h1 h2)
        rw [hst] at Q
        clear h he ht hst hv
        try clear k1
        try clear k2
        try clear k3
        go_enter Tryd.func36, Tryd.ntmps36
        go_wp2_with fail
        refine Q.out.mono ?_
        rintro e w1 ⟨rfl, s1, kp⟩
        have S1 := Lib.hid s1; have KP := Lib.hid kp; clear s1 kp
        go_wp2_with fail
        first | go_end0 | refine bodyPost_ret (results_none rfl _ _ _) rfl ?_
        exact ⟨rfl, S1.out, KP.out⟩
set_option maxHeartbeats 3200000 in
theorem within_any (B g c : Nat) (b : List UInt8) (s : Sc) (w : World) (h : ScAt w B g s) (he : Utf8.encode (c : Int) = ⟨b.toArray⟩) (h1 : s.text.length ≤ 100000) (h2 : b.length ≤ 4) (h3 : s.words.length ≤ 100000) (ht : Tab w) (hst : s.st = 2) :
    Calls Tryd.prog 37 #[.pointer (some ⟨g, 0, none⟩), .int .i32 (c : Int)] w (ScRet B g w (stepR s c b)) := by
  have H := Lib.hid h
  by_cases k2 : c = 34
  · have k1 : c ≠ 32 := by omega
    have k3 : c ≠ 92 := by omega
    have z34 : ((c : Int) == 34) = true := by simp; omega
    have hv : stepR s c b = s.to 4 := by unfold stepR; simp [hst, k1, k2, k3]
    rw [hv]
    obtain ⟨_, c1, c2, _, f1, f2⟩ := H.out.cells
    clear h he ht hst hv
    try clear k1
    try clear k2
    try clear k3
    go_enter Tryd.func37, Tryd.ntmps37
    go_wp2_with fail
    first | go_end0 | refine bodyPost_ret (results_none rfl _ _ _) rfl ?_
    exact ⟨rfl, H.out.state 4, (KpS.refl B g w).set _ _⟩
  · by_cases k3 : c = 92
    · have k1 : c ≠ 32 := by omega
      have z34 : ((c : Int) == 34) = false := by simp; omega
      have z92 : ((c : Int) == 92) = true := by simp; omega
      have hv : stepR s c b = s.to 3 := by unfold stepR; simp [hst, k1, k2, k3]
      rw [hv]
      obtain ⟨_, c1, c2, _, f1, f2⟩ := H.out.cells
      clear h he ht hst hv
      try clear k1
      try clear k2
      try clear k3
      go_enter Tryd.func37, Tryd.ntmps37
      go_wp2_with fail
      first | go_end0 | refine bodyPost_ret (results_none rfl _ _ _) rfl ?_
      exact ⟨rfl, H.out.state 3, (KpS.refl B g w).set _ _⟩
    · by_cases k1 : c = 32
      · have z34 : ((c : Int) == 34) = false := by simp; omega
        have z92 : ((c : Int) == 92) = false := by simp; omega
        have hv : stepR s c b = s.put b 2 := by unfold stepR; simp [hst, k1, k2, k3]
        rw [hv]
        have Q := Lib.hid (put_any B g c b s w h he h1 h2)
        rw [hst] at Q
        clear h he ht hst hv
        try clear k1
        try clear k2
        try clear k3
        go_enter Tryd.func37, Tryd.ntmps37
        go_wp2_with fail
        refine Q.out.mono ?_
        rintro e w1 ⟨rfl, s1, kp⟩
        have S1 := Lib.hid s1; have KP := Lib.hid kp; clear s1 kp
        go_wp2_with fail
        first | go_end0 | refine bodyPost_ret (results_none rfl _ _ _) rfl ?_
        exact ⟨rfl, S1.out, KP.out⟩
      · have z34 : ((c : Int) == 34) = false := by simp; omega
        have z92 : ((c : Int) == 92) = false := by simp; omega
        have hv : stepR s c b = s.put b 2 := by unfold stepR; simp [hst, k1, k2, k3]
        rw [hv]
        have Q := Lib.hid (put_any B g c b s w h he h1 h2)
        rw [hst] at Q
        clear h he ht hst hv
        try clear k1
        try clear k2
        try clear k3
        go_enter Tryd.func37, Tryd.ntmps37
        go_wp2_with fail
        refine Q.out.mono ?_
        rintro e w1 ⟨rfl, s1, kp⟩
        have S1 := Lib.hid s1; have KP := Lib.hid kp; clear s1 kp
        go_wp2_with fail
        first | go_end0 | refine bodyPost_ret (results_none rfl _ _ _) rfl ?_
        exact ⟨rfl, S1.out, KP.out⟩
end Go.Proofs.YtpimnbalffaliaaDoor
