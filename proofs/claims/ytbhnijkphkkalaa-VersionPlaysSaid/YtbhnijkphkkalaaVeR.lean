/- VersionNew. (By gen_ver.py.) -/
import Derived.Test.YtbhnijkphkkalaaVeQ
namespace Go.Proofs.Ytbhnijkphkkalaa
open Go.ChangeShapes Go.WideShapes Go.ChangeAt Go.RowKit
set_option linter.unusedVariables false

theorem even_any (x : Int) (w : World) (h0 : 0 ≤ x) : Calls Try.prog 9 #[.int .u64 x] w (Ret (.bool (x % 2 == 0)) (fun w' => w = w')) := by
  by_cases hx : x % 2 = 0
  · rw [show (x % 2 == 0) = true by simpa using hx]; exact even_yes x w h0 hx
  · rw [show (x % 2 == 0) = false by simpa using hx]; exact even_no x w h0 hx
theorem bel {w w' : World} (h : Frm [] w w') : Below w.heap.size w w' := h.below (Nat.le_refl _) (fun x hx => by cases hx)
theorem u_nn {x : Int} (h : (Lit.int .u64 x).wf = true) : 0 ≤ x := by
  have e : IntKind.u64.min = 0 := rfl
  have := h; simp [Lit.wf] at this; omega

set_option maxRecDepth 100000 in
set_option maxHeartbeats 4000000 in
theorem new_no_no (v : Int) (h0 : 0 ≤ v) (L : Int) (F : Int) (n : Int) (tr : Int) {a : Option Addr} {m c b o : Nat} {l : List Int} (w : World) (hL : Li .u64 w a m c b o l) (hm : m ≤ 300) (hr : ¬ rOk L F n) (hw : ¬ rOk L F m) :
    Calls Try.prog 3 #[.int .u64 v, .int .i64 L, .int .i64 F, .int .i64 n, .int .i64 tr, .slice a m c] w (Ret (.bool true) (fun w' => Frm [] w w')) := by
  have d1 : decide ((300 : Int) < m) = false := by simp; omega
  have HN := Lib.hid (newRead_bad L F n tr w (fun h => hr h.1))
  have HG : Hid (∀ w, _) := Lib.hid (fun w => Right_no L F n w hr)
  have HR : Hid (∀ w, _) := Lib.hid (fun w => Right_no L F m w hw)
  have HL := Lib.hid hL
  have HW := Lib.hid hw
  have hmx : m ≤ maxLen := by unfold maxLen; omega
  have HMX := Lib.hid hmx
  clear hL hr hw hmx 
  go_enter Try.func3, Try.ntmps3
  go_wp2_with fail
  refine (even_any v _ h0).mono ?_
  rintro e w' ⟨rfl, rfl⟩
  go_wp2_with fail
  refine HN.out.mono ?_
  rintro e w1 ⟨rfl, hF⟩
  have HF := Lib.hid hF
  clear hF
  go_wp2_with fail
  refine (HG.out _).mono ?_
  rintro e w' ⟨rfl, rfl⟩
  have HX := Lib.hid (newWrite_bad (HL.out.frm0 HF.out) HMX.out L F HW.out)
  go_wp2_with fail
  refine HX.out.mono ?_
  rintro e w2 ⟨rfl, hF2⟩
  have HF2 := Lib.hid (HF.out.trans hF2)
  clear hF2 HX
  go_wp2_with fail
  refine (HR.out _).mono ?_
  rintro e w' ⟨rfl, rfl⟩
  go_wp2_with fail
  refine (known_true _).mono ?_
  rintro e w6 ⟨rfl, hF6⟩
  go_wp2
  go_ret
  exact ⟨rfl, HF2.out.trans hF6⟩

set_option maxRecDepth 100000 in
set_option maxHeartbeats 4000000 in
theorem new_no_yes (v : Int) (h0 : 0 ≤ v) (L : Nat) (F : Int) (n : Int) (tr : Int) {a : Option Addr} {m c b o : Nat} {l : List Int} (w : World) (hL : Li .u64 w a m c b o l) (hm : m ≤ 300) (hr : ¬ rOk L F n) (hw : rOk L F m) :
    Calls Try.prog 3 #[.int .u64 v, .int .i64 L, .int .i64 F, .int .i64 n, .int .i64 tr, .slice a m c] w (Ret (.bool true) (fun w' => Frm [] w w')) := by
  have d1 : decide ((300 : Int) < m) = false := by simp; omega
  have HN := Lib.hid (newRead_bad L F n tr w (fun h => hr h.1))
  have HG : Hid (∀ w, _) := Lib.hid (fun w => Right_no L F n w hr)
  have HR : Hid (∀ w, _) := Lib.hid (fun w => Right_yes L F m w hw)
  have HL := Lib.hid hL
  have HW := Lib.hid hw
  have hmx : m ≤ maxLen := by unfold maxLen; omega
  have HMX := Lib.hid hmx
  clear hL hr hw hmx 
  go_enter Try.func3, Try.ntmps3
  go_wp2_with fail
  refine (even_any v _ h0).mono ?_
  rintro e w' ⟨rfl, rfl⟩
  go_wp2_with fail
  refine HN.out.mono ?_
  rintro e w1 ⟨rfl, hF⟩
  have HF := Lib.hid hF
  clear hF
  go_wp2_with fail
  refine (HG.out _).mono ?_
  rintro e w' ⟨rfl, rfl⟩
  have HX := Lib.hid (newWrite_yes (HL.out.frm0 HF.out) L F HW.out)
  go_wp2_with fail
  refine HX.out.mono ?_
  rintro e w2 ⟨q2, g2, rfl, hF2, hP2, hq2, hg2⟩
  have HF2 := Lib.hid (HF.out.trans hF2)
  have HD2 := Lib.hid (Done_pg false hP2 (by decide))
  have HS2 := Lib.hid (Result_pg false hP2)
  clear hF2 hP2 hq2 hg2 HX
  go_wp2_with fail
  refine (HR.out _).mono ?_
  rintro e w' ⟨rfl, rfl⟩
  go_wp2_with fail
  refine HD2.out.mono ?_
  rintro e w' ⟨rfl, rfl⟩
  go_wp2_with fail
  refine HS2.out.mono ?_
  rintro e w' ⟨rfl, rfl⟩
  go_wp2_with fail
  refine (known_true _).mono ?_
  rintro e w6 ⟨rfl, hF6⟩
  go_wp2
  go_ret
  exact ⟨rfl, HF2.out.trans hF6⟩

set_option maxRecDepth 100000 in
set_option maxHeartbeats 4000000 in
theorem new_tr_no (v : Int) (h0 : 0 ≤ v) (L : Nat) (F : Int) (n : Nat) (tr : Int) {a : Option Addr} {m c b o : Nat} {l : List Int} (w : World) (hL : Li .u64 w a m c b o l) (hm : m ≤ 300) (hr : rOk L F n) (ht : tr < 1) (hw : ¬ rOk L F m) :
    Calls Try.prog 3 #[.int .u64 v, .int .i64 L, .int .i64 F, .int .i64 n, .int .i64 tr, .slice a m c] w (Ret (.bool true) (fun w' => Frm [] w w')) := by
  have d1 : decide ((300 : Int) < m) = false := by simp; omega
  have d2 : decide (tr < 1) = true := by simpa using ht
  have HN := Lib.hid (newRead_bad L F n tr w (fun h => by omega))
  have HG : Hid (∀ w, _) := Lib.hid (fun w => Right_yes L F n w hr)
  have HR : Hid (∀ w, _) := Lib.hid (fun w => Right_no L F m w hw)
  have HL := Lib.hid hL
  have HW := Lib.hid hw
  have hmx : m ≤ maxLen := by unfold maxLen; omega
  have HMX := Lib.hid hmx
  clear hL hr hw hmx ht
  go_enter Try.func3, Try.ntmps3
  go_wp2_with fail
  refine (even_any v _ h0).mono ?_
  rintro e w' ⟨rfl, rfl⟩
  go_wp2_with fail
  refine HN.out.mono ?_
  rintro e w1 ⟨rfl, hF⟩
  have HF := Lib.hid hF
  clear hF
  go_wp2_with fail
  refine (HG.out _).mono ?_
  rintro e w' ⟨rfl, rfl⟩
  have HX := Lib.hid (newWrite_bad (HL.out.frm0 HF.out) HMX.out L F HW.out)
  go_wp2_with fail
  refine HX.out.mono ?_
  rintro e w2 ⟨rfl, hF2⟩
  have HF2 := Lib.hid (HF.out.trans hF2)
  clear hF2 HX
  go_wp2_with fail
  refine (HR.out _).mono ?_
  rintro e w' ⟨rfl, rfl⟩
  go_wp2_with fail
  refine (known_true _).mono ?_
  rintro e w6 ⟨rfl, hF6⟩
  go_wp2
  go_ret
  exact ⟨rfl, HF2.out.trans hF6⟩

set_option maxRecDepth 100000 in
set_option maxHeartbeats 4000000 in
theorem new_tr_yes (v : Int) (h0 : 0 ≤ v) (L : Nat) (F : Int) (n : Nat) (tr : Int) {a : Option Addr} {m c b o : Nat} {l : List Int} (w : World) (hL : Li .u64 w a m c b o l) (hm : m ≤ 300) (hr : rOk L F n) (ht : tr < 1) (hw : rOk L F m) :
    Calls Try.prog 3 #[.int .u64 v, .int .i64 L, .int .i64 F, .int .i64 n, .int .i64 tr, .slice a m c] w (Ret (.bool true) (fun w' => Frm [] w w')) := by
  have d1 : decide ((300 : Int) < m) = false := by simp; omega
  have d2 : decide (tr < 1) = true := by simpa using ht
  have HN := Lib.hid (newRead_bad L F n tr w (fun h => by omega))
  have HG : Hid (∀ w, _) := Lib.hid (fun w => Right_yes L F n w hr)
  have HR : Hid (∀ w, _) := Lib.hid (fun w => Right_yes L F m w hw)
  have HL := Lib.hid hL
  have HW := Lib.hid hw
  have hmx : m ≤ maxLen := by unfold maxLen; omega
  have HMX := Lib.hid hmx
  clear hL hr hw hmx ht
  go_enter Try.func3, Try.ntmps3
  go_wp2_with fail
  refine (even_any v _ h0).mono ?_
  rintro e w' ⟨rfl, rfl⟩
  go_wp2_with fail
  refine HN.out.mono ?_
  rintro e w1 ⟨rfl, hF⟩
  have HF := Lib.hid hF
  clear hF
  go_wp2_with fail
  refine (HG.out _).mono ?_
  rintro e w' ⟨rfl, rfl⟩
  have HX := Lib.hid (newWrite_yes (HL.out.frm0 HF.out) L F HW.out)
  go_wp2_with fail
  refine HX.out.mono ?_
  rintro e w2 ⟨q2, g2, rfl, hF2, hP2, hq2, hg2⟩
  have HF2 := Lib.hid (HF.out.trans hF2)
  have HD2 := Lib.hid (Done_pg false hP2 (by decide))
  have HS2 := Lib.hid (Result_pg false hP2)
  clear hF2 hP2 hq2 hg2 HX
  go_wp2_with fail
  refine (HR.out _).mono ?_
  rintro e w' ⟨rfl, rfl⟩
  go_wp2_with fail
  refine HD2.out.mono ?_
  rintro e w' ⟨rfl, rfl⟩
  go_wp2_with fail
  refine HS2.out.mono ?_
  rintro e w' ⟨rfl, rfl⟩
  go_wp2_with fail
  refine (known_true _).mono ?_
  rintro e w6 ⟨rfl, hF6⟩
  go_wp2
  go_ret
  exact ⟨rfl, HF2.out.trans hF6⟩

set_option maxRecDepth 100000 in
set_option maxHeartbeats 4000000 in
theorem new_yes_no (v : Int) (h0 : 0 ≤ v) (L : Nat) (F : Int) (n : Nat) (tr : Int) {a : Option Addr} {m c b o : Nat} {l : List Int} (w : World) (hL : Li .u64 w a m c b o l) (hm : m ≤ 300) (hr : rOk L F n) (ht : 1 ≤ tr) (hw : ¬ rOk L F m) :
    Calls Try.prog 3 #[.int .u64 v, .int .i64 L, .int .i64 F, .int .i64 n, .int .i64 tr, .slice a m c] w (Ret (.bool true) (fun w' => Frm [] w w')) := by
  have d1 : decide ((300 : Int) < m) = false := by simp; omega
  have d2 : decide (tr < 1) = false := by simp; omega
  have HN := Lib.hid (newRead_yes L F n tr w hr ht)
  have HG : Hid (∀ w, _) := Lib.hid (fun w => Right_yes L F n w hr)
  have HR : Hid (∀ w, _) := Lib.hid (fun w => Right_no L F m w hw)
  have HL := Lib.hid hL
  have HW := Lib.hid hw
  have hmx : m ≤ maxLen := by unfold maxLen; omega
  have HMX := Lib.hid hmx
  clear hL hr hw hmx ht
  go_enter Try.func3, Try.ntmps3
  go_wp2_with fail
  refine (even_any v _ h0).mono ?_
  rintro e w' ⟨rfl, rfl⟩
  go_wp2_with fail
  refine HN.out.mono ?_
  rintro e w1 ⟨q, g, rfl, hF, hP, hq, hg⟩
  have HP := Lib.hid hP
  have HF := Lib.hid hF
  have HD := Lib.hid (Done_pg true hP (by decide))
  have HS := Lib.hid (Result_pg true hP)
  have HO := Lib.hid (Words_0 hP)
  have HV := Lib.hid (Version_0 hP)
  clear hF hP hq hg
  go_wp2_with fail
  refine (HG.out _).mono ?_
  rintro e w' ⟨rfl, rfl⟩
  go_wp2_with fail
  refine HD.out.mono ?_
  rintro e w' ⟨rfl, rfl⟩
  go_wp2_with fail
  refine HS.out.mono ?_
  rintro e w' ⟨rfl, rfl⟩
  go_wp2_with fail
  refine HO.out.mono ?_
  rintro e w' ⟨rfl, rfl⟩
  go_wp2_with fail
  refine HV.out.mono ?_
  rintro e w' ⟨rfl, rfl⟩
  have HX := Lib.hid (newWrite_bad (HL.out.frm0 HF.out) HMX.out L F HW.out)
  go_wp2_with fail
  refine HX.out.mono ?_
  rintro e w2 ⟨rfl, hF2⟩
  have HF2 := Lib.hid (HF.out.trans hF2)
  clear hF2 HX
  go_wp2_with fail
  refine (HR.out _).mono ?_
  rintro e w' ⟨rfl, rfl⟩
  go_wp2_with fail
  refine (known_true _).mono ?_
  rintro e w6 ⟨rfl, hF6⟩
  go_wp2
  go_ret
  exact ⟨rfl, HF2.out.trans hF6⟩

set_option maxRecDepth 100000 in
set_option maxHeartbeats 4000000 in
theorem new_yes_yes (v : Int) (h0 : 0 ≤ v) (L : Nat) (F : Int) (n : Nat) (tr : Int) {a : Option Addr} {m c b o : Nat} {l : List Int} (w : World) (hL : Li .u64 w a m c b o l) (hm : m ≤ 300) (hr : rOk L F n) (ht : 1 ≤ tr) (hw : rOk L F m) :
    Calls Try.prog 3 #[.int .u64 v, .int .i64 L, .int .i64 F, .int .i64 n, .int .i64 tr, .slice a m c] w (Ret (.bool true) (fun w' => Frm [] w w')) := by
  have d1 : decide ((300 : Int) < m) = false := by simp; omega
  have d2 : decide (tr < 1) = false := by simp; omega
  have HN := Lib.hid (newRead_yes L F n tr w hr ht)
  have HG : Hid (∀ w, _) := Lib.hid (fun w => Right_yes L F n w hr)
  have HR : Hid (∀ w, _) := Lib.hid (fun w => Right_yes L F m w hw)
  have HL := Lib.hid hL
  have HW := Lib.hid hw
  have hmx : m ≤ maxLen := by unfold maxLen; omega
  have HMX := Lib.hid hmx
  clear hL hr hw hmx ht
  go_enter Try.func3, Try.ntmps3
  go_wp2_with fail
  refine (even_any v _ h0).mono ?_
  rintro e w' ⟨rfl, rfl⟩
  go_wp2_with fail
  refine HN.out.mono ?_
  rintro e w1 ⟨q, g, rfl, hF, hP, hq, hg⟩
  have HP := Lib.hid hP
  have HF := Lib.hid hF
  have HD := Lib.hid (Done_pg true hP (by decide))
  have HS := Lib.hid (Result_pg true hP)
  have HO := Lib.hid (Words_0 hP)
  have HV := Lib.hid (Version_0 hP)
  clear hF hP hq hg
  go_wp2_with fail
  refine (HG.out _).mono ?_
  rintro e w' ⟨rfl, rfl⟩
  go_wp2_with fail
  refine HD.out.mono ?_
  rintro e w' ⟨rfl, rfl⟩
  go_wp2_with fail
  refine HS.out.mono ?_
  rintro e w' ⟨rfl, rfl⟩
  go_wp2_with fail
  refine HO.out.mono ?_
  rintro e w' ⟨rfl, rfl⟩
  go_wp2_with fail
  refine HV.out.mono ?_
  rintro e w' ⟨rfl, rfl⟩
  have HX := Lib.hid (newWrite_yes (HL.out.frm0 HF.out) L F HW.out)
  go_wp2_with fail
  refine HX.out.mono ?_
  rintro e w2 ⟨q2, g2, rfl, hF2, hP2, hq2, hg2⟩
  have HF2 := Lib.hid (HF.out.trans hF2)
  have HD2 := Lib.hid (Done_pg false hP2 (by decide))
  have HS2 := Lib.hid (Result_pg false hP2)
  clear hF2 hP2 hq2 hg2 HX
  go_wp2_with fail
  refine (HR.out _).mono ?_
  rintro e w' ⟨rfl, rfl⟩
  go_wp2_with fail
  refine HD2.out.mono ?_
  rintro e w' ⟨rfl, rfl⟩
  go_wp2_with fail
  refine HS2.out.mono ?_
  rintro e w' ⟨rfl, rfl⟩
  go_wp2_with fail
  refine (known_true _).mono ?_
  rintro e w6 ⟨rfl, hF6⟩
  go_wp2
  go_ret
  exact ⟨rfl, HF2.out.trans hF6⟩

theorem walk_VersionNew (v : Int) (wv : (Lit.int .u64 v).wf = true) (L : Int) (_wL : (Lit.int .i64 L).wf = true) (F : Int) (_wF : (Lit.int .i64 F).wf = true) (n : Int) (_wn : (Lit.int .i64 n).wf = true) (tr : Int) (_wt : (Lit.int .i64 tr).wf = true) (a : Option Addr) (m c : Nat) (zs : List Int) (w : World) (h : IsRow .u64 w a m c zs) :
    Calls Try.prog 3 #[.int .u64 v, .int .i64 L, .int .i64 F, .int .i64 n, .int .i64 tr, .slice a m c] w (Ret (.bool true) (fun w' => Below w.heap.size w w')) := by
  obtain ⟨b, o, hL, hw, _⟩ := li_of_row h
  have h0 := u_nn wv
  by_cases hm : m ≤ 300
  · suffices h : Calls Try.prog 3 #[.int .u64 v, .int .i64 L, .int .i64 F, .int .i64 n, .int .i64 tr, .slice a m c] w (Ret (.bool true) (fun w' => Frm [] w w')) from h.mono fun _ _ hh => ⟨hh.1, bel hh.2⟩
    by_cases h1 : rOk L F n
    · obtain ⟨L', rfl⟩ := Int.eq_ofNat_of_zero_le h1.1
      obtain ⟨n', rfl⟩ := Int.eq_ofNat_of_zero_le h1.2.2.1
      by_cases h2 : tr < 1
      · by_cases h3 : rOk L' F m
        · exact new_tr_yes v h0 L' F n' tr w hL hm h1 h2 h3
        · exact new_tr_no v h0 L' F n' tr w hL hm h1 h2 h3
      · by_cases h3 : rOk L' F m
        · exact new_yes_yes v h0 L' F n' tr w hL hm h1 (by omega) h3
        · exact new_yes_no v h0 L' F n' tr w hL hm h1 (by omega) h3
    · by_cases h3 : rOk L F m
      · obtain ⟨L', rfl⟩ := Int.eq_ofNat_of_zero_le h3.1
        exact new_no_yes v h0 L' F n tr w hL hm h1 h3
      · exact new_no_no v h0 L F n tr w hL hm h1 h3
  · have d1 : decide ((300 : Int) < (m : Int)) = true := by simp; omega
    clear hL hw h wv _wL _wF _wn _wt
    go_enter Try.func3, Try.ntmps3
    go_wp2_with fail
    refine (known_true _).mono ?_
    rintro e w6 ⟨rfl, hF6⟩
    go_wp2
    go_ret
    exact ⟨rfl, bel hF6⟩
#print axioms walk_VersionNew
end Go.Proofs.Ytbhnijkphkkalaa
