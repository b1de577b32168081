/- Package version: mayBe, begin, NewRead, NewWrite; the reference's Right. -/
import Derived.Test.YtbhnijkphkkalaaVeF
namespace Go.Proofs.Ytbhnijkphkkalaa
open Go.ChangeShapes Go.WideShapes Go.ChangeAt Go.RowKit
set_option linter.unusedVariables false

/-- Words that may be. -/
def mOk (L F n : Int) : Prop := 0 ≤ F ∧ F ≤ 65536 - n ∧ (L < F ∨ F + n ≤ L)
/-- A version and words that may be. -/
def rOk (L F n : Int) : Prop := 0 ≤ L ∧ L < 65536 ∧ 0 ≤ n ∧ n ≤ 256 ∧ (n = 0 ∨ mOk L F n)
instance (L F n : Int) : Decidable (mOk L F n) := by unfold mOk; infer_instance
instance (L F n : Int) : Decidable (rOk L F n) := by unfold rOk; infer_instance

theorem mayBe_yes (L F n : Int) (w : World) (hL : 0 ≤ L) (hL2 : L < 65536) (hn : 1 ≤ n) (hn2 : n ≤ 256) (h : mOk L F n) :
    Calls Try.prog 46 #[.int .i64 L, .int .i64 F, .int .i64 n] w (Ret (.bool true) (fun w' => w = w')) := by
  obtain ⟨h1, h2, h3⟩ := h
  have b1 : decide (F < 0) = false := by simp; omega
  have b2 : decide (65536 - n < F) = false := by simp; omega
  by_cases h4 : L < F
  · have b3 : decide (L < F) = true := by simpa using h4
    clear h3 h4
    go_enter Try.func46, Try.ntmps46
    go_wp2
    go_ret
    exact ⟨rfl, rfl⟩
  · have b3 : decide (L < F) = false := by simpa using h4
    have b4 : decide (F + n ≤ L) = true := by simp; omega
    clear h3 h4
    go_enter Try.func46, Try.ntmps46
    go_wp2
    go_ret
    exact ⟨rfl, rfl⟩
theorem mayBe_no (L F n : Int) (w : World) (hL : 0 ≤ L) (hL2 : L < 65536) (hn : 1 ≤ n) (hn2 : n ≤ 256) (h : ¬ mOk L F n) :
    Calls Try.prog 46 #[.int .i64 L, .int .i64 F, .int .i64 n] w (Ret (.bool false) (fun w' => w = w')) := by
  by_cases h1 : F < 0
  · have b1 : decide (F < 0) = true := by simpa using h1
    clear h
    go_enter Try.func46, Try.ntmps46
    go_wp2
    go_ret
    exact ⟨rfl, rfl⟩
  · have b1 : decide (F < 0) = false := by simpa using h1
    by_cases h2 : 65536 - n < F
    · have b2 : decide (65536 - n < F) = true := by simpa using h2
      clear h
      go_enter Try.func46, Try.ntmps46
      go_wp2
      go_ret
      exact ⟨rfl, rfl⟩
    · have b2 : decide (65536 - n < F) = false := by simpa using h2
      have h1' : 0 ≤ F := by omega
      have h2' : F ≤ 65536 := by omega
      have b3 : decide (L < F) = false := by simp; unfold mOk at h; omega
      have b4 : decide (F + n ≤ L) = false := by simp; unfold mOk at h; omega
      clear h
      go_enter Try.func46, Try.ntmps46
      go_wp2
      go_ret
      exact ⟨rfl, rfl⟩

def zeroC : Value := .agg #[.int .i64 0, .int .i64 0, .slice none 0 0, .int .i64 0, .int .i64 0, .int .u64 0, .int .u64 0]
set_option maxRecDepth 100000 in
theorem cbegin_no (L F n : Int) (w : World) (h : ¬ rOk L F n) :
    Calls Try.prog 34 #[.int .i64 L, .int .i64 F, .int .i64 n] w (Ret (.tuple #[.agg #[.int .i64 0, .int .i64 0, .slice none 0 0, .int .i64 0, .int .i64 0, .int .u64 0, .int .u64 0], .int .i64 2]) (fun w' => Frm [] w w')) := by
  by_cases h1 : n < 0 ∨ 256 < n ∨ L < 0 ∨ 65536 ≤ L
  · have hh : ∃ b1 b2 b3 b4 : Bool, decide (n < 0) = b1 ∧ decide (256 < n) = b2 ∧ decide (L < 0) = b3 ∧ decide (65536 ≤ L) = b4 ∧ (b1 || b2 || b3 || b4) = true := ⟨_, _, _, _, rfl, rfl, rfl, rfl, by simp; omega⟩
    obtain ⟨b1, b2, b3, b4, e1, e2, e3, e4, hb⟩ := hh
    clear h h1
    cases b1 <;> cases b2 <;> cases b3 <;> cases b4 <;> first | (exfalso; revert hb; decide) | skip
    all_goals
      clear hb
      go_enter Try.func34, Try.ntmps34
      go_wp2
      exact bodyPost_ret (v := .tuple #[.agg #[.int .i64 0, .int .i64 0, .slice none 0 0, .int .i64 0, .int .i64 0, .int .u64 0, .int .u64 0], .int .i64 2]) (by simp [results, Try.results34, go_sem]) rfl ⟨rfl, by (repeat' (first | exact Frm.refl _ _ | apply Frm.alloc | apply Frm.drew | apply Frm.drewN | assumption))⟩
  · have e1 : decide (n < 0) = false := by simp; omega
    have e2 : decide (256 < n) = false := by simp; omega
    have e3 : decide (L < 0) = false := by simp; omega
    have e4 : decide (65536 ≤ L) = false := by simp; omega
    have h0 : n ≠ 0 := fun e => h (by unfold rOk; omega)
    have hm : ¬ mOk L F n := fun e => h (by unfold rOk; exact ⟨by omega, by omega, by omega, by omega, .inr e⟩)
    have e5 : decide (0 < n) = true := by simp; omega
    have H := Lib.hid (fun w => mayBe_no L F n w (by omega) (by omega) (by omega) (by omega) hm)
    clear h hm h0 h1
    go_enter Try.func34, Try.ntmps34
    go_wp2_with fail
    refine (H.out _).mono ?_
    rintro e w1 ⟨rfl, rfl⟩
    go_wp2
    exact bodyPost_ret (v := .tuple #[.agg #[.int .i64 0, .int .i64 0, .slice none 0 0, .int .i64 0, .int .i64 0, .int .u64 0, .int .u64 0], .int .i64 2]) (by simp [results, Try.results34, go_sem]) rfl ⟨rfl, by (repeat' (first | exact Frm.refl _ _ | apply Frm.alloc | apply Frm.drew | apply Frm.drewN | assumption))⟩
/-- A new program's cells. -/
def NewC (L : Nat) (F : Int) (n b : Nat) : Value := .agg #[.int .i64 L, .int .i64 F, .slice (some ⟨b, 0, none⟩) n n, .int .i64 0, .int .i64 1, .int .u64 0, .int .u64 0]
/-- Zeros that a call has made. -/
def Zs (w : World) (b n : Nat) : Prop := w.heap[b]? = some (.cells (u64s (List.replicate n 0)).toArray 22 (0, 0))
set_option maxRecDepth 100000 in
theorem cbegin_yes (L : Nat) (F : Int) (n : Nat) (w : World) (h : rOk L F n) :
    Calls Try.prog 34 #[.int .i64 L, .int .i64 F, .int .i64 n] w (fun e w' => ∃ b, Ret (.tuple #[.agg #[.int .i64 L, .int .i64 F, .slice (some ⟨b, 0, none⟩) n n, .int .i64 0, .int .i64 1, .int .u64 0, .int .u64 0], .int .i64 0]) (fun w' => Frm [] w w' ∧ Zs w' b n ∧ w.heap.size ≤ b) e w') := by
  obtain ⟨h1, h2, h3, h4, h5⟩ := h
  have e1 : decide ((n : Int) < 0) = false := by simp
  have e2 : decide ((256 : Int) < n) = false := by simp; omega
  have e3 : decide ((L : Int) < 0) = false := by simp
  have e4 : decide ((65536 : Int) ≤ L) = false := by simp; omega
  have hm := make_u64 n (by omega)
  by_cases h0 : n = 0
  · have e5 : decide ((0 : Int) < n) = false := by simp; omega
    have e6 : decide (0 < n) = false := by simp; omega
    clear h5 h1 h2 h3 h4 h0
    go_enter Try.func34, Try.ntmps34
    go_wp2
    refine bodyPost_ret (v := .tuple #[.agg #[.int .i64 L, .int .i64 F, .slice (some ⟨w.heap.size + 1, 0, none⟩) n n, .int .i64 0, .int .i64 1, .int .u64 0, .int .u64 0], .int .i64 0]) ?_ rfl ?_
    · simp [results, Try.results34, go_sem]
    refine ⟨_, rfl, ?_, ?_, Nat.le_succ _⟩
    · repeat' (first | exact Frm.refl _ _ | apply Frm.alloc | apply Frm.drew | apply Frm.drewN | assumption)
    · exact heap_alloc_at _ (by simp)
  · have e5 : decide ((0 : Int) < n) = true := by simp; omega
    have hmk : mOk L F n := h5.resolve_left (by omega)
    have e6 : decide (0 < n) = true := by simp; omega
    have H := Lib.hid (fun w => mayBe_yes L F n w (by omega) (by omega) (by omega) (by omega) hmk)
    clear h5 h1 h2 h3 h4 hmk h0
    go_enter Try.func34, Try.ntmps34
    go_wp2_with fail
    refine (H.out _).mono ?_
    rintro e w1 ⟨rfl, rfl⟩
    go_wp2
    refine bodyPost_ret (v := .tuple #[.agg #[.int .i64 L, .int .i64 F, .slice (some ⟨w.heap.size + 1, 0, none⟩) n n, .int .i64 0, .int .i64 1, .int .u64 0, .int .u64 0], .int .i64 0]) ?_ rfl ?_
    · simp [results, Try.results34, go_sem]
    refine ⟨_, rfl, ?_, ?_, Nat.le_succ _⟩
    · repeat' (first | exact Frm.refl _ _ | apply Frm.alloc | apply Frm.drew | apply Frm.drewN | assumption)
    · exact heap_alloc_at _ (by simp)
theorem Right_yes (L F n : Int) (w : World) (h : rOk L F n) :
    Calls Try.prog 11 #[.int .i64 L, .int .i64 F, .int .i64 n] w (Ret (.bool true) (fun w' => w = w')) := by
  obtain ⟨h1, h2, h3, h4, h5⟩ := h
  have e1 : decide (n < 0) = false := by simp; omega
  have e2 : decide (256 < n) = false := by simp; omega
  have e3 : decide (L < 0) = false := by simp; omega
  have e4 : decide (65536 ≤ L) = false := by simp; omega
  by_cases h0 : n = 0
  · subst h0
    clear h5
    go_enter Try.func11, Try.ntmps11
    go_wp2
    go_ret
    exact ⟨rfl, rfl⟩
  · obtain ⟨k1, k2, k3⟩ := h5.resolve_left h0
    have e5 : (n == 0) = false := by simpa using h0
    have f1 : decide (F < 0) = false := by simp; omega
    have f2 : decide (65536 ≤ F) = false := by simp; omega
    have f3 : decide (65536 < F + n) = false := by simp; omega
    by_cases h6 : L < F
    · have f4 : decide (L < F) = true := by simpa using h6
      clear h5 h0 k3 h6
      go_enter Try.func11, Try.ntmps11
      go_wp2
      go_ret
      exact ⟨rfl, rfl⟩
    · have f4 : decide (L < F) = false := by simpa using h6
      have f5 : decide (F + n ≤ L) = true := by simp; omega
      clear h5 h0 k3 h6
      go_enter Try.func11, Try.ntmps11
      go_wp2
      go_ret
      exact ⟨rfl, rfl⟩
theorem Right_no (L F n : Int) (w : World) (h : ¬ rOk L F n) :
    Calls Try.prog 11 #[.int .i64 L, .int .i64 F, .int .i64 n] w (Ret (.bool false) (fun w' => w = w')) := by
  by_cases h1 : n < 0 ∨ 256 < n ∨ L < 0 ∨ 65536 ≤ L
  · obtain ⟨b1, b2, b3, b4, e1, e2, e3, e4, hb⟩ : ∃ b1 b2 b3 b4 : Bool, decide (n < 0) = b1 ∧ decide (256 < n) = b2 ∧ decide (L < 0) = b3 ∧ decide (65536 ≤ L) = b4 ∧ (b1 || b2 || b3 || b4) = true := ⟨_, _, _, _, rfl, rfl, rfl, rfl, by simp; omega⟩
    clear h h1
    cases b1 <;> cases b2 <;> cases b3 <;> cases b4 <;> first | (exfalso; revert hb; decide) | skip
    all_goals
      clear hb
      go_enter Try.func11, Try.ntmps11
      go_wp2
      go_ret
      exact ⟨rfl, rfl⟩
  · have e1 : decide (n < 0) = false := by simp; omega
    have e2 : decide (256 < n) = false := by simp; omega
    have e3 : decide (L < 0) = false := by simp; omega
    have e4 : decide (65536 ≤ L) = false := by simp; omega
    have h0 : n ≠ 0 := fun e => h (by unfold rOk; omega)
    have hm : ¬ mOk L F n := fun e => h (by unfold rOk; exact ⟨by omega, by omega, by omega, by omega, .inr e⟩)
    have hn1 : 0 ≤ n := by omega
    have hn2 : n ≤ 256 := by omega
    have e5 : (n == 0) = false := by simpa using h0
    unfold mOk at hm
    by_cases g1 : F < 0 ∨ 65536 ≤ F
    · obtain ⟨b1, b2, f1, f2, hb⟩ : ∃ b1 b2 : Bool, decide (F < 0) = b1 ∧ decide (65536 ≤ F) = b2 ∧ (b1 || b2) = true := ⟨_, _, rfl, rfl, by simp; omega⟩
      clear h h1 hm g1 h0
      cases b1 <;> cases b2 <;> first | (exfalso; revert hb; decide) | skip
      all_goals
        clear hb
        go_enter Try.func11, Try.ntmps11
        go_wp2
        go_ret
        exact ⟨rfl, rfl⟩
    · have f1 : decide (F < 0) = false := by simp; omega
      have f2 : decide (65536 ≤ F) = false := by simp; omega
      have g2 : 0 ≤ F := by omega
      have g3 : F < 65536 := by omega
      by_cases g4 : 65536 < F + n
      · have f3 : decide (65536 < F + n) = true := by simpa using g4
        clear h h1 hm g1 h0 g4
        go_enter Try.func11, Try.ntmps11
        go_wp2
        go_ret
        exact ⟨rfl, rfl⟩
      · have f3 : decide (65536 < F + n) = false := by simpa using g4
        have f4 : decide (L < F) = false := by simp; omega
        have f5 : decide (F + n ≤ L) = false := by simp; omega
        clear h h1 hm g1 h0 g4
        go_enter Try.func11, Try.ntmps11
        go_wp2
        go_ret
        exact ⟨rfl, rfl⟩
#print axioms Right_no
end Go.Proofs.Ytbhnijkphkkalaa
