/- Package clock: the place of an alarm. -/
import Derived.Test.YtamnhpcbflpabaaClkB
namespace Go.Proofs.Ytamnhpcbflpabaa
open Go.ChangeShapes Go.WideShapes Go.ChangeAt Go.RowKit

/-- The alarms are in order. -/
def Sorted (l : List Al) : Prop := l.Pairwise (fun x y => ltb x y = true)
/-- How many alarms come before one. -/
def pos (l : List Al) (a : Al) : Nat := (l.takeWhile (fun x => ltb x a)).length
theorem pos_le (l : List Al) (a : Al) : pos l a ≤ l.length := by unfold pos; exact (List.takeWhile_sublist _).length_le
theorem ltb_trans {x y z : Al} (h : ltb x y = true) (k : ltb y z = true) : ltb x z = true := by rw [ltb_iff] at *; omega
theorem pos_iff : ∀ {l : List Al}, Sorted l → ∀ {a : Al} {i : Nat} {x : Al}, l[i]? = some x → (ltb x a = true ↔ i < pos l a)
  | y :: l, hs, a, i, x, hx => by
    unfold Sorted at hs
    rw [List.pairwise_cons] at hs
    unfold pos
    rw [List.takeWhile_cons]
    by_cases hy : ltb y a = true
    · rw [if_pos hy]
      cases i with
      | zero => cases hx; simp [hy]
      | succ i =>
        have := pos_iff (l := l) hs.2 (a := a) (i := i) (by simpa using hx)
        rw [this]; unfold pos; simp
    · rw [if_neg hy]
      constructor
      · intro hxa
        exfalso
        cases i with
        | zero => cases hx; exact hy hxa
        | succ i => exact hy (ltb_trans (hs.1 x (List.mem_of_getElem? (by simpa using hx : l[i]? = some x))) hxa)
      · intro h; simp at h

theorem half {i j : Nat} (hij : i < j) : i ≤ (i + j) / 2 ∧ (i + j) / 2 < j := by omega

set_option maxHeartbeats 1000000 in
theorem bsf_nil (w : World) (a : Al) : Calls Try.prog 43 #[.slice none 0 0, .agg #[.int .i64 a.1, .int .i64 a.2], .func (.func 44) #[] #[]] w
    (fun e w' => ∃ b, Ret (.tuple #[.int .i64 0, .bool b]) (fun w' => Frm [] w w') e w') := by
  go_enter Try.func43, Try.ntmps43
  go_wp2_with fail
  go_loop [9, 10] (fun i j => i = .int .i64 0 ∧ j = .int .i64 0) (fun _ _ => 0)
  case atStart => exact ⟨rfl, rfl⟩
  case round =>
    obtain ⟨rfl, rfl⟩ := hrel
    go_wp2
    go_quiet (fail)
    go_wp2
    go_ret2
    exact ⟨_, rfl, ((Frm.refl _ _).alloc _).drewN _⟩

set_option maxHeartbeats 2000000 in
set_option maxRecDepth 100000 in
theorem bsf_some {w : World} {d o c : Nat} {l : List Al} (hs : Sorted l) (hl : l.length ≤ 4096) (hlc : l.length ≤ c) (hc : c ≤ 9223372036854775807) (hd : d < w.heap.size) (hr : ∀ (j : Nat) (u : Value), (flat l)[j]? = some u → w.cell? ⟨d, o + j, none⟩ = some u) (a : Al) :
    Calls Try.prog 43 #[.slice (some ⟨d, o, none⟩) l.length c, .agg #[.int .i64 a.1, .int .i64 a.2], .func (.func 44) #[] #[]] w
    (fun e w' => ∃ b, Ret (.tuple #[.int .i64 (pos l a), .bool b]) (fun w' => Frm [] w w') e w') := by
  obtain ⟨X, hX⟩ : ∃ X, X = w.alloc (.cells #[.int .i64 a.1, .int .i64 a.2] 62) := ⟨_, rfl⟩
  have hFX : Frm [] w X := by rw [hX]; exact (Frm.refl _ _).alloc _
  have hbx : X.heap[w.heap.size]? = some (.cells #[.int .i64 a.1, .int .i64 a.2] 62 (0, 0)) := by rw [hX]; exact heap_alloc_new _ _
  have hdX : d < X.heap.size := Nat.lt_of_lt_of_le hd hFX.size
  have hrX : ∀ (j : Nat) (u : Value), (flat l)[j]? = some u → X.cell? ⟨d, o + j, none⟩ = some u := fun j u hu => by rw [hFX.cell hd (by simp)]; exact hr j u hu
  have k1 := fun w' (hF : Frm [] X w') => cells2 (hF.heap hbx (by simp))
  have HX := Lib.hid hX
  have HB := Lib.hid hbx
  have HR := Lib.hid hrX
  have HS := Lib.hid hs
  have hpl := pos_le l a
  have hpi := fun (i : Nat) (x : Al) (hi : l[i]? = some x) => pos_iff hs (a := a) hi
  obtain ⟨P, hP⟩ : ∃ P, P = pos l a := ⟨_, rfl⟩
  rw [← hP] at hpl hpi ⊢
  clear hP
  have HP := Lib.hid hpi
  clear hX hbx hrX hr hs hpi
  go_enter Try.func43, Try.ntmps43
  go_wp2_with fail
  rw [← HX.out]
  go_loopw [9, 10] (fun i j w' => ∃ p q : Nat, p ≤ q ∧ q ≤ l.length ∧ p ≤ P ∧ P ≤ q ∧ i = .int .i64 p ∧ j = .int .i64 q ∧ Frm [] X w') (fun i j _ => (intOf j).toNat - (intOf i).toNat)
  case atStart => exact ⟨0, l.length, by omega, by omega, by omega, hpl, rfl, rfl, Frm.refl _ _⟩
  case round =>
    obtain ⟨p, q, hpq, hq, hp1, hp2, rfl, rfl, hF⟩ := hrel
    by_cases hlt : p < q
    · have hh := half hlt
      go_wp2_with fail
      rw [show ((p : Int) + (q : Int)) / 2 = (((p + q) / 2 : Nat) : Int) by omega]
      obtain ⟨h, hh0⟩ : ∃ h, h = (p + q) / 2 := ⟨_, rfl⟩
      rw [← hh0] at hh ⊢
      clear hh0
      have hb0 : (0 : Int) ≤ (h : Int) := by omega
      have hb1 : (h : Int) < (l.length : Int) := by omega
      have hx : l[h]? = some (l[h]'(by omega)) := List.getElem?_eq_getElem _
      generalize (l[h]'(by omega)) = x at hx
      obtain ⟨x1, x2⟩ := x
      have hxc : X.cell? ⟨d, o + h * 2, none⟩ = some (.int .i64 x1) ∧ X.cell? ⟨d, o + h * 2 + 1, none⟩ = some (.int .i64 x2) := Als.cell0 HR.out hx
      have k2 : ∀ w', Frm [] X w' → w'.cell? ⟨d, o + h * 2, none⟩ = some (.int .i64 x1) := fun w' hf => by rw [hf.cell hdX (by simp)]; exact hxc.1
      have k3 : ∀ w', Frm [] X w' → w'.cell? ⟨d, o + h * 2 + 1, none⟩ = some (.int .i64 x2) := fun w' hf => by rw [hf.cell hdX (by simp)]; exact hxc.2
      have hpx := HP.out h (x1, x2) hx
      have HX2 := Lib.hid hx
      clear hx hxc
      by_cases hlb : ltb (x1, x2) a = true
      · have hcn : decide (cmpA (x1, x2) a < 0) = true := by simpa using cmpA_neg.2 hlb
        have hhp : h < P := hpx.1 hlb
        have HLB := Lib.hid hlb
        clear hlb hpx
        go_region_held3 (fun w' => Frm [] X w')
          ((repeat' (first | assumption | exact Frm.refl _ _ | apply Frm.drew | apply Frm.alloc | (refine Frm.trans ?_ hF1))))
          ((go_at_call 44; refine (cmpa_any _ (x1, x2) a).mono ?_; rintro e w1 ⟨rfl, hF1⟩))
        go_wp2
        go_roundw
        case rel => exact ⟨h + 1, q, by omega, hq, by omega, hp2, by go_num, rfl, (hF.trans (Frm.drew (Frm.refl _ _))).trans hF1⟩
        case measure => simp [intOf]; omega
      · have hcn : decide (cmpA (x1, x2) a < 0) = false := by simpa using fun hh => hlb (cmpA_neg.1 hh)
        have hhp : P ≤ h := by have := mt hpx.2 hlb; omega
        have HLB := Lib.hid hlb
        clear hlb hpx
        go_region_held3 (fun w' => Frm [] X w')
          ((repeat' (first | assumption | exact Frm.refl _ _ | apply Frm.drew | apply Frm.alloc | (refine Frm.trans ?_ hF1))))
          ((go_at_call 44; refine (cmpa_any _ (x1, x2) a).mono ?_; rintro e w1 ⟨rfl, hF1⟩))
        go_wp2
        go_roundw
        case rel => exact ⟨p, h, by omega, by omega, hp1, by omega, rfl, rfl, (hF.trans (Frm.drew (Frm.refl _ _))).trans hF1⟩
        case measure => simp [intOf]; omega
    · obtain rfl : p = q := by omega
      obtain rfl : P = p := by omega
      by_cases hlt2 : P < l.length
      · have hx : l[P]? = some (l[P]'(by omega)) := List.getElem?_eq_getElem _
        generalize (l[P]'(by omega)) = x at hx
        obtain ⟨x1, x2⟩ := x
        have hxc : X.cell? ⟨d, o + P * 2, none⟩ = some (.int .i64 x1) ∧ X.cell? ⟨d, o + P * 2 + 1, none⟩ = some (.int .i64 x2) := Als.cell0 HR.out hx
        have HX2 := Lib.hid hx
        clear hx
        have hb0 : (0 : Int) ≤ (P : Int) := by omega
        have hb1 : (P : Int) < (l.length : Int) := by omega
        have hbd : decide (P < l.length) = true := by simpa using hlt2
        have k2 : ∀ w', Frm [] X w' → w'.cell? ⟨d, o + P * 2, none⟩ = some (.int .i64 x1) := fun w' hf => by rw [hf.cell hdX (by simp)]; exact hxc.1
        have k3 : ∀ w', Frm [] X w' → w'.cell? ⟨d, o + P * 2 + 1, none⟩ = some (.int .i64 x2) := fun w' hf => by rw [hf.cell hdX (by simp)]; exact hxc.2
        clear hxc
        go_wp2_with fail
        go_region_held3 (fun w' => Frm [] X w')
          ((repeat' (first | assumption | exact Frm.refl _ _ | apply Frm.drew | apply Frm.alloc | (refine Frm.trans ?_ hF1))))
          ((go_at_call 44; refine (cmpa_any _ (x1, x2) a).mono ?_; rintro e w1 ⟨rfl, hF1⟩))
        go_wp2
        go_ret2
        exact ⟨_, rfl, hFX.trans ((hF.trans (Frm.drew (Frm.refl _ _))).trans hF1)⟩
      · have hbd : decide (P < l.length) = false := by simpa using hlt2
        go_wp2_with fail
        go_quiet (fail)
        go_wp2
        go_ret2
        exact ⟨_, rfl, hFX.trans (hF.drewN _)⟩

theorem bsf_any {w : World} {v : Value} {l : List Al} (hA : Als w v l) (hs : Sorted l) (hl : l.length ≤ 4096) (a : Al) :
    Calls Try.prog 43 #[v, .agg #[.int .i64 a.1, .int .i64 a.2], .func (.func 44) #[] #[]] w
    (fun e w' => ∃ b, Ret (.tuple #[.int .i64 (pos l a), .bool b]) (fun w' => Frm [] w w') e w') := by
  rcases hA with ⟨rfl, rfl⟩ | ⟨d, o, c, rfl, h1, h2, h3, h4⟩
  · exact bsf_nil w a
  · exact bsf_some hs hl h1 h2 h3 h4 a

set_option maxHeartbeats 1000000 in
theorem place_clk {w : World} {p : Nat} {now : Int} {v : Value} {l : List Al} (h : ClockAt w p now v l) (hs : Sorted l) (hl : l.length ≤ 4096) (a : Al) :
    Calls Try.prog 31 #[.pointer (some ⟨p, 0, none⟩), .agg #[.int .i64 a.1, .int .i64 a.2]] w (Ret (.int .i64 (pos l a)) (fun w' => Frm [] w w')) := by
  obtain ⟨X, hX⟩ : ∃ X, X = w.alloc (.cells #[.int .i64 a.1, .int .i64 a.2] 62) := ⟨_, rfl⟩
  have hFX : Frm [] w X := by rw [hX]; exact (Frm.refl _ _).alloc _
  have hbx : X.heap[w.heap.size]? = some (.cells #[.int .i64 a.1, .int .i64 a.2] 62 (0, 0)) := by rw [hX]; exact heap_alloc_new _ _
  have h' : ClockAt X p now v l := h.frm0 hFX
  have k1 := fun w' (hF : Frm [] X w') => cells2 (hF.heap hbx (by simp))
  have k2 := fun w' (hF : Frm [] X w') => (h'.frm0 hF).c2
  have hA := h'.own.als
  have hS := Lib.hid hs
  have HX := Lib.hid hX
  have HB := Lib.hid hbx
  clear hX hbx hs h
  go_enter Try.func31, Try.ntmps31
  go_wp2_with fail
  rw [← HX.out]
  go_region_held3 (fun w' => Frm [] X w')
    ((repeat' (first | assumption | exact Frm.refl _ _ | apply Frm.drew | apply Frm.alloc | (refine Frm.trans ?_ hF1))))
    ((go_at_call 43; refine (bsf_any (v := v) (l := l) (by first | exact hA | exact hA.drewN 1) hS.out hl a).mono ?_; rintro e w1 ⟨b, rfl, hF1⟩))
  go_wp2
  go_ret
  exact ⟨rfl, hFX.trans (((Frm.refl _ _).drew).trans hF1)⟩
end Go.Proofs.Ytamnhpcbflpabaa
