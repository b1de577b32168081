/- The law's helpers: begin, ends, waits; a move behind some steps. -/
import Derived.Test.YtjhidkjhfgbaeaaGreatDoorLuW
namespace Go.Proofs.YtjhidkjhfgbaeaaGreatDoor
open Go.ChangeShapes Go.WideShapes Go.ChangeAt Go.RowKit
set_option linter.unusedVariables false
set_option linter.unusedSimpArgs false
theorem Mv.finish_wk (m : Mv) : m.finish.wk = m.wk := rfl
theorem Mv.handOn_wk (m : Mv) : m.handOn.wk.length ≤ m.wk.length + 1 := by
  unfold Mv.handOn
  split
  · rw [Mv.finish_wk]; simp
  · split
    · rw [Mv.finish_wk]; omega
    · show m.wk.length ≤ _; omega
theorem Mv.serve_wk (m : Mv) (u v : Int) : (m.serve u v).wk.length ≤ m.wk.length + 2 := by
  unfold Mv.serve
  refine Nat.le_trans (Mv.handOn_wk _) ?_
  show (m.wk ++ [m.s.fi]).length + 1 ≤ _
  simp
theorem Mv.decide_wk (m : Mv) : m.decide.wk.length ≤ m.wk.length + 2 := by
  unfold Mv.decide Mv.get Mv.giveBack Mv.goOver Mv.refuse
  repeat' split
  all_goals first | (rw [Mv.finish_wk]; exact Nat.le_add_right _ 2) | exact Nat.le_trans (Mv.handOn_wk _) (Nat.le_succ _) | exact Nat.le_add_right _ 2
theorem Mv.stored_wk (m : Mv) : m.stored.wk.length ≤ m.wk.length + 2 := by
  unfold Mv.stored Mv.park Mv.standLast
  repeat' split
  all_goals first | exact Nat.le_add_right _ 2 | (rw [Mv.finish_wk]; exact Nat.le_add_right _ 2) | (rw [Mv.finish_wk]; show m.wk.tail.length ≤ _; simp; omega)
theorem MStp.wkl {T : Nat} {ws ws' : List Int} {m m' : Mv} {g g' : Gs} {wait : Bool} {no : Int} (h : MStp T ws m g m' g' ws' wait no) : m'.wk.length ≤ m.wk.length + 2 := by
  cases h with
  | so h v hv hx hr => exact Mv.decide_wk _
  | mo h k hk' u hu hx =>
    unfold Mv.readMode
    split
    · exact Nat.le_add_right _ 2
    · split
      · exact Nat.le_add_right _ 2
      · exact Mv.serve_wk _ _ _
  | no h k hk' u hu hx => exact Mv.serve_wk _ _ _
  | st hs hx => exact Mv.stored_wk _
  | _ => exact Nat.le_add_right _ 2
/-- A move, the arena, and what is true of both, behind some steps that began at w with the slice a, n, c. -/
structure RunAt (w : World) (p d cc B q T qe ql : Nat) (a : Option Addr) (n c t N : Nat) (ws : List Int) (m : Mv) (g : Gs) (wr : World) : Prop where
  ex : ∃ a1 n1 c1, AllAt wr p d cc B q T qe ql a1 n1 c1 ws m g ∧ ∀ x ∈ blk (.slice a1 n1 c1), x ∈ blk (.slice a n c) ∨ w.heap.size ≤ x
  frm : Frm (d :: q :: qe :: ql :: blk (.slice a n c)) w wr
  ok : MOk T m
  bnd : Bnd ws
  th : m.t = t
  wkl : m.wk.length ≤ N
  laid : Laid wr
  lo : (2 ≤ B ∧ B ≤ d ∧ B ≤ q ∧ B ≤ qe ∧ B ≤ ql ∧ B ≤ w.heap.size) ∧ ∀ x ∈ blk (.slice a n c), B ≤ x
section
variable {w w0 : World} {p d cc B q T qe ql : Nat} {a : Option Addr} {n c t N : Nat} {ws ws' : List Int} {m m' : Mv} {g g' : Gs}
theorem RunAt.step {wait : Bool} {no : Int} (h : RunAt w p d cc B q T qe ql a n c t N ws m g w0) (hN : N ≤ 999) (hS : MStp T ws m g m' g' ws' wait no) :
    Calls Tryz.prog 24 #[.pointer (some ⟨q, 0, none⟩), .iface 46 (.pointer (some ⟨p, 0, none⟩))] w0 (fun e w' => e = .returned (.tuple #[.bool wait, .int .i64 no]) ∧ RunAt w p d cc B q T qe ql a n c t (N + 2) ws' m' g' w') := by
  obtain ⟨⟨a1, n1, c1, hA, hx1⟩, hF, hok, hbn, hth, hwk, hL, ⟨hl2, hlb⟩⟩ := h
  have hT := hA.mv.t64
  have ht := hA.mv.tT
  refine (Step_mv hA hok hL (by omega) (by omega) (by have := hF.size; omega) (by omega) hS).mono ?_
  rintro e w' ⟨rfl, a2, n2, c2, hF2, hA2, hx2⟩
  obtain ⟨k1, k2, k3⟩ := hS.keep hT ht hbn hok
  have hsz := hF.size
  refine ⟨rfl, ⟨a2, n2, c2, hA2, fun x hx => ?_⟩, hF.trans_new hF2 (fun x hx => ?_), k1, k2, k3.trans hth, Nat.le_trans hS.wkl (by omega), hL.frm hF2 (fun x hx => ?_), ⟨hl2, hlb⟩⟩
  · rcases hx2 x hx with h | h
    · exact hx1 x h
    · exact .inr (by omega)
  · simp only [List.mem_cons] at hx ⊢
    rcases hx with h | h | h | h | h
    · exact .inl (.inl h)
    · exact .inl (.inr (.inl h))
    · exact .inl (.inr (.inr (.inl h)))
    · exact .inl (.inr (.inr (.inr (.inl h))))
    · rcases hx1 x h with h | h
      · exact .inl (.inr (.inr (.inr (.inr h))))
      · exact .inr h
  · simp only [List.mem_cons] at hx
    rcases hx with h | h | h | h | h
    · omega
    · omega
    · omega
    · omega
    · rcases hx1 x h with h | h
      · have := hlb x h; omega
      · omega
set_option maxRecDepth 100000 in
set_option maxHeartbeats 1000000 in
theorem ends_any {r : Nat} (h : RunAt w p d cc B q T qe ql a n c t N ws m g w0) (most : Nat) (hm : most ≤ 1000) (hN : N + 2 * most ≤ 999) (hE : endsO T most 1 ws m g = some (r, m', g', ws')) :
    Calls Tryz.prog 36 #[.iface 52 (.pointer (some ⟨q, 0, none⟩)), .pointer (some ⟨p, 0, none⟩), .int .i64 most] w0 (Ret (.int .i64 r) (fun w' => RunAt w p d cc B q T qe ql a n c t (N + 2 * most) ws' m' g' w')) := by
  have hG : ∃ ws1 m1 g1, RunAt w p d cc B q T qe ql a n c t (N + 2 * 0) ws1 m1 g1 w0 ∧ endsO T (most - 0) (0 + 1) ws1 m1 g1 = some (r, m', g', ws') := ⟨ws, m, g, h, hE⟩
  clear h hE
  go_enter Tryz.func36, Tryz.ntmps36
  go_wp2_with fail
  go_loopw [7] (fun i wr => ∃ j : Nat, j ≤ most ∧ i = .int .i64 ((j : Int) + 1) ∧ ∃ ws1 m1 g1, RunAt w p d cc B q T qe ql a n c t (N + 2 * j) ws1 m1 g1 wr ∧ endsO T (most - j) (j + 1) ws1 m1 g1 = some (r, m', g', ws')) (fun i _ => most + 1 - (intOf i).toNat)
  case atStart => exact ⟨0, Nat.zero_le _, rfl, hG⟩
  case round =>
    clear hG
    obtain ⟨j, hj, rfl, ws1, m1, g1, hR, hE⟩ := hrel
    by_cases hlt : j < most
    · obtain ⟨f, hf⟩ : ∃ f, most - j = f + 1 := ⟨most - j - 1, by omega⟩
      rw [hf] at hE
      simp only [endsO] at hE
      split at hE
      · rename_i m2 g2 ws2 wait no hS
        have H := Lib.hid (hR.step (by omega) (mstpO_ok hR.bnd hS))
        have HF0 := Lib.hid hf
        have hle : decide ((j : Int) + 1 ≤ most) = true := by simp; omega
        clear hR hS hf
        split at hE
        · rename_i hwn
          simp only [Option.some.injEq, Prod.mk.injEq] at hE
          obtain ⟨rfl, rfl, rfl, rfl⟩ := hE
          cases wait with
          | true =>
            clear hwn
            go_wp2_with fail
            refine H.out.mono ?_
            rintro e' w1 ⟨rfl, hR1⟩
            have HR1 := Lib.hid hR1
            clear hR1
            go_wp2
            go_ret
            have := HR1.out
            exact ⟨rfl, ⟨this.ex, this.frm, this.ok, this.bnd, this.th, by have := this.wkl; omega, this.laid, this.lo⟩⟩
          | false =>
            have hno : (no != 0) = true := by simpa using hwn
            clear hwn
            go_wp2_with fail
            refine H.out.mono ?_
            rintro e' w1 ⟨rfl, hR1⟩
            have HR1 := Lib.hid hR1
            clear hR1
            go_wp2
            go_ret
            have := HR1.out
            exact ⟨rfl, ⟨this.ex, this.frm, this.ok, this.bnd, this.th, by have := this.wkl; omega, this.laid, this.lo⟩⟩
        · rename_i hwn
          obtain ⟨rfl, rfl⟩ : wait = false ∧ no = 0 := by
            cases wait with
            | true => simp at hwn
            | false => simp at hwn; exact ⟨rfl, hwn⟩
          clear hwn
          split at hE
          · rename_i hz
            simp only [Option.some.injEq, Prod.mk.injEq] at hE
            obtain ⟨rfl, rfl, rfl, rfl⟩ := hE
            have hz : (m2.nx == 0) = true := by simpa using hz
            go_wp2_with fail
            refine H.out.mono ?_
            rintro e' w1 ⟨rfl, hR1⟩
            obtain ⟨a1, n1, c1, hA1, -⟩ := hR1.ex
            have HD := Lib.hid (Done_mv hA1.mv)
            have HR1 := Lib.hid hR1
            clear hR1 hA1
            go_wp2_with fail
            refine HD.out.mono ?_
            rintro e' w2 ⟨rfl, rfl⟩
            go_wp2
            go_ret
            have := HR1.out
            exact ⟨by simp, ⟨this.ex, this.frm, this.ok, this.bnd, this.th, by have := this.wkl; omega, this.laid, this.lo⟩⟩
          · rename_i hz
            have hz : (m2.nx == 0) = false := by simpa using hz
            have HE := Lib.hid hE
            clear hE
            go_wp2_with fail
            refine H.out.mono ?_
            rintro e' w1 ⟨rfl, hR1⟩
            obtain ⟨a1, n1, c1, hA1, -⟩ := hR1.ex
            have HD := Lib.hid (Done_mv hA1.mv)
            have HR1 := Lib.hid hR1
            clear hR1 hA1
            go_wp2_with fail
            refine HD.out.mono ?_
            rintro e' w2 ⟨rfl, rfl⟩
            go_wp2
            go_roundw
            case rel => exact ⟨j + 1, by omega, by go_num, ws2, m2, g2, by rw [show N + 2 * (j + 1) = N + 2 * j + 2 by omega]; exact HR1.out, by rw [show most - (j + 1) = f by have := HF0.out; omega]; exact HE.out⟩
            case measure => simp [intOf]; omega
      · cases hE
    · obtain rfl : j = most := by omega
      rw [Nat.sub_self] at hE
      simp only [endsO, Option.some.injEq, Prod.mk.injEq] at hE
      obtain ⟨rfl, rfl, rfl, rfl⟩ := hE
      have hle : decide ((j : Int) + 1 ≤ j) = false := by simp; omega
      have HR1 := Lib.hid hR
      clear hR
      go_wp2
      go_ret
      exact ⟨rfl, HR1.out⟩
set_option maxRecDepth 100000 in
set_option maxHeartbeats 1000000 in
theorem waits_any {r : Bool} (h : RunAt w p d cc B q T qe ql a n c t N ws m g w0) (hN : N ≤ 900) (hE : waitsO T 30 ws m g = some (r, m', g', ws')) :
    Calls Tryz.prog 37 #[.iface 52 (.pointer (some ⟨q, 0, none⟩)), .pointer (some ⟨p, 0, none⟩)] w0 (Ret (.bool r) (fun w' => RunAt w p d cc B q T qe ql a n c t (N + 60) ws' m' g' w')) := by
  have hG : ∃ ws1 m1 g1, RunAt w p d cc B q T qe ql a n c t (N + 2 * 0) ws1 m1 g1 w0 ∧ waitsO T (30 - 0) ws1 m1 g1 = some (r, m', g', ws') := ⟨ws, m, g, h, hE⟩
  clear h hE
  go_enter Tryz.func37, Tryz.ntmps37
  go_wp2_with fail
  go_loopw [5] (fun i wr => ∃ j : Nat, j ≤ 30 ∧ i = .int .i64 (j : Int) ∧ ∃ ws1 m1 g1, RunAt w p d cc B q T qe ql a n c t (N + 2 * j) ws1 m1 g1 wr ∧ waitsO T (30 - j) ws1 m1 g1 = some (r, m', g', ws')) (fun i _ => 30 - (intOf i).toNat)
  case atStart => exact ⟨0, Nat.zero_le _, rfl, hG⟩
  case round =>
    clear hG
    obtain ⟨j, hj, rfl, ws1, m1, g1, hR, hE⟩ := hrel
    by_cases hlt : j < 30
    · obtain ⟨f, hf⟩ : ∃ f, 30 - j = f + 1 := ⟨30 - j - 1, by omega⟩
      rw [hf] at hE
      simp only [waitsO] at hE
      split at hE
      · rename_i m2 g2 ws2 wait no hS
        have H := Lib.hid (hR.step (by omega) (mstpO_ok hR.bnd hS))
        have HF0 := Lib.hid hf
        have hle : decide ((j : Int) < 30) = true := by simp; omega
        clear hR hS hf
        by_cases hno : no = 0
        · subst hno
          by_cases hz : m2.nx = 0
          · rw [if_pos (.inr hz)] at hE
            simp only [Option.some.injEq, Prod.mk.injEq] at hE
            obtain ⟨rfl, rfl, rfl, rfl⟩ := hE
            have hz : (m2.nx == 0) = true := by simpa using hz
            go_wp2_with fail
            refine H.out.mono ?_
            rintro e' w1 ⟨rfl, hR1⟩
            obtain ⟨a1, n1, c1, hA1, -⟩ := hR1.ex
            have HD := Lib.hid (Done_mv hA1.mv)
            have HR1 := Lib.hid hR1
            clear hR1 hA1
            go_wp2_with fail
            refine HD.out.mono ?_
            rintro e' w2 ⟨rfl, rfl⟩
            go_wp2
            go_ret
            have := HR1.out
            exact ⟨rfl, ⟨this.ex, this.frm, this.ok, this.bnd, this.th, by have := this.wkl; omega, this.laid, this.lo⟩⟩
          · rw [if_neg (by rintro (h | h); exact h rfl; exact hz h)] at hE
            have hz : (m2.nx == 0) = false := by simpa using hz
            cases wait with
            | true =>
              rw [if_pos rfl] at hE
              simp only [Option.some.injEq, Prod.mk.injEq] at hE
              obtain ⟨rfl, rfl, rfl, rfl⟩ := hE
              go_wp2_with fail
              refine H.out.mono ?_
              rintro e' w1 ⟨rfl, hR1⟩
              obtain ⟨a1, n1, c1, hA1, -⟩ := hR1.ex
              have HD := Lib.hid (Done_mv hA1.mv)
              have HR1 := Lib.hid hR1
              clear hR1 hA1
              go_wp2_with fail
              refine HD.out.mono ?_
              rintro e' w2 ⟨rfl, rfl⟩
              go_wp2
              go_ret
              have := HR1.out
              exact ⟨rfl, ⟨this.ex, this.frm, this.ok, this.bnd, this.th, by have := this.wkl; omega, this.laid, this.lo⟩⟩
            | false =>
              rw [if_neg (by decide)] at hE
              have HE := Lib.hid hE
              clear hE
              go_wp2_with fail
              refine H.out.mono ?_
              rintro e' w1 ⟨rfl, hR1⟩
              obtain ⟨a1, n1, c1, hA1, -⟩ := hR1.ex
              have HD := Lib.hid (Done_mv hA1.mv)
              have HR1 := Lib.hid hR1
              clear hR1 hA1
              go_wp2_with fail
              refine HD.out.mono ?_
              rintro e' w2 ⟨rfl, rfl⟩
              go_wp2
              go_roundw
              case rel => exact ⟨j + 1, by omega, by go_num, ws2, m2, g2, by rw [show N + 2 * (j + 1) = N + 2 * j + 2 by omega]; exact HR1.out, by rw [show 30 - (j + 1) = f by have := HF0.out; omega]; exact HE.out⟩
              case measure => simp [intOf]; omega
        · rw [if_pos (.inl hno)] at hE
          simp only [Option.some.injEq, Prod.mk.injEq] at hE
          obtain ⟨rfl, rfl, rfl, rfl⟩ := hE
          have hno : (no != 0) = true := by simpa using hno
          go_wp2_with fail
          refine H.out.mono ?_
          rintro e' w1 ⟨rfl, hR1⟩
          have HR1 := Lib.hid hR1
          clear hR1
          go_wp2
          go_ret
          have := HR1.out
          exact ⟨rfl, ⟨this.ex, this.frm, this.ok, this.bnd, this.th, by have := this.wkl; omega, this.laid, this.lo⟩⟩
      · cases hE
    · obtain rfl : j = 30 := by omega
      rw [Nat.sub_self] at hE
      simp only [waitsO, Option.some.injEq, Prod.mk.injEq] at hE
      obtain ⟨rfl, rfl, rfl, rfl⟩ := hE
      have HR1 := Lib.hid hR
      clear hR
      go_wp2
      go_ret
      exact ⟨rfl, HR1.out⟩
end
/-- The law's begin, for the kinds 1 to 3. -/
theorem lbegin {w : World} {np T : Nat} (h : Nd w np 3 T) (t : Nat) (ht : t < T) (k md : Int) (hk : k = 1 ∨ k = 2 ∨ k = 3) (hmd : k = 2 ∨ md = 1 ∨ md = 2 ∨ md = 3) :
    Calls Tryz.prog 18 #[.pointer (some ⟨np, 0, none⟩), .int .i64 0, .int .i64 (t : Int), .int .i64 k, .int .i64 md] w
      (fun e w' => ∃ q qe ql, Ret (.tuple #[.pointer (some ⟨q, 0, none⟩), .int .i64 0]) (fun w' => Frm [] w w' ∧ MvAt w' q T qe ql none 0 0 (Mv.new t (k - 1) (if k = 2 then 0 else md)) ∧ PgR w' qe false 3 T 0 (2 * t) 1 0 false ∧ PgR w' ql true 3 T 0 (2 * t) 1 0 false ∧ w.heap.size ≤ q ∧ w.heap.size ≤ qe ∧ w.heap.size ≤ ql) e w') := by
  rcases hk with rfl | rfl | rfl
  · have H := Lib.hid (newGet h t ht md (by omega))
    clear h
    go_enter Tryz.func18, Tryz.ntmps18
    go_wp2_with fail
    refine H.out.mono ?_
    rintro e w1 ⟨q, qe, ql, rfl, hR⟩
    have HR := Lib.hid hR
    clear hR
    go_wp2
    go_ret2
    exact ⟨q, qe, ql, rfl, HR.out⟩
  · have H := Lib.hid (newBack h t ht)
    clear h
    go_enter Tryz.func18, Tryz.ntmps18
    go_wp2_with fail
    refine H.out.mono ?_
    rintro e w1 ⟨q, qe, ql, rfl, hR⟩
    have HR := Lib.hid hR
    clear hR
    go_wp2
    go_ret2
    exact ⟨q, qe, ql, rfl, HR.out⟩
  · have H := Lib.hid (newGo h t ht md (by omega))
    clear h
    go_enter Tryz.func18, Tryz.ntmps18
    go_wp2_with fail
    refine H.out.mono ?_
    rintro e w1 ⟨q, qe, ql, rfl, hR⟩
    have HR := Lib.hid hR
    clear hR
    go_wp2
    go_ret2
    exact ⟨q, qe, ql, rfl, HR.out⟩
end Go.Proofs.YtjhidkjhfgbaeaaGreatDoor
