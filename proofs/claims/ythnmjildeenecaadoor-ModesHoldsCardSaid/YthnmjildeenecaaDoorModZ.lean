/- The walk of ModesHolds. -/
import Derived.Test.YthnmjildeenecaaDoorModY
import Derived.Deep.RegionHeld3
namespace Go.Proofs.YthnmjildeenecaaDoor
open Go.ChangeShapes Go.WideShapes Go.ChangeAt Go.RowKit

/-- What the stage's theorem asks of how many are given. -/
theorem holds_all {h q : List Int} (g : Int) (ha : allM h = true) : allM (h ++ q.take (grant h q g)) = true := grant_all h q g ha
theorem holds_next {h q : List Int} {g x : Int} (hx : q[grant h q g]? = some x) (hv : allM (h ++ q.take (grant h q g) ++ [x]) = true) : x = 1 ∧ 4 ≤ g + s1 (q.take (grant h q g)) := by
  rw [allM_snoc, Bool.and_eq_true, Bool.and_eq_true] at hv
  have hs := grant_stop h q g x hx
  by_cases h1 : x = 1
  · refine ⟨h1, ?_⟩
    by_cases h4 : 4 ≤ g + s1 (q.take (grant h q g))
    · exact h4
    · rw [goB_mk hv.2.1 hv.2.2 (.inr (.inr (by omega)))] at hs; cases hs
  · rw [goB_mk hv.2.1 hv.2.2 (.inl h1)] at hs; cases hs
theorem holds_cnt {h q : List Int} {g : Int} (hl : grant h q g < q.length) (h4 : 4 < g + s1 (q.take (grant h q g))) : s1 (q.take (grant h q g)) = 0 := by
  have h0 := s1_nonneg (q.take (grant h q g))
  by_cases hp : 0 < s1 (q.take (grant h q g))
  · have := grant_cnt h q g hl hp; omega
  · omega

/-- append of integers that are read somewhere, at an operation of a region that is guarded, and wanted. -/
theorem step_appW {k : IntKind} {t T : TypeId} {z : Value} {by_ : Nat} (hT : Tryd.prog.underlying T = some (.slice t)) (hi0 : (Tryd.prog.info? t).map (fun i => (i.zero, i.size, i.bytes)) = some (some z, 1, by_)) (hz : z.cells.size = 1) (hby : by_ ≤ 8)
    {w : World} {ops : Array Oper} {o : Oper} {x : Act} {K : Act → World → Prop} {Q : Exit → Act → World → Prop} {E : Prop} (hw : Region.wanted o (yielded ops x.tmps) = true) (p q : Operand)
    (ho : o.op = .call { callee := .builtin .append, args := #[p, q], argTypes := #[T, T] }) {B : Nat} {a a2 : Option Addr} {n c m c2 b2 o2 : Nat} {l l2 : List Int}
    (hd : x.eval p = .slice a n c) (hq : x.eval q = .slice a2 m c2) (hR : Row k t B w a n c l) (hL : Li k w a2 m c2 b2 o2 l2) (hn : l.length + m ≤ 10000000) (hB : B ≤ w.heap.size)
    (hK : ∀ a' c' w', Row k t B w' a' (n + m) c' (l ++ l2) → Frm (blk (.slice a n c)) w w' → (∀ x ∈ blk (.slice a' (n + m) c'), x ∈ blk (.slice a n c) ∨ w.heap.size ≤ x) → K (x.put o.dst (.slice a' (n + m : Nat) c')) w') :
    if Region.wanted o (yielded ops x.tmps) = true then Oper.wp Tryd.prog o x w K Q else E := by
  rw [if_pos hw]
  obtain ⟨a', c', w', hr, h1, h2, h3⟩ := run_app_at hT hi0 hz hby hR hL hn hB o.type
  unfold Oper.wp
  simp [execOp, ho, resolve, invoke, builtin, hd, hq, hr, Result.andThen]
  exact hK _ _ _ h1 h2 h3

/-- An operation of a region that comes first: one that is wanted, and one that is not. -/
theorem take_in {P : Program} {ops : Array Oper} {Q : Exit → Act → World → Prop} {md : Region.Mode} {S : World → Prop} {i d : Nat} {oi : Oper} {v : Value} {fuel : Nat} {listed : Array Bool} {a : Act} {w : World} (hi : ops[i]? = some oi) (hd : oi.dst = some d)
    (hs : Region.noSelect ops = true) (hf : Region.free md ops listed i = true) (hr : (Region.ready md ops listed).contains i = true) (hQ : ∀ c a w, Q (.panic c) (a.put oi.dst v) w → Q (.panic c) a w)
    (hw : Region.wanted oi (yielded ops a.tmps) = true) (hy : ∀ w, S w → (execOp a.eval oi).run P w = .ok (.value v) w) (hS : S w) (h : wpAnyH P md ops Q S fuel (listed.setIfInBounds i true) (a.put (some d) v) w) : wpAnyH P md ops Q S (fuel + 1) listed a w :=
  wpAnyH_take hi hs hf hr hQ (.inl ⟨hw, hy⟩) hS (by rw [hd]; exact h)
theorem take_out {P : Program} {ops : Array Oper} {Q : Exit → Act → World → Prop} {md : Region.Mode} {S : World → Prop} {i d : Nat} {oi : Oper} {fuel : Nat} {listed : Array Bool} {a : Act} {w : World} (hi : ops[i]? = some oi) (hd : oi.dst = some d)
    (hs : Region.noSelect ops = true) (hf : Region.free md ops listed i = true) (hr : (Region.ready md ops listed).contains i = true) (hQ : ∀ c a w, Q (.panic c) (a.put oi.dst undef) w → Q (.panic c) a w)
    (hw : Region.wanted oi (yielded ops a.tmps) = false) (hS : S w) (h : wpAnyH P md ops Q S fuel (listed.setIfInBounds i true) (a.put (some d) undef) w) : wpAnyH P md ops Q S (fuel + 1) listed a w :=
  wpAnyH_take hi hs hf hr hQ (.inr ⟨hw, rfl⟩) hS (by rw [hd]; exact h)

section
variable {a : Option Addr} {n c : Nat} {a2 : Option Addr} {n2 c2 : Nat} {g : Int} {W : World} {b o b2 o2 : Nat} {h q : List Int}

set_option maxRecDepth 100000 in
set_option maxHeartbeats 8000000 in
theorem holds_main (HW : Hid (Laid W)) (HL : Hid (Li .i64 W a n c b o h)) (HL2 : Hid (Li .i64 W a2 n2 c2 b2 o2 q)) (hn : ¬ 40 < n) (hn2 : ¬ 40 < n2) (hg0 : ¬ g < 0) (hg4 : ¬ 4 < g) (HA : Hid (allM h = true)) :
    Calls Tryd.prog 8 #[.slice a n c, .slice a2 n2 c2, .int .i64 g] W (Ret (.bool true) (fun w' => Frm [] W w')) := by
  have d : decide ((40 : Int) < (n : Int)) = false := by simp; omega
  have d2 : decide ((40 : Int) < (n2 : Int)) = false := by simp; omega
  have d3 : decide (g < 0) = false := by simp; omega
  have d4 : decide (4 < g) = false := by simp; omega
  have hRl := grant_le h q g
  rw [HL2.out.len] at hRl
  have hall := holds_all (q := q) g HA.out
  have hnext := fun x => holds_next (h := h) (q := q) (g := g) (x := x)
  have hcnt := holds_cnt (h := h) (q := q) (g := g)
  have hgr : grant h q g = grant h q g := rfl
  generalize hRR : grant h q g = R at hRl hall hnext hcnt
  have HRR := Lib.hid hRR
  have HALL := Lib.hid hall
  have HNEXT := Lib.hid hnext
  have HCNT := Lib.hid hcnt
  clear hRR hall hnext hcnt hgr
  go_enter Tryd.func8, Tryd.ntmps8
  go_wp2_with fail
  refine (All_any HW.out HL.out (by omega)).mono ?_
  rintro e w1 ⟨rfl, hF⟩
  rw [HA.out]
  go_wp2_with fail
  refine (Grants_any (HW.out.frm0 hF) (HL.out.frm0 hF) (HL2.out.frm0 hF) (by omega) (by omega) g (by unfold lo64; omega)).mono ?_
  rintro e w2 ⟨rfl, hF2⟩
  replace hF := hF.trans hF2
  clear hF2
  rw [HRR.out]
  have e1 : decide ((R : Int) < 0) = false := by simp
  have e2 : decide (n2 < R) = false := by simp; omega
  have hct := cut_to_md (a := a2) (n := n2) (c := c2) (k := R) (by have := HL2.out.cap; omega)
  go_upto_region 6 with fail
  go_cut [8] (fun s8 wx => ∃ (a8 : Option Addr) (m8 c8 : Nat), s8 = .slice a8 m8 c8 ∧ m8 ≤ 80 ∧ Frm [] W wx ∧ Hid (Row .i64 22 W.heap.size wx a8 m8 c8 (h ++ q.take R)))
  case first =>
    go_region_law (first | (refine step_appR Tryd.underlying30 info_md (by decide) (by decide) rfl (.const (.slice none 0 0)) (.tmp 46) rfl (B := W.heap.size) (a := none) (n := 0) (c := 0) (m := n) (l := []) (l2 := h) rfl rfl (Row.nil _ _ _ _) (HL.out.frm0 (by (repeat' (first | assumption | exact Frm.refl _ _ | apply Frm.drew | apply Frm.alloc)))) (by simp; omega) (by have := hF.size; simp; try omega) ?_; intro a3 c3 w3 hR3 hF3 hb3; have hS3 : Frm [] W w3 := Frm.trans (by (repeat' (first | assumption | exact Frm.refl _ _ | apply Frm.drew | apply Frm.alloc))) (hF3.weak (fun x hx => by cases hx))) | (refine step_appR Tryd.underlying30 info_md (by decide) (by decide) rfl (.tmp 47) (.tmp 50) rfl (B := W.heap.size) (a := a3) (n := 0 + n) (c := c3) (m := R) (l := [] ++ h) (l2 := q.take R) (by simp [Act.eval]) (by simp [Act.eval]) (hR3.frm0 (by (repeat' (first | assumption | exact Frm.refl _ _ | apply Frm.drew | apply Frm.alloc)))) ((HL2.out.take hRl).frm0 (by (repeat' (first | assumption | exact Frm.refl _ _ | apply Frm.drew | apply Frm.alloc)))) (by have := HL.out.len; simp; omega) (by have := hS3.size; first | omega | (simp; omega)) ?_; intro a4 c4 w4 hR4 hF4 hb4; have hS4 : Frm [] W w4 := Frm.trans_new (by (repeat' (first | assumption | exact Frm.refl _ _ | apply Frm.drew | apply Frm.alloc))) hF4 (fun x hx => .inr (hR3.blk x hx).1)))
    all_goals
      go_wp2
      go_meet
      exact ⟨a4, n + R, c4, by simp, by omega, hS4, Lib.hid (by simpa using hR4)⟩
  case rest =>
    obtain ⟨a8, m8, c8, rfl, hm8, hF8, HR8⟩ := hcut
    obtain ⟨b8, hL8⟩ := HR8.out.li
    have HL8 := Lib.hid hL8
    clear hL8
    go_wp2_with fail
    refine (All_any (HW.out.frm0 hF8) HL8.out (by omega)).mono ?_
    rintro e w9 ⟨rfl, hF9⟩
    rw [HALL.out]
    have HL9 := Lib.hid (HL8.out.frm0 hF9)
    have hFx := hF8.trans hF9
    clear hF9 hF8 hF HR8 HL8
    have hT := (HL2.out.take hRl).frm0 hFx
    have HT := Lib.hid hT
    clear hT
    go_wp2_with fail
    go_loop [9, 59] (fun s i => ∃ (k : Nat) (S : Int), k ≤ R ∧ i = .int .i64 k ∧ s = .int .i64 S ∧ 0 ≤ S ∧ S ≤ k ∧ Hid (s1 ((q.take R).take k) = S)) (fun _ i => R - (intOf i).toNat)
    case atStart => exact ⟨0, 0, by omega, rfl, rfl, by omega, by omega, Lib.hid rfl⟩
    case round =>
      obtain ⟨k, S, hk, rfl, rfl, hS0, hS1, HS⟩ := hrel
      by_cases hlt : k < R
      · obtain ⟨x, hx, hg, hc⟩ := HT.out.get hlt
        have hix := ix_md (c := c2) HT.out.ad hlt
        have hb0 : (k : Int) < (R : Int) := by omega
        have hst : s1 ((q.take R).take (k + 1)) = S + if x = 1 then 1 else 0 := by rw [take_one hx, s1_snoc, HS.out]
        have HST := Lib.hid hst
        clear hx hg hst
        by_cases h1 : x = 1
        · have f1 : (x == 1) = true := by simpa using h1
          have HST1 : Hid (s1 ((q.take R).take (k + 1)) = S + 1) := Lib.hid (by rw [HST.out, if_pos h1])
          clear h1
          go_wp2_with fail
          go_round
          case rel => exact ⟨k + 1, S + 1, by omega, by go_num, rfl, by omega, by omega, HST1⟩
          case measure => simp [intOf]; omega
        · have f1 : (x == 1) = false := by simpa using h1
          have HST1 : Hid (s1 ((q.take R).take (k + 1)) = S) := Lib.hid (by rw [HST.out, if_neg h1]; omega)
          clear h1
          go_wp2_with fail
          go_round
          case rel => exact ⟨k + 1, S, by omega, by go_num, rfl, by omega, by omega, HST1⟩
          case measure => simp [intOf]; omega
      · obtain rfl : k = R := by omega
        have hSS : s1 (q.take k) = S := by
          have := HS.out
          rwa [List.take_take, Nat.min_self] at this
        have hnext := HNEXT.out
        have hcnt := HCNT.out
        rw [hSS] at hnext hcnt
        have HN := Lib.hid hnext
        have HC := Lib.hid hcnt
        clear hSS hnext hcnt hlt HNEXT HCNT HT HS
        go_upto_if 71 with fail
        go_cut [] (fun wx => Frm [] W wx)
        case first =>
          by_cases hlt : k < n2
          · obtain ⟨x, hx, _, _⟩ := (HL2.out.frm0 hFx).get hlt
            have hix := ix_md (c := c2) HL2.out.ad hlt
            have hcell := fun w' (hq : Frm [] w9 w') => (HL2.out.frm0 (hFx.trans hq)).cell k x hx
            have hb0 : (k : Int) < (n2 : Int) := by omega
            have hwr : IntKind.i64.wrap (g + S) = g + S := IntWalk.i64_in _ (by omega)
            have hvx : allM (h ++ q.take k ++ [x]) = true → (x != 1) = false ∧ decide (IntKind.i64.wrap (g + S) < 4) = false := fun hv => by
              obtain ⟨h1, h2⟩ := HN.out x hx hv
              exact ⟨by simp [h1], by rw [hwr]; simp; omega⟩
            have hlq : k < q.length := by rw [HL2.out.len]; exact hlt
            have hff : (decide (4 < IntKind.i64.wrap (g + S)) = true ∧ decide (0 < S) = false) ∨ decide (4 < IntKind.i64.wrap (g + S)) = false := by
              rw [hwr]
              by_cases h4 : 4 < g + S
              · have := HC.out hlq h4
                exact .inl ⟨by simpa using h4, by simp; omega⟩
              · exact .inr (by simpa using h4)
            clear hlq hx hwr
            cases hv : allM (h ++ q.take k ++ [x]) with
            | true =>
              obtain ⟨f3, f4⟩ := hvx hv
              have HV := Lib.hid hv
              clear hv hvx
              rcases hff with ⟨f1, f2⟩ | f1
              · go_wp2_with fail
                refine wp_region_noPanic ?_
                refine wp_region_held_drew (S := fun w' => Frm [] w9 w') (by kernel_rfl) ((Frm.refl _ _).drew) (fun hHeld => ?_)
                refine take_in (i := 0) (d := 72) (v := .int .i64 g) rfl rfl (by kernel_rfl) (by kernel_rfl) (by kernel_rfl) (fun _ _ _ h => h) (by kernel_rfl) (fun _ _ => rfl) (by assumption) ?_
                try simp only [Act.put, List.setIfInBounds_toArray, List.set_cons_zero, List.set_cons_succ]
                refine take_in (i := 1) (d := 73) (v := .int .i64 S) rfl rfl (by kernel_rfl) (by kernel_rfl) (by kernel_rfl) (fun _ _ _ h => h) (by kernel_rfl) (fun _ _ => rfl) (by assumption) ?_
                try simp only [Act.put, List.setIfInBounds_toArray, List.set_cons_zero, List.set_cons_succ]
                refine take_in (i := 2) (d := 74) (v := .int .i64 (IntKind.i64.wrap (g + S))) rfl rfl (by kernel_rfl) (by kernel_rfl) (by kernel_rfl) (fun _ _ _ h => h) (by kernel_rfl) (fun _ _ => rfl) (by assumption) ?_
                try simp only [Act.put, List.setIfInBounds_toArray, List.set_cons_zero, List.set_cons_succ]
                refine take_in (i := 3) (d := 75) (v := .bool (decide (4 < IntKind.i64.wrap (g + S)))) rfl rfl (by kernel_rfl) (by kernel_rfl) (by kernel_rfl) (fun _ _ _ h => h) (by kernel_rfl) (fun _ _ => rfl) (by assumption) ?_
                try simp only [Act.put, List.setIfInBounds_toArray, List.set_cons_zero, List.set_cons_succ, f1]
                refine take_in (i := 4) (d := 76) (v := .bool true) rfl rfl (by kernel_rfl) (by kernel_rfl) (by kernel_rfl) (fun _ _ _ h => h) (by kernel_rfl) (fun _ _ => rfl) (by assumption) ?_
                try simp only [Act.put, List.setIfInBounds_toArray, List.set_cons_zero, List.set_cons_succ]
                refine take_in (i := 5) (d := 77) (v := .int .i64 S) rfl rfl (by kernel_rfl) (by kernel_rfl) (by kernel_rfl) (fun _ _ _ h => h) (by kernel_rfl) (fun _ _ => rfl) (by assumption) ?_
                try simp only [Act.put, List.setIfInBounds_toArray, List.set_cons_zero, List.set_cons_succ]
                refine take_in (i := 6) (d := 78) (v := .bool (decide (0 < S))) rfl rfl (by kernel_rfl) (by kernel_rfl) (by kernel_rfl) (fun _ _ _ h => h) (by kernel_rfl) (fun _ _ => rfl) (by assumption) ?_
                try simp only [Act.put, List.setIfInBounds_toArray, List.set_cons_zero, List.set_cons_succ, f2]
                refine take_in (i := 7) (d := 79) (v := .bool false) rfl rfl (by kernel_rfl) (by kernel_rfl) (by kernel_rfl) (fun _ _ _ h => h) (by kernel_rfl) (fun _ _ => rfl) (by assumption) ?_
                try simp only [Act.put, List.setIfInBounds_toArray, List.set_cons_zero, List.set_cons_succ]
                refine take_in (i := 8) (d := 80) (v := .bool false) rfl rfl (by kernel_rfl) (by kernel_rfl) (by kernel_rfl) (fun _ _ _ h => h) (by kernel_rfl) (fun _ _ => rfl) (by assumption) ?_
                try simp only [Act.put, List.setIfInBounds_toArray, List.set_cons_zero, List.set_cons_succ]
                refine take_in (i := 9) (d := 81) (v := .slice a8 m8 c8) rfl rfl (by kernel_rfl) (by kernel_rfl) (by kernel_rfl) (fun _ _ _ h => h) (by kernel_rfl) (fun _ _ => rfl) (by assumption) ?_
                try simp only [Act.put, List.setIfInBounds_toArray, List.set_cons_zero, List.set_cons_succ]
                refine take_in (i := 11) (d := 83) (v := .slice a2 n2 c2) rfl rfl (by kernel_rfl) (by kernel_rfl) (by kernel_rfl) (fun _ _ _ h => h) (by kernel_rfl) (fun _ _ => rfl) (by assumption) ?_
                try simp only [Act.put, List.setIfInBounds_toArray, List.set_cons_zero, List.set_cons_succ]
                refine take_in (i := 12) (d := 84) (v := .int .i64 (k : Int)) rfl rfl (by kernel_rfl) (by kernel_rfl) (by kernel_rfl) (fun _ _ _ h => h) (by kernel_rfl) (fun _ _ => rfl) (by assumption) ?_
                try simp only [Act.put, List.setIfInBounds_toArray, List.set_cons_zero, List.set_cons_succ]
                refine take_in (i := 13) (d := 85) (v := .pointer (some ⟨b2, o2 + k, none⟩)) rfl rfl (by kernel_rfl) (by kernel_rfl) (by kernel_rfl) (fun _ _ _ h => h) (by kernel_rfl) (fun w' hS => by go_simp) (by assumption) ?_
                try simp only [Act.put, List.setIfInBounds_toArray, List.set_cons_zero, List.set_cons_succ]
                refine take_in (i := 14) (d := 86) (v := .int .i64 x) rfl rfl (by kernel_rfl) (by kernel_rfl) (by kernel_rfl) (fun _ _ _ h => h) (by kernel_rfl) (fun w' hS => by have hS' : Frm [] w9 w' := hS; have hcc := hcell w' hS'; go_simp) (by assumption) ?_
                try simp only [Act.put, List.setIfInBounds_toArray, List.set_cons_zero, List.set_cons_succ]
                refine wpAnyH_ready (rs := [10, 15]) (by kernel_rfl) (by simp) ?_
                refine AllReadyH.cons rfl (fun K hK => ?_) ?_
                · (refine step_appW Tryd.underlying30 info_md (by decide) (by decide) (by kernel_rfl) (.const (.slice none 0 0)) (.tmp 81) rfl (B := w9.heap.size) (a := none) (n := 0) (c := 0) (m := m8) (l := []) (l2 := h ++ q.take k) rfl rfl (Row.nil _ _ _ _) (HL9.out.frm0 (by (repeat' (first | assumption | exact Frm.refl _ _ | apply Frm.drew | apply Frm.alloc)))) (by simp; omega) (by have hq : Frm [] w9 _ := (by (repeat' (first | assumption | exact Frm.refl _ _ | apply Frm.drew | apply Frm.alloc))); exact hq.size) ?_)
                  intro xa xc x1 hR1 hF1 hb1
                  have hS1 : Frm [] w9 x1 := Frm.trans (by (repeat' (first | assumption | exact Frm.refl _ _ | apply Frm.drew | apply Frm.alloc))) (hF1.weak (fun y hy => by cases hy))
                  simp only [Nat.zero_add, List.nil_append] at hR1
                  refine hK.out _ _ (hS1) (fun hHeld => ?_)
                  clear hK K
                  try change wpAnyH _ _ _ _ _ _ _ (Act.put _ (some 82) _) _
                  try simp only [Act.put, List.setIfInBounds_toArray, List.set_cons_zero, List.set_cons_succ, Nat.zero_add]
                  refine wpAnyH_ready (rs := [15]) (by kernel_rfl) (by simp) ?_
                  refine AllReadyH.cons rfl (fun K hK => ?_) AllReadyH.nil
                  go_simp
                  refine hK.out _ _ (by (repeat' (first | assumption | exact Frm.refl _ _ | apply Frm.drew | apply Frm.alloc))) (fun hHeld => ?_)
                  clear hK K
                  try change wpAnyH _ _ _ _ _ _ _ (Act.put _ (some 87) _) _
                  try simp only [Act.put, List.setIfInBounds_toArray, List.set_cons_zero, List.set_cons_succ]
                  refine wpAnyH_ready (rs := [16]) (by kernel_rfl) (by simp) ?_
                  refine AllReadyH.cons rfl (fun K hK => ?_) AllReadyH.nil
                  refine step_appW Tryd.underlying30 info_md (by decide) (by decide) (by kernel_rfl) (.tmp 82) (.tmp 87) rfl (B := w9.heap.size) (a := xa) (n := m8) (c := xc) (m := 1) (l := h ++ q.take k) (l2 := [x]) (by simp [Act.eval]) (by simp [Act.eval]) (hR1.frm0 (by (repeat' (first | assumption | exact Frm.refl _ _ | apply Frm.drew | apply Frm.alloc)))) (li_new rfl (heap_alloc_new x1 _)) (by have := HL.out.len; have := HL2.out.len; simp; omega) (by have hq : Frm [] w9 _ := (by (repeat' (first | assumption | exact Frm.refl _ _ | apply Frm.drew | apply Frm.alloc))); exact hq.size) ?_
                  intro ya yc x2 hR2 hF2 hb2
                  have hS2 : Frm [] w9 x2 := Frm.trans_new (by (repeat' (first | assumption | exact Frm.refl _ _ | apply Frm.drew | apply Frm.alloc))) hF2 (fun y hy => .inr (hR1.blk y hy).1)
                  refine hK.out _ _ (hS2) (fun hHeld => ?_)
                  clear hK K
                  try change wpAnyH _ _ _ _ _ _ _ (Act.put _ (some 88) _) _
                  try simp only [Act.put, List.setIfInBounds_toArray, List.set_cons_zero, List.set_cons_succ]
                  refine wpAnyH_ready (rs := [17]) (by kernel_rfl) (by simp) ?_
                  refine AllReadyH.cons rfl (fun K hK => ?_) AllReadyH.nil
                  go_simp
                  go_at_call 17
                  obtain ⟨b9, hL9⟩ := hR2.li
                  refine (All_any (HW.out.frm0 (hFx.trans hS2)) hL9 (by omega)).mono ?_
                  rintro e x3 ⟨rfl, hF3⟩
                  have hS3 : Frm [] w9 x3 := hS2.trans hF3
                  rw [HV.out]
                  try go_wp2_with fail
                  refine hK.out _ _ (hS3) (fun hHeld => ?_)
                  clear hK K
                  try change wpAnyH _ _ _ _ _ _ _ (Act.put _ (some 89) _) _
                  try simp only [Act.put, List.setIfInBounds_toArray, List.set_cons_zero, List.set_cons_succ]
                  refine take_in (i := 18) (d := 90) (v := .bool true) rfl rfl (by kernel_rfl) (by kernel_rfl) (by kernel_rfl) (fun _ _ _ h => h) (by kernel_rfl) (fun _ _ => rfl) (by assumption) ?_
                  try simp only [Act.put, List.setIfInBounds_toArray, List.set_cons_zero, List.set_cons_succ]
                  refine take_in (i := 19) (d := 91) (v := .slice a2 n2 c2) rfl rfl (by kernel_rfl) (by kernel_rfl) (by kernel_rfl) (fun _ _ _ h => h) (by kernel_rfl) (fun _ _ => rfl) (by assumption) ?_
                  try simp only [Act.put, List.setIfInBounds_toArray, List.set_cons_zero, List.set_cons_succ]
                  refine take_in (i := 20) (d := 92) (v := .int .i64 (k : Int)) rfl rfl (by kernel_rfl) (by kernel_rfl) (by kernel_rfl) (fun _ _ _ h => h) (by kernel_rfl) (fun _ _ => rfl) (by assumption) ?_
                  try simp only [Act.put, List.setIfInBounds_toArray, List.set_cons_zero, List.set_cons_succ]
                  refine take_in (i := 21) (d := 93) (v := .pointer (some ⟨b2, o2 + k, none⟩)) rfl rfl (by kernel_rfl) (by kernel_rfl) (by kernel_rfl) (fun _ _ _ h => h) (by kernel_rfl) (fun w' hS => by go_simp) (by assumption) ?_
                  try simp only [Act.put, List.setIfInBounds_toArray, List.set_cons_zero, List.set_cons_succ]
                  refine take_in (i := 22) (d := 94) (v := .int .i64 x) rfl rfl (by kernel_rfl) (by kernel_rfl) (by kernel_rfl) (fun _ _ _ h => h) (by kernel_rfl) (fun w' hS => by have hS' : Frm [] w9 w' := hS; have hcc := hcell w' hS'; go_simp) (by assumption) ?_
                  try simp only [Act.put, List.setIfInBounds_toArray, List.set_cons_zero, List.set_cons_succ]
                  refine take_in (i := 23) (d := 95) (v := .bool (x != 1)) rfl rfl (by kernel_rfl) (by kernel_rfl) (by kernel_rfl) (fun _ _ _ h => h) (by kernel_rfl) (fun _ _ => rfl) (by assumption) ?_
                  try simp only [Act.put, List.setIfInBounds_toArray, List.set_cons_zero, List.set_cons_succ, f3]
                  refine take_in (i := 24) (d := 96) (v := .bool false) rfl rfl (by kernel_rfl) (by kernel_rfl) (by kernel_rfl) (fun _ _ _ h => h) (by kernel_rfl) (fun _ _ => rfl) (by assumption) ?_
                  try simp only [Act.put, List.setIfInBounds_toArray, List.set_cons_zero, List.set_cons_succ]
                  refine take_in (i := 25) (d := 97) (v := .int .i64 g) rfl rfl (by kernel_rfl) (by kernel_rfl) (by kernel_rfl) (fun _ _ _ h => h) (by kernel_rfl) (fun _ _ => rfl) (by assumption) ?_
                  try simp only [Act.put, List.setIfInBounds_toArray, List.set_cons_zero, List.set_cons_succ]
                  refine take_in (i := 26) (d := 98) (v := .int .i64 S) rfl rfl (by kernel_rfl) (by kernel_rfl) (by kernel_rfl) (fun _ _ _ h => h) (by kernel_rfl) (fun _ _ => rfl) (by assumption) ?_
                  try simp only [Act.put, List.setIfInBounds_toArray, List.set_cons_zero, List.set_cons_succ]
                  refine take_in (i := 27) (d := 99) (v := .int .i64 (IntKind.i64.wrap (g + S))) rfl rfl (by kernel_rfl) (by kernel_rfl) (by kernel_rfl) (fun _ _ _ h => h) (by kernel_rfl) (fun _ _ => rfl) (by assumption) ?_
                  try simp only [Act.put, List.setIfInBounds_toArray, List.set_cons_zero, List.set_cons_succ]
                  refine take_in (i := 28) (d := 100) (v := .bool (decide (IntKind.i64.wrap (g + S) < 4))) rfl rfl (by kernel_rfl) (by kernel_rfl) (by kernel_rfl) (fun _ _ _ h => h) (by kernel_rfl) (fun _ _ => rfl) (by assumption) ?_
                  try simp only [Act.put, List.setIfInBounds_toArray, List.set_cons_zero, List.set_cons_succ, f4]
                  refine take_in (i := 29) (d := 101) (v := .bool false) rfl rfl (by kernel_rfl) (by kernel_rfl) (by kernel_rfl) (fun _ _ _ h => h) (by kernel_rfl) (fun _ _ => rfl) (by assumption) ?_
                  try simp only [Act.put, List.setIfInBounds_toArray, List.set_cons_zero, List.set_cons_succ]
                  refine take_in (i := 30) (d := 102) (v := .bool false) rfl rfl (by kernel_rfl) (by kernel_rfl) (by kernel_rfl) (fun _ _ _ h => h) (by kernel_rfl) (fun _ _ => rfl) (by assumption) ?_
                  try simp only [Act.put, List.setIfInBounds_toArray, List.set_cons_zero, List.set_cons_succ]
                  refine take_in (i := 31) (d := 103) (v := .bool false) rfl rfl (by kernel_rfl) (by kernel_rfl) (by kernel_rfl) (fun _ _ _ h => h) (by kernel_rfl) (fun _ _ => rfl) (by assumption) ?_
                  try simp only [Act.put, List.setIfInBounds_toArray, List.set_cons_zero, List.set_cons_succ]
                  refine wpAnyH_done (by kernel_rfl) ?_ _
                  refine NoPanic.normal ?_
                  go_wp2
                  go_meet
                  exact hFx.trans hS3
                · refine AllReadyH.cons rfl (fun K hK => ?_) AllReadyH.nil
                  go_simp
                  refine hK.out _ _ (by (repeat' (first | assumption | exact Frm.refl _ _ | apply Frm.drew | apply Frm.alloc))) (fun hHeld => ?_)
                  clear hK K
                  try change wpAnyH _ _ _ _ _ _ _ (Act.put _ (some 87) _) _
                  try simp only [Act.put, List.setIfInBounds_toArray, List.set_cons_zero, List.set_cons_succ]
                  refine wpAnyH_ready (rs := [10]) (by kernel_rfl) (by simp) ?_
                  refine AllReadyH.cons rfl (fun K hK => ?_) AllReadyH.nil
                  (refine step_appW Tryd.underlying30 info_md (by decide) (by decide) (by kernel_rfl) (.const (.slice none 0 0)) (.tmp 81) rfl (B := w9.heap.size) (a := none) (n := 0) (c := 0) (m := m8) (l := []) (l2 := h ++ q.take k) rfl rfl (Row.nil _ _ _ _) (HL9.out.frm0 (by (repeat' (first | assumption | exact Frm.refl _ _ | apply Frm.drew | apply Frm.alloc)))) (by simp; omega) (by have hq : Frm [] w9 _ := (by (repeat' (first | assumption | exact Frm.refl _ _ | apply Frm.drew | apply Frm.alloc))); exact hq.size) ?_)
                  intro xa xc x1 hR1 hF1 hb1
                  have hS1 : Frm [] w9 x1 := Frm.trans (by (repeat' (first | assumption | exact Frm.refl _ _ | apply Frm.drew | apply Frm.alloc))) (hF1.weak (fun y hy => by cases hy))
                  simp only [Nat.zero_add, List.nil_append] at hR1
                  have hH := hF1.heap (heap_alloc_new w9.drew _) (fun hy => by cases hy)
                  refine hK.out _ _ (hS1) (fun hHeld => ?_)
                  clear hK K
                  try change wpAnyH _ _ _ _ _ _ _ (Act.put _ (some 82) _) _
                  try simp only [Act.put, List.setIfInBounds_toArray, List.set_cons_zero, List.set_cons_succ, Nat.zero_add]
                  refine wpAnyH_ready (rs := [16]) (by kernel_rfl) (by simp) ?_
                  refine AllReadyH.cons rfl (fun K hK => ?_) AllReadyH.nil
                  refine step_appW Tryd.underlying30 info_md (by decide) (by decide) (by kernel_rfl) (.tmp 82) (.tmp 87) rfl (B := w9.heap.size) (a := xa) (n := m8) (c := xc) (m := 1) (l := h ++ q.take k) (l2 := [x]) (by simp [Act.eval]) (by simp [Act.eval]) (hR1) (li_new rfl (hH)) (by have := HL.out.len; have := HL2.out.len; simp; omega) (by have hq : Frm [] w9 _ := (by (repeat' (first | assumption | exact Frm.refl _ _ | apply Frm.drew | apply Frm.alloc))); exact hq.size) ?_
                  intro ya yc x2 hR2 hF2 hb2
                  have hS2 : Frm [] w9 x2 := Frm.trans_new (by (repeat' (first | assumption | exact Frm.refl _ _ | apply Frm.drew | apply Frm.alloc))) hF2 (fun y hy => .inr (hR1.blk y hy).1)
                  refine hK.out _ _ (hS2) (fun hHeld => ?_)
                  clear hK K
                  try change wpAnyH _ _ _ _ _ _ _ (Act.put _ (some 88) _) _
                  try simp only [Act.put, List.setIfInBounds_toArray, List.set_cons_zero, List.set_cons_succ]
                  refine wpAnyH_ready (rs := [17]) (by kernel_rfl) (by simp) ?_
                  refine AllReadyH.cons rfl (fun K hK => ?_) AllReadyH.nil
                  go_simp
                  go_at_call 17
                  obtain ⟨b9, hL9⟩ := hR2.li
                  refine (All_any (HW.out.frm0 (hFx.trans hS2)) hL9 (by omega)).mono ?_
                  rintro e x3 ⟨rfl, hF3⟩
                  have hS3 : Frm [] w9 x3 := hS2.trans hF3
                  rw [HV.out]
                  try go_wp2_with fail
                  refine hK.out _ _ (hS3) (fun hHeld => ?_)
                  clear hK K
                  try change wpAnyH _ _ _ _ _ _ _ (Act.put _ (some 89) _) _
                  try simp only [Act.put, List.setIfInBounds_toArray, List.set_cons_zero, List.set_cons_succ]
                  refine take_in (i := 18) (d := 90) (v := .bool true) rfl rfl (by kernel_rfl) (by kernel_rfl) (by kernel_rfl) (fun _ _ _ h => h) (by kernel_rfl) (fun _ _ => rfl) (by assumption) ?_
                  try simp only [Act.put, List.setIfInBounds_toArray, List.set_cons_zero, List.set_cons_succ]
                  refine take_in (i := 19) (d := 91) (v := .slice a2 n2 c2) rfl rfl (by kernel_rfl) (by kernel_rfl) (by kernel_rfl) (fun _ _ _ h => h) (by kernel_rfl) (fun _ _ => rfl) (by assumption) ?_
                  try simp only [Act.put, List.setIfInBounds_toArray, List.set_cons_zero, List.set_cons_succ]
                  refine take_in (i := 20) (d := 92) (v := .int .i64 (k : Int)) rfl rfl (by kernel_rfl) (by kernel_rfl) (by kernel_rfl) (fun _ _ _ h => h) (by kernel_rfl) (fun _ _ => rfl) (by assumption) ?_
                  try simp only [Act.put, List.setIfInBounds_toArray, List.set_cons_zero, List.set_cons_succ]
                  refine take_in (i := 21) (d := 93) (v := .pointer (some ⟨b2, o2 + k, none⟩)) rfl rfl (by kernel_rfl) (by kernel_rfl) (by kernel_rfl) (fun _ _ _ h => h) (by kernel_rfl) (fun w' hS => by go_simp) (by assumption) ?_
                  try simp only [Act.put, List.setIfInBounds_toArray, List.set_cons_zero, List.set_cons_succ]
                  refine take_in (i := 22) (d := 94) (v := .int .i64 x) rfl rfl (by kernel_rfl) (by kernel_rfl) (by kernel_rfl) (fun _ _ _ h => h) (by kernel_rfl) (fun w' hS => by have hS' : Frm [] w9 w' := hS; have hcc := hcell w' hS'; go_simp) (by assumption) ?_
                  try simp only [Act.put, List.setIfInBounds_toArray, List.set_cons_zero, List.set_cons_succ]
                  refine take_in (i := 23) (d := 95) (v := .bool (x != 1)) rfl rfl (by kernel_rfl) (by kernel_rfl) (by kernel_rfl) (fun _ _ _ h => h) (by kernel_rfl) (fun _ _ => rfl) (by assumption) ?_
                  try simp only [Act.put, List.setIfInBounds_toArray, List.set_cons_zero, List.set_cons_succ, f3]
                  refine take_in (i := 24) (d := 96) (v := .bool false) rfl rfl (by kernel_rfl) (by kernel_rfl) (by kernel_rfl) (fun _ _ _ h => h) (by kernel_rfl) (fun _ _ => rfl) (by assumption) ?_
                  try simp only [Act.put, List.setIfInBounds_toArray, List.set_cons_zero, List.set_cons_succ]
                  refine take_in (i := 25) (d := 97) (v := .int .i64 g) rfl rfl (by kernel_rfl) (by kernel_rfl) (by kernel_rfl) (fun _ _ _ h => h) (by kernel_rfl) (fun _ _ => rfl) (by assumption) ?_
                  try simp only [Act.put, List.setIfInBounds_toArray, List.set_cons_zero, List.set_cons_succ]
                  refine take_in (i := 26) (d := 98) (v := .int .i64 S) rfl rfl (by kernel_rfl) (by kernel_rfl) (by kernel_rfl) (fun _ _ _ h => h) (by kernel_rfl) (fun _ _ => rfl) (by assumption) ?_
                  try simp only [Act.put, List.setIfInBounds_toArray, List.set_cons_zero, List.set_cons_succ]
                  refine take_in (i := 27) (d := 99) (v := .int .i64 (IntKind.i64.wrap (g + S))) rfl rfl (by kernel_rfl) (by kernel_rfl) (by kernel_rfl) (fun _ _ _ h => h) (by kernel_rfl) (fun _ _ => rfl) (by assumption) ?_
                  try simp only [Act.put, List.setIfInBounds_toArray, List.set_cons_zero, List.set_cons_succ]
                  refine take_in (i := 28) (d := 100) (v := .bool (decide (IntKind.i64.wrap (g + S) < 4))) rfl rfl (by kernel_rfl) (by kernel_rfl) (by kernel_rfl) (fun _ _ _ h => h) (by kernel_rfl) (fun _ _ => rfl) (by assumption) ?_
                  try simp only [Act.put, List.setIfInBounds_toArray, List.set_cons_zero, List.set_cons_succ, f4]
                  refine take_in (i := 29) (d := 101) (v := .bool false) rfl rfl (by kernel_rfl) (by kernel_rfl) (by kernel_rfl) (fun _ _ _ h => h) (by kernel_rfl) (fun _ _ => rfl) (by assumption) ?_
                  try simp only [Act.put, List.setIfInBounds_toArray, List.set_cons_zero, List.set_cons_succ]
                  refine take_in (i := 30) (d := 102) (v := .bool false) rfl rfl (by kernel_rfl) (by kernel_rfl) (by kernel_rfl) (fun _ _ _ h => h) (by kernel_rfl) (fun _ _ => rfl) (by assumption) ?_
                  try simp only [Act.put, List.setIfInBounds_toArray, List.set_cons_zero, List.set_cons_succ]
                  refine take_in (i := 31) (d := 103) (v := .bool false) rfl rfl (by kernel_rfl) (by kernel_rfl) (by kernel_rfl) (fun _ _ _ h => h) (by kernel_rfl) (fun _ _ => rfl) (by assumption) ?_
                  try simp only [Act.put, List.setIfInBounds_toArray, List.set_cons_zero, List.set_cons_succ]
                  refine wpAnyH_done (by kernel_rfl) ?_ _
                  refine NoPanic.normal ?_
                  go_wp2
                  go_meet
                  exact hFx.trans hS3
              · go_wp2_with fail
                refine wp_region_noPanic ?_
                refine wp_region_held_drew (S := fun w' => Frm [] w9 w') (by kernel_rfl) ((Frm.refl _ _).drew) (fun hHeld => ?_)
                refine take_in (i := 0) (d := 72) (v := .int .i64 g) rfl rfl (by kernel_rfl) (by kernel_rfl) (by kernel_rfl) (fun _ _ _ h => h) (by kernel_rfl) (fun _ _ => rfl) (by assumption) ?_
                try simp only [Act.put, List.setIfInBounds_toArray, List.set_cons_zero, List.set_cons_succ]
                refine take_in (i := 1) (d := 73) (v := .int .i64 S) rfl rfl (by kernel_rfl) (by kernel_rfl) (by kernel_rfl) (fun _ _ _ h => h) (by kernel_rfl) (fun _ _ => rfl) (by assumption) ?_
                try simp only [Act.put, List.setIfInBounds_toArray, List.set_cons_zero, List.set_cons_succ]
                refine take_in (i := 2) (d := 74) (v := .int .i64 (IntKind.i64.wrap (g + S))) rfl rfl (by kernel_rfl) (by kernel_rfl) (by kernel_rfl) (fun _ _ _ h => h) (by kernel_rfl) (fun _ _ => rfl) (by assumption) ?_
                try simp only [Act.put, List.setIfInBounds_toArray, List.set_cons_zero, List.set_cons_succ]
                refine take_in (i := 3) (d := 75) (v := .bool (decide (4 < IntKind.i64.wrap (g + S)))) rfl rfl (by kernel_rfl) (by kernel_rfl) (by kernel_rfl) (fun _ _ _ h => h) (by kernel_rfl) (fun _ _ => rfl) (by assumption) ?_
                try simp only [Act.put, List.setIfInBounds_toArray, List.set_cons_zero, List.set_cons_succ, f1]
                refine take_in (i := 4) (d := 76) (v := .bool false) rfl rfl (by kernel_rfl) (by kernel_rfl) (by kernel_rfl) (fun _ _ _ h => h) (by kernel_rfl) (fun _ _ => rfl) (by assumption) ?_
                try simp only [Act.put, List.setIfInBounds_toArray, List.set_cons_zero, List.set_cons_succ]
                refine take_out (i := 5) (d := 77) rfl rfl (by kernel_rfl) (by kernel_rfl) (by kernel_rfl) (fun _ _ _ h => h) (by kernel_rfl) (by assumption) ?_
                simp only [Act.put, List.setIfInBounds_toArray, List.set_cons_zero, List.set_cons_succ]
                refine take_out (i := 6) (d := 78) rfl rfl (by kernel_rfl) (by kernel_rfl) (by kernel_rfl) (fun _ _ _ h => h) (by kernel_rfl) (by assumption) ?_
                simp only [Act.put, List.setIfInBounds_toArray, List.set_cons_zero, List.set_cons_succ]
                refine take_in (i := 7) (d := 79) (v := .bool false) rfl rfl (by kernel_rfl) (by kernel_rfl) (by kernel_rfl) (fun _ _ _ h => h) (by kernel_rfl) (fun _ _ => rfl) (by assumption) ?_
                try simp only [Act.put, List.setIfInBounds_toArray, List.set_cons_zero, List.set_cons_succ]
                refine take_in (i := 8) (d := 80) (v := .bool false) rfl rfl (by kernel_rfl) (by kernel_rfl) (by kernel_rfl) (fun _ _ _ h => h) (by kernel_rfl) (fun _ _ => rfl) (by assumption) ?_
                try simp only [Act.put, List.setIfInBounds_toArray, List.set_cons_zero, List.set_cons_succ]
                refine take_in (i := 9) (d := 81) (v := .slice a8 m8 c8) rfl rfl (by kernel_rfl) (by kernel_rfl) (by kernel_rfl) (fun _ _ _ h => h) (by kernel_rfl) (fun _ _ => rfl) (by assumption) ?_
                try simp only [Act.put, List.setIfInBounds_toArray, List.set_cons_zero, List.set_cons_succ]
                refine take_in (i := 11) (d := 83) (v := .slice a2 n2 c2) rfl rfl (by kernel_rfl) (by kernel_rfl) (by kernel_rfl) (fun _ _ _ h => h) (by kernel_rfl) (fun _ _ => rfl) (by assumption) ?_
                try simp only [Act.put, List.setIfInBounds_toArray, List.set_cons_zero, List.set_cons_succ]
                refine take_in (i := 12) (d := 84) (v := .int .i64 (k : Int)) rfl rfl (by kernel_rfl) (by kernel_rfl) (by kernel_rfl) (fun _ _ _ h => h) (by kernel_rfl) (fun _ _ => rfl) (by assumption) ?_
                try simp only [Act.put, List.setIfInBounds_toArray, List.set_cons_zero, List.set_cons_succ]
                refine take_in (i := 13) (d := 85) (v := .pointer (some ⟨b2, o2 + k, none⟩)) rfl rfl (by kernel_rfl) (by kernel_rfl) (by kernel_rfl) (fun _ _ _ h => h) (by kernel_rfl) (fun w' hS => by go_simp) (by assumption) ?_
                try simp only [Act.put, List.setIfInBounds_toArray, List.set_cons_zero, List.set_cons_succ]
                refine take_in (i := 14) (d := 86) (v := .int .i64 x) rfl rfl (by kernel_rfl) (by kernel_rfl) (by kernel_rfl) (fun _ _ _ h => h) (by kernel_rfl) (fun w' hS => by have hS' : Frm [] w9 w' := hS; have hcc := hcell w' hS'; go_simp) (by assumption) ?_
                try simp only [Act.put, List.setIfInBounds_toArray, List.set_cons_zero, List.set_cons_succ]
                refine wpAnyH_ready (rs := [10, 15]) (by kernel_rfl) (by simp) ?_
                refine AllReadyH.cons rfl (fun K hK => ?_) ?_
                · (refine step_appW Tryd.underlying30 info_md (by decide) (by decide) (by kernel_rfl) (.const (.slice none 0 0)) (.tmp 81) rfl (B := w9.heap.size) (a := none) (n := 0) (c := 0) (m := m8) (l := []) (l2 := h ++ q.take k) rfl rfl (Row.nil _ _ _ _) (HL9.out.frm0 (by (repeat' (first | assumption | exact Frm.refl _ _ | apply Frm.drew | apply Frm.alloc)))) (by simp; omega) (by have hq : Frm [] w9 _ := (by (repeat' (first | assumption | exact Frm.refl _ _ | apply Frm.drew | apply Frm.alloc))); exact hq.size) ?_)
                  intro xa xc x1 hR1 hF1 hb1
                  have hS1 : Frm [] w9 x1 := Frm.trans (by (repeat' (first | assumption | exact Frm.refl _ _ | apply Frm.drew | apply Frm.alloc))) (hF1.weak (fun y hy => by cases hy))
                  simp only [Nat.zero_add, List.nil_append] at hR1
                  refine hK.out _ _ (hS1) (fun hHeld => ?_)
                  clear hK K
                  try change wpAnyH _ _ _ _ _ _ _ (Act.put _ (some 82) _) _
                  try simp only [Act.put, List.setIfInBounds_toArray, List.set_cons_zero, List.set_cons_succ, Nat.zero_add]
                  refine wpAnyH_ready (rs := [15]) (by kernel_rfl) (by simp) ?_
                  refine AllReadyH.cons rfl (fun K hK => ?_) AllReadyH.nil
                  go_simp
                  refine hK.out _ _ (by (repeat' (first | assumption | exact Frm.refl _ _ | apply Frm.drew | apply Frm.alloc))) (fun hHeld => ?_)
                  clear hK K
                  try change wpAnyH _ _ _ _ _ _ _ (Act.put _ (some 87) _) _
                  try simp only [Act.put, List.setIfInBounds_toArray, List.set_cons_zero, List.set_cons_succ]
                  refine wpAnyH_ready (rs := [16]) (by kernel_rfl) (by simp) ?_
                  refine AllReadyH.cons rfl (fun K hK => ?_) AllReadyH.nil
                  refine step_appW Tryd.underlying30 info_md (by decide) (by decide) (by kernel_rfl) (.tmp 82) (.tmp 87) rfl (B := w9.heap.size) (a := xa) (n := m8) (c := xc) (m := 1) (l := h ++ q.take k) (l2 := [x]) (by simp [Act.eval]) (by simp [Act.eval]) (hR1.frm0 (by (repeat' (first | assumption | exact Frm.refl _ _ | apply Frm.drew | apply Frm.alloc)))) (li_new rfl (heap_alloc_new x1 _)) (by have := HL.out.len; have := HL2.out.len; simp; omega) (by have hq : Frm [] w9 _ := (by (repeat' (first | assumption | exact Frm.refl _ _ | apply Frm.drew | apply Frm.alloc))); exact hq.size) ?_
                  intro ya yc x2 hR2 hF2 hb2
                  have hS2 : Frm [] w9 x2 := Frm.trans_new (by (repeat' (first | assumption | exact Frm.refl _ _ | apply Frm.drew | apply Frm.alloc))) hF2 (fun y hy => .inr (hR1.blk y hy).1)
                  refine hK.out _ _ (hS2) (fun hHeld => ?_)
                  clear hK K
                  try change wpAnyH _ _ _ _ _ _ _ (Act.put _ (some 88) _) _
                  try simp only [Act.put, List.setIfInBounds_toArray, List.set_cons_zero, List.set_cons_succ]
                  refine wpAnyH_ready (rs := [17]) (by kernel_rfl) (by simp) ?_
                  refine AllReadyH.cons rfl (fun K hK => ?_) AllReadyH.nil
                  go_simp
                  go_at_call 17
                  obtain ⟨b9, hL9⟩ := hR2.li
                  refine (All_any (HW.out.frm0 (hFx.trans hS2)) hL9 (by omega)).mono ?_
                  rintro e x3 ⟨rfl, hF3⟩
                  have hS3 : Frm [] w9 x3 := hS2.trans hF3
                  rw [HV.out]
                  try go_wp2_with fail
                  refine hK.out _ _ (hS3) (fun hHeld => ?_)
                  clear hK K
                  try change wpAnyH _ _ _ _ _ _ _ (Act.put _ (some 89) _) _
                  try simp only [Act.put, List.setIfInBounds_toArray, List.set_cons_zero, List.set_cons_succ]
                  refine take_in (i := 18) (d := 90) (v := .bool true) rfl rfl (by kernel_rfl) (by kernel_rfl) (by kernel_rfl) (fun _ _ _ h => h) (by kernel_rfl) (fun _ _ => rfl) (by assumption) ?_
                  try simp only [Act.put, List.setIfInBounds_toArray, List.set_cons_zero, List.set_cons_succ]
                  refine take_in (i := 19) (d := 91) (v := .slice a2 n2 c2) rfl rfl (by kernel_rfl) (by kernel_rfl) (by kernel_rfl) (fun _ _ _ h => h) (by kernel_rfl) (fun _ _ => rfl) (by assumption) ?_
                  try simp only [Act.put, List.setIfInBounds_toArray, List.set_cons_zero, List.set_cons_succ]
                  refine take_in (i := 20) (d := 92) (v := .int .i64 (k : Int)) rfl rfl (by kernel_rfl) (by kernel_rfl) (by kernel_rfl) (fun _ _ _ h => h) (by kernel_rfl) (fun _ _ => rfl) (by assumption) ?_
                  try simp only [Act.put, List.setIfInBounds_toArray, List.set_cons_zero, List.set_cons_succ]
                  refine take_in (i := 21) (d := 93) (v := .pointer (some ⟨b2, o2 + k, none⟩)) rfl rfl (by kernel_rfl) (by kernel_rfl) (by kernel_rfl) (fun _ _ _ h => h) (by kernel_rfl) (fun w' hS => by go_simp) (by assumption) ?_
                  try simp only [Act.put, List.setIfInBounds_toArray, List.set_cons_zero, List.set_cons_succ]
                  refine take_in (i := 22) (d := 94) (v := .int .i64 x) rfl rfl (by kernel_rfl) (by kernel_rfl) (by kernel_rfl) (fun _ _ _ h => h) (by kernel_rfl) (fun w' hS => by have hS' : Frm [] w9 w' := hS; have hcc := hcell w' hS'; go_simp) (by assumption) ?_
                  try simp only [Act.put, List.setIfInBounds_toArray, List.set_cons_zero, List.set_cons_succ]
                  refine take_in (i := 23) (d := 95) (v := .bool (x != 1)) rfl rfl (by kernel_rfl) (by kernel_rfl) (by kernel_rfl) (fun _ _ _ h => h) (by kernel_rfl) (fun _ _ => rfl) (by assumption) ?_
                  try simp only [Act.put, List.setIfInBounds_toArray, List.set_cons_zero, List.set_cons_succ, f3]
                  refine take_in (i := 24) (d := 96) (v := .bool false) rfl rfl (by kernel_rfl) (by kernel_rfl) (by kernel_rfl) (fun _ _ _ h => h) (by kernel_rfl) (fun _ _ => rfl) (by assumption) ?_
                  try simp only [Act.put, List.setIfInBounds_toArray, List.set_cons_zero, List.set_cons_succ]
                  refine take_in (i := 25) (d := 97) (v := .int .i64 g) rfl rfl (by kernel_rfl) (by kernel_rfl) (by kernel_rfl) (fun _ _ _ h => h) (by kernel_rfl) (fun _ _ => rfl) (by assumption) ?_
                  try simp only [Act.put, List.setIfInBounds_toArray, List.set_cons_zero, List.set_cons_succ]
                  refine take_in (i := 26) (d := 98) (v := .int .i64 S) rfl rfl (by kernel_rfl) (by kernel_rfl) (by kernel_rfl) (fun _ _ _ h => h) (by kernel_rfl) (fun _ _ => rfl) (by assumption) ?_
                  try simp only [Act.put, List.setIfInBounds_toArray, List.set_cons_zero, List.set_cons_succ]
                  refine take_in (i := 27) (d := 99) (v := .int .i64 (IntKind.i64.wrap (g + S))) rfl rfl (by kernel_rfl) (by kernel_rfl) (by kernel_rfl) (fun _ _ _ h => h) (by kernel_rfl) (fun _ _ => rfl) (by assumption) ?_
                  try simp only [Act.put, List.setIfInBounds_toArray, List.set_cons_zero, List.set_cons_succ]
                  refine take_in (i := 28) (d := 100) (v := .bool (decide (IntKind.i64.wrap (g + S) < 4))) rfl rfl (by kernel_rfl) (by kernel_rfl) (by kernel_rfl) (fun _ _ _ h => h) (by kernel_rfl) (fun _ _ => rfl) (by assumption) ?_
                  try simp only [Act.put, List.setIfInBounds_toArray, List.set_cons_zero, List.set_cons_succ, f4]
                  refine take_in (i := 29) (d := 101) (v := .bool false) rfl rfl (by kernel_rfl) (by kernel_rfl) (by kernel_rfl) (fun _ _ _ h => h) (by kernel_rfl) (fun _ _ => rfl) (by assumption) ?_
                  try simp only [Act.put, List.setIfInBounds_toArray, List.set_cons_zero, List.set_cons_succ]
                  refine take_in (i := 30) (d := 102) (v := .bool false) rfl rfl (by kernel_rfl) (by kernel_rfl) (by kernel_rfl) (fun _ _ _ h => h) (by kernel_rfl) (fun _ _ => rfl) (by assumption) ?_
                  try simp only [Act.put, List.setIfInBounds_toArray, List.set_cons_zero, List.set_cons_succ]
                  refine take_in (i := 31) (d := 103) (v := .bool false) rfl rfl (by kernel_rfl) (by kernel_rfl) (by kernel_rfl) (fun _ _ _ h => h) (by kernel_rfl) (fun _ _ => rfl) (by assumption) ?_
                  try simp only [Act.put, List.setIfInBounds_toArray, List.set_cons_zero, List.set_cons_succ]
                  refine wpAnyH_done (by kernel_rfl) ?_ _
                  refine NoPanic.normal ?_
                  go_wp2
                  go_meet
                  exact hFx.trans hS3
                · refine AllReadyH.cons rfl (fun K hK => ?_) AllReadyH.nil
                  go_simp
                  refine hK.out _ _ (by (repeat' (first | assumption | exact Frm.refl _ _ | apply Frm.drew | apply Frm.alloc))) (fun hHeld => ?_)
                  clear hK K
                  try change wpAnyH _ _ _ _ _ _ _ (Act.put _ (some 87) _) _
                  try simp only [Act.put, List.setIfInBounds_toArray, List.set_cons_zero, List.set_cons_succ]
                  refine wpAnyH_ready (rs := [10]) (by kernel_rfl) (by simp) ?_
                  refine AllReadyH.cons rfl (fun K hK => ?_) AllReadyH.nil
                  (refine step_appW Tryd.underlying30 info_md (by decide) (by decide) (by kernel_rfl) (.const (.slice none 0 0)) (.tmp 81) rfl (B := w9.heap.size) (a := none) (n := 0) (c := 0) (m := m8) (l := []) (l2 := h ++ q.take k) rfl rfl (Row.nil _ _ _ _) (HL9.out.frm0 (by (repeat' (first | assumption | exact Frm.refl _ _ | apply Frm.drew | apply Frm.alloc)))) (by simp; omega) (by have hq : Frm [] w9 _ := (by (repeat' (first | assumption | exact Frm.refl _ _ | apply Frm.drew | apply Frm.alloc))); exact hq.size) ?_)
                  intro xa xc x1 hR1 hF1 hb1
                  have hS1 : Frm [] w9 x1 := Frm.trans (by (repeat' (first | assumption | exact Frm.refl _ _ | apply Frm.drew | apply Frm.alloc))) (hF1.weak (fun y hy => by cases hy))
                  simp only [Nat.zero_add, List.nil_append] at hR1
                  have hH := hF1.heap (heap_alloc_new w9.drew _) (fun hy => by cases hy)
                  refine hK.out _ _ (hS1) (fun hHeld => ?_)
                  clear hK K
                  try change wpAnyH _ _ _ _ _ _ _ (Act.put _ (some 82) _) _
                  try simp only [Act.put, List.setIfInBounds_toArray, List.set_cons_zero, List.set_cons_succ, Nat.zero_add]
                  refine wpAnyH_ready (rs := [16]) (by kernel_rfl) (by simp) ?_
                  refine AllReadyH.cons rfl (fun K hK => ?_) AllReadyH.nil
                  refine step_appW Tryd.underlying30 info_md (by decide) (by decide) (by kernel_rfl) (.tmp 82) (.tmp 87) rfl (B := w9.heap.size) (a := xa) (n := m8) (c := xc) (m := 1) (l := h ++ q.take k) (l2 := [x]) (by simp [Act.eval]) (by simp [Act.eval]) (hR1) (li_new rfl (hH)) (by have := HL.out.len; have := HL2.out.len; simp; omega) (by have hq : Frm [] w9 _ := (by (repeat' (first | assumption | exact Frm.refl _ _ | apply Frm.drew | apply Frm.alloc))); exact hq.size) ?_
                  intro ya yc x2 hR2 hF2 hb2
                  have hS2 : Frm [] w9 x2 := Frm.trans_new (by (repeat' (first | assumption | exact Frm.refl _ _ | apply Frm.drew | apply Frm.alloc))) hF2 (fun y hy => .inr (hR1.blk y hy).1)
                  refine hK.out _ _ (hS2) (fun hHeld => ?_)
                  clear hK K
                  try change wpAnyH _ _ _ _ _ _ _ (Act.put _ (some 88) _) _
                  try simp only [Act.put, List.setIfInBounds_toArray, List.set_cons_zero, List.set_cons_succ]
                  refine wpAnyH_ready (rs := [17]) (by kernel_rfl) (by simp) ?_
                  refine AllReadyH.cons rfl (fun K hK => ?_) AllReadyH.nil
                  go_simp
                  go_at_call 17
                  obtain ⟨b9, hL9⟩ := hR2.li
                  refine (All_any (HW.out.frm0 (hFx.trans hS2)) hL9 (by omega)).mono ?_
                  rintro e x3 ⟨rfl, hF3⟩
                  have hS3 : Frm [] w9 x3 := hS2.trans hF3
                  rw [HV.out]
                  try go_wp2_with fail
                  refine hK.out _ _ (hS3) (fun hHeld => ?_)
                  clear hK K
                  try change wpAnyH _ _ _ _ _ _ _ (Act.put _ (some 89) _) _
                  try simp only [Act.put, List.setIfInBounds_toArray, List.set_cons_zero, List.set_cons_succ]
                  refine take_in (i := 18) (d := 90) (v := .bool true) rfl rfl (by kernel_rfl) (by kernel_rfl) (by kernel_rfl) (fun _ _ _ h => h) (by kernel_rfl) (fun _ _ => rfl) (by assumption) ?_
                  try simp only [Act.put, List.setIfInBounds_toArray, List.set_cons_zero, List.set_cons_succ]
                  refine take_in (i := 19) (d := 91) (v := .slice a2 n2 c2) rfl rfl (by kernel_rfl) (by kernel_rfl) (by kernel_rfl) (fun _ _ _ h => h) (by kernel_rfl) (fun _ _ => rfl) (by assumption) ?_
                  try simp only [Act.put, List.setIfInBounds_toArray, List.set_cons_zero, List.set_cons_succ]
                  refine take_in (i := 20) (d := 92) (v := .int .i64 (k : Int)) rfl rfl (by kernel_rfl) (by kernel_rfl) (by kernel_rfl) (fun _ _ _ h => h) (by kernel_rfl) (fun _ _ => rfl) (by assumption) ?_
                  try simp only [Act.put, List.setIfInBounds_toArray, List.set_cons_zero, List.set_cons_succ]
                  refine take_in (i := 21) (d := 93) (v := .pointer (some ⟨b2, o2 + k, none⟩)) rfl rfl (by kernel_rfl) (by kernel_rfl) (by kernel_rfl) (fun _ _ _ h => h) (by kernel_rfl) (fun w' hS => by go_simp) (by assumption) ?_
                  try simp only [Act.put, List.setIfInBounds_toArray, List.set_cons_zero, List.set_cons_succ]
                  refine take_in (i := 22) (d := 94) (v := .int .i64 x) rfl rfl (by kernel_rfl) (by kernel_rfl) (by kernel_rfl) (fun _ _ _ h => h) (by kernel_rfl) (fun w' hS => by have hS' : Frm [] w9 w' := hS; have hcc := hcell w' hS'; go_simp) (by assumption) ?_
                  try simp only [Act.put, List.setIfInBounds_toArray, List.set_cons_zero, List.set_cons_succ]
                  refine take_in (i := 23) (d := 95) (v := .bool (x != 1)) rfl rfl (by kernel_rfl) (by kernel_rfl) (by kernel_rfl) (fun _ _ _ h => h) (by kernel_rfl) (fun _ _ => rfl) (by assumption) ?_
                  try simp only [Act.put, List.setIfInBounds_toArray, List.set_cons_zero, List.set_cons_succ, f3]
                  refine take_in (i := 24) (d := 96) (v := .bool false) rfl rfl (by kernel_rfl) (by kernel_rfl) (by kernel_rfl) (fun _ _ _ h => h) (by kernel_rfl) (fun _ _ => rfl) (by assumption) ?_
                  try simp only [Act.put, List.setIfInBounds_toArray, List.set_cons_zero, List.set_cons_succ]
                  refine take_in (i := 25) (d := 97) (v := .int .i64 g) rfl rfl (by kernel_rfl) (by kernel_rfl) (by kernel_rfl) (fun _ _ _ h => h) (by kernel_rfl) (fun _ _ => rfl) (by assumption) ?_
                  try simp only [Act.put, List.setIfInBounds_toArray, List.set_cons_zero, List.set_cons_succ]
                  refine take_in (i := 26) (d := 98) (v := .int .i64 S) rfl rfl (by kernel_rfl) (by kernel_rfl) (by kernel_rfl) (fun _ _ _ h => h) (by kernel_rfl) (fun _ _ => rfl) (by assumption) ?_
                  try simp only [Act.put, List.setIfInBounds_toArray, List.set_cons_zero, List.set_cons_succ]
                  refine take_in (i := 27) (d := 99) (v := .int .i64 (IntKind.i64.wrap (g + S))) rfl rfl (by kernel_rfl) (by kernel_rfl) (by kernel_rfl) (fun _ _ _ h => h) (by kernel_rfl) (fun _ _ => rfl) (by assumption) ?_
                  try simp only [Act.put, List.setIfInBounds_toArray, List.set_cons_zero, List.set_cons_succ]
                  refine take_in (i := 28) (d := 100) (v := .bool (decide (IntKind.i64.wrap (g + S) < 4))) rfl rfl (by kernel_rfl) (by kernel_rfl) (by kernel_rfl) (fun _ _ _ h => h) (by kernel_rfl) (fun _ _ => rfl) (by assumption) ?_
                  try simp only [Act.put, List.setIfInBounds_toArray, List.set_cons_zero, List.set_cons_succ, f4]
                  refine take_in (i := 29) (d := 101) (v := .bool false) rfl rfl (by kernel_rfl) (by kernel_rfl) (by kernel_rfl) (fun _ _ _ h => h) (by kernel_rfl) (fun _ _ => rfl) (by assumption) ?_
                  try simp only [Act.put, List.setIfInBounds_toArray, List.set_cons_zero, List.set_cons_succ]
                  refine take_in (i := 30) (d := 102) (v := .bool false) rfl rfl (by kernel_rfl) (by kernel_rfl) (by kernel_rfl) (fun _ _ _ h => h) (by kernel_rfl) (fun _ _ => rfl) (by assumption) ?_
                  try simp only [Act.put, List.setIfInBounds_toArray, List.set_cons_zero, List.set_cons_succ]
                  refine take_in (i := 31) (d := 103) (v := .bool false) rfl rfl (by kernel_rfl) (by kernel_rfl) (by kernel_rfl) (fun _ _ _ h => h) (by kernel_rfl) (fun _ _ => rfl) (by assumption) ?_
                  try simp only [Act.put, List.setIfInBounds_toArray, List.set_cons_zero, List.set_cons_succ]
                  refine wpAnyH_done (by kernel_rfl) ?_ _
                  refine NoPanic.normal ?_
                  go_wp2
                  go_meet
                  exact hFx.trans hS3
            | false =>
              have HV := Lib.hid hv
              clear hv hvx
              rcases hff with ⟨f1, f2⟩ | f1
              · go_wp2_with fail
                refine wp_region_noPanic ?_
                refine wp_region_held_drew (S := fun w' => Frm [] w9 w') (by kernel_rfl) ((Frm.refl _ _).drew) (fun hHeld => ?_)
                refine take_in (i := 0) (d := 72) (v := .int .i64 g) rfl rfl (by kernel_rfl) (by kernel_rfl) (by kernel_rfl) (fun _ _ _ h => h) (by kernel_rfl) (fun _ _ => rfl) (by assumption) ?_
                try simp only [Act.put, List.setIfInBounds_toArray, List.set_cons_zero, List.set_cons_succ]
                refine take_in (i := 1) (d := 73) (v := .int .i64 S) rfl rfl (by kernel_rfl) (by kernel_rfl) (by kernel_rfl) (fun _ _ _ h => h) (by kernel_rfl) (fun _ _ => rfl) (by assumption) ?_
                try simp only [Act.put, List.setIfInBounds_toArray, List.set_cons_zero, List.set_cons_succ]
                refine take_in (i := 2) (d := 74) (v := .int .i64 (IntKind.i64.wrap (g + S))) rfl rfl (by kernel_rfl) (by kernel_rfl) (by kernel_rfl) (fun _ _ _ h => h) (by kernel_rfl) (fun _ _ => rfl) (by assumption) ?_
                try simp only [Act.put, List.setIfInBounds_toArray, List.set_cons_zero, List.set_cons_succ]
                refine take_in (i := 3) (d := 75) (v := .bool (decide (4 < IntKind.i64.wrap (g + S)))) rfl rfl (by kernel_rfl) (by kernel_rfl) (by kernel_rfl) (fun _ _ _ h => h) (by kernel_rfl) (fun _ _ => rfl) (by assumption) ?_
                try simp only [Act.put, List.setIfInBounds_toArray, List.set_cons_zero, List.set_cons_succ, f1]
                refine take_in (i := 4) (d := 76) (v := .bool true) rfl rfl (by kernel_rfl) (by kernel_rfl) (by kernel_rfl) (fun _ _ _ h => h) (by kernel_rfl) (fun _ _ => rfl) (by assumption) ?_
                try simp only [Act.put, List.setIfInBounds_toArray, List.set_cons_zero, List.set_cons_succ]
                refine take_in (i := 5) (d := 77) (v := .int .i64 S) rfl rfl (by kernel_rfl) (by kernel_rfl) (by kernel_rfl) (fun _ _ _ h => h) (by kernel_rfl) (fun _ _ => rfl) (by assumption) ?_
                try simp only [Act.put, List.setIfInBounds_toArray, List.set_cons_zero, List.set_cons_succ]
                refine take_in (i := 6) (d := 78) (v := .bool (decide (0 < S))) rfl rfl (by kernel_rfl) (by kernel_rfl) (by kernel_rfl) (fun _ _ _ h => h) (by kernel_rfl) (fun _ _ => rfl) (by assumption) ?_
                try simp only [Act.put, List.setIfInBounds_toArray, List.set_cons_zero, List.set_cons_succ, f2]
                refine take_in (i := 7) (d := 79) (v := .bool false) rfl rfl (by kernel_rfl) (by kernel_rfl) (by kernel_rfl) (fun _ _ _ h => h) (by kernel_rfl) (fun _ _ => rfl) (by assumption) ?_
                try simp only [Act.put, List.setIfInBounds_toArray, List.set_cons_zero, List.set_cons_succ]
                refine take_in (i := 8) (d := 80) (v := .bool false) rfl rfl (by kernel_rfl) (by kernel_rfl) (by kernel_rfl) (fun _ _ _ h => h) (by kernel_rfl) (fun _ _ => rfl) (by assumption) ?_
                try simp only [Act.put, List.setIfInBounds_toArray, List.set_cons_zero, List.set_cons_succ]
                refine take_in (i := 9) (d := 81) (v := .slice a8 m8 c8) rfl rfl (by kernel_rfl) (by kernel_rfl) (by kernel_rfl) (fun _ _ _ h => h) (by kernel_rfl) (fun _ _ => rfl) (by assumption) ?_
                try simp only [Act.put, List.setIfInBounds_toArray, List.set_cons_zero, List.set_cons_succ]
                refine take_in (i := 11) (d := 83) (v := .slice a2 n2 c2) rfl rfl (by kernel_rfl) (by kernel_rfl) (by kernel_rfl) (fun _ _ _ h => h) (by kernel_rfl) (fun _ _ => rfl) (by assumption) ?_
                try simp only [Act.put, List.setIfInBounds_toArray, List.set_cons_zero, List.set_cons_succ]
                refine take_in (i := 12) (d := 84) (v := .int .i64 (k : Int)) rfl rfl (by kernel_rfl) (by kernel_rfl) (by kernel_rfl) (fun _ _ _ h => h) (by kernel_rfl) (fun _ _ => rfl) (by assumption) ?_
                try simp only [Act.put, List.setIfInBounds_toArray, List.set_cons_zero, List.set_cons_succ]
                refine take_in (i := 13) (d := 85) (v := .pointer (some ⟨b2, o2 + k, none⟩)) rfl rfl (by kernel_rfl) (by kernel_rfl) (by kernel_rfl) (fun _ _ _ h => h) (by kernel_rfl) (fun w' hS => by go_simp) (by assumption) ?_
                try simp only [Act.put, List.setIfInBounds_toArray, List.set_cons_zero, List.set_cons_succ]
                refine take_in (i := 14) (d := 86) (v := .int .i64 x) rfl rfl (by kernel_rfl) (by kernel_rfl) (by kernel_rfl) (fun _ _ _ h => h) (by kernel_rfl) (fun w' hS => by have hS' : Frm [] w9 w' := hS; have hcc := hcell w' hS'; go_simp) (by assumption) ?_
                try simp only [Act.put, List.setIfInBounds_toArray, List.set_cons_zero, List.set_cons_succ]
                refine wpAnyH_ready (rs := [10, 15]) (by kernel_rfl) (by simp) ?_
                refine AllReadyH.cons rfl (fun K hK => ?_) ?_
                · (refine step_appW Tryd.underlying30 info_md (by decide) (by decide) (by kernel_rfl) (.const (.slice none 0 0)) (.tmp 81) rfl (B := w9.heap.size) (a := none) (n := 0) (c := 0) (m := m8) (l := []) (l2 := h ++ q.take k) rfl rfl (Row.nil _ _ _ _) (HL9.out.frm0 (by (repeat' (first | assumption | exact Frm.refl _ _ | apply Frm.drew | apply Frm.alloc)))) (by simp; omega) (by have hq : Frm [] w9 _ := (by (repeat' (first | assumption | exact Frm.refl _ _ | apply Frm.drew | apply Frm.alloc))); exact hq.size) ?_)
                  intro xa xc x1 hR1 hF1 hb1
                  have hS1 : Frm [] w9 x1 := Frm.trans (by (repeat' (first | assumption | exact Frm.refl _ _ | apply Frm.drew | apply Frm.alloc))) (hF1.weak (fun y hy => by cases hy))
                  simp only [Nat.zero_add, List.nil_append] at hR1
                  refine hK.out _ _ (hS1) (fun hHeld => ?_)
                  clear hK K
                  try change wpAnyH _ _ _ _ _ _ _ (Act.put _ (some 82) _) _
                  try simp only [Act.put, List.setIfInBounds_toArray, List.set_cons_zero, List.set_cons_succ, Nat.zero_add]
                  refine wpAnyH_ready (rs := [15]) (by kernel_rfl) (by simp) ?_
                  refine AllReadyH.cons rfl (fun K hK => ?_) AllReadyH.nil
                  go_simp
                  refine hK.out _ _ (by (repeat' (first | assumption | exact Frm.refl _ _ | apply Frm.drew | apply Frm.alloc))) (fun hHeld => ?_)
                  clear hK K
                  try change wpAnyH _ _ _ _ _ _ _ (Act.put _ (some 87) _) _
                  try simp only [Act.put, List.setIfInBounds_toArray, List.set_cons_zero, List.set_cons_succ]
                  refine wpAnyH_ready (rs := [16]) (by kernel_rfl) (by simp) ?_
                  refine AllReadyH.cons rfl (fun K hK => ?_) AllReadyH.nil
                  refine step_appW Tryd.underlying30 info_md (by decide) (by decide) (by kernel_rfl) (.tmp 82) (.tmp 87) rfl (B := w9.heap.size) (a := xa) (n := m8) (c := xc) (m := 1) (l := h ++ q.take k) (l2 := [x]) (by simp [Act.eval]) (by simp [Act.eval]) (hR1.frm0 (by (repeat' (first | assumption | exact Frm.refl _ _ | apply Frm.drew | apply Frm.alloc)))) (li_new rfl (heap_alloc_new x1 _)) (by have := HL.out.len; have := HL2.out.len; simp; omega) (by have hq : Frm [] w9 _ := (by (repeat' (first | assumption | exact Frm.refl _ _ | apply Frm.drew | apply Frm.alloc))); exact hq.size) ?_
                  intro ya yc x2 hR2 hF2 hb2
                  have hS2 : Frm [] w9 x2 := Frm.trans_new (by (repeat' (first | assumption | exact Frm.refl _ _ | apply Frm.drew | apply Frm.alloc))) hF2 (fun y hy => .inr (hR1.blk y hy).1)
                  refine hK.out _ _ (hS2) (fun hHeld => ?_)
                  clear hK K
                  try change wpAnyH _ _ _ _ _ _ _ (Act.put _ (some 88) _) _
                  try simp only [Act.put, List.setIfInBounds_toArray, List.set_cons_zero, List.set_cons_succ]
                  refine wpAnyH_ready (rs := [17]) (by kernel_rfl) (by simp) ?_
                  refine AllReadyH.cons rfl (fun K hK => ?_) AllReadyH.nil
                  go_simp
                  go_at_call 17
                  obtain ⟨b9, hL9⟩ := hR2.li
                  refine (All_any (HW.out.frm0 (hFx.trans hS2)) hL9 (by omega)).mono ?_
                  rintro e x3 ⟨rfl, hF3⟩
                  have hS3 : Frm [] w9 x3 := hS2.trans hF3
                  rw [HV.out]
                  try go_wp2_with fail
                  refine hK.out _ _ (hS3) (fun hHeld => ?_)
                  clear hK K
                  try change wpAnyH _ _ _ _ _ _ _ (Act.put _ (some 89) _) _
                  try simp only [Act.put, List.setIfInBounds_toArray, List.set_cons_zero, List.set_cons_succ]
                  refine take_in (i := 18) (d := 90) (v := .bool false) rfl rfl (by kernel_rfl) (by kernel_rfl) (by kernel_rfl) (fun _ _ _ h => h) (by kernel_rfl) (fun _ _ => rfl) (by assumption) ?_
                  try simp only [Act.put, List.setIfInBounds_toArray, List.set_cons_zero, List.set_cons_succ]
                  refine take_out (i := 19) (d := 91) rfl rfl (by kernel_rfl) (by kernel_rfl) (by kernel_rfl) (fun _ _ _ h => h) (by kernel_rfl) (by assumption) ?_
                  simp only [Act.put, List.setIfInBounds_toArray, List.set_cons_zero, List.set_cons_succ]
                  refine take_out (i := 20) (d := 92) rfl rfl (by kernel_rfl) (by kernel_rfl) (by kernel_rfl) (fun _ _ _ h => h) (by kernel_rfl) (by assumption) ?_
                  simp only [Act.put, List.setIfInBounds_toArray, List.set_cons_zero, List.set_cons_succ]
                  refine take_out (i := 21) (d := 93) rfl rfl (by kernel_rfl) (by kernel_rfl) (by kernel_rfl) (fun _ _ _ h => h) (by kernel_rfl) (by assumption) ?_
                  simp only [Act.put, List.setIfInBounds_toArray, List.set_cons_zero, List.set_cons_succ]
                  refine take_out (i := 22) (d := 94) rfl rfl (by kernel_rfl) (by kernel_rfl) (by kernel_rfl) (fun _ _ _ h => h) (by kernel_rfl) (by assumption) ?_
                  simp only [Act.put, List.setIfInBounds_toArray, List.set_cons_zero, List.set_cons_succ]
                  refine take_out (i := 23) (d := 95) rfl rfl (by kernel_rfl) (by kernel_rfl) (by kernel_rfl) (fun _ _ _ h => h) (by kernel_rfl) (by assumption) ?_
                  simp only [Act.put, List.setIfInBounds_toArray, List.set_cons_zero, List.set_cons_succ]
                  refine take_out (i := 24) (d := 96) rfl rfl (by kernel_rfl) (by kernel_rfl) (by kernel_rfl) (fun _ _ _ h => h) (by kernel_rfl) (by assumption) ?_
                  simp only [Act.put, List.setIfInBounds_toArray, List.set_cons_zero, List.set_cons_succ]
                  refine take_out (i := 25) (d := 97) rfl rfl (by kernel_rfl) (by kernel_rfl) (by kernel_rfl) (fun _ _ _ h => h) (by kernel_rfl) (by assumption) ?_
                  simp only [Act.put, List.setIfInBounds_toArray, List.set_cons_zero, List.set_cons_succ]
                  refine take_out (i := 26) (d := 98) rfl rfl (by kernel_rfl) (by kernel_rfl) (by kernel_rfl) (fun _ _ _ h => h) (by kernel_rfl) (by assumption) ?_
                  simp only [Act.put, List.setIfInBounds_toArray, List.set_cons_zero, List.set_cons_succ]
                  refine take_out (i := 27) (d := 99) rfl rfl (by kernel_rfl) (by kernel_rfl) (by kernel_rfl) (fun _ _ _ h => h) (by kernel_rfl) (by assumption) ?_
                  simp only [Act.put, List.setIfInBounds_toArray, List.set_cons_zero, List.set_cons_succ]
                  refine take_out (i := 28) (d := 100) rfl rfl (by kernel_rfl) (by kernel_rfl) (by kernel_rfl) (fun _ _ _ h => h) (by kernel_rfl) (by assumption) ?_
                  simp only [Act.put, List.setIfInBounds_toArray, List.set_cons_zero, List.set_cons_succ]
                  refine take_out (i := 29) (d := 101) rfl rfl (by kernel_rfl) (by kernel_rfl) (by kernel_rfl) (fun _ _ _ h => h) (by kernel_rfl) (by assumption) ?_
                  simp only [Act.put, List.setIfInBounds_toArray, List.set_cons_zero, List.set_cons_succ]
                  refine take_in (i := 30) (d := 102) (v := .bool false) rfl rfl (by kernel_rfl) (by kernel_rfl) (by kernel_rfl) (fun _ _ _ h => h) (by kernel_rfl) (fun _ _ => rfl) (by assumption) ?_
                  try simp only [Act.put, List.setIfInBounds_toArray, List.set_cons_zero, List.set_cons_succ]
                  refine take_in (i := 31) (d := 103) (v := .bool false) rfl rfl (by kernel_rfl) (by kernel_rfl) (by kernel_rfl) (fun _ _ _ h => h) (by kernel_rfl) (fun _ _ => rfl) (by assumption) ?_
                  try simp only [Act.put, List.setIfInBounds_toArray, List.set_cons_zero, List.set_cons_succ]
                  refine wpAnyH_done (by kernel_rfl) ?_ _
                  refine NoPanic.normal ?_
                  go_wp2
                  go_meet
                  exact hFx.trans hS3
                · refine AllReadyH.cons rfl (fun K hK => ?_) AllReadyH.nil
                  go_simp
                  refine hK.out _ _ (by (repeat' (first | assumption | exact Frm.refl _ _ | apply Frm.drew | apply Frm.alloc))) (fun hHeld => ?_)
                  clear hK K
                  try change wpAnyH _ _ _ _ _ _ _ (Act.put _ (some 87) _) _
                  try simp only [Act.put, List.setIfInBounds_toArray, List.set_cons_zero, List.set_cons_succ]
                  refine wpAnyH_ready (rs := [10]) (by kernel_rfl) (by simp) ?_
                  refine AllReadyH.cons rfl (fun K hK => ?_) AllReadyH.nil
                  (refine step_appW Tryd.underlying30 info_md (by decide) (by decide) (by kernel_rfl) (.const (.slice none 0 0)) (.tmp 81) rfl (B := w9.heap.size) (a := none) (n := 0) (c := 0) (m := m8) (l := []) (l2 := h ++ q.take k) rfl rfl (Row.nil _ _ _ _) (HL9.out.frm0 (by (repeat' (first | assumption | exact Frm.refl _ _ | apply Frm.drew | apply Frm.alloc)))) (by simp; omega) (by have hq : Frm [] w9 _ := (by (repeat' (first | assumption | exact Frm.refl _ _ | apply Frm.drew | apply Frm.alloc))); exact hq.size) ?_)
                  intro xa xc x1 hR1 hF1 hb1
                  have hS1 : Frm [] w9 x1 := Frm.trans (by (repeat' (first | assumption | exact Frm.refl _ _ | apply Frm.drew | apply Frm.alloc))) (hF1.weak (fun y hy => by cases hy))
                  simp only [Nat.zero_add, List.nil_append] at hR1
                  have hH := hF1.heap (heap_alloc_new w9.drew _) (fun hy => by cases hy)
                  refine hK.out _ _ (hS1) (fun hHeld => ?_)
                  clear hK K
                  try change wpAnyH _ _ _ _ _ _ _ (Act.put _ (some 82) _) _
                  try simp only [Act.put, List.setIfInBounds_toArray, List.set_cons_zero, List.set_cons_succ, Nat.zero_add]
                  refine wpAnyH_ready (rs := [16]) (by kernel_rfl) (by simp) ?_
                  refine AllReadyH.cons rfl (fun K hK => ?_) AllReadyH.nil
                  refine step_appW Tryd.underlying30 info_md (by decide) (by decide) (by kernel_rfl) (.tmp 82) (.tmp 87) rfl (B := w9.heap.size) (a := xa) (n := m8) (c := xc) (m := 1) (l := h ++ q.take k) (l2 := [x]) (by simp [Act.eval]) (by simp [Act.eval]) (hR1) (li_new rfl (hH)) (by have := HL.out.len; have := HL2.out.len; simp; omega) (by have hq : Frm [] w9 _ := (by (repeat' (first | assumption | exact Frm.refl _ _ | apply Frm.drew | apply Frm.alloc))); exact hq.size) ?_
                  intro ya yc x2 hR2 hF2 hb2
                  have hS2 : Frm [] w9 x2 := Frm.trans_new (by (repeat' (first | assumption | exact Frm.refl _ _ | apply Frm.drew | apply Frm.alloc))) hF2 (fun y hy => .inr (hR1.blk y hy).1)
                  refine hK.out _ _ (hS2) (fun hHeld => ?_)
                  clear hK K
                  try change wpAnyH _ _ _ _ _ _ _ (Act.put _ (some 88) _) _
                  try simp only [Act.put, List.setIfInBounds_toArray, List.set_cons_zero, List.set_cons_succ]
                  refine wpAnyH_ready (rs := [17]) (by kernel_rfl) (by simp) ?_
                  refine AllReadyH.cons rfl (fun K hK => ?_) AllReadyH.nil
                  go_simp
                  go_at_call 17
                  obtain ⟨b9, hL9⟩ := hR2.li
                  refine (All_any (HW.out.frm0 (hFx.trans hS2)) hL9 (by omega)).mono ?_
                  rintro e x3 ⟨rfl, hF3⟩
                  have hS3 : Frm [] w9 x3 := hS2.trans hF3
                  rw [HV.out]
                  try go_wp2_with fail
                  refine hK.out _ _ (hS3) (fun hHeld => ?_)
                  clear hK K
                  try change wpAnyH _ _ _ _ _ _ _ (Act.put _ (some 89) _) _
                  try simp only [Act.put, List.setIfInBounds_toArray, List.set_cons_zero, List.set_cons_succ]
                  refine take_in (i := 18) (d := 90) (v := .bool false) rfl rfl (by kernel_rfl) (by kernel_rfl) (by kernel_rfl) (fun _ _ _ h => h) (by kernel_rfl) (fun _ _ => rfl) (by assumption) ?_
                  try simp only [Act.put, List.setIfInBounds_toArray, List.set_cons_zero, List.set_cons_succ]
                  refine take_out (i := 19) (d := 91) rfl rfl (by kernel_rfl) (by kernel_rfl) (by kernel_rfl) (fun _ _ _ h => h) (by kernel_rfl) (by assumption) ?_
                  simp only [Act.put, List.setIfInBounds_toArray, List.set_cons_zero, List.set_cons_succ]
                  refine take_out (i := 20) (d := 92) rfl rfl (by kernel_rfl) (by kernel_rfl) (by kernel_rfl) (fun _ _ _ h => h) (by kernel_rfl) (by assumption) ?_
                  simp only [Act.put, List.setIfInBounds_toArray, List.set_cons_zero, List.set_cons_succ]
                  refine take_out (i := 21) (d := 93) rfl rfl (by kernel_rfl) (by kernel_rfl) (by kernel_rfl) (fun _ _ _ h => h) (by kernel_rfl) (by assumption) ?_
                  simp only [Act.put, List.setIfInBounds_toArray, List.set_cons_zero, List.set_cons_succ]
                  refine take_out (i := 22) (d := 94) rfl rfl (by kernel_rfl) (by kernel_rfl) (by kernel_rfl) (fun _ _ _ h => h) (by kernel_rfl) (by assumption) ?_
                  simp only [Act.put, List.setIfInBounds_toArray, List.set_cons_zero, List.set_cons_succ]
                  refine take_out (i := 23) (d := 95) rfl rfl (by kernel_rfl) (by kernel_rfl) (by kernel_rfl) (fun _ _ _ h => h) (by kernel_rfl) (by assumption) ?_
                  simp only [Act.put, List.setIfInBounds_toArray, List.set_cons_zero, List.set_cons_succ]
                  refine take_out (i := 24) (d := 96) rfl rfl (by kernel_rfl) (by kernel_rfl) (by kernel_rfl) (fun _ _ _ h => h) (by kernel_rfl) (by assumption) ?_
                  simp only [Act.put, List.setIfInBounds_toArray, List.set_cons_zero, List.set_cons_succ]
                  refine take_out (i := 25) (d := 97) rfl rfl (by kernel_rfl) (by kernel_rfl) (by kernel_rfl) (fun _ _ _ h => h) (by kernel_rfl) (by assumption) ?_
                  simp only [Act.put, List.setIfInBounds_toArray, List.set_cons_zero, List.set_cons_succ]
                  refine take_out (i := 26) (d := 98) rfl rfl (by kernel_rfl) (by kernel_rfl) (by kernel_rfl) (fun _ _ _ h => h) (by kernel_rfl) (by assumption) ?_
                  simp only [Act.put, List.setIfInBounds_toArray, List.set_cons_zero, List.set_cons_succ]
                  refine take_out (i := 27) (d := 99) rfl rfl (by kernel_rfl) (by kernel_rfl) (by kernel_rfl) (fun _ _ _ h => h) (by kernel_rfl) (by assumption) ?_
                  simp only [Act.put, List.setIfInBounds_toArray, List.set_cons_zero, List.set_cons_succ]
                  refine take_out (i := 28) (d := 100) rfl rfl (by kernel_rfl) (by kernel_rfl) (by kernel_rfl) (fun _ _ _ h => h) (by kernel_rfl) (by assumption) ?_
                  simp only [Act.put, List.setIfInBounds_toArray, List.set_cons_zero, List.set_cons_succ]
                  refine take_out (i := 29) (d := 101) rfl rfl (by kernel_rfl) (by kernel_rfl) (by kernel_rfl) (fun _ _ _ h => h) (by kernel_rfl) (by assumption) ?_
                  simp only [Act.put, List.setIfInBounds_toArray, List.set_cons_zero, List.set_cons_succ]
                  refine take_in (i := 30) (d := 102) (v := .bool false) rfl rfl (by kernel_rfl) (by kernel_rfl) (by kernel_rfl) (fun _ _ _ h => h) (by kernel_rfl) (fun _ _ => rfl) (by assumption) ?_
                  try simp only [Act.put, List.setIfInBounds_toArray, List.set_cons_zero, List.set_cons_succ]
                  refine take_in (i := 31) (d := 103) (v := .bool false) rfl rfl (by kernel_rfl) (by kernel_rfl) (by kernel_rfl) (fun _ _ _ h => h) (by kernel_rfl) (fun _ _ => rfl) (by assumption) ?_
                  try simp only [Act.put, List.setIfInBounds_toArray, List.set_cons_zero, List.set_cons_succ]
                  refine wpAnyH_done (by kernel_rfl) ?_ _
                  refine NoPanic.normal ?_
                  go_wp2
                  go_meet
                  exact hFx.trans hS3
              · go_wp2_with fail
                refine wp_region_noPanic ?_
                refine wp_region_held_drew (S := fun w' => Frm [] w9 w') (by kernel_rfl) ((Frm.refl _ _).drew) (fun hHeld => ?_)
                refine take_in (i := 0) (d := 72) (v := .int .i64 g) rfl rfl (by kernel_rfl) (by kernel_rfl) (by kernel_rfl) (fun _ _ _ h => h) (by kernel_rfl) (fun _ _ => rfl) (by assumption) ?_
                try simp only [Act.put, List.setIfInBounds_toArray, List.set_cons_zero, List.set_cons_succ]
                refine take_in (i := 1) (d := 73) (v := .int .i64 S) rfl rfl (by kernel_rfl) (by kernel_rfl) (by kernel_rfl) (fun _ _ _ h => h) (by kernel_rfl) (fun _ _ => rfl) (by assumption) ?_
                try simp only [Act.put, List.setIfInBounds_toArray, List.set_cons_zero, List.set_cons_succ]
                refine take_in (i := 2) (d := 74) (v := .int .i64 (IntKind.i64.wrap (g + S))) rfl rfl (by kernel_rfl) (by kernel_rfl) (by kernel_rfl) (fun _ _ _ h => h) (by kernel_rfl) (fun _ _ => rfl) (by assumption) ?_
                try simp only [Act.put, List.setIfInBounds_toArray, List.set_cons_zero, List.set_cons_succ]
                refine take_in (i := 3) (d := 75) (v := .bool (decide (4 < IntKind.i64.wrap (g + S)))) rfl rfl (by kernel_rfl) (by kernel_rfl) (by kernel_rfl) (fun _ _ _ h => h) (by kernel_rfl) (fun _ _ => rfl) (by assumption) ?_
                try simp only [Act.put, List.setIfInBounds_toArray, List.set_cons_zero, List.set_cons_succ, f1]
                refine take_in (i := 4) (d := 76) (v := .bool false) rfl rfl (by kernel_rfl) (by kernel_rfl) (by kernel_rfl) (fun _ _ _ h => h) (by kernel_rfl) (fun _ _ => rfl) (by assumption) ?_
                try simp only [Act.put, List.setIfInBounds_toArray, List.set_cons_zero, List.set_cons_succ]
                refine take_out (i := 5) (d := 77) rfl rfl (by kernel_rfl) (by kernel_rfl) (by kernel_rfl) (fun _ _ _ h => h) (by kernel_rfl) (by assumption) ?_
                simp only [Act.put, List.setIfInBounds_toArray, List.set_cons_zero, List.set_cons_succ]
                refine take_out (i := 6) (d := 78) rfl rfl (by kernel_rfl) (by kernel_rfl) (by kernel_rfl) (fun _ _ _ h => h) (by kernel_rfl) (by assumption) ?_
                simp only [Act.put, List.setIfInBounds_toArray, List.set_cons_zero, List.set_cons_succ]
                refine take_in (i := 7) (d := 79) (v := .bool false) rfl rfl (by kernel_rfl) (by kernel_rfl) (by kernel_rfl) (fun _ _ _ h => h) (by kernel_rfl) (fun _ _ => rfl) (by assumption) ?_
                try simp only [Act.put, List.setIfInBounds_toArray, List.set_cons_zero, List.set_cons_succ]
                refine take_in (i := 8) (d := 80) (v := .bool false) rfl rfl (by kernel_rfl) (by kernel_rfl) (by kernel_rfl) (fun _ _ _ h => h) (by kernel_rfl) (fun _ _ => rfl) (by assumption) ?_
                try simp only [Act.put, List.setIfInBounds_toArray, List.set_cons_zero, List.set_cons_succ]
                refine take_in (i := 9) (d := 81) (v := .slice a8 m8 c8) rfl rfl (by kernel_rfl) (by kernel_rfl) (by kernel_rfl) (fun _ _ _ h => h) (by kernel_rfl) (fun _ _ => rfl) (by assumption) ?_
                try simp only [Act.put, List.setIfInBounds_toArray, List.set_cons_zero, List.set_cons_succ]
                refine take_in (i := 11) (d := 83) (v := .slice a2 n2 c2) rfl rfl (by kernel_rfl) (by kernel_rfl) (by kernel_rfl) (fun _ _ _ h => h) (by kernel_rfl) (fun _ _ => rfl) (by assumption) ?_
                try simp only [Act.put, List.setIfInBounds_toArray, List.set_cons_zero, List.set_cons_succ]
                refine take_in (i := 12) (d := 84) (v := .int .i64 (k : Int)) rfl rfl (by kernel_rfl) (by kernel_rfl) (by kernel_rfl) (fun _ _ _ h => h) (by kernel_rfl) (fun _ _ => rfl) (by assumption) ?_
                try simp only [Act.put, List.setIfInBounds_toArray, List.set_cons_zero, List.set_cons_succ]
                refine take_in (i := 13) (d := 85) (v := .pointer (some ⟨b2, o2 + k, none⟩)) rfl rfl (by kernel_rfl) (by kernel_rfl) (by kernel_rfl) (fun _ _ _ h => h) (by kernel_rfl) (fun w' hS => by go_simp) (by assumption) ?_
                try simp only [Act.put, List.setIfInBounds_toArray, List.set_cons_zero, List.set_cons_succ]
                refine take_in (i := 14) (d := 86) (v := .int .i64 x) rfl rfl (by kernel_rfl) (by kernel_rfl) (by kernel_rfl) (fun _ _ _ h => h) (by kernel_rfl) (fun w' hS => by have hS' : Frm [] w9 w' := hS; have hcc := hcell w' hS'; go_simp) (by assumption) ?_
                try simp only [Act.put, List.setIfInBounds_toArray, List.set_cons_zero, List.set_cons_succ]
                refine wpAnyH_ready (rs := [10, 15]) (by kernel_rfl) (by simp) ?_
                refine AllReadyH.cons rfl (fun K hK => ?_) ?_
                · (refine step_appW Tryd.underlying30 info_md (by decide) (by decide) (by kernel_rfl) (.const (.slice none 0 0)) (.tmp 81) rfl (B := w9.heap.size) (a := none) (n := 0) (c := 0) (m := m8) (l := []) (l2 := h ++ q.take k) rfl rfl (Row.nil _ _ _ _) (HL9.out.frm0 (by (repeat' (first | assumption | exact Frm.refl _ _ | apply Frm.drew | apply Frm.alloc)))) (by simp; omega) (by have hq : Frm [] w9 _ := (by (repeat' (first | assumption | exact Frm.refl _ _ | apply Frm.drew | apply Frm.alloc))); exact hq.size) ?_)
                  intro xa xc x1 hR1 hF1 hb1
                  have hS1 : Frm [] w9 x1 := Frm.trans (by (repeat' (first | assumption | exact Frm.refl _ _ | apply Frm.drew | apply Frm.alloc))) (hF1.weak (fun y hy => by cases hy))
                  simp only [Nat.zero_add, List.nil_append] at hR1
                  refine hK.out _ _ (hS1) (fun hHeld => ?_)
                  clear hK K
                  try change wpAnyH _ _ _ _ _ _ _ (Act.put _ (some 82) _) _
                  try simp only [Act.put, List.setIfInBounds_toArray, List.set_cons_zero, List.set_cons_succ, Nat.zero_add]
                  refine wpAnyH_ready (rs := [15]) (by kernel_rfl) (by simp) ?_
                  refine AllReadyH.cons rfl (fun K hK => ?_) AllReadyH.nil
                  go_simp
                  refine hK.out _ _ (by (repeat' (first | assumption | exact Frm.refl _ _ | apply Frm.drew | apply Frm.alloc))) (fun hHeld => ?_)
                  clear hK K
                  try change wpAnyH _ _ _ _ _ _ _ (Act.put _ (some 87) _) _
                  try simp only [Act.put, List.setIfInBounds_toArray, List.set_cons_zero, List.set_cons_succ]
                  refine wpAnyH_ready (rs := [16]) (by kernel_rfl) (by simp) ?_
                  refine AllReadyH.cons rfl (fun K hK => ?_) AllReadyH.nil
                  refine step_appW Tryd.underlying30 info_md (by decide) (by decide) (by kernel_rfl) (.tmp 82) (.tmp 87) rfl (B := w9.heap.size) (a := xa) (n := m8) (c := xc) (m := 1) (l := h ++ q.take k) (l2 := [x]) (by simp [Act.eval]) (by simp [Act.eval]) (hR1.frm0 (by (repeat' (first | assumption | exact Frm.refl _ _ | apply Frm.drew | apply Frm.alloc)))) (li_new rfl (heap_alloc_new x1 _)) (by have := HL.out.len; have := HL2.out.len; simp; omega) (by have hq : Frm [] w9 _ := (by (repeat' (first | assumption | exact Frm.refl _ _ | apply Frm.drew | apply Frm.alloc))); exact hq.size) ?_
                  intro ya yc x2 hR2 hF2 hb2
                  have hS2 : Frm [] w9 x2 := Frm.trans_new (by (repeat' (first | assumption | exact Frm.refl _ _ | apply Frm.drew | apply Frm.alloc))) hF2 (fun y hy => .inr (hR1.blk y hy).1)
                  refine hK.out _ _ (hS2) (fun hHeld => ?_)
                  clear hK K
                  try change wpAnyH _ _ _ _ _ _ _ (Act.put _ (some 88) _) _
                  try simp only [Act.put, List.setIfInBounds_toArray, List.set_cons_zero, List.set_cons_succ]
                  refine wpAnyH_ready (rs := [17]) (by kernel_rfl) (by simp) ?_
                  refine AllReadyH.cons rfl (fun K hK => ?_) AllReadyH.nil
                  go_simp
                  go_at_call 17
                  obtain ⟨b9, hL9⟩ := hR2.li
                  refine (All_any (HW.out.frm0 (hFx.trans hS2)) hL9 (by omega)).mono ?_
                  rintro e x3 ⟨rfl, hF3⟩
                  have hS3 : Frm [] w9 x3 := hS2.trans hF3
                  rw [HV.out]
                  try go_wp2_with fail
                  refine hK.out _ _ (hS3) (fun hHeld => ?_)
                  clear hK K
                  try change wpAnyH _ _ _ _ _ _ _ (Act.put _ (some 89) _) _
                  try simp only [Act.put, List.setIfInBounds_toArray, List.set_cons_zero, List.set_cons_succ]
                  refine take_in (i := 18) (d := 90) (v := .bool false) rfl rfl (by kernel_rfl) (by kernel_rfl) (by kernel_rfl) (fun _ _ _ h => h) (by kernel_rfl) (fun _ _ => rfl) (by assumption) ?_
                  try simp only [Act.put, List.setIfInBounds_toArray, List.set_cons_zero, List.set_cons_succ]
                  refine take_out (i := 19) (d := 91) rfl rfl (by kernel_rfl) (by kernel_rfl) (by kernel_rfl) (fun _ _ _ h => h) (by kernel_rfl) (by assumption) ?_
                  simp only [Act.put, List.setIfInBounds_toArray, List.set_cons_zero, List.set_cons_succ]
                  refine take_out (i := 20) (d := 92) rfl rfl (by kernel_rfl) (by kernel_rfl) (by kernel_rfl) (fun _ _ _ h => h) (by kernel_rfl) (by assumption) ?_
                  simp only [Act.put, List.setIfInBounds_toArray, List.set_cons_zero, List.set_cons_succ]
                  refine take_out (i := 21) (d := 93) rfl rfl (by kernel_rfl) (by kernel_rfl) (by kernel_rfl) (fun _ _ _ h => h) (by kernel_rfl) (by assumption) ?_
                  simp only [Act.put, List.setIfInBounds_toArray, List.set_cons_zero, List.set_cons_succ]
                  refine take_out (i := 22) (d := 94) rfl rfl (by kernel_rfl) (by kernel_rfl) (by kernel_rfl) (fun _ _ _ h => h) (by kernel_rfl) (by assumption) ?_
                  simp only [Act.put, List.setIfInBounds_toArray, List.set_cons_zero, List.set_cons_succ]
                  refine take_out (i := 23) (d := 95) rfl rfl (by kernel_rfl) (by kernel_rfl) (by kernel_rfl) (fun _ _ _ h => h) (by kernel_rfl) (by assumption) ?_
                  simp only [Act.put, List.setIfInBounds_toArray, List.set_cons_zero, List.set_cons_succ]
                  refine take_out (i := 24) (d := 96) rfl rfl (by kernel_rfl) (by kernel_rfl) (by kernel_rfl) (fun _ _ _ h => h) (by kernel_rfl) (by assumption) ?_
                  simp only [Act.put, List.setIfInBounds_toArray, List.set_cons_zero, List.set_cons_succ]
                  refine take_out (i := 25) (d := 97) rfl rfl (by kernel_rfl) (by kernel_rfl) (by kernel_rfl) (fun _ _ _ h => h) (by kernel_rfl) (by assumption) ?_
                  simp only [Act.put, List.setIfInBounds_toArray, List.set_cons_zero, List.set_cons_succ]
                  refine take_out (i := 26) (d := 98) rfl rfl (by kernel_rfl) (by kernel_rfl) (by kernel_rfl) (fun _ _ _ h => h) (by kernel_rfl) (by assumption) ?_
                  simp only [Act.put, List.setIfInBounds_toArray, List.set_cons_zero, List.set_cons_succ]
                  refine take_out (i := 27) (d := 99) rfl rfl (by kernel_rfl) (by kernel_rfl) (by kernel_rfl) (fun _ _ _ h => h) (by kernel_rfl) (by assumption) ?_
                  simp only [Act.put, List.setIfInBounds_toArray, List.set_cons_zero, List.set_cons_succ]
                  refine take_out (i := 28) (d := 100) rfl rfl (by kernel_rfl) (by kernel_rfl) (by kernel_rfl) (fun _ _ _ h => h) (by kernel_rfl) (by assumption) ?_
                  simp only [Act.put, List.setIfInBounds_toArray, List.set_cons_zero, List.set_cons_succ]
                  refine take_out (i := 29) (d := 101) rfl rfl (by kernel_rfl) (by kernel_rfl) (by kernel_rfl) (fun _ _ _ h => h) (by kernel_rfl) (by assumption) ?_
                  simp only [Act.put, List.setIfInBounds_toArray, List.set_cons_zero, List.set_cons_succ]
                  refine take_in (i := 30) (d := 102) (v := .bool false) rfl rfl (by kernel_rfl) (by kernel_rfl) (by kernel_rfl) (fun _ _ _ h => h) (by kernel_rfl) (fun _ _ => rfl) (by assumption) ?_
                  try simp only [Act.put, List.setIfInBounds_toArray, List.set_cons_zero, List.set_cons_succ]
                  refine take_in (i := 31) (d := 103) (v := .bool false) rfl rfl (by kernel_rfl) (by kernel_rfl) (by kernel_rfl) (fun _ _ _ h => h) (by kernel_rfl) (fun _ _ => rfl) (by assumption) ?_
                  try simp only [Act.put, List.setIfInBounds_toArray, List.set_cons_zero, List.set_cons_succ]
                  refine wpAnyH_done (by kernel_rfl) ?_ _
                  refine NoPanic.normal ?_
                  go_wp2
                  go_meet
                  exact hFx.trans hS3
                · refine AllReadyH.cons rfl (fun K hK => ?_) AllReadyH.nil
                  go_simp
                  refine hK.out _ _ (by (repeat' (first | assumption | exact Frm.refl _ _ | apply Frm.drew | apply Frm.alloc))) (fun hHeld => ?_)
                  clear hK K
                  try change wpAnyH _ _ _ _ _ _ _ (Act.put _ (some 87) _) _
                  try simp only [Act.put, List.setIfInBounds_toArray, List.set_cons_zero, List.set_cons_succ]
                  refine wpAnyH_ready (rs := [10]) (by kernel_rfl) (by simp) ?_
                  refine AllReadyH.cons rfl (fun K hK => ?_) AllReadyH.nil
                  (refine step_appW Tryd.underlying30 info_md (by decide) (by decide) (by kernel_rfl) (.const (.slice none 0 0)) (.tmp 81) rfl (B := w9.heap.size) (a := none) (n := 0) (c := 0) (m := m8) (l := []) (l2 := h ++ q.take k) rfl rfl (Row.nil _ _ _ _) (HL9.out.frm0 (by (repeat' (first | assumption | exact Frm.refl _ _ | apply Frm.drew | apply Frm.alloc)))) (by simp; omega) (by have hq : Frm [] w9 _ := (by (repeat' (first | assumption | exact Frm.refl _ _ | apply Frm.drew | apply Frm.alloc))); exact hq.size) ?_)
                  intro xa xc x1 hR1 hF1 hb1
                  have hS1 : Frm [] w9 x1 := Frm.trans (by (repeat' (first | assumption | exact Frm.refl _ _ | apply Frm.drew | apply Frm.alloc))) (hF1.weak (fun y hy => by cases hy))
                  simp only [Nat.zero_add, List.nil_append] at hR1
                  have hH := hF1.heap (heap_alloc_new w9.drew _) (fun hy => by cases hy)
                  refine hK.out _ _ (hS1) (fun hHeld => ?_)
                  clear hK K
                  try change wpAnyH _ _ _ _ _ _ _ (Act.put _ (some 82) _) _
                  try simp only [Act.put, List.setIfInBounds_toArray, List.set_cons_zero, List.set_cons_succ, Nat.zero_add]
                  refine wpAnyH_ready (rs := [16]) (by kernel_rfl) (by simp) ?_
                  refine AllReadyH.cons rfl (fun K hK => ?_) AllReadyH.nil
                  refine step_appW Tryd.underlying30 info_md (by decide) (by decide) (by kernel_rfl) (.tmp 82) (.tmp 87) rfl (B := w9.heap.size) (a := xa) (n := m8) (c := xc) (m := 1) (l := h ++ q.take k) (l2 := [x]) (by simp [Act.eval]) (by simp [Act.eval]) (hR1) (li_new rfl (hH)) (by have := HL.out.len; have := HL2.out.len; simp; omega) (by have hq : Frm [] w9 _ := (by (repeat' (first | assumption | exact Frm.refl _ _ | apply Frm.drew | apply Frm.alloc))); exact hq.size) ?_
                  intro ya yc x2 hR2 hF2 hb2
                  have hS2 : Frm [] w9 x2 := Frm.trans_new (by (repeat' (first | assumption | exact Frm.refl _ _ | apply Frm.drew | apply Frm.alloc))) hF2 (fun y hy => .inr (hR1.blk y hy).1)
                  refine hK.out _ _ (hS2) (fun hHeld => ?_)
                  clear hK K
                  try change wpAnyH _ _ _ _ _ _ _ (Act.put _ (some 88) _) _
                  try simp only [Act.put, List.setIfInBounds_toArray, List.set_cons_zero, List.set_cons_succ]
                  refine wpAnyH_ready (rs := [17]) (by kernel_rfl) (by simp) ?_
                  refine AllReadyH.cons rfl (fun K hK => ?_) AllReadyH.nil
                  go_simp
                  go_at_call 17
                  obtain ⟨b9, hL9⟩ := hR2.li
                  refine (All_any (HW.out.frm0 (hFx.trans hS2)) hL9 (by omega)).mono ?_
                  rintro e x3 ⟨rfl, hF3⟩
                  have hS3 : Frm [] w9 x3 := hS2.trans hF3
                  rw [HV.out]
                  try go_wp2_with fail
                  refine hK.out _ _ (hS3) (fun hHeld => ?_)
                  clear hK K
                  try change wpAnyH _ _ _ _ _ _ _ (Act.put _ (some 89) _) _
                  try simp only [Act.put, List.setIfInBounds_toArray, List.set_cons_zero, List.set_cons_succ]
                  refine take_in (i := 18) (d := 90) (v := .bool false) rfl rfl (by kernel_rfl) (by kernel_rfl) (by kernel_rfl) (fun _ _ _ h => h) (by kernel_rfl) (fun _ _ => rfl) (by assumption) ?_
                  try simp only [Act.put, List.setIfInBounds_toArray, List.set_cons_zero, List.set_cons_succ]
                  refine take_out (i := 19) (d := 91) rfl rfl (by kernel_rfl) (by kernel_rfl) (by kernel_rfl) (fun _ _ _ h => h) (by kernel_rfl) (by assumption) ?_
                  simp only [Act.put, List.setIfInBounds_toArray, List.set_cons_zero, List.set_cons_succ]
                  refine take_out (i := 20) (d := 92) rfl rfl (by kernel_rfl) (by kernel_rfl) (by kernel_rfl) (fun _ _ _ h => h) (by kernel_rfl) (by assumption) ?_
                  simp only [Act.put, List.setIfInBounds_toArray, List.set_cons_zero, List.set_cons_succ]
                  refine take_out (i := 21) (d := 93) rfl rfl (by kernel_rfl) (by kernel_rfl) (by kernel_rfl) (fun _ _ _ h => h) (by kernel_rfl) (by assumption) ?_
                  simp only [Act.put, List.setIfInBounds_toArray, List.set_cons_zero, List.set_cons_succ]
                  refine take_out (i := 22) (d := 94) rfl rfl (by kernel_rfl) (by kernel_rfl) (by kernel_rfl) (fun _ _ _ h => h) (by kernel_rfl) (by assumption) ?_
                  simp only [Act.put, List.setIfInBounds_toArray, List.set_cons_zero, List.set_cons_succ]
                  refine take_out (i := 23) (d := 95) rfl rfl (by kernel_rfl) (by kernel_rfl) (by kernel_rfl) (fun _ _ _ h => h) (by kernel_rfl) (by assumption) ?_
                  simp only [Act.put, List.setIfInBounds_toArray, List.set_cons_zero, List.set_cons_succ]
                  refine take_out (i := 24) (d := 96) rfl rfl (by kernel_rfl) (by kernel_rfl) (by kernel_rfl) (fun _ _ _ h => h) (by kernel_rfl) (by assumption) ?_
                  simp only [Act.put, List.setIfInBounds_toArray, List.set_cons_zero, List.set_cons_succ]
                  refine take_out (i := 25) (d := 97) rfl rfl (by kernel_rfl) (by kernel_rfl) (by kernel_rfl) (fun _ _ _ h => h) (by kernel_rfl) (by assumption) ?_
                  simp only [Act.put, List.setIfInBounds_toArray, List.set_cons_zero, List.set_cons_succ]
                  refine take_out (i := 26) (d := 98) rfl rfl (by kernel_rfl) (by kernel_rfl) (by kernel_rfl) (fun _ _ _ h => h) (by kernel_rfl) (by assumption) ?_
                  simp only [Act.put, List.setIfInBounds_toArray, List.set_cons_zero, List.set_cons_succ]
                  refine take_out (i := 27) (d := 99) rfl rfl (by kernel_rfl) (by kernel_rfl) (by kernel_rfl) (fun _ _ _ h => h) (by kernel_rfl) (by assumption) ?_
                  simp only [Act.put, List.setIfInBounds_toArray, List.set_cons_zero, List.set_cons_succ]
                  refine take_out (i := 28) (d := 100) rfl rfl (by kernel_rfl) (by kernel_rfl) (by kernel_rfl) (fun _ _ _ h => h) (by kernel_rfl) (by assumption) ?_
                  simp only [Act.put, List.setIfInBounds_toArray, List.set_cons_zero, List.set_cons_succ]
                  refine take_out (i := 29) (d := 101) rfl rfl (by kernel_rfl) (by kernel_rfl) (by kernel_rfl) (fun _ _ _ h => h) (by kernel_rfl) (by assumption) ?_
                  simp only [Act.put, List.setIfInBounds_toArray, List.set_cons_zero, List.set_cons_succ]
                  refine take_in (i := 30) (d := 102) (v := .bool false) rfl rfl (by kernel_rfl) (by kernel_rfl) (by kernel_rfl) (fun _ _ _ h => h) (by kernel_rfl) (fun _ _ => rfl) (by assumption) ?_
                  try simp only [Act.put, List.setIfInBounds_toArray, List.set_cons_zero, List.set_cons_succ]
                  refine take_in (i := 31) (d := 103) (v := .bool false) rfl rfl (by kernel_rfl) (by kernel_rfl) (by kernel_rfl) (fun _ _ _ h => h) (by kernel_rfl) (fun _ _ => rfl) (by assumption) ?_
                  try simp only [Act.put, List.setIfInBounds_toArray, List.set_cons_zero, List.set_cons_succ]
                  refine wpAnyH_done (by kernel_rfl) ?_ _
                  refine NoPanic.normal ?_
                  go_wp2
                  go_meet
                  exact hFx.trans hS3
          · go_wp2
            go_meet
            exact hFx
        case rest =>
          have hFc : Frm [] W wc := hcut
          clear hcut
          have HWc := Lib.hid (HW.out.frm0 hFc)
          by_cases hn0 : n = 0
          · have z1 : ((n : Int) == 0) = true := by simp [hn0]
            by_cases hgz : g = 0
            · have z2 : (g == 0) = true := by simpa using hgz
              by_cases hq0 : 0 < n2
              · have z3 : decide (0 < (n2 : Int)) = true := by simp; omega
                have z4 : (0 : Int) < (n2 : Int) := by omega
                obtain ⟨x, hx, _, hc⟩ := (HL2.out.frm0 hFc).get hq0
                have hix : ∀ w, (Instr.indexAt 30 (.slice a2 n2 c2) (.int .i64 0)).run Tryd.prog w = .ok (.pointer (some ⟨b2, o2, none⟩)) w := fun w => ix_md (c := c2) HL2.out.ad hq0 w
                have hc' : wc.cell? ⟨b2, o2, none⟩ = some (.int .i64 x) := hc
                clear hc
                cases hv : vm x with
                | true =>
                  have hk1 : 0 < k := by
                    have h0 : h = [] := List.eq_nil_of_length_eq_zero (by rw [HL.out.len]; exact hn0)
                    have hq1 : q = x :: q.drop 1 := by
                      have := drop_one hx
                      simpa using this
                    rw [← HRR.out, h0, hq1]
                    exact grant_first hv g (by omega)
                  have z5 : ((k : Int) == 0) = false := by simp; omega
                  have HV := Lib.hid hv
                  clear hv hx hn0 hgz hk1
                  go_wp2_with fail
                  refine (valid_any _ _).mono ?_
                  rintro e w' ⟨rfl, rfl⟩
                  rw [HV.out]
                  go_wp2_with fail
                  refine (known_true HWc.out).mono ?_
                  rintro e w20 ⟨rfl, hF20⟩
                  go_wp2_with fail
                  go_ret
                  exact ⟨rfl, hFc.trans hF20⟩
                | false =>
                  have HV := Lib.hid hv
                  clear hv hx hn0 hgz
                  go_wp2_with fail
                  refine (valid_any _ _).mono ?_
                  rintro e w' ⟨rfl, rfl⟩
                  rw [HV.out]
                  go_wp2_with fail
                  refine (known_true HWc.out).mono ?_
                  rintro e w20 ⟨rfl, hF20⟩
                  go_wp2_with fail
                  go_ret
                  exact ⟨rfl, hFc.trans hF20⟩
              · have z3 : decide (0 < (n2 : Int)) = false := by simp; omega
                clear hn0 hgz
                go_wp2_with fail
                refine (known_true HWc.out).mono ?_
                rintro e w20 ⟨rfl, hF20⟩
                go_wp2_with fail
                go_ret
                exact ⟨rfl, hFc.trans hF20⟩
            · have z2 : (g == 0) = false := by simpa using hgz
              clear hn0 hgz
              go_wp2_with fail
              refine (known_true HWc.out).mono ?_
              rintro e w20 ⟨rfl, hF20⟩
              go_wp2_with fail
              go_ret
              exact ⟨rfl, hFc.trans hF20⟩
          · have z1 : ((n : Int) == 0) = false := by simpa using hn0
            clear hn0
            go_wp2_with fail
            refine (known_true HWc.out).mono ?_
            rintro e w20 ⟨rfl, hF20⟩
            go_wp2_with fail
            go_ret
            exact ⟨rfl, hFc.trans hF20⟩
end

set_option maxRecDepth 100000 in
set_option maxHeartbeats 4000000 in
theorem walk_ModesHolds (a : Option Addr) (n c : Nat) (zs : List Int) (a2 : Option Addr) (n2 c2 : Nat) (zs2 : List Int) (g : Int) (_ : (Lit.int .i64 g).wf = true) (W : World) (hW : Laid W) (hR : IsRow .i64 W a n c zs) (hR2 : IsRow .i64 W a2 n2 c2 zs2) :
    Calls Tryd.prog 8 #[.slice a n c, .slice a2 n2 c2, .int .i64 g] W (Ret (.bool true) (fun w' => Below W.heap.size W w')) := by
  obtain ⟨b, o, hL, _, _⟩ := li_of_row hR
  obtain ⟨b2, o2, hL2, _, _⟩ := li_of_row hR2
  have HW := Lib.hid hW
  have HL := Lib.hid hL
  have HL2 := Lib.hid hL2
  generalize zs.take n = h at HL
  generalize zs2.take n2 = q at HL2
  clear hW hL hR hL2 hR2
  by_cases hn : 40 < n
  · have d : decide ((40 : Int) < (n : Int)) = true := by simp; omega
    go_enter Tryd.func8, Tryd.ntmps8
    go_wp2_with fail
    refine (known_true HW.out).mono ?_
    rintro e w2 ⟨rfl, hF⟩
    go_wp2_with fail
    go_ret
    exact ⟨rfl, bel hF⟩
  have d : decide ((40 : Int) < (n : Int)) = false := by simp; omega
  by_cases hn2 : 40 < n2
  · have d2 : decide ((40 : Int) < (n2 : Int)) = true := by simp; omega
    go_enter Tryd.func8, Tryd.ntmps8
    go_wp2_with fail
    refine (known_true HW.out).mono ?_
    rintro e w2 ⟨rfl, hF⟩
    go_wp2_with fail
    go_ret
    exact ⟨rfl, bel hF⟩
  have d2 : decide ((40 : Int) < (n2 : Int)) = false := by simp; omega
  by_cases hg0 : g < 0
  · have d3 : decide (g < 0) = true := by simpa using hg0
    go_enter Tryd.func8, Tryd.ntmps8
    go_wp2_with fail
    refine (known_true HW.out).mono ?_
    rintro e w2 ⟨rfl, hF⟩
    go_wp2_with fail
    go_ret
    exact ⟨rfl, bel hF⟩
  have d3 : decide (g < 0) = false := by simpa using hg0
  by_cases hg4 : 4 < g
  · have d4 : decide (4 < g) = true := by simpa using hg4
    go_enter Tryd.func8, Tryd.ntmps8
    go_wp2_with fail
    refine (known_true HW.out).mono ?_
    rintro e w2 ⟨rfl, hF⟩
    go_wp2_with fail
    go_ret
    exact ⟨rfl, bel hF⟩
  have d4 : decide (4 < g) = false := by simpa using hg4
  cases hA : allM h with
  | false =>
    have HA := Lib.hid hA
    clear hA
    go_enter Tryd.func8, Tryd.ntmps8
    go_wp2_with fail
    refine (All_any HW.out HL.out (by omega)).mono ?_
    rintro e w1 ⟨rfl, hF⟩
    rw [HA.out]
    have HW1 := Lib.hid (HW.out.frm0 hF)
    go_wp2_with fail
    refine (known_true HW1.out).mono ?_
    rintro e w2 ⟨rfl, hF2⟩
    go_wp2_with fail
    go_ret
    exact ⟨rfl, bel (hF.trans hF2)⟩
  | true =>
    exact (holds_main HW HL HL2 hn hn2 hg0 hg4 (Lib.hid hA)).mono fun e w' hh => ⟨hh.1, bel hh.2⟩
#print axioms walk_ModesHolds
end Go.Proofs.YthnmjildeenecaaDoor
