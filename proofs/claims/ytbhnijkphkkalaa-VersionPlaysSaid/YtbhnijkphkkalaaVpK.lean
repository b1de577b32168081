/- The law's looks, at programs that read. -/
import Derived.Test.YtbhnijkphkkalaaVpJ
namespace Go.Proofs.Ytbhnijkphkkalaa
open Go.ChangeShapes Go.WideShapes Go.ChangeAt Go.RowKit
set_option linter.unusedVariables false

section
variable {w : World} {q b cq : Nat} {P : Pg} {R : RV} {rl : List Int}
set_option maxRecDepth 100000 in
set_option maxHeartbeats 2000000 in
theorem looks_r0 (hR : P.R = true) (hP : At w q b cq P) (hok : Ok P) (h : Re P R rl) (h0 : P.res = 0) :
    Calls Try.prog 26 #[.iface 26 (.pointer (some ⟨q, 0, none⟩)), R.v] w (Ret (.bool true) (fun w' => Frm [] w w')) := by
  have he := h.ended
  have hr := h.res.trans h0
  have hm1 : ∀ w, (method 230 26 (.pointer (some ⟨q, 0, none⟩)) "Done").run Try.prog w = .ok (12, .pointer (some ⟨q, 0, none⟩)) w := m_Done true q
  have hm2 : ∀ w, (method 230 26 (.pointer (some ⟨q, 0, none⟩)) "Result").run Try.prog w = .ok (13, .pointer (some ⟨q, 0, none⟩)) w := m_Result true q
  have hta := as_rd (some ⟨q, 0, none⟩)
  have HQ1 : Hid (∀ o n, Calls Try.prog 12 #[.pointer (some ⟨q, 0, none⟩)] ((w.alloc o).drewN n) fun e w'' => e = .returned (.bool (decide (P.st = 5))) ∧ ∃ m, w'' = (w.alloc o).drewN m) := Lib.hid fun o n => by have := Done_q (hP.frm0 ((Frm.refl [] w).alloc o)) hok n; rw [hR] at this; exact this
  have HQ2 : Hid (∀ o n, Calls Try.prog 13 #[.pointer (some ⟨q, 0, none⟩)] ((w.alloc o).drewN n) fun e w'' => e = .returned (.int .u64 0) ∧ ∃ m, w'' = (w.alloc o).drewN m) := Lib.hid fun o n => by have := Result_q (hP.frm0 ((Frm.refl [] w).alloc o)) n; rw [hR, h0] at this; exact this
  have hp0 : PgAt w q b cq (Tp P.R) (tlOf P.R P.tr) P.L P.F P.buf P.k P.st P.was 0 := by have := hP; unfold At at this; rw [h0] at this; exact this
  have HWO : Hid (∀ o n, _) := Lib.hid fun o n => Words_0 (hp0.frm0 (((Frm.refl [] w).alloc o).drewN n))
  have HVE : Hid (∀ o n, _) := Lib.hid fun o n => Version_0 (hp0.frm0 (((Frm.refl [] w).alloc o).drewN n))
  obtain ⟨W, V, F, la, ln, lc, many, tries, steps, first, ra, rn, rcap, res, ended⟩ := R
  simp only at he hr
  subst he hr
  unfold RV.v
  simp only
  generalize decide (P.st = 5) = β at *
  clear h hok hP hR h0 hp0
  cases β
  all_goals
    go_enter Try.func26, Try.ntmps26
    go_wp2_with fail
    go_quiet (first | (go_at_call 12; with_reducible exact HQ1.out _ _) | (go_at_call 13; with_reducible exact HQ2.out _ _))
    go_wp2_with fail
    refine (HWO.out _ _).mono ?_
    rintro e w' ⟨rfl, rfl⟩
    go_wp2_with fail
    refine (HVE.out _ _).mono ?_
    rintro e w' ⟨rfl, rfl⟩
    go_wp2
    go_ret
    exact ⟨rfl, by (repeat' (first | exact Frm.refl _ _ | apply Frm.alloc | apply Frm.drew | apply Frm.drewN | assumption))⟩
theorem same_li {xs ys : List Int} {a1 a2 : Option Addr} {n1 n2 c1 c2 b1 b2 o1 o2 : Nat} (h1 : Li .u64 w a1 n1 c1 b1 o1 xs) (h2 : Li .u64 w a2 n2 c2 b2 o2 ys) (hx : n1 ≤ 2147483647) (he : xs = ys) :
    Calls Try.prog 25 #[.slice a1 n1 c1, .slice a2 n2 c2] w (fun e w' => ∃ m, Ret (.bool true) (fun w' => w' = w.drewN m) e w') := by
  subst he
  have l1 := h1.len
  have l2 := h2.len
  have hn : n1 = n2 := by omega
  subst hn
  by_cases h0 : 0 < n1
  · obtain rfl := h1.ad h0
    obtain rfl := h2.ad h0
    have := same_aux w xs xs b1 o1 c1 b2 o2 c2 n1 hx l1 l2 h1.cell h2.cell
    rw [decide_eq_true rfl] at this
    exact this
  · have hz : n1 = 0 := by omega
    subst hz
    clear h1 h2 l1 l2 h0
    go_enter Try.func25, Try.ntmps25
    go_wp2
    refine wp_loop_rounds 1 ?_
    rw [rounds_succ]
    go_wp2
    go_ret
    exact ⟨0, rfl, rfl⟩
theorem same_lq {xs ys : List Int} {a1 a2 : Option Addr} {n1 n2 c1 c2 b1 b2 o1 o2 : Nat} (h1 : Li .u64 w a1 n1 c1 b1 o1 xs) (h2 : Li .u64 w a2 n2 c2 b2 o2 ys) (hx : n1 ≤ 2147483647) (he : xs = ys) (n : Nat) :
    Calls Try.prog 25 #[.slice a1 n1 c1, .slice a2 n2 c2] (w.drewN n) fun e w'' => e = .returned (.bool true) ∧ ∃ m, w'' = w.drewN m :=
  (same_li (h1.frm0 ((Frm.refl [] w).drewN n)) (h2.frm0 ((Frm.refl [] w).drewN n)) hx he).mono fun e w'' ⟨m, hh⟩ => ⟨hh.1, n + m, hh.2.trans (World.drewN_drewN _ _ _)⟩
/-- One more, in a list's first k. -/
def upk (l : List Int) (k : Nat) : List Int := l.mapIdx (fun i x => if i < k then IntKind.u64.wrap (x + 1) else x)
theorem upk_len (l : List Int) (k : Nat) : (upk l k).length = l.length := by simp [upk]
theorem upk_zero (l : List Int) : upk l 0 = l := by
  apply List.ext_getElem?; intro i; simp [upk, List.getElem?_mapIdx]
theorem upk_get {l : List Int} {k : Nat} {x : Int} (h : l[k]? = some x) : (upk l k)[k]? = some x := by simp [upk, List.getElem?_mapIdx, h]
theorem upk_step {l : List Int} {k : Nat} {x : Int} (h : l[k]? = some x) : (upk l k).set k (IntKind.u64.wrap (x + 1)) = upk l (k + 1) := by
  apply List.ext_getElem?
  intro i
  rw [List.getElem?_set, upk_len]
  have hk : k < l.length := (List.getElem?_eq_some_iff.1 h).1
  by_cases e : k = i
  · subst e; rw [if_pos rfl, if_pos hk]; simp [upk, List.getElem?_mapIdx, h]
  · rw [if_neg e]
    simp only [upk, List.getElem?_mapIdx]
    cases l[i]? with
    | none => rfl
    | some y =>
      simp only [Option.map_some]
      by_cases h2 : i < k
      · rw [if_pos h2, if_pos (by omega)]
      · rw [if_neg h2, if_neg (by omega)]
/-- A row of words of which some are read. -/
def Wd (w : World) (g n : Nat) (l : List Int) : Prop := ∃ cs : Array Value, w.heap[g]? = some (.cells cs 22 (0, 0)) ∧ l.length ≤ cs.size ∧ ∀ (i : Nat) (x : Int), l[i]? = some x → cs[i]? = some (Value.int .u64 x)
theorem Wd.set {w : World} {g n : Nat} {l : List Int} (h : Wd w g n l) (i : Nat) (x : Int) : Wd (w.setCell ⟨g, i, none⟩ (.int .u64 x)) g n (l.set i x) := by
  obtain ⟨cs, hc, hl, hr⟩ := h
  refine ⟨_, heap_setCell_at _ hc, by simp [hl], fun j y hj => ?_⟩
  rw [List.getElem?_set] at hj
  rw [Array.getElem?_setIfInBounds]
  split
  · rename_i e
    subst e
    rw [if_pos rfl] at hj
    split at hj
    · rw [if_pos (by omega)]; cases hj; rfl
    · cases hj
  · rename_i e
    rw [if_neg e] at hj
    exact hr j y hj
theorem Wd.li {w : World} {g n cc : Nat} {l : List Int} (h : Wd w g n l) (hn : l.length = n) (hc : n ≤ cc) : Li .u64 w (some ⟨g, 0, none⟩) n cc g 0 l := by
  obtain ⟨cs, hh, hl, hr⟩ := h
  exact ⟨hn, fun _ => rfl, fun i x hx => by rw [Nat.zero_add, cell_of_heap hh]; exact hr i x hx, hc⟩
theorem Wd.cell {w : World} {g n : Nat} {l : List Int} (h : Wd w g n l) {i : Nat} {x : Int} (hx : l[i]? = some x) : w.cell? ⟨g, i, none⟩ = some (.int .u64 x) ∧ w.frozen? ⟨g, i, none⟩ = false := by
  obtain ⟨cs, hc, hl, hr⟩ := h
  exact ⟨by rw [cell_of_heap hc]; exact hr i x hx, frozen_of_heap hc⟩
theorem sl_same {w w' : World} {g cc B : Nat} {l : List Int} {a : Option Addr} {n c b o : Nat} (h : Sl w (.slice (some ⟨g, 0, none⟩) l.length cc) B l) (h2 : Li .u64 w' a n c b o l) (hf : Frm [] w w') (hle : l.length ≤ 256) :
    Calls Try.prog 25 #[.slice (some ⟨g, 0, none⟩) l.length cc, .slice a n c] w' (fun e w'' => ∃ m, Ret (.bool true) (fun w'' => w'' = w'.drewN m) e w'') := by
  obtain ⟨g2, cc2, hv2, hg2, hcc, hwd⟩ := h
  cases hv2
  have hw : Wd w g l.length l := hwd
  exact same_li ((hw.li rfl hcc).frm0 hf) h2 (by omega) rfl
set_option maxRecDepth 100000 in
set_option maxHeartbeats 4000000 in
theorem looks_r1 (hR : P.R = true) (hP : At w q b cq P) (hok : Ok P) (h : Re P R rl) (h1 : P.res = 1) {rb ro : Nat} (hLR : Li .u64 w R.ra R.rn R.rcap rb ro rl) :
    Calls Try.prog 26 #[.iface 26 (.pointer (some ⟨q, 0, none⟩)), R.v] w (Ret (.bool true) (fun w' => Frm [] w w')) := by
  have h5 : P.st = 5 := by
    by_cases h5 : P.st = 5
    · exact h5
    · have := hok.res h5; omega
  have he : R.ended = true := by rw [h.ended, h5]; rfl
  have hr := h.res.trans h1
  have hrb := h.read hR h5 h1
  have hf := h.first
  subst hrb
  have hle := hP.fit.le
  have hm1 : ∀ w, (method 230 26 (.pointer (some ⟨q, 0, none⟩)) "Done").run Try.prog w = .ok (12, .pointer (some ⟨q, 0, none⟩)) w := m_Done true q
  have hm2 : ∀ w, (method 230 26 (.pointer (some ⟨q, 0, none⟩)) "Result").run Try.prog w = .ok (13, .pointer (some ⟨q, 0, none⟩)) w := m_Result true q
  have hta := as_rd (some ⟨q, 0, none⟩)
  have HQ1 : Hid (∀ o n, Calls Try.prog 12 #[.pointer (some ⟨q, 0, none⟩)] ((w.alloc o).drewN n) fun e w'' => e = .returned (.bool true) ∧ ∃ m, w'' = (w.alloc o).drewN m) := Lib.hid fun o n => by have := Done_q (hP.frm0 ((Frm.refl [] w).alloc o)) hok n; rw [hR, h5] at this; exact this
  have HQ2 : Hid (∀ o n, Calls Try.prog 13 #[.pointer (some ⟨q, 0, none⟩)] ((w.alloc o).drewN n) fun e w'' => e = .returned (.int .u64 1) ∧ ∃ m, w'' = (w.alloc o).drewN m) := Lib.hid fun o n => by have := Result_q (hP.frm0 ((Frm.refl [] w).alloc o)) n; rw [hR, h1] at this; exact this
  have hp1 : PgAt w q b cq (Tp P.R) (tlOf P.R P.tr) P.L P.F P.buf P.k P.st P.was 1 := by have := hP; unfold At at this; rw [h1] at this; exact this
  have HWO : Hid (∀ w', Frm [] w w' → _) := Lib.hid fun w' hf => Words_1 (hp1.frm0 hf)
  have HVQ : Hid (∀ w', Frm [] w w' → ∀ n, Calls Try.prog 15 #[.pointer (some ⟨q, 0, none⟩)] (w'.drewN n) fun e w'' => e = .returned (.int .u64 P.was) ∧ ∃ m, w'' = w'.drewN m) := Lib.hid fun w' hf n => Version_q (hP.frm0 hf) h1 n
  have HLR := Lib.hid hLR
  have hrn : R.rn = P.buf.length := h.rn
  obtain ⟨W, V, F, la, ln, lc, many, tries, steps, first, ra, rn, rcap, res, ended⟩ := R
  simp only at he hr hf hrn HLR
  subst he hr hf hrn
  unfold RV.v
  simp only
  have hnu : ∀ x : Int, (P.was != P.was) = false := fun x => by simp
  have hnu := hnu 0
  obtain ⟨X, hX⟩ : ∃ X, X = w.alloc (.cells #[.bool W, .int .i64 V, .int .i64 F, .slice la ln lc, .int .i64 many, .int .i64 tries, .int .i64 steps, .int .u64 P.was, .slice ra P.buf.length rcap, .int .u64 1, .bool true] 48) := ⟨_, rfl⟩
  have hFX : Frm [] w X := by rw [hX]; exact (Frm.refl _ _).alloc _
  have hXb : X.heap[w.heap.size]? = some (.cells #[.bool W, .int .i64 V, .int .i64 F, .slice la ln lc, .int .i64 many, .int .i64 tries, .int .i64 steps, .int .u64 P.was, .slice ra P.buf.length rcap, .int .u64 1, .bool true] 48 (0, 0)) := by rw [hX]; exact heap_alloc_new _ _
  have HXB := Lib.hid hXb
  have HFX := Lib.hid hFX
  have HX := Lib.hid hX
  clear h hok hP hR h1 h5 hp1 hLR hX hFX hXb
  go_enter Try.func26, Try.ntmps26
  go_wp2_with fail
  go_quiet (first | (go_at_call 12; with_reducible exact HQ1.out _ _) | (go_at_call 13; with_reducible exact HQ2.out _ _))
  go_wp2_with fail
  rw [← HX.out]
  refine (HWO.out _ (HFX.out.drewN _)).mono ?_
  rintro e w1 ⟨g, cc, rfl, hF1, hS1⟩
  have hF1' : Frm [] X w1 := ((Frm.refl [] X).drewN _).trans hF1
  have hF2 : Frm [] w w1 := HFX.out.trans hF1'
  have hb1 := hF1'.heap HXB.out (by simp)
  have x8 : w1.cell? ⟨w.heap.size, 8, none⟩ = some (.slice ra P.buf.length rcap) := by rw [cell_of_heap hb1]; rfl
  have x7 : w1.cell? ⟨w.heap.size, 7, none⟩ = some (.int .u64 P.was) := by rw [cell_of_heap hb1]; rfl
  obtain ⟨g2, cc2, hv2, hg2, hcc, hwd⟩ := hS1
  cases hv2
  have hwd1 : Wd w1 g P.buf.length P.buf := hwd
  have HSQ : Hid (∀ n, _) := Lib.hid fun n => same_lq (hwd1.li rfl hcc) (HLR.out.frm0 hF2) (by omega) rfl n
  have HVQ1 := Lib.hid (HVQ.out w1 hF2)
  have HB1 := Lib.hid hb1
  have HF2 := Lib.hid hF2
  have HW1 := Lib.hid hwd1
  have hgX : w.heap.size < X.heap.size := lt_of_heap HXB.out
  have hgw : w.heap.size < g := by have : X.heap.size ≤ g := hg2; omega
  clear hF1 hF1' hF2 hb1 hwd hwd1 hg2
  go_wp2_with fail
  go_quiet (first | (go_at_call 25; with_reducible exact HSQ.out _) | (go_at_call 15; with_reducible exact HVQ1.out _))
  go_wp2_with fail
  have hW2 : Wd (w1.drewN nq) g P.buf.length (upk P.buf 0) := by rw [upk_zero]; exact HW1.out
  have hF3 : Frm [] w (w1.drewN nq) := HF2.out.drewN _
  have hb3 : (w1.drewN nq).heap[w.heap.size]? = _ := HB1.out
  generalize w1.drewN nq = W2 at hW2 hF3 hb3 ⊢
  have HW2 := Lib.hid hW2
  have HF3 := Lib.hid hF3
  have HB3 := Lib.hid hb3
  clear hW2 hF3 hb3 HW1 HF2 HB1 x7 x8 HSQ HVQ1
  go_loopw [58] (fun i wr => ∃ k : Nat, k ≤ P.buf.length ∧ i = .int .i64 k ∧ Hid (Frm [g] W2 wr) ∧ Hid (Wd wr g P.buf.length (upk P.buf k))) (fun i _ => P.buf.length - (intOf i).toNat)
  case atStart => exact ⟨0, Nat.zero_le _, rfl, Lib.hid (Frm.refl _ _), HW2⟩
  case round =>
    clear HW2
    obtain ⟨k, hk, rfl, HFR, HW⟩ := hrel
    by_cases hlt : k < P.buf.length
    · obtain ⟨x, hx⟩ : ∃ x, P.buf[k]? = some x := ⟨_, List.getElem?_eq_getElem hlt⟩
      obtain ⟨hc, hz⟩ := HW.out.cell (upk_get hx)
      have hs := HW.out.set k (IntKind.u64.wrap (x + 1))
      rw [upk_step hx] at hs
      have HS := Lib.hid hs
      have hcw : (upk P.buf k)[k]? = some x := upk_get hx
      clear hs hx hcw
      go_wp2
      go_roundw
      case rel => exact ⟨k + 1, by omega, by go_num, Lib.hid (HFR.out.setCell _ _ (.inl (by simp))), HS⟩
      case measure => simp [intOf]; omega
    · obtain rfl : k = P.buf.length := by omega
      have hFw : Frm [] w wr := HF3.out.trans_new HFR.out (by simp only [List.mem_cons, List.not_mem_nil, or_false]; rintro y rfl; right; omega)
      have hbw := HFR.out.heap HB3.out (by simp; omega)
      have k8 : ∀ w', Frm [] wr w' → w'.cell? ⟨w.heap.size, 8, none⟩ = some (.slice ra P.buf.length rcap) := fun w' hf => by rw [cell_of_heap (hf.heap hbw (by simp))]; rfl
      have HWW : Hid (∀ w', Frm [] wr w' → _) := Lib.hid fun w' hf => HWO.out w' (hFw.trans hf)
      have HLW : Hid (∀ w', Frm [] wr w' → _) := Lib.hid fun w' hf => HLR.out.frm0 (hFw.trans hf)
      have HFW := Lib.hid hFw
      clear hFw hbw HW HFR
      go_wp2_with fail
      go_region_held3 (fun w' => Frm [] wr w') (repeat' (first | assumption | exact Frm.refl _ _ | apply Frm.drew | apply Frm.drewN)) (first
        | (go_at_call 14; (with_reducible refine (HWW.out _ (by assumption)).mono ?_); rintro e w5 ⟨g5, c5, rfl, hF5, hS5⟩; have hF5w : Frm [] wr w5 := Frm.trans (by assumption) hF5)
        | (go_at_call 25; (with_reducible refine (sl_same hS5 (HLW.out _ (by assumption)) (by (repeat' (first | exact Frm.refl _ _ | apply Frm.drew | apply Frm.drewN))) hle).mono ?_); rintro e w6 ⟨m6, rfl, rfl⟩; have hF6w : Frm [] wr (w5.drewN m6) := Frm.drewN hF5w _))
      all_goals
        have HE := Lib.hid (HFW.out.trans hF6w)
        clear hF6w hF5w k8
        go_wp2
        go_ret
        exact ⟨rfl, HE.out⟩
end
#print axioms looks_r1
end Go.Proofs.Ytbhnijkphkkalaa
