/- The laws' helpers over a clock: Same, due, ticks. -/
import Derived.Test.YtamnhpcbflpabaaClkK
namespace Go.Proofs.Ytamnhpcbflpabaa
open Go.ChangeShapes Go.WideShapes Go.ChangeAt Go.RowKit

/-- Whether two alarms are equal. -/
def alEq (a b : Al) : Bool := a.1 == b.1 && a.2 == b.2
theorem alEq_iff {a b : Al} : alEq a b = true ↔ a = b := by obtain ⟨a1, a2⟩ := a; obtain ⟨b1, b2⟩ := b; simp [alEq]
theorem equal_alarm (a b : Al) (w : World) : (Op.equalIn 10000 47 (.agg #[.int .i64 a.1, .int .i64 a.2]) (.agg #[.int .i64 b.1, .int .i64 b.2])).run Try.prog w = .ok (alEq a b) w := by
  simp [go_sem, alEq]
  by_cases h1 : a.1 = b.1 <;> by_cases h2 : a.2 = b.2 <;> simp [h1, h2]
theorem neq_alarm (a b : Al) (w : World) : (binOp .neq 47 (.agg #[.int .i64 a.1, .int .i64 a.2]) (.agg #[.int .i64 b.1, .int .i64 b.2])).run Try.prog w = .ok (.bool (!alEq a b)) w := by
  rw [run_neq_struct, equal_alarm]; rfl
theorem eql_alarm (a b : Al) (w : World) : (binOp .eql 47 (.agg #[.int .i64 a.1, .int .i64 a.2]) (.agg #[.int .i64 b.1, .int .i64 b.2])).run Try.prog w = .ok (.bool (alEq a b)) w := by
  rw [run_eql_struct, equal_alarm]; rfl

/-- Whether two lists of alarms are equal. -/
def sameB (l1 l2 : List Al) : Bool := decide (l1 = l2)

theorem als_cells {w : World} {v : Value} {l : List Al} (hA : Als w v l) : ∃ b o c, (v = .slice (some ⟨b, o, none⟩) l.length c ∨ (l = [] ∧ v = .slice none 0 0)) ∧
    ∀ (i : Nat) (a : Al), l[i]? = some a → w.cell? ⟨b, o + i * 2, none⟩ = some (.int .i64 a.1) ∧ w.cell? ⟨b, o + i * 2 + 1, none⟩ = some (.int .i64 a.2) := by
  rcases hA with ⟨rfl, rfl⟩ | ⟨d, o, c, rfl, _, _, _, hr⟩
  · exact ⟨0, 0, 0, .inr ⟨rfl, rfl⟩, fun i a h => by simp at h⟩
  · exact ⟨d, o, c, .inl rfl, fun i a h => Als.cell0 hr h⟩

theorem take_next {l1 l2 : List Al} {k : Nat} {x y : Al} (h1 : l1[k]? = some x) (h2 : l2[k]? = some y) (he : l1.take k = l2.take k) (hxy : x = y) : l1.take (k + 1) = l2.take (k + 1) := by
  obtain ⟨a1, rfl⟩ := List.getElem?_eq_some_iff.1 h1
  obtain ⟨a2, rfl⟩ := List.getElem?_eq_some_iff.1 h2
  rw [List.take_succ_eq_append_getElem a1, List.take_succ_eq_append_getElem a2, he, hxy]

set_option maxHeartbeats 2000000 in
theorem same_some {w : World} {b1 o1 c1 b2 o2 c2 : Nat} {l1 l2 : List Al} (hl1 : l1.length ≤ 5000) (hlen : l1.length = l2.length)
    (hr1 : ∀ (i : Nat) (a : Al), l1[i]? = some a → w.cell? ⟨b1, o1 + i * 2, none⟩ = some (.int .i64 a.1) ∧ w.cell? ⟨b1, o1 + i * 2 + 1, none⟩ = some (.int .i64 a.2))
    (hr2 : ∀ (i : Nat) (a : Al), l2[i]? = some a → w.cell? ⟨b2, o2 + i * 2, none⟩ = some (.int .i64 a.1) ∧ w.cell? ⟨b2, o2 + i * 2 + 1, none⟩ = some (.int .i64 a.2)) :
    Calls Try.prog 25 #[.slice (some ⟨b1, o1, none⟩) l1.length c1, .slice (some ⟨b2, o2, none⟩) l2.length c2] w (fun e w' => ∃ n, Ret (.bool (sameB l1 l2)) (fun w' => w' = w.drewN n) e w') := by
  have hne := neq_alarm
  obtain ⟨n, hn⟩ : ∃ n, n = l1.length := ⟨_, rfl⟩
  have hn2 : n = l2.length := by omega
  rw [← hn, ← hn2]
  have hn5 : n ≤ 5000 := by omega
  have HN := Lib.hid hn
  have HN2 := Lib.hid hn2
  have HR1 := Lib.hid hr1
  have HR2 := Lib.hid hr2
  clear hn hn2 hr1 hr2 hl1 hlen
  have hnb : ((n : Int) != (n : Int)) = false := by simp
  go_enter Try.func25, Try.ntmps25
  go_wp2_with fail
  go_loopw [5] (fun i w' => ∃ k : Nat, k ≤ n ∧ l1.take k = l2.take k ∧ i = .int .i64 k ∧ ∃ m, w' = w.drewN m) (fun i _ => n - (intOf i).toNat)
  case atStart => exact ⟨0, by omega, by simp, rfl, 0, rfl⟩
  case round =>
    obtain ⟨k, hk, htk, rfl, m, rfl⟩ := hrel
    have HT := Lib.hid htk
    clear htk
    by_cases hlt : k < n
    · have hb0 : (0 : Int) ≤ (k : Int) := by omega
      have hb1 : (k : Int) < (n : Int) := by omega
      have hx : l1[k]? = some (l1[k]'(by have := HN.out; omega)) := List.getElem?_eq_getElem _
      generalize (l1[k]'(by have := HN.out; omega)) = x at hx
      have hy : l2[k]? = some (l2[k]'(by have := HN2.out; omega)) := List.getElem?_eq_getElem _
      generalize (l2[k]'(by have := HN2.out; omega)) = y at hy
      obtain ⟨g1, g2⟩ := HR1.out _ _ hx
      obtain ⟨g3, g4⟩ := HR2.out _ _ hy
      have HX := Lib.hid hx
      have HY := Lib.hid hy
      clear hx hy
      by_cases he : alEq x y = true
      · have hxy := alEq_iff.1 he
        have hnx := HT.out
        have htn := take_next HX.out HY.out hnx hxy
        have he2 : (!alEq x y) = false := by rw [he]; rfl
        have HTN := Lib.hid htn
        clear he hxy hnx htn
        go_wp2_with fail
        go_quiet (fail)
        go_wp2
        go_roundw
        case rel => exact ⟨k + 1, by omega, HTN.out, by go_num, _, rfl⟩
        case measure => simp [intOf]; omega
      · have he2 : (!alEq x y) = true := by simpa using he
        have hns : sameB l1 l2 = false := by
          unfold sameB
          rw [decide_eq_false]
          intro h12
          have e1 := HX.out
          rw [h12, HY.out] at e1
          exact he (alEq_iff.2 (Option.some.inj e1.symm))
        have HNS := Lib.hid hns
        clear he hns
        go_wp2_with fail
        go_quiet (fail)
        go_wp2
        go_ret
        refine ⟨_, ?_, World.drewN_drewN _ _ _⟩
        rw [HNS.out]; rfl
    · obtain rfl : k = n := by omega
      have hs : sameB l1 l2 = true := by
        have := HT.out
        rw [List.take_of_length_le (by have := HN.out; omega), List.take_of_length_le (by have := HN2.out; omega)] at this
        unfold sameB; simp [this]
      have HS := Lib.hid hs
      clear hs
      go_wp2
      go_ret
      exact ⟨m, by rw [HS.out]; rfl, rfl⟩

set_option maxHeartbeats 1000000 in
theorem same_len {w : World} {a1 a2 : Option Addr} {n1 n2 c1 c2 : Nat} (hn : n1 ≠ n2) : Calls Try.prog 25 #[.slice a1 n1 c1, .slice a2 n2 c2] w (Ret (.bool false) (fun w' => w = w')) := by
  have hb : ((n1 : Int) != (n2 : Int)) = true := by simp; omega
  go_enter Try.func25, Try.ntmps25
  go_wp2
  go_ret
  exact ⟨rfl, rfl⟩
set_option maxHeartbeats 1000000 in
theorem same_nil {w : World} {a1 a2 : Option Addr} {c1 c2 : Nat} : Calls Try.prog 25 #[.slice a1 0 c1, .slice a2 0 c2] w (Ret (.bool true) (fun w' => w = w')) := by
  go_enter Try.func25, Try.ntmps25
  go_wp2_with fail
  go_loop [5] (fun i => i = .int .i64 0) (fun _ => 0)
  case atStart => exact rfl
  case round =>
    subst hrel
    go_wp2
    go_ret
    exact ⟨rfl, rfl⟩
theorem als_slice {w : World} {v : Value} {l : List Al} (hA : Als w v l) : ∃ a c, v = .slice a l.length c := by
  rcases hA with ⟨rfl, rfl⟩ | ⟨d, o, c, rfl, _⟩
  · exact ⟨none, 0, rfl⟩
  · exact ⟨_, c, rfl⟩
theorem same_any {w : World} {v1 v2 : Value} {l1 l2 : List Al} (h1 : Als w v1 l1) (h2 : Als w v2 l2) (hl1 : l1.length ≤ 5000) :
    Calls Try.prog 25 #[v1, v2] w (Ret (.bool (sameB l1 l2)) (fun w' => Frm [] w w')) := by
  obtain ⟨a1, c1, e1⟩ := als_slice h1
  obtain ⟨a2, c2, e2⟩ := als_slice h2
  by_cases hlen : l1.length = l2.length
  · by_cases h0 : l1.length = 0
    · have e3 : l1 = [] := List.eq_nil_of_length_eq_zero h0
      have e4 : l2 = [] := List.eq_nil_of_length_eq_zero (by omega)
      subst e3 e4 e1 e2
      exact same_nil.mono fun _ _ hh => ⟨hh.1, hh.2 ▸ Frm.refl _ _⟩
    · rcases h1 with ⟨rfl, rfl⟩ | ⟨d, o, c, rfl, _, _, _, hr⟩
      · simp at h0
      · rcases h2 with ⟨rfl, rfl⟩ | ⟨d', o', c', rfl, _, _, _, hr'⟩
        · exact absurd hlen (by simpa using h0)
        · exact (same_some hl1 hlen (fun i a hi => Als.cell0 hr hi) (fun i a hi => Als.cell0 hr' hi)).mono fun _ _ ⟨n, he, hw⟩ => ⟨he, by rw [hw]; exact (Frm.refl _ _).drewN n⟩
  · have e3 : sameB l1 l2 = false := by
      unfold sameB; rw [decide_eq_false]; intro hh; rw [hh] at hlen; exact hlen rfl
    subst e1 e2
    rw [e3]
    exact (same_len hlen).mono fun _ _ hh => ⟨hh.1, hh.2 ▸ Frm.refl _ _⟩

set_option maxHeartbeats 1000000 in
theorem due_law (w : World) (now n want no : Int) (hd : dRes now n = want) (he : dErr now n = no) : Calls Try.prog 10 #[.int .i64 now, .int .i64 n, .int .i64 want, .int .i64 no] w (Ret (.bool true) (fun w' => w = w')) := by
  have HD := Lib.hid hd
  have HE := Lib.hid he
  clear hd he
  have hb1 : (want == want) = true := by simp
  have hb2 : (no == no) = true := by simp
  go_enter Try.func10, Try.ntmps10
  go_wp2_with (go_at_call 24; refine (due_any _ _ _).mono ?_; rintro e w' ⟨rfl, rfl⟩; rw [HD.out, HE.out])
  go_ret
  exact ⟨rfl, rfl⟩

/-- What is given to callers lies in a block of its own. -/
theorem als_given {w : World} {g n : Nat} {l : List Al} (hn : n = l.length) (hG : w.heap[g]? = some (.cells (flat l).toArray 47 (0, 0))) (hl : l.length ≤ 5000) : Als w (.slice (some ⟨g, 0, none⟩) n n) l := by
  subst hn
  refine .inr ⟨g, 0, l.length, rfl, Nat.le_refl _, by omega, lt_of_heap hG, fun j u hj => ?_⟩
  rw [cell_of_heap hG, Nat.zero_add, List.getElem?_toArray]; exact hj

set_option maxHeartbeats 1000000 in
theorem ticks_err {w : World} {a : Value} {n no : Int} {wv : Value} {want : List Al} (hA : Als w wv want) (hw : want = [])
    (hT : Calls Try.prog 16 #[a, .int .i64 n] w (Ret (.tuple #[.slice none 0 0, .int .i64 no]) (fun w' => w = w'))) :
    Calls Try.prog 23 #[a, .int .i64 n, .int .i64 no, wv] w (Ret (.bool true) (fun w' => Frm [] w w')) := by
  have hs : sameB [] want = true := by subst hw; rfl
  have HS := Lib.hid hs
  have HT := Lib.hid hT
  have hb2 : (no == no) = true := by simp
  clear hs hT hw
  go_enter Try.func23, Try.ntmps23
  go_wp2_with fail
  refine HT.out.mono ?_
  rintro e w' ⟨rfl, rfl⟩
  go_wp2_with fail
  refine (same_any (l1 := []) (.inl ⟨rfl, rfl⟩) hA (by simp)).mono ?_
  rintro e w1 ⟨rfl, hF1⟩
  rw [HS.out]
  go_wp2
  go_ret
  exact ⟨rfl, hF1⟩
set_option maxHeartbeats 1000000 in
theorem ticks_ok {w : World} {p : Nat} {now n : Int} {v wv : Value} {l want : List Al} (hK : ClockAt w p now v l) (hs : Sorted l) (hl : l.length ≤ 4096) (ht : tk now = true) (hn : 0 ≤ n) (hA : Als w wv want)
    (hw : l.take (cutAt (dl now n) l) = want) (hpw : p ∉ blk wv) :
    Calls Try.prog 23 #[.pointer (some ⟨p, 0, none⟩), .int .i64 n, .int .i64 0, wv] w (fun e w' => ∃ v2, Ret (.bool true) (fun w' => Frm [p] w w' ∧ ClockAt w' p (dl now n) v2 (l.drop (cutAt (dl now n) l)) ∧ blk v2 = blk v) e w') := by
  have hT := tick_ok hK hs hl ht n hn
  have hwl : want.length ≤ 4096 := by rw [← hw, List.length_take]; omega
  rw [hw] at hT
  generalize l.drop (cutAt (dl now n) l) = l2 at hT ⊢
  have HT := Lib.hid hT
  have hsb : sameB want want = true := by unfold sameB; simp
  have HS := Lib.hid hsb
  clear hT hw hsb
  go_enter Try.func23, Try.ntmps23
  go_wp2_with fail
  refine HT.out.mono ?_
  rintro e w1 ⟨g, v2, rfl, hF1, hK1, hG1, hg1, hb1⟩
  have hA1 := als_given rfl hG1 (by omega)
  have hA2 := hA.frm hF1 (by intro x hx hxp; rw [List.mem_singleton.1 hxp] at hx; exact hpw hx)
  clear hG1
  go_wp2_with fail
  refine (same_any hA1 hA2 (by omega)).mono ?_
  rintro e w2 ⟨rfl, hF2⟩
  rw [HS.out]
  go_wp2
  go_ret
  exact ⟨v2, rfl, hF1.trans (hF2.weak (by simp)), hK1.frm0 hF2, hb1⟩
end Go.Proofs.Ytamnhpcbflpabaa
