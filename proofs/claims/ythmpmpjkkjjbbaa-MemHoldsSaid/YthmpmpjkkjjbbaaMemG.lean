/- Layer 1: the law's helpers compares, does, words, made. -/
import Derived.Test.YthmpmpjkkjjbbaaMemF
namespace Go.Proofs.Ythmpmpjkkjjbbaa
open Go.ChangeShapes Go.WideShapes Go.ChangeAt Go.RowKit

def Acc.v (a : Acc) : Value := .agg #[.int .i64 a.k, .int .i64 a.w, .int .u64 a.b, .int .u64 a.a]

theorem compares_mem {w : World} {p d c : Nat} {ws : List Int} (hM : MemAt w p d c ws) (x o v e : Int) (b : Bool) :
    Calls Try.prog 30 #[.iface 26 (.pointer (some ⟨p, 0, none⟩)), .int .i64 x, .int .u64 o, .int .u64 v, .bool b, .int .i64 e] w (Ret (.bool (((mErr ws.length 3 x == 0 && (mRes ws ⟨3, x, o, v⟩).b == o) == b) && mErr ws.length 3 x == e)) (fun w' => Frm [d] w w' ∧ MemAt w' p d c (mWs ws ⟨3, x, o, v⟩))) := by
  have hm : ∀ w : World, (method 207 26 (.pointer (some ⟨p, 0, none⟩)) "CAS").run Try.prog w = .ok (54, .pointer (some ⟨p, 0, none⟩)) w := fun _ => by kernel_rfl
  go_enter Try.func30, Try.ntmps30
  go_wp2_with fail
  refine (CAS_mem hM _ _ _).mono ?_
  rintro e1 w1 ⟨rfl, hF, hM1⟩
  by_cases hv : ((mErr ws.length 3 x == 0 && (mRes ws ⟨3, x, o, v⟩).b == o) == b) = true
  · have HV := Lib.hid hv
    generalize (mErr ws.length 3 x == 0 && (mRes ws ⟨3, x, o, v⟩).b == o) = bb at hv ⊢
    obtain rfl : bb = b := by simpa using hv
    have hv2 : (bb == bb) = true := by simp
    go_wp2
    all_goals go_ret
    all_goals exact ⟨by rw [HV.out]; simp, hF, hM1⟩
  · have hv1 : ((mErr ws.length 3 x == 0 && (mRes ws ⟨3, x, o, v⟩).b == o) == b) = false := by simpa using hv
    have HV := Lib.hid hv1
    go_wp2
    all_goals go_ret
    all_goals exact ⟨by rw [HV.out]; simp, hF, hM1⟩

theorem compares_once {w : World} {q p d c : Nat} {a : Acc} {ws : List Int} (ho : OnceAt w q p a) (hM : MemAt w p d c ws) (hqp : q ≠ p) (hqd : q ≠ d) (x o v e : Int) (b : Bool) :
    Calls Try.prog 30 #[.iface 50 (.pointer (some ⟨q, 0, none⟩)), .int .i64 x, .int .u64 o, .int .u64 v, .bool b, .int .i64 e] w (Ret (.bool (((oErr a ws.length 3 x == 0 && (oRes a ws ⟨3, x, o, v⟩).b == o) == b) && oErr a ws.length 3 x == e)) (fun w' => Frm [d, q] w w' ∧ MemAt w' p d c (oWs a ws ⟨3, x, o, v⟩) ∧ OnceAt w' q p (oAcc a ws ⟨3, x, o, v⟩))) := by
  have hm : ∀ w : World, (method 207 50 (.pointer (some ⟨q, 0, none⟩)) "CAS").run Try.prog w = .ok (58, .pointer (some ⟨q, 0, none⟩)) w := fun _ => by kernel_rfl
  go_enter Try.func30, Try.ntmps30
  go_wp2_with fail
  refine (CAS_once ho hM hqp hqd _ _ _).mono ?_
  rintro e1 w1 ⟨rfl, hF, hM1, hO1⟩
  by_cases hv : ((oErr a ws.length 3 x == 0 && (oRes a ws ⟨3, x, o, v⟩).b == o) == b) = true
  · have HV := Lib.hid hv
    generalize (oErr a ws.length 3 x == 0 && (oRes a ws ⟨3, x, o, v⟩).b == o) = bb at hv ⊢
    obtain rfl : bb = b := by simpa using hv
    have hv2 : (bb == bb) = true := by simp
    go_wp2
    all_goals go_ret
    all_goals exact ⟨by rw [HV.out]; simp, hF, hM1, hO1⟩
  · have hv1 : ((oErr a ws.length 3 x == 0 && (oRes a ws ⟨3, x, o, v⟩).b == o) == b) = false := by simpa using hv
    have HV := Lib.hid hv1
    go_wp2
    all_goals go_ret
    all_goals exact ⟨by rw [HV.out]; simp, hF, hM1, hO1⟩


def accEq (a b : Acc) : Bool := a.k == b.k && a.w == b.w && a.b == b.b && a.a == b.a
theorem accEq_iff (a b : Acc) : accEq a b = true ↔ a = b := by
  cases a; cases b; simp [accEq, and_assoc]

theorem equal_access (a b : Acc) (w : World) :
    (Op.equalIn 10000 30 (.agg #[.int .i64 a.k, .int .i64 a.w, .int .u64 a.b, .int .u64 a.a]) (.agg #[.int .i64 b.k, .int .i64 b.w, .int .u64 b.b, .int .u64 b.a])).run Try.prog w = .ok (accEq a b) w := by
  simp [go_sem, accEq]
  by_cases h1 : a.k = b.k <;> by_cases h2 : a.w = b.w <;> by_cases h3 : a.b = b.b <;> by_cases h4 : a.a = b.a <;> simp [h1, h2, h3, h4]
theorem eql_access (a b : Acc) (w : World) :
    (binOp .eql 30 (.agg #[.int .i64 a.k, .int .i64 a.w, .int .u64 a.b, .int .u64 a.a]) (.agg #[.int .i64 b.k, .int .i64 b.w, .int .u64 b.b, .int .u64 b.a])).run Try.prog w = .ok (.bool (accEq a b)) w := by
  rw [run_eql_struct, equal_access]; rfl
theorem neq_access (a b : Acc) (w : World) :
    (binOp .neq 30 (.agg #[.int .i64 a.k, .int .i64 a.w, .int .u64 a.b, .int .u64 a.a]) (.agg #[.int .i64 b.k, .int .i64 b.w, .int .u64 b.b, .int .u64 b.a])).run Try.prog w = .ok (.bool (!accEq a b)) w := by
  rw [run_neq_struct, equal_access]; rfl

theorem does_mem {w : World} {p d c : Nat} {ws : List Int} (hM : MemAt w p d c ws) (a b : Acc) (e : Int) :
    Calls Try.prog 13 #[.pointer (some ⟨p, 0, none⟩), .agg #[.int .i64 a.k, .int .i64 a.w, .int .u64 a.b, .int .u64 a.a], .agg #[.int .i64 b.k, .int .i64 b.w, .int .u64 b.b, .int .u64 b.a], .int .i64 e] w
    (Ret (.bool (accEq (mRes ws a) b && mErr ws.length a.k a.w == e)) (fun w' => Frm [d] w w' ∧ MemAt w' p d c (mWs ws a))) := by
  have hp := hM.plt
  have hd := hM.dlt
  have heq := equal_access (mRes ws a) b
  go_enter Try.func13, Try.ntmps13
  go_wp2_with fail
  refine (do_mem ((hM.alloc _).alloc _) _ _ _ _).mono ?_
  rintro e1 w1 ⟨rfl, hF1, hM1⟩
  have hB1 : w1.heap[w.heap.size + 1]? = _ := hF1.heap (heap_alloc_at _ (by simp)) (by simp; omega)
  obtain ⟨b0, b1, b2, b3⟩ := cells4 hB1
  have hlt : w.heap.size + 1 < w1.heap.size := lt_of_heap hB1
  have hF : Frm [d] w w1 := (((Frm.refl _ w).alloc _).alloc _).trans hF1
  clear hF1 hB1
  change MemAt w1 p d c (mWs ws a) at hM1
  by_cases hv : accEq (mRes ws a) b = true
  · have HV := Lib.hid hv
    go_wp2
    all_goals go_ret
    all_goals exact ⟨by rw [HV.out]; simp, hF.alloc _, hM1.alloc _⟩
  · have hv1 : accEq (mRes ws a) b = false := by simpa using hv
    have HV := Lib.hid hv1
    go_wp2
    all_goals go_ret
    all_goals exact ⟨by rw [HV.out]; simp, hF.alloc _, hM1.alloc _⟩


theorem words_k {w : World} {p d c : Nat} {ws ys : List Int} {v : Value} (hM : MemAt w p d c ws) (fr tt : Nat) (h1 : fr ≤ tt) (h2 : tt ≤ ws.length) (hv : Rd w v (u64s ys)) (hy : ys.length ≤ 2147483647) (e : Int) :
    Calls Try.prog 16 #[.pointer (some ⟨p, 0, none⟩), .int .i64 fr, .int .i64 tt, v, .int .i64 e] w
    (Ret (.bool (decide ((ws.drop fr).take (tt - fr) = ys) && 0 == e)) (fun w' => Frm [] w w')) := by
  have hle := hM.le
  go_enter Try.func16, Try.ntmps16
  go_wp2_with fail
  refine (words_ok hM fr tt h1 h2).mono ?_
  rintro e1 w1 ⟨v1, rfl, hF1, hO1⟩
  go_wp2_with fail
  refine (same_any hO1.rd (hv.frm hF1 (by simp)) (by simp; omega) hy).mono ?_
  rintro e1 w2 ⟨m, rfl, rfl⟩
  by_cases he : (ws.drop fr).take (tt - fr) = ys
  · have he1 : decide ((ws.drop fr).take (tt - fr) = ys) = true := by simpa using he
    have HE := Lib.hid he1
    generalize (ws.drop fr).take (tt - fr) = zs at he he1
    clear he
    go_wp2
    all_goals go_ret
    all_goals exact ⟨by rw [HE.out]; simp, hF1.drewN _⟩
  · have he1 : decide ((ws.drop fr).take (tt - fr) = ys) = false := by simpa using he
    have HE := Lib.hid he1
    clear he
    go_wp2
    all_goals go_ret
    all_goals exact ⟨by rw [HE.out]; simp, hF1.drewN _⟩

theorem words_e {w : World} {p d c : Nat} {ws ys : List Int} {v : Value} (hM : MemAt w p d c ws) (fr tt : Int) (hh : fr < 0 ∨ tt < fr ∨ ws.length < tt) (hv : Rd w v (u64s ys)) (hy : ys.length ≤ 2147483647) (e : Int) :
    Calls Try.prog 16 #[.pointer (some ⟨p, 0, none⟩), .int .i64 fr, .int .i64 tt, v, .int .i64 e] w
    (Ret (.bool (decide (([] : List Int) = ys) && 3 == e)) (fun w' => Frm [] w w')) := by
  go_enter Try.func16, Try.ntmps16
  go_wp2_with fail
  refine (words_bad hM fr tt hh).mono ?_
  rintro e1 w1 ⟨rfl, rfl⟩
  go_wp2_with fail
  refine (same_any (xs := []) (.inl ⟨rfl, rfl⟩) hv (by simp) hy).mono ?_
  rintro e1 w2 ⟨m, rfl, rfl⟩
  cases ys with
  | nil =>
    go_wp2
    all_goals go_ret
    all_goals exact ⟨by simp, (Frm.refl _ _).drewN _⟩
  | cons y ys =>
    go_wp2
    all_goals go_ret
    all_goals exact ⟨by simp, (Frm.refl _ _).drewN _⟩

theorem Store_ok {w : World} {p d c : Nat} {ws : List Int} (hM : MemAt w p d c ws) (x : Nat) (v : Int) (hx : x < ws.length) :
    Calls Try.prog 31 #[.pointer (some ⟨p, 0, none⟩), .int .i64 x, .int .u64 v] w (Ret (.int .i64 0) (fun w' => Frm [d] w w' ∧ MemAt w' p d c (ws.set x v))) := by
  have h0 : mErr ws.length 2 x = 0 := by unfold mErr; rw [if_neg (by omega), if_neg (by omega)]
  have h1 : mWs ws ⟨2, x, 0, v⟩ = ws.set x v := by unfold mWs; simp only []; rw [if_pos h0]; simp [aft]
  refine (Store_mem hM x v).mono fun e w' hh => ?_
  rw [h0, h1] at hh
  exact hh

/-- What 'made' has after k words. -/
def part (xs : List Int) (k : Nat) : List Int := xs.take k ++ List.replicate (xs.length - k) 0
theorem part_zero (xs : List Int) : part xs 0 = List.replicate xs.length 0 := by simp [part]
theorem part_all (xs : List Int) : part xs xs.length = xs := by simp [part]
theorem part_len (xs : List Int) (k : Nat) (h : k ≤ xs.length) : (part xs k).length = xs.length := by simp [part]; omega
theorem part_succ (xs : List Int) (k : Nat) (x : Int) (h : xs[k]? = some x) : part xs (k + 1) = (part xs k).set k x := by
  have hk : k < xs.length := (List.getElem?_eq_some_iff.1 h).1
  apply List.ext_getElem?
  intro j
  rw [List.getElem?_set]
  unfold part
  by_cases hj : k = j
  · subst hj
    rw [if_pos rfl, if_pos (by simp; omega), List.getElem?_append_left (by simp; omega), List.getElem?_take, if_pos (by omega), h]
  · rw [if_neg hj]
    by_cases hlt : j < k
    · rw [List.getElem?_append_left (by simp; omega), List.getElem?_append_left (by simp; omega), List.getElem?_take, List.getElem?_take, if_pos (by omega), if_pos hlt]
    · rw [List.getElem?_append_right (by simp; omega), List.getElem?_append_right (by simp; omega), List.getElem?_replicate, List.getElem?_replicate]
      simp only [List.length_take]
      have e1 : min (k + 1) xs.length = k + 1 := by omega
      have e2 : min k xs.length = k := by omega
      rw [e1, e2]
      by_cases hl : j < xs.length
      · rw [if_pos (by omega), if_pos (by omega)]
      · rw [if_neg (by omega), if_neg (by omega)]
theorem part_succ_zero (xs : List Int) (k : Nat) (h : xs[k]? = some 0) : part xs (k + 1) = part xs k := by
  rw [part_succ xs k 0 h]
  have hk : k < xs.length := (List.getElem?_eq_some_iff.1 h).1
  apply List.ext_getElem?
  intro j
  rw [List.getElem?_set]
  split
  · rename_i e
    subst e
    rw [if_pos (by rw [part_len _ _ (by omega)]; exact hk)]
    unfold part
    rw [List.getElem?_append_right (by simp; omega), List.getElem?_replicate, if_pos (by simp; omega)]
  · rfl

theorem made_any {w : World} {xs : List Int} {v : Value} (hv : Rd w v (u64s xs)) (h1 : 1 ≤ xs.length) (h2 : xs.length ≤ 65536) :
    Calls Try.prog 10 #[v] w (fun e w' => ∃ p d c, Ret (.pointer (some ⟨p, 0, none⟩)) (fun w' => Frm [] w w' ∧ MemAt w' p d c xs ∧ w.heap.size ≤ p ∧ w.heap.size ≤ d) e w') := by
  rcases hv with ⟨_, hl⟩ | ⟨b, o, cc, rfl, hl, hb, hr⟩
  · have : xs = [] := by simpa [u64s] using hl
    subst this; simp at h1
  have hlen : (u64s xs).length = xs.length := by simp [u64s]
  rw [hlen]
  have R1 := Lib.hid hr
  clear hr hl hlen
  go_enter Try.func10, Try.ntmps10
  go_wp2_with fail
  refine (new_ok w xs.length h1 h2).mono ?_
  rintro e w1 ⟨p, d, rfl, hF1, hM1, hp, hd⟩
  rw [← part_zero] at hM1
  go_wp2_with fail
  go_loopw [2, 5, 6, 21, 22, 23, 24, 25, 26, 27, 28, 29, 30, 31, 32, 33, 34, 35] (fun r _ _ i _ _ _ _ _ _ _ _ _ _ _ _ _ _ wr => ∃ k : Nat, r = .pointer none ∧ k ≤ xs.length ∧ i = .int .i64 k ∧ Frm [] w wr ∧ MemAt wr p d xs.length (part xs k)) (fun _ _ _ i _ _ _ _ _ _ _ _ _ _ _ _ _ _ _ => xs.length - (intOf i).toNat)
  case atStart => exact ⟨0, rfl, Nat.zero_le _, rfl, hF1, hM1⟩
  case round =>
    obtain ⟨k, rfl, hk, rfl, hF, hM⟩ := hrel
    by_cases hlt : k < xs.length
    · obtain ⟨x, hx⟩ : ∃ x, xs[k]? = some x := ⟨_, List.getElem?_eq_getElem hlt⟩
      have hcx : _ = some (Value.int .u64 x) := (hF.cell (i := o + k) hb (by simp)).trans (R1.out k _ (by rw [u64s, List.getElem?_map, hx]; rfl))
      have HX := Lib.hid hx
      clear hx
      have hbw := Nat.lt_of_lt_of_le hb hF.size
      by_cases hz : x = 0
      · have hz1 : (x != 0) = false := by simp [hz]
        have HZ := Lib.hid hz
        clear hz
        go_wp2
        go_roundw
        case rel => exact ⟨k + 1, rfl, by omega, by go_num, hF, by rw [part_succ_zero xs k (by rw [HX.out, HZ.out])]; exact hM⟩
        case measure => simp [intOf]; omega
      · have hz1 : (x != 0) = true := by simp [hz]
        clear hz
        go_wp2_with fail
        refine (Store_ok hM k x (by rw [part_len _ _ hk]; exact hlt)).mono ?_
        rintro e w2 ⟨rfl, hF2, hM2⟩
        have hFF : Frm [] w w2 := hF.trans_new hF2 (by simp; omega)
        rw [← part_succ xs k x HX.out] at hM2
        clear hF2
        go_wp2
        go_roundw
        case rel => exact ⟨k + 1, rfl, by omega, by go_num, hFF, hM2⟩
        case measure => simp [intOf]; omega
    · obtain rfl : k = xs.length := by omega
      go_wp2
      go_ret
      rw [part_all] at hM
      exact ⟨p, d, _, rfl, hF, hM, hp, hd⟩

end Go.Proofs.Ythmpmpjkkjjbbaa
