/- Stage 12: known: the data of its runs. -/
import Derived.Test.YtieccmmnfnpcoaaTik
namespace Go.Proofs.Ytieccmmnfnpcoaa
open Go.ChangeShapes Go.WideShapes Go.ChangeAt Go.RowKit
set_option linter.unusedVariables false
def p1 : List Int := [0, 1, 2, 0, 1, 0, 1, 0, 1, 2]
def p2 : List Int := [0, 0, 0, 0, 1, 1, 1, 1, 2, 2]
def A1 : Md := (M0.Run p1).1
def r1 : List Dd := (M0.Run p1).2.1
def B1 : Md := (M0.Run p2).1
def r2 : List Dd := (M0.Run p2).2.1
theorem run1 : M0.Run p1 = (A1, r1, 0) := by
  have : (M0.Run p1).2.2 = 0 := by kernel_rfl
  show M0.Run p1 = ((M0.Run p1).1, (M0.Run p1).2.1, 0)
  rw [← this]
theorem run2 : M0.Run p2 = (B1, r2, 0) := by
  have : (M0.Run p2).2.2 = 0 := by kernel_rfl
  show M0.Run p2 = ((M0.Run p2).1, (M0.Run p2).2.1, 0)
  rw [← this]
theorem len1 : (r1.length : Int) = 10 := by kernel_rfl
theorem len2 : (r2.length : Int) = 10 := by kernel_rfl
theorem a_w0 : A1.ws[0]? = some 1 := by kernel_rfl
theorem a_w1 : A1.ws[1]? = some 0 := by kernel_rfl
theorem a_r0 : A1.result 0 = 1 := by kernel_rfl
theorem a_r1 : A1.result 1 = 1 := by kernel_rfl
theorem a_d2 : A1.done 2 = false := by kernel_rfl
theorem a_l2 : A1.looks 2 = 2 := by kernel_rfl
theorem m_w2 : M0.waits 2 = true := by kernel_rfl
theorem m_st : M0.stuck = false := by kernel_rfl
theorem b_w0 : B1.ws[0]? = some 2 := by kernel_rfl
theorem b_r1 : B1.result 1 = 2 := by kernel_rfl
theorem b_r2 : B1.result 2 = 9 := by kernel_rfl
theorem b_s2 : B1.steps 2 = 2 := by kernel_rfl
theorem b_l2 : B1.looks 2 = 0 := by kernel_rfl
def Pa : Rp := rp0 [awaitsL]
def tdx : Td := ⟨Pa, 0, 0⟩
def B2 : Md := ⟨B1.ws, B1.ts.set 0 { (B1.ts.getD 0 tdx) with P := Pa }⟩
def B3 : Md := ⟨B2.ws, B2.ts.set 1 { (B2.ts.getD 1 tdx) with P := Pa }⟩
def B4 : Md := ⟨B3.ws, B3.ts.set 2 { (B3.ts.getD 2 tdx) with P := Pa }⟩
theorem b_t0 : B1.ts[0]? = some (B1.ts.getD 0 tdx) := by kernel_rfl
theorem b_t1 : B2.ts[1]? = some (B2.ts.getD 1 tdx) := by kernel_rfl
theorem b_t2 : B3.ts[2]? = some (B3.ts.getD 2 tdx) := by kernel_rfl
theorem b_e0 : (B1.ts.getD 0 tdx).P.en = true := by kernel_rfl
theorem b_e1 : (B2.ts.getD 1 tdx).P.en = true := by kernel_rfl
theorem b_e2 : (B3.ts.getD 2 tdx).P.en = true := by kernel_rfl
theorem b4_w0 : B4.waits 0 = false := by kernel_rfl
theorem b4_st : B4.stuck = false := by kernel_rfl
theorem b4_s3 : B4.Step 3 = (B4, dd0, 2) := by kernel_rfl
theorem b4_r : B4.Run [0, 7] = (B4, [], 2) := by
  unfold Md.Run; rw [if_neg (by decide), if_pos (by kernel_rfl)]
theorem b4_t0 : B4.ts[0]? = some (B4.ts.getD 0 tdx) := by kernel_rfl
theorem b4_e0 : (B4.ts.getD 0 tdx).P.en = false := by kernel_rfl
def fewB (M : Md) (n : Nat) : Bool := M.ts.all (fun t => decide (t.st ≤ n) && decide (t.lk ≤ n))
theorem few_of {M : Md} {n : Nat} (h : fewB M n = true) : M.few n := fun i t ht => by
  have := List.all_eq_true.1 h t (List.mem_of_getElem? ht)
  simpa using this
theorem f_m0 : M0.few 100 := few_of (by kernel_rfl)
theorem f_b4 : B4.few 100 := few_of (by kernel_rfl)
/-- The chain alone. -/
def it : Nat → Rp × List Int
  | 0 => (rp0 [addsL, awaitsL], [1])
  | k + 1 => ((nxt (it k).1 (it k).2).P, (nxt (it k).1 (it k).2).ws)
theorem it_step (k : Nat) (hk : k < 6) : (it k).1.en = false ∧ (nxt (it k).1 (it k).2).wt = false ∧ (nxt (it k).1 (it k).2).e = 0 ∧ (it (k + 1)).1.en = decide (k = 5) := by
  rcases k with _ | _ | _ | _ | _ | _ | k
  · exact ⟨by kernel_rfl, by kernel_rfl, by kernel_rfl, by kernel_rfl⟩
  · exact ⟨by kernel_rfl, by kernel_rfl, by kernel_rfl, by kernel_rfl⟩
  · exact ⟨by kernel_rfl, by kernel_rfl, by kernel_rfl, by kernel_rfl⟩
  · exact ⟨by kernel_rfl, by kernel_rfl, by kernel_rfl, by kernel_rfl⟩
  · exact ⟨by kernel_rfl, by kernel_rfl, by kernel_rfl, by kernel_rfl⟩
  · exact ⟨by kernel_rfl, by kernel_rfl, by kernel_rfl, by kernel_rfl⟩
  · omega
theorem it_res : (it 6).1.res = 9 := by kernel_rfl
theorem li_blk {w : World} {g : Nat} {l : List Int} (h : w.heap[g]? = some (.cells (l.map (Value.int .i64)).toArray 3 (0, 0))) : Li .i64 w (some ⟨g, 0, none⟩) l.length l.length g 0 l :=
  ⟨rfl, fun _ => rfl, fun i x hx => by rw [Nat.zero_add, cell_of_heap h, List.getElem?_toArray, List.getElem?_map, hx]; rfl, Nat.le_refl _⟩
theorem PgAt.goes {w w' : World} {ch : Bool} {q : Nat} {B : List Nat} {P : Rp} {G : List Nat} (h : PgAt w ch q B P) (hg : Go G w w') (hd : ∀ x ∈ B, x ∉ G) : PgAt w' ch q B P := by
  obtain ⟨D, hf, hD⟩ := hg
  exact h.frm hf (fun y hy hy2 => hd y hy (hD y hy2).1) (fun y hy => (hD y hy).2)
theorem lsl_two {w : World} {g : Nat} {a1 a2 : Option Addr} {n1 c1 b1 o1 n2 c2 b2 o2 : Nat} {l m : List Ins} (hg : w.heap[g]? = some (.cells #[.slice a1 n1 c1, .slice a2 n2 c2] 71 (0, 0))) (h1 : InL w a1 n1 c1 b1 o1 l) (h2 : InL w a2 n2 c2 b2 o2 m) : LsL w (some ⟨g, 0, none⟩) 2 2 g 0 [l, m] :=
  ⟨rfl, fun _ => rfl, fun i l' hl => by
    rcases i with _ | _ | i
    · simp at hl; subst hl; exact ⟨a1, n1, c1, b1, o1, by rw [cell_of_heap hg]; rfl, h1⟩
    · simp at hl; subst hl; exact ⟨a2, n2, c2, b2, o2, by rw [cell_of_heap hg]; rfl, h2⟩
    · simp at hl, Nat.le_refl _⟩
/-- A run that is refused, or fails. -/
theorem runs_err {w : World} {F : List Nat} {q : Nat} {M M' : Md} {a : Option Addr} {n c b o : Nat} {l : List Int} (h : MAt w F q M) {m : Nat} (hfew : M.few m) (hL : Li .i64 w a n c b o l) (hn : n ≤ 2147483647) (hm : m < 900000000) (hbl : 0 < n → b < w.heap.size) {r : List Dd} {er : Int} (hr : M.Run l = (M', r, er)) (he : er ≠ 0) :
    Calls Try.prog 27 #[.pointer (some ⟨q, 0, none⟩), .slice a n c] w (Ret (.tuple #[.slice none 0 0, .int .i64 er]) (fun w' => Frm [] w w')) := by
  have H := mat_Run h hfew hL hn hm hbl
  rw [hr] at H
  refine H.mono fun e w' hh => ?_
  unfold RunR at hh
  rwa [if_neg he] at hh
end Go.Proofs.Ytieccmmnfnpcoaa
