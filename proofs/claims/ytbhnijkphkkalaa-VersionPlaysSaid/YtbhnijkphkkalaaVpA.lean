/- The reference's program as data; its access. -/
import Derived.Test.YtbhnijkphkkalaaVeQ
import Derived.Test.YtbhnijkphkkalaaVpB
namespace Go.Proofs.Ytbhnijkphkkalaa
open Go.ChangeShapes Go.WideShapes Go.ChangeAt Go.RowKit
set_option linter.unusedVariables false

/-- The reference's program: what it writes, its version, its words from one on, what is written (where it lies, and what), how many, the tries, the steps, the version at first, what was read, the result, whether it has ended. -/
structure RV where
  W : Bool
  V : Int
  F : Int
  la : Option Addr
  ln : Nat
  lc : Nat
  many : Int
  tries : Int
  steps : Int
  first : Int
  ra : Option Addr
  rn : Nat
  rcap : Nat
  res : Int
  ended : Bool
def RV.cells (R : RV) : List Value := [.bool R.W, .int .i64 R.V, .int .i64 R.F, .slice R.la R.ln R.lc, .int .i64 R.many, .int .i64 R.tries, .int .i64 R.steps, .int .u64 R.first, .slice R.ra R.rn R.rcap, .int .u64 R.res, .bool R.ended]
/-- A program and the reference's go together; rl is what the reference has read. -/
structure Re (P : Pg) (R : RV) (rl : List Int) : Prop where
  w : R.W = !P.R
  v : R.V = P.L
  f : R.F = P.F
  ln : P.R = false → R.ln = P.buf.length
  many : P.R = true → R.many = P.buf.length
  tries : P.R = true → R.tries = P.tr
  first : R.first = P.was
  res : R.res = P.res
  ended : R.ended = decide (P.st = 5)
  rn : R.rn = rl.length
  wsteps : P.R = false → P.st ≠ 5 → (P.st = 1 ∧ R.steps = 0) ∨ (P.st = 2 ∧ R.steps = 1) ∨ ((P.st = 3 ∨ P.st = 4 ∧ P.k = P.buf.length) ∧ R.steps = 2 + P.k)
  rsteps : P.R = true → P.st ≠ 5 → (P.st = 1 ∧ P.k = 0 ∧ R.steps = 0 ∧ rl = []) ∨ ((P.st = 3 ∨ P.st = 4 ∧ P.k = P.buf.length) ∧ R.steps = 1 + P.k ∧ rl = P.buf.take P.k)
  read : P.R = true → P.st = 5 → P.res = 1 → rl = P.buf
/-- The kind of an access, and what it stores. -/
def akind (P : Pg) : Int := if P.R = true ∨ P.st = 1 then 1 else 2
def aaft (P : Pg) : Int := if P.R = true ∨ P.st = 1 then 0 else val P.buf P.k P.st P.was

section
variable {w : World} {R : RV}
set_option maxRecDepth 100000 in
theorem acc_0 (h : R.steps = 0) : Calls Try.prog 40 #[.agg #[.bool R.W, .int .i64 R.V, .int .i64 R.F, .slice R.la R.ln R.lc, .int .i64 R.many, .int .i64 R.tries, .int .i64 R.steps, .int .u64 R.first, .slice R.ra R.rn R.rcap, .int .u64 R.res, .bool R.ended]] w
    (Ret (.agg #[.int .i64 1, .int .i64 R.V, .int .u64 0, .int .u64 0]) (fun w' => Frm [] w w')) := by
  obtain ⟨W, V, F, la, ln, lc, many, tries, steps, first, ra, rn, rcap, res, ended⟩ := R
  simp only at h ⊢
  subst h
  cases W
  all_goals
    go_enter Try.func40, Try.ntmps40
    go_wp2
    refine bodyPost_ret (v := .agg #[.int .i64 1, .int .i64 V, .int .u64 0, .int .u64 0]) ?_ rfl ?_
    · simp [results, Try.results40, go_sem]
    exact ⟨rfl, by (repeat' (first | exact Frm.refl _ _ | apply Frm.alloc | apply Frm.drew | apply Frm.drewN | assumption))⟩
end
#print axioms acc_0
end Go.Proofs.Ytbhnijkphkkalaa
