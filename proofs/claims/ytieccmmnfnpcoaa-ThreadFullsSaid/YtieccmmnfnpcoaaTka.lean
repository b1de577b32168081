/- Stage 12: ThreadFulls as data: a code of many additions, run by one thread. -/
import Derived.Test.YtieccmmnfnpcoaaTim
namespace Go.Proofs.Ytieccmmnfnpcoaa
open Go.ChangeShapes Go.WideShapes Go.ChangeAt Go.RowKit
set_option linter.unusedVariables false
set_option linter.unusedSimpArgs false
def fuI : Ins := ⟨7, 0, 0, 1⟩
def fuL (m : Nat) : List Ins := List.replicate m fuI
theorem fuL_length (m : Nat) : (fuL m).length = m := by unfold fuL; simp
theorem fuL_get {m j : Nat} (h : j < m) : (fuL m)[j]? = some fuI := by unfold fuL; rw [List.getElem?_replicate, if_pos h]
theorem fu_alw (n : Nat) : alw fuI n = true := by unfold alw fuI; simp
theorem fu_ok {m : Nat} (h0 : 0 < m) (h : m ≤ 256) : Lok (fuL m) := by
  refine ⟨by rw [fuL_length]; exact h0, by rw [fuL_length]; exact h, fun i y hy => ?_⟩
  have := List.mem_of_getElem? hy
  unfold fuL at this
  rw [List.eq_of_mem_replicate this]
  exact fu_alw _
theorem fu_no {m : Nat} (h : 256 < m) : ¬ Lok (fuL m) := fun hl => by have := hl.2.1; rw [fuL_length] at this; omega
def fuP (m j : Nat) : Rp := ⟨[fuL m], j, [(j : Int), 0, 0, 0], 0, false⟩
def fuZ (m : Nat) : Rp := ⟨[fuL m], m, [(m : Int), 0, 0, 0], m, true⟩
theorem fu_cstep {m j : Nat} (hj : j < m) (hm : m ≤ 258) (ws : List Int) :
    cstep ws ⟨fuL m, [(j : Int), 0, 0, 0], j, 0⟩ fuI = ⟨false, 0, if j + 1 = m then ⟨fuL m, [((j + 1 : Nat) : Int), 0, 0, 0], m, ((j + 1 : Nat) : Int)⟩ else ⟨fuL m, [((j + 1 : Nat) : Int), 0, 0, 0], j + 1, 0⟩, ws, acc0⟩ := by
  have hw : IntKind.u64.wrap ((j : Int) + 1) = ((j + 1 : Nat) : Int) := by rw [IntKind.wrap_u64]; omega
  have e1 : iacc fuI [(j : Int), 0, 0, 0] = acc0 := by unfold iacc fuI; simp
  have e2 : mErr ws.length acc0.k acc0.w = 2 := by unfold mErr acc0; simp
  have e3 : mRes ws acc0 = acc0 := by unfold mRes; rw [e2]; rfl
  have e4 : mWs ws acc0 = ws := by unfold mWs; rw [e2]; rfl
  unfold cstep
  rw [if_neg (by unfold cErr fuI; simp), if_neg (by unfold fuI; simp)]
  simp only [e1, e3, e4]
  have e5 : (⟨fuL m, [(j : Int), 0, 0, 0], j, 0⟩ : Cd).reg fuI acc0 = ⟨fuL m, [((j + 1 : Nat) : Int), 0, 0, 0], j, 0⟩ := by
    unfold Cd.reg fuI
    simp only [show ¬ (7 : Int) ≤ 4 by decide, show ¬ (7 : Int) = 6 by decide, if_false, if_true]
    show (⟨fuL m, [IntKind.u64.wrap ((j : Int) + 1), 0, 0, 0], j, 0⟩ : Cd) = _
    rw [hw]
  rw [e5]
  congr 1
  unfold Cd.go Cd.fin
  rw [if_neg (by unfold fuI; simp), if_neg (by unfold fuI; simp), fuL_length]
  rfl
theorem fu_nxt {m j : Nat} (hj : j < m) (hm : m ≤ 258) (ws : List Int) : nxt (fuP m j) ws = ⟨if j + 1 = m then fuZ m else fuP m (j + 1), ws, acc0, false, 0⟩ := by
  unfold nxt fuP
  rw [if_neg (by simp)]
  show (match (fuL m)[j]? with | none => _ | some y => _) = _
  rw [fuL_get hj]
  simp only [fu_cstep hj hm, fuL_length]
  by_cases e : j + 1 = m
  · subst e
    simp [Rp.ends, fuZ]
  · simp [e, show ¬ j + 1 = m from e, fuP]
theorem fu_go {m j s : Nat} (hj : j < m) (hm : m ≤ 258) (ws : List Int) (r : List Td) :
    (⟨ws, ⟨fuP m j, s, 0⟩ :: r⟩ : Md).go 0 ⟨fuP m j, s, 0⟩ = (⟨ws, ⟨if j + 1 = m then fuZ m else fuP m (j + 1), s + 1, 0⟩ :: r⟩, ⟨0, acc0, false, (if j + 1 = m then fuZ m else fuP m (j + 1)).en⟩, 0) := by
  unfold Md.go
  simp only [fu_nxt hj hm]
  rfl
theorem fu_rest (m : Nat) (ws : List Int) (s : Nat) (r : List Td) (l : List Dd) : ∀ p : Nat, runA ⟨ws, ⟨fuZ m, s, 0⟩ :: r⟩ l (List.replicate p 0) = (⟨ws, ⟨fuZ m, s, 0⟩ :: r⟩, l, 0)
  | 0 => rfl
  | p + 1 => by
    rw [List.replicate_succ]
    unfold runA
    rw [show (⟨ws, ⟨fuZ m, s, 0⟩ :: r⟩ : Md).th 0 = some ⟨fuZ m, s, 0⟩ from rfl]
    simp only [show (fuZ m).en = true from rfl, if_true]
    exact fu_rest m ws s r l p
theorem fu_run {m : Nat} (hm : m ≤ 258) (ws : List Int) (r : List Td) : ∀ (p j : Nat) (l : List Dd), j < m → m - j ≤ p → ∃ l', l'.length = l.length + (m - j) ∧ runA ⟨ws, ⟨fuP m j, j, 0⟩ :: r⟩ l (List.replicate p 0) = (⟨ws, ⟨fuZ m, m, 0⟩ :: r⟩, l', 0)
  | 0, j, l, hj, hp => by omega
  | p + 1, j, l, hj, hp => by
    have hs : runA ⟨ws, ⟨fuP m j, j, 0⟩ :: r⟩ l (List.replicate (p + 1) 0) = runA ⟨ws, ⟨if j + 1 = m then fuZ m else fuP m (j + 1), j + 1, 0⟩ :: r⟩ (l ++ [⟨0, acc0, false, (if j + 1 = m then fuZ m else fuP m (j + 1)).en⟩]) (List.replicate p 0) := by
      rw [List.replicate_succ]
      conv => lhs; unfold runA
      rw [show (⟨ws, ⟨fuP m j, j, 0⟩ :: r⟩ : Md).th 0 = some ⟨fuP m j, j, 0⟩ from rfl]
      simp only [show (fuP m j).en = false from rfl, Bool.false_eq_true, if_false, show (0 : Int).toNat = 0 from rfl, fu_go hj hm, ne_eq, not_true_eq_false]
    rw [hs]
    by_cases e : j + 1 = m
    · rw [if_pos e]
      refine ⟨l ++ [⟨0, acc0, false, (fuZ m).en⟩], by rw [List.length_append]; simp; omega, ?_⟩
      rw [e]; exact fu_rest m ws m r _ p
    · rw [if_neg e]
      obtain ⟨l', h1, h2⟩ := fu_run hm ws r p (j + 1) (l ++ [⟨0, acc0, false, (fuP m (j + 1)).en⟩]) (by omega) (by omega)
      refine ⟨l', ?_, h2⟩
      rw [h1, List.length_append]; simp; omega
/-- So many threads of it. -/
def fuM (m k : Nat) : Md := ⟨[0], List.replicate k ⟨fuP m 0, 0, 0⟩⟩
theorem fuM_next (m k : Nat) : (⟨(fuM m k).ws, (fuM m k).ts ++ [⟨fuP m 0, 0, 0⟩]⟩ : Md) = fuM m (k + 1) := by
  unfold fuM; rw [List.replicate_succ']
theorem fuM_few (m k : Nat) : (fuM m k).few 0 := fun i t ht => by
  have := List.mem_of_getElem? ht
  unfold fuM at this
  rw [List.eq_of_mem_replicate this]
  exact ⟨Nat.le_refl _, Nat.le_refl _⟩
theorem fuM_run {m k p : Nat} (hm0 : 0 < m) (hm : m ≤ 258) (hp : m ≤ p) (hp2 : p ≤ 100000) : ∃ l', l'.length = m ∧ (fuM m (k + 2)).Run (List.replicate p 0) = (⟨[0], ⟨fuZ m, m, 0⟩ :: ⟨fuP m 0, 0, 0⟩ :: List.replicate k ⟨fuP m 0, 0, 0⟩⟩, l', 0) := by
  obtain ⟨l', h1, h2⟩ := fu_run hm [0] (⟨fuP m 0, 0, 0⟩ :: List.replicate k ⟨fuP m 0, 0, 0⟩) p 0 [] hm0 (by omega)
  refine ⟨l', by rw [h1]; simp, ?_⟩
  unfold Md.Run
  have ha : (List.replicate p (0 : Int)).any (noTh (fuM m (k + 2)).ts.length) = false := by
    rw [List.any_eq_false]
    intro x hx
    rw [List.eq_of_mem_replicate hx]
    unfold fuM noTh
    simp
    omega
  have hr : runA (fuM m (k + 2)) [] (List.replicate p 0) = _ := h2
  rw [if_neg (by rw [List.length_replicate]; omega), ha, hr]
  rfl
theorem fuM_run2 {m k p : Nat} (hp2 : 100000 < p) : (fuM m k).Run (List.replicate p 0) = (fuM m k, [], 5) := by
  unfold Md.Run; rw [if_pos (by rw [List.length_replicate]; exact hp2)]
/-- Another one is too many. -/
theorem mat_Add_full {w : World} {F : List Nat} {q : Nat} {M : Md} {ch : Bool} {qp : Nat} {B : List Nat} {P : Rp} (h : MAt w F q M) (hn : M.ts.length = 64) (hp : PgAt w ch qp B P) : Calls Try.prog 18 #[.pointer (some ⟨q, 0, none⟩), .iface (tPg ch) (.pointer (some ⟨qp, 0, none⟩))] w
    (Ret (.tuple #[.int .i64 0, .int .i64 7]) (fun w' => Frm [] w w')) := by
  obtain ⟨X, ts, rfl, h2, h3⟩ := id h
  have hlen := MAt.len h2 h3
  exact mAdd_full h2.b (by omega) (cO_pg hp)
end Go.Proofs.Ytieccmmnfnpcoaa
