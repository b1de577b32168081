/- Stage 12: the step of a machine by its data; Step. -/
import Derived.Test.YtieccmmnfnpcoaaThY
namespace Go.Proofs.Ytieccmmnfnpcoaa
open Go.ChangeShapes Go.WideShapes Go.ChangeAt Go.RowKit
set_option linter.unusedVariables false
/-- The machine at q has become M, in a world that has gone on from w. -/
def Now (w : World) (F : List Nat) (q : Nat) (M : Md) (w' : World) : Prop := Go F w w' ∧ MAt w' F q M
def Md.few (M : Md) (n : Nat) : Prop := ∀ (i : Nat) (t : Td), M.ts[i]? = some t → t.st ≤ n ∧ t.lk ≤ n
section
variable {w : World} {F : List Nat} {X : Mb} {ts : List Ti}
theorem mach_stp (h : MachAt w F X ts) {i : Nat} {x : Ti} (hx : ts[i]? = some x) (hen : x.t.P.en = false) :
    ∃ B, PgAt w x.ch x.q B x.t.P ∧ Stp w X x.tv (nxt x.t.P X.ws).wt (nxt x.t.P X.ws).e (nAcc true (nxt x.t.P X.ws).did) (nxt x.t.P X.ws).ws B (fun w' => ∃ B', (∀ y ∈ B', y ∈ B) ∧ PgAt w' x.ch x.q B' (nxt x.t.P X.ws).P) ∧
      ∃ Bf : Nat → List Nat, (∀ (i : Nat) (x : Ti), ts[i]? = some x → PgAt w x.ch x.q (Bf i) x.t.P ∧ ∀ y ∈ Bf i, y ∈ F) ∧ (∀ (i j : Nat) (x y : Ti), ts[i]? = some x → ts[j]? = some y → i ≠ j → ∀ z ∈ Bf i, z ∉ Bf j) ∧ B = Bf i := by
  obtain ⟨Bf, h1, h2⟩ := h.pg
  obtain ⟨hp, hpF⟩ := h1 i x hx
  refine ⟨Bf i, hp, ⟨?_, ?_, ?_, ?_⟩, Bf, h1, h2, rfl⟩
  · intro y hy
    obtain ⟨a1, a2, a3, a4⟩ := hp.far h.b y hy
    exact ⟨hp.lt y hy, a1, a2, a3, a4⟩
  · intro w1 q1 hf hM hq
    refine (sO_pg (K := true) (hp.frm0 hf) hen hM).mono fun e w' hh => ?_
    exact hh
  · exact nxt_len _ _ hp.ok hen
  · intro D w1 w2 ⟨B', hb1, hb2⟩ hf hD
    refine ⟨B', hb1, hb2.frm hf (fun y hy hy2 => ?_) (fun y hy => (hD y hy).2)⟩
    have h3 := hp.lt y (hb1 y hy)
    have h4 := (hp.far h.b y (hb1 y hy)).2.2.2
    rcases (hD y hy2).1 with h5 | h5
    · exact h4 h5
    · omega
set_option maxHeartbeats 1000000 in
theorem mach_step (h : MachAt w F X ts) {i : Nat} {x : Ti} (hx : ts[i]? = some x) (hen : x.t.P.en = false) (hst : x.t.st < 1000000000) (hlk : x.t.lk < 1000000000) :
    Calls Try.prog 60 #[.pointer (some ⟨X.q, 0, none⟩), .int .i64 (i : Int)] w (Ret (.tuple #[((md X ts).go i x.t).2.1.val, .int .i64 ((md X ts).go i x.t).2.2]) (Now w F X.q ((md X ts).go i x.t).1)) := by
  obtain ⟨B, hp, hS, Bf, hb1, hb2, hB⟩ := mach_stp h hx hen
  obtain ⟨nq, np, nd, nt⟩ := h.b.ni
  have hBF : ∀ y ∈ B, y ∈ F := by rw [hB]; exact (hb1 i x hx).2
  have hfar := hp.far h.b
  by_cases he : (nxt x.t.P X.ws).e = 0
  · have hgo : (md X ts).go i x.t = (⟨(nxt x.t.P X.ws).ws, (ts.map Ti.t).set i ⟨(nxt x.t.P X.ws).P, x.t.st + 1, if (nxt x.t.P X.ws).wt then x.t.lk + 1 else x.t.lk⟩⟩, ⟨i, (nxt x.t.P X.ws).did, (nxt x.t.P X.ws).wt, (nxt x.t.P X.ws).P.en⟩, 0) := if_neg (fun h => h he)
    rw [hgo]
    rw [he] at hS
    refine Calls.mono (mstep_ok h.b (h.thr hx) hS (en := (nxt x.t.P X.ws).P.en) hst hlk (fun w1 ⟨B', _, hp'⟩ => hE_pg hp')) ?_
    rintro e w' ⟨rfl, hF, hb, B', hB', hp'⟩
    have hD : ∀ y ∈ X.d :: (bkG X.ta ++ B), y ∈ F ∧ NI w y := fun y hy => by
      simp only [List.mem_cons, List.mem_append] at hy
      rcases hy with rfl | hy | hy
      · exact ⟨h.fd, nd⟩
      · exact ⟨h.ft y hy, nt y hy⟩
      · exact ⟨hBF y hy, hp.ni y hy⟩
    have hm := h.stepped (x' := ⟨x.ch, x.q, ⟨(nxt x.t.P X.ws).P, x.t.st + 1, if (nxt x.t.P X.ws).wt then x.t.lk + 1 else x.t.lk⟩⟩) hx hF (fun y hy => (hD y hy).2) hb ⟨rfl, rfl, rfl, rfl⟩ (by rw [List.map_set, ← h.tv]; rfl) ⟨Bf, hb1, hb2, fun y hy => by rw [← hB]; exact hB' y hy, fun j y hy hj z hz hz2 => by
      simp only [List.mem_cons, List.mem_append] at hz2
      obtain ⟨a1, a2, a3, a4⟩ := (hb1 j y hy).1.far h.b z hz
      rcases hz2 with h2 | h2 | h2
      · exact a3 h2
      · exact a4 h2
      · exact hb2 j i y x hy hx hj z hz (by rw [← hB]; exact h2)⟩ hp'
    exact ⟨rfl, ⟨_, hF, hD⟩, _, _, by rfl, hm, by unfold md; rw [List.map_set]⟩
  · have hgo : (md X ts).go i x.t = (md X ts, dd0, (nxt x.t.P X.ws).e) := if_pos he
    rw [hgo]
    obtain ⟨e1, e2, e3⟩ := nxt_err _ _ hp.ok hen he
    refine Calls.mono (mstep_err h.b (h.thr hx) hS he) ?_
    rintro e w' ⟨rfl, hF, hb, B', hB', hp'⟩
    have hD : ∀ y ∈ X.d :: B, y ∈ F ∧ NI w y := fun y hy => by
      simp only [List.mem_cons] at hy
      rcases hy with rfl | hy
      · exact ⟨h.fd, nd⟩
      · exact ⟨hBF y hy, hp.ni y hy⟩
    rw [e1] at hp'
    rw [e2] at hb
    have hset : ts.set i x = ts := by
      apply List.ext_getElem?; intro j; rw [List.getElem?_set]; split
      · rename_i e; subst e; rw [if_pos (List.getElem?_eq_some_iff.1 hx).1, hx]
      · rfl
    have hm := h.stepped hx hF (fun y hy => (hD y hy).2) hb ⟨rfl, rfl, rfl, rfl⟩ (x' := x) (by rw [hset]; exact h.tv) ⟨Bf, hb1, hb2, fun y hy => by rw [← hB]; exact hB' y hy, fun j y hy hj z hz hz2 => by
      simp only [List.mem_cons] at hz2
      obtain ⟨a1, a2, a3, a4⟩ := (hb1 j y hy).1.far h.b z hz
      rcases hz2 with h2 | h2
      · exact a3 h2
      · exact hb2 j i y x hy hx hj z hz (by rw [← hB]; exact h2)⟩ hp'
    rw [hset] at hm
    exact ⟨rfl, ⟨_, hF, hD⟩, _, ts, by rfl, hm, by rfl⟩
end
section
variable {w : World} {F : List Nat} {q : Nat} {M : Md}
theorem MAt.other {w' : World} {G : List Nat} (h : MAt w F q M) (hg : Go G w w') (hd : ∀ x ∈ F, x ∉ G) : MAt w' F q M := by
  obtain ⟨X, ts, h1, h2, h3⟩ := h; exact ⟨X, ts, h1, h2.other hg hd, h3⟩
theorem MAt.quiet {w' : World} (h : MAt w F q M) (hf : Frm [] w w') : MAt w' F q M := h.other (G := []) (Go.of hf) (by simp)
theorem MAt.lt (h : MAt w F q M) : ∀ x ∈ F, x < w.heap.size := by obtain ⟨X, ts, h1, h2, h3⟩ := h; exact h2.lt
theorem MAt.ti (h : MAt w F q M) {i : Nat} {t : Td} (ht : M.ts[i]? = some t) : ∃ X ts x, X.q = q ∧ MachAt w F X ts ∧ md X ts = M ∧ ts[i]? = some x ∧ x.t = t := by
  obtain ⟨X, ts, h1, h2, h3⟩ := h
  have h4 : (ts.map Ti.t)[i]? = some t := by rw [← h3] at ht; exact ht
  rw [List.getElem?_map] at h4
  cases hx : ts[i]? with
  | none => rw [hx] at h4; cases h4
  | some x => rw [hx] at h4; exact ⟨X, ts, x, h1, h2, h3, hx, by simpa using h4⟩
theorem MAt.len {X : Mb} {ts : List Ti} (h2 : MachAt w F X ts) (h3 : md X ts = M) : X.tv.length = M.ts.length := by
  rw [h2.len, ← h3]; simp [md]
/-- Step, of any number. -/
def Md.Step (M : Md) (i : Int) : Md × Dd × Int :=
  match M.ts[i.toNat]? with
  | none => (M, dd0, 2)
  | some t => if i < 0 then (M, dd0, 2) else if t.P.en = true then (M, dd0, 17) else M.go i.toNat t
theorem mat_Step (h : MAt w F q M) {n : Nat} (hfew : M.few n) (hn : n < 1000000000) (i : Int) :
    Calls Try.prog 20 #[.pointer (some ⟨q, 0, none⟩), .int .i64 i] w (Ret (.tuple #[(M.Step i).2.1.val, .int .i64 (M.Step i).2.2]) (Now w F q (M.Step i).1)) := by
  by_cases hi : i < 0 ∨ (M.ts.length : Int) ≤ i
  · obtain ⟨X, ts, rfl, h2, h3⟩ := id h
    have hs : M.Step i = (M, dd0, 2) := by
      unfold Md.Step
      cases ht : M.ts[i.toNat]? with
      | none => rfl
      | some t =>
        have := (List.getElem?_eq_some_iff.1 ht).1
        dsimp only; rw [if_pos (by omega)]
    rw [hs]
    refine (mStep_no h2.b i (by unfold noTh; rw [MAt.len h2 h3]; simp; exact hi)).mono ?_
    rintro e w' ⟨rfl, hF⟩
    exact ⟨rfl, Go.of hF, h.quiet hF⟩
  · obtain ⟨k, rfl⟩ := Int.eq_ofNat_of_zero_le (show 0 ≤ i by omega)
    have hk : k < M.ts.length := by omega
    obtain ⟨t, ht⟩ : ∃ t, M.ts[k]? = some t := ⟨_, List.getElem?_eq_getElem hk⟩
    obtain ⟨X, ts, x, rfl, h2, h3, hx, hxt⟩ := h.ti ht
    obtain ⟨Bf, hb1, hb2⟩ := h2.pg
    have hp := (hb1 k x hx).1
    obtain ⟨f1, f2⟩ := hfew k t ht
    cases hen : t.P.en with
    | true =>
      have hs : M.Step k = (M, dd0, 17) := by
        unfold Md.Step; rw [Int.toNat_natCast, ht]; dsimp only; rw [if_neg (by omega), if_pos hen]
      rw [hs]
      refine (mStep_end h2.b (h2.thr hx) (fun w1 hf => ?_)).mono ?_
      · have := hE_pg (hp.frm0 hf); rw [hxt, hen] at this; exact this
      · rintro e w' ⟨rfl, hF⟩
        exact ⟨rfl, Go.of hF, h.quiet hF⟩
    | false =>
      have hs : M.Step k = M.go k t := by
        unfold Md.Step; rw [Int.toNat_natCast, ht]; dsimp only; rw [if_neg (by omega), if_neg (by rw [hen]; simp)]
      rw [hs, ← h3, ← hxt]
      refine Calls.mono (mStep_go (D := F) (R := Now w F X.q ((md X ts).go k x.t).1) (R3 := Now w F X.q ((md X ts).go k x.t).1) h2.b (h2.thr hx) (fun w1 hf => ?_) (fun w1 hf => ?_) h2.lt (fun w2 w3 hR hf hb => ?_)) (fun e w' hh => ⟨hh.1, hh.2.2⟩)
      · have := hE_pg (hp.frm0 hf); rw [hxt, hen] at this; exact this
      · refine (mach_step (h2.quiet hf) hx (by rw [hxt]; exact hen) (by rw [hxt]; omega) (by rw [hxt]; omega)).mono ?_
        rintro e w' ⟨rfl, hg, hm⟩
        exact ⟨rfl, hg.frm, (Go.of hf).trans hg, hm⟩
      · obtain ⟨hg, hm⟩ := hR
        have hg2 : Go [w.heap.size] w2 w3 := ⟨_, hf, fun y hy => ⟨hy, by simp at hy; subst hy; exact ni_of hb (by decide)⟩⟩
        have hdis : ∀ y ∈ F, y ∉ [w.heap.size] := fun y hy => by have := h2.lt y hy; simp; omega
        refine ⟨?_, hm.other hg2 hdis⟩
        obtain ⟨D, hf1, hD1⟩ := hg
        exact ⟨D, hf1.trans_new hf (by simp), hD1⟩
end
#print axioms mat_Step
end Go.Proofs.Ytieccmmnfnpcoaa
