/- Stage 12: a machine by its data: what asks, New, Add, Put, Waits. -/
import Derived.Test.YtieccmmnfnpcoaaThZ
namespace Go.Proofs.Ytieccmmnfnpcoaa
open Go.ChangeShapes Go.WideShapes Go.ChangeAt Go.RowKit
set_option linter.unusedVariables false
def Md.th (M : Md) (i : Int) : Option Td := if i < 0 then none else M.ts[i.toNat]?
def Md.done (M : Md) (i : Int) : Bool := match M.th i with
  | none => false
  | some t => t.P.en
def Md.result (M : Md) (i : Int) : Int := match M.th i with
  | none => 0
  | some t => t.P.res
def Md.steps (M : Md) (i : Int) : Int := match M.th i with
  | none => 0
  | some t => t.st
def Md.looks (M : Md) (i : Int) : Int := match M.th i with
  | none => 0
  | some t => t.lk
def Td.waits (t : Td) (ws : List Int) : Bool := if t.P.en = true then false else (nxt t.P ws).wt
def Md.waits (M : Md) (i : Int) : Bool := match M.th i with
  | none => false
  | some t => t.waits M.ws
theorem Md.th_none {M : Md} {i : Int} (h : M.th i = none) : noTh M.ts.length i = true := by
  unfold Md.th at h
  unfold noTh
  split at h
  · simp; omega
  · have := List.getElem?_eq_none_iff.1 h; simp; omega
theorem Md.th_some {M : Md} {i : Int} {t : Td} (h : M.th i = some t) : ∃ k : Nat, i = k ∧ M.ts[k]? = some t := by
  unfold Md.th at h
  split at h
  · cases h
  · exact ⟨i.toNat, by omega, h⟩
section
variable {w : World} {F : List Nat} {q : Nat} {M : Md}
theorem mat_Threads (h : MAt w F q M) : Calls Try.prog 38 #[.pointer (some ⟨q, 0, none⟩)] w (Ret (.int .i64 M.ts.length) (fun w' => w = w')) := by
  obtain ⟨X, ts, rfl, h2, h3⟩ := h
  rw [← MAt.len h2 h3]; exact mthreads_at h2.b
theorem mat_Done (h : MAt w F q M) (i : Int) : Calls Try.prog 22 #[.pointer (some ⟨q, 0, none⟩), .int .i64 i] w (Ret (.bool (M.done i)) (fun w' => Frm [] w w')) := by
  unfold Md.done
  cases hi : M.th i with
  | none =>
    obtain ⟨X, ts, rfl, h2, h3⟩ := h
    exact (mDone_no h2.b i (by rw [MAt.len h2 h3]; exact Md.th_none hi)).mono fun e w' hh => ⟨hh.1, by rw [← hh.2]; exact Frm.refl _ _⟩
  | some t =>
    obtain ⟨k, rfl, ht⟩ := Md.th_some hi
    obtain ⟨X, ts, x, rfl, h2, h3, hx, rfl⟩ := h.ti ht
    obtain ⟨Bf, hb1, _⟩ := h2.pg
    exact mDone_at h2.b (h2.thr hx) (hE_pg (hb1 k x hx).1)
theorem mat_Result (h : MAt w F q M) (i : Int) : Calls Try.prog 24 #[.pointer (some ⟨q, 0, none⟩), .int .i64 i] w (Ret (.int .u64 (M.result i)) (fun w' => Frm [] w w')) := by
  unfold Md.result
  cases hi : M.th i with
  | none =>
    obtain ⟨X, ts, rfl, h2, h3⟩ := h
    exact (mResult_no h2.b i (by rw [MAt.len h2 h3]; exact Md.th_none hi)).mono fun e w' hh => ⟨hh.1, by rw [← hh.2]; exact Frm.refl _ _⟩
  | some t =>
    obtain ⟨k, rfl, ht⟩ := Md.th_some hi
    obtain ⟨X, ts, x, rfl, h2, h3, hx, rfl⟩ := h.ti ht
    obtain ⟨Bf, hb1, _⟩ := h2.pg
    exact mResult_at h2.b (h2.thr hx) (rO_pg (hb1 k x hx).1)
theorem mat_Steps (h : MAt w F q M) (i : Int) : Calls Try.prog 23 #[.pointer (some ⟨q, 0, none⟩), .int .i64 i] w (Ret (.int .i64 (M.steps i)) (fun w' => w = w')) := by
  unfold Md.steps
  cases hi : M.th i with
  | none =>
    obtain ⟨X, ts, rfl, h2, h3⟩ := h
    exact mSteps_no h2.b i (by rw [MAt.len h2 h3]; exact Md.th_none hi)
  | some t =>
    obtain ⟨k, rfl, ht⟩ := Md.th_some hi
    obtain ⟨X, ts, x, rfl, h2, h3, hx, rfl⟩ := h.ti ht
    exact mSteps_at h2.b (h2.thr hx)
theorem mat_Looks (h : MAt w F q M) (i : Int) : Calls Try.prog 39 #[.pointer (some ⟨q, 0, none⟩), .int .i64 i] w (Ret (.int .i64 (M.looks i)) (fun w' => w = w')) := by
  unfold Md.looks
  cases hi : M.th i with
  | none =>
    obtain ⟨X, ts, rfl, h2, h3⟩ := h
    exact mLooks_no h2.b i (by rw [MAt.len h2 h3]; exact Md.th_none hi)
  | some t =>
    obtain ⟨k, rfl, ht⟩ := Md.th_some hi
    obtain ⟨X, ts, x, rfl, h2, h3, hx, rfl⟩ := h.ti ht
    exact mLooks_at h2.b (h2.thr hx)
theorem mat_Mem (h : MAt w F q M) : Calls Try.prog 21 #[.pointer (some ⟨q, 0, none⟩)] w
    (fun e w' => ∃ p' d' c', Ret (.pointer (some ⟨p', 0, none⟩)) (fun w' => Frm [] w w' ∧ MemAt w' p' d' c' M.ws ∧ w.heap.size ≤ p' ∧ w.heap.size ≤ d') e w') := by
  obtain ⟨X, ts, rfl, h2, rfl⟩ := h
  exact mMem_at h2.b
theorem mat_Program_no (h : MAt w F q M) {i : Int} (hi : M.th i = none) : Calls Try.prog 40 #[.pointer (some ⟨q, 0, none⟩), .int .i64 i] w (Ret .nilIface (fun w' => w = w')) := by
  obtain ⟨X, ts, rfl, h2, h3⟩ := h
  exact mProgram_no h2.b i (by rw [MAt.len h2 h3]; exact Md.th_none hi)
theorem mat_Program (h : MAt w F q M) {i : Nat} {t : Td} (ht : M.ts[i]? = some t) : ∃ ch, Calls Try.prog 40 #[.pointer (some ⟨q, 0, none⟩), .int .i64 (i : Int)] w
    (fun e w' => ∃ q', Ret (.iface (tPg ch) (.pointer (some ⟨q', 0, none⟩))) (fun w' => Frm [] w w' ∧ ∃ B', PgAt w' ch q' B' t.P ∧ ∀ x ∈ B', w.heap.size ≤ x) e w') := by
  obtain ⟨X, ts, x, rfl, h2, h3, hx, rfl⟩ := h.ti ht
  obtain ⟨Bf, hb1, _⟩ := h2.pg
  exact ⟨x.ch, mProgram_at h2.b (h2.thr hx) (cO_pg (hb1 i x hx).1)⟩
theorem mat_New {p d c : Nat} {ws : List Int} (hM : MemAt w p d c ws) : Calls Try.prog 17 #[.pointer (some ⟨p, 0, none⟩)] w
    (fun e w' => ∃ q F, Ret (.tuple #[.pointer (some ⟨q, 0, none⟩), .int .i64 0]) (fun w' => Frm [] w w' ∧ MAt w' F q ⟨ws, []⟩ ∧ ∀ x ∈ F, w.heap.size ≤ x) e w') := by
  refine (mnew_at hM).mono ?_
  rintro e w' ⟨Y, rfl, hF, hY, h1, h2, h3, h4, h5, h6⟩
  obtain ⟨ds, hds, _⟩ := hY.mem.arr
  refine ⟨Y.q, [Y.q, Y.p, Y.d], rfl, hF, ⟨Y, [], rfl, ⟨hY, by rw [h2]; rfl, ⟨fun _ => [], fun i x hx => by simp at hx, fun i j x y hx => by simp at hx⟩, by simp, by simp, by simp, by rw [h6]; simp, ?_⟩, by unfold md; rw [h1]; rfl⟩, ?_⟩
  · intro y hy; simp at hy
    rcases hy with rfl | rfl | rfl
    · exact hY.lt
    · exact hY.mem.plt
    · exact hY.mem.dlt
  · intro y hy; simp at hy
    rcases hy with rfl | rfl | rfl <;> assumption
theorem mat_Waits (h : MAt w F q M) (i : Int) : Calls Try.prog 36 #[.pointer (some ⟨q, 0, none⟩), .int .i64 i] w (Ret (.bool (M.waits i)) (Now w F q M)) := by
  unfold Md.waits
  cases hi : M.th i with
  | none =>
    obtain ⟨X, ts, rfl, h2, h3⟩ := id h
    exact (mWaits_no h2.b i (by rw [MAt.len h2 h3]; exact Md.th_none hi)).mono fun e w' hh => ⟨hh.1, by rw [← hh.2]; exact ⟨Go.of (Frm.refl _ _), h⟩⟩
  | some t =>
    obtain ⟨k, rfl, ht⟩ := Md.th_some hi
    obtain ⟨X, ts, x, rfl, h2, h3, hx, hxt⟩ := h.ti ht
    obtain ⟨Bf, hb1, hb2⟩ := h2.pg
    have hp := (hb1 k x hx).1
    have hws : M.ws = X.ws := by rw [← h3]; rfl
    dsimp only
    unfold Td.waits
    cases hen : t.P.en with
    | true =>
      rw [if_pos rfl]
      have hE := hE_pg hp
      rw [hxt, hen] at hE
      exact (mWaits_end h2.b (h2.thr hx) hE).mono fun e w' hh => ⟨hh.1, Go.of hh.2, h.quiet hh.2⟩
    | false =>
      rw [if_neg (by simp), hws]
      have hE := hE_pg hp
      rw [hxt, hen] at hE
      have hback := nxt_back x.t.P X.ws hp.ok (by rw [hxt]; exact hen)
      rw [hxt] at hback
      obtain ⟨nq, np, nd, nt⟩ := h2.b.ni
      refine Calls.mono (mWaits_at (T2 := tPg x.ch) (wt := (nxt t.P X.ws).wt) (e := (nxt t.P X.ws).e) (S := fun q' w' => ∃ B', PgAt w' x.ch q' B' t.P ∧ ∀ y ∈ B', w.heap.size ≤ y) h2.b (h2.thr hx) hE (fun w1 hf => ?_) (fun q' w2 w3 q1 hf2 hS hf3 hq1 hM => ?_) hback) ?_
      · have := cO_pg (hp.frm0 hf)
        rw [hxt] at this
        exact this.mono fun e w' ⟨q', he, hF, B', hB1, hB2⟩ => ⟨q', he, hF, B', hB1, fun y hy => by have := hB2 y hy; have := hf.size; omega⟩
      · obtain ⟨B', hB1, hB2⟩ := hS
        exact (sO_pg (K := true) (hB1.frm0 hf3) hen hM).mono fun e w' hh => ⟨hh.1, ⟨B', hh.2.1, hB2⟩, hh.2.2.1⟩
      · rintro e w' ⟨rfl, hF, hb⟩
        have hD : ∀ y ∈ [X.d], y ∈ F ∧ NI w y := fun y hy => by simp at hy; subst hy; exact ⟨h2.fd, nd⟩
        refine ⟨rfl, ⟨_, hF, hD⟩, X, ts, rfl, ⟨hb, h2.tv, ⟨Bf, fun j y hy => ⟨(hb1 j y hy).1.frm hF (fun z hz => ?_) (fun z hz => (hD z hz).2), (hb1 j y hy).2⟩, hb2⟩, h2.fq, h2.fp, h2.fd, h2.ft, fun y hy => Nat.lt_of_lt_of_le (h2.lt y hy) hF.size⟩, h3⟩
        simp; exact ((hb1 j y hy).1.far h2.b z hz).2.2.1
end
section
variable {w : World} {F : List Nat} {q : Nat} {M : Md} {ch : Bool} {qp : Nat} {B : List Nat} {P : Rp}
theorem mat_Add (h : MAt w F q M) (hn : M.ts.length < 64) (hp : PgAt w ch qp B P) : Calls Try.prog 18 #[.pointer (some ⟨q, 0, none⟩), .iface (tPg ch) (.pointer (some ⟨qp, 0, none⟩))] w
    (fun e w' => ∃ F', Ret (.tuple #[.int .i64 M.ts.length, .int .i64 0]) (fun w' => Go F w w' ∧ MAt w' F' q ⟨M.ws, M.ts ++ [⟨P, 0, 0⟩]⟩ ∧ ∀ x ∈ F', x ∈ F ∨ w.heap.size ≤ x) e w') := by
  obtain ⟨X, ts, rfl, h2, h3⟩ := id h
  have hlen := MAt.len h2 h3
  obtain ⟨nq, np, nd, nt⟩ := h2.b.ni
  obtain ⟨Bf, hb1, hb2⟩ := h2.pg
  rw [← hlen]
  refine (mAdd_ok (T2 := tPg ch) (S := fun q' w' => ∃ B', PgAt w' ch q' B' P ∧ ∀ x ∈ B', w.heap.size ≤ x) (S' := fun q' w' => ∃ B', PgAt w' ch q' B' P ∧ ∀ x ∈ B', w.heap.size ≤ x) h2.b (by omega) (cO_pg hp) (fun q' D w1 w2 ⟨B', h1, h4⟩ hf hD => ⟨B', h1.frm hf (fun y hy hy2 => ?_) (fun y hy => (hD y hy).2), h4⟩)).mono ?_
  · have h5 := h4 y hy
    rcases (hD y hy2).1 with rfl | h6
    · have := h2.b.lt; omega
    · have := (h2.b.row.from_ y h6).2; omega
  rintro e w' ⟨q', ta', tc', rfl, hF, hb, ⟨B', hB1, hB2⟩, hta⟩
  have hD : ∀ y ∈ X.q :: bkG X.ta, y ∈ F ∧ NI w y := fun y hy => by
    simp only [List.mem_cons] at hy
    rcases hy with rfl | hy
    · exact ⟨h2.fq, nq⟩
    · exact ⟨h2.ft y hy, nt y hy⟩
  have hbl := hB1.lt
  refine ⟨F ++ (B' ++ bkG ta'), rfl, ⟨_, hF, hD⟩, ⟨_, ts ++ [⟨ch, q', ⟨P, 0, 0⟩⟩], by rfl, ⟨hb, ?_, ⟨fun i => if i = ts.length then B' else Bf i, fun i x hx => ?_, fun i j x y hx hy hij => ?_⟩, ?_, ?_, ?_, ?_, ?_⟩, ?_⟩, ?_⟩
  · rw [List.map_append, ← h2.tv]; rfl
  · rcases Nat.lt_or_ge i ts.length with hi | hi
    · rw [List.getElem?_append_left hi] at hx
      dsimp only
      rw [if_neg (by omega)]
      exact ⟨(hb1 i x hx).1.frm hF (fun y hy => by
        obtain ⟨a1, a2, a3, a4⟩ := (hb1 i x hx).1.far h2.b y hy
        simp only [List.mem_cons, not_or]; exact ⟨a1, a4⟩) (fun y hy => (hD y hy).2), fun y hy => List.mem_append_left _ ((hb1 i x hx).2 y hy)⟩
    · rw [List.getElem?_append_right hi] at hx
      have : i - ts.length = 0 := by have := (List.getElem?_eq_some_iff.1 hx).1; simp at this; omega
      rw [this] at hx; simp at hx; subst hx
      dsimp only
      rw [if_pos (by omega)]
      exact ⟨hB1, fun y hy => List.mem_append_right _ (List.mem_append_left _ hy)⟩
  · have key : ∀ (i : Nat) (x : Ti), (ts ++ [(⟨ch, q', ⟨P, 0, 0⟩⟩ : Ti)])[i]? = some x → (i = ts.length) ∨ (ts[i]? = some x ∧ i ≠ ts.length) := fun i x hx => by
      rcases Nat.lt_or_ge i ts.length with hi | hi
      · rw [List.getElem?_append_left hi] at hx; exact .inr ⟨hx, by omega⟩
      · left; rw [List.getElem?_append_right hi] at hx; have := (List.getElem?_eq_some_iff.1 hx).1; simp at this; omega
    intro z hz
    dsimp only at hz ⊢
    rcases key i x hx with h5 | ⟨h5, h6⟩ <;> rcases key j y hy with h7 | ⟨h7, h8⟩
    · omega
    · rw [if_pos h5] at hz; rw [if_neg h8]
      intro hz2; have := (hb1 j y h7).1.lt z hz2; have := hB2 z hz; omega
    · rw [if_neg h6] at hz; rw [if_pos h7]
      intro hz2; have := (hb1 i x h5).1.lt z hz; have := hB2 z hz2; omega
    · rw [if_neg h6] at hz; rw [if_neg h8]; exact hb2 i j x y h5 h7 hij z hz
  · exact List.mem_append_left _ h2.fq
  · exact List.mem_append_left _ h2.fp
  · exact List.mem_append_left _ h2.fd
  · intro y hy; exact List.mem_append_right _ (List.mem_append_right _ hy)
  · intro y hy
    simp only [List.mem_append] at hy
    rcases hy with hy | hy | hy
    · have := h2.lt y hy; have := hF.size; omega
    · exact hbl y hy
    · exact (hb.row.from_ y hy).2
  · rw [← h3]; unfold md; rw [List.map_append]; rfl
  · intro y hy
    simp only [List.mem_append] at hy
    rcases hy with hy | hy | hy
    · exact .inl hy
    · exact .inr (hB2 y hy)
    · rcases hta y hy with h5 | h5
      · exact .inl (h2.ft y h5)
      · exact .inr h5
theorem mat_Put (h : MAt w F q M) {i : Nat} {t : Td} (ht : M.ts[i]? = some t) (hen : t.P.en = true) (hp : PgAt w ch qp B P) : Calls Try.prog 35 #[.pointer (some ⟨q, 0, none⟩), .int .i64 (i : Int), .iface (tPg ch) (.pointer (some ⟨qp, 0, none⟩))] w
    (fun e w' => ∃ F', Ret (.int .i64 0) (fun w' => Go F w w' ∧ MAt w' F' q ⟨M.ws, M.ts.set i { t with P := P }⟩ ∧ ∀ x ∈ F', x ∈ F ∨ w.heap.size ≤ x) e w') := by
  obtain ⟨X, ts, x, rfl, h2, h3, hx, hxt⟩ := h.ti ht
  obtain ⟨nq, np, nd, nt⟩ := h2.b.ni
  obtain ⟨Bf, hb1, hb2⟩ := h2.pg
  have hpx := (hb1 i x hx).1
  have hi : i < ts.length := (List.getElem?_eq_some_iff.1 hx).1
  refine (mPut_ok (T2 := tPg ch) (S := fun q' w' => ∃ B', PgAt w' ch q' B' P ∧ ∀ x ∈ B', w.heap.size ≤ x) (S' := fun q' w' => ∃ B', PgAt w' ch q' B' P ∧ ∀ x ∈ B', w.heap.size ≤ x) h2.b (h2.thr hx) (cO_pg hp) (fun w1 hf => ?_) (fun q' w1 w2 ⟨B', h1, h4⟩ hf => ⟨B', h1.frm0 hf, h4⟩) (fun q' D w1 w2 ⟨B', h1, h4⟩ hf hD => ⟨B', h1.frm hf (fun y hy hy2 => ?_) (fun y hy => (hD y hy).2), h4⟩)).mono ?_
  · have := hE_pg (hpx.frm0 hf); rw [hxt, hen] at this; exact this
  · have h5 := h4 y hy
    have := (h2.b.row.from_ y (hD y hy2).1).2; omega
  rintro e w' ⟨q', rfl, hF, hb, B', hB1, hB2⟩
  have hD : ∀ y ∈ bkG X.ta, y ∈ F ∧ NI w y := fun y hy => ⟨h2.ft y hy, nt y hy⟩
  refine ⟨F ++ B', rfl, ⟨_, hF, hD⟩, ⟨_, ts.set i ⟨ch, q', { t with P := P }⟩, by rfl, ⟨hb, ?_, ⟨fun j => if j = i then B' else Bf j, fun j y hy => ?_, fun j k y z hy hz hjk => ?_⟩, ?_, ?_, ?_, ?_, ?_⟩, ?_⟩, ?_⟩
  · rw [List.map_set, ← h2.tv]; dsimp only; unfold Ti.tv; rw [hxt]
  · rw [List.getElem?_set] at hy
    by_cases e : i = j
    · subst e
      rw [if_pos rfl, if_pos hi] at hy
      cases hy
      dsimp only; rw [if_pos rfl]
      exact ⟨hB1, fun y hy => List.mem_append_right _ hy⟩
    · rw [if_neg e] at hy
      dsimp only; rw [if_neg (fun e2 => e e2.symm)]
      exact ⟨(hb1 j y hy).1.frm hF (fun z hz => ((hb1 j y hy).1.far h2.b z hz).2.2.2) (fun z hz => (hD z hz).2), fun z hz => List.mem_append_left _ ((hb1 j y hy).2 z hz)⟩
  · have old : ∀ (j : Nat) (y : Ti), (ts.set i ⟨ch, q', { t with P := P }⟩)[j]? = some y → ∃ y', ts[j]? = some y' := fun j y hy => by
      rw [List.getElem?_set] at hy
      by_cases e : i = j
      · subst e; exact ⟨x, hx⟩
      · rw [if_neg e] at hy; exact ⟨y, hy⟩
    obtain ⟨y', hy'⟩ := old j y hy
    obtain ⟨z', hz'⟩ := old k z hz
    intro u hu
    dsimp only at hu ⊢
    split at hu
    · split
      · omega
      · intro hu2; have := (hb1 k z' hz').1.lt u hu2; have := hB2 u hu; omega
    · split
      · intro hu2; have := (hb1 j y' hy').1.lt u hu; have := hB2 u hu2; omega
      · exact hb2 j k y' z' hy' hz' hjk u hu
  · exact List.mem_append_left _ h2.fq
  · exact List.mem_append_left _ h2.fp
  · exact List.mem_append_left _ h2.fd
  · intro y hy; exact List.mem_append_left _ (h2.ft y hy)
  · intro y hy
    simp only [List.mem_append] at hy
    rcases hy with hy | hy
    · have := h2.lt y hy; have := hF.size; omega
    · exact hB1.lt y hy
  · rw [← h3]; unfold md; rw [List.map_set]
  · intro y hy
    simp only [List.mem_append] at hy
    rcases hy with hy | hy
    · exact .inl hy
    · exact .inr (hB2 y hy)
theorem mat_Put_state (h : MAt w F q M) {i : Nat} {t : Td} (ht : M.ts[i]? = some t) (hen : t.P.en = false) (hp : PgAt w ch qp B P) : Calls Try.prog 35 #[.pointer (some ⟨q, 0, none⟩), .int .i64 (i : Int), .iface (tPg ch) (.pointer (some ⟨qp, 0, none⟩))] w
    (Ret (.int .i64 8) (fun w' => Frm [] w w')) := by
  obtain ⟨X, ts, x, rfl, h2, h3, hx, hxt⟩ := h.ti ht
  obtain ⟨Bf, hb1, hb2⟩ := h2.pg
  refine mPut_state h2.b (h2.thr hx) (cO_pg hp) (fun w1 hf => ?_)
  have := hE_pg ((hb1 i x hx).1.frm0 hf); rw [hxt, hen] at this; exact this
end
#print axioms mat_Put
end Go.Proofs.Ytieccmmnfnpcoaa
