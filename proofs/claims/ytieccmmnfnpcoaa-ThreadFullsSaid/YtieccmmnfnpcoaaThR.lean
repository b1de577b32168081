/- Stage 12: the methods of a program, a code or a chain, and the wrappers. -/
import Derived.Test.YtieccmmnfnpcoaaThQ
namespace Go.Proofs.Ytieccmmnfnpcoaa
open Go.ChangeShapes Go.WideShapes Go.ChangeAt Go.RowKit
set_option linter.unusedVariables false
def tPg (ch : Bool) : TypeId := if ch then 129 else 76
def vPg (ch : Bool) (q : Nat) : Value := .iface (tPg ch) (.pointer (some ⟨q, 0, none⟩))
def fStep (ch : Bool) : FuncId := if ch then 119 else 31
def fDone (ch : Bool) : FuncId := if ch then 117 else 32
def fResult (ch : Bool) : FuncId := if ch then 118 else 33
def fCopy (ch : Bool) : FuncId := if ch then 116 else 34
theorem m_Step (ch : Bool) (q : Nat) (w : World) : (method 273 (tPg ch) (.pointer (some ⟨q, 0, none⟩)) "Step").run Try.prog w = .ok (fStep ch, .pointer (some ⟨q, 0, none⟩)) w := by cases ch <;> kernel_rfl
set_option maxRecDepth 100000 in
theorem c_Step (ch : Bool) (args : Array Value) (w : World) : (callFunc (fStep ch) args).run Try.prog w = .ok (.enter (fStep ch) args) w := by cases ch <;> first | rfl | (show (callFunc _ _).run _ _ = _; simp only [fStep, Bool.false_eq_true, if_false, if_true]; go_simp)
theorem m_Done (ch : Bool) (q : Nat) (w : World) : (method 273 (tPg ch) (.pointer (some ⟨q, 0, none⟩)) "Done").run Try.prog w = .ok (fDone ch, .pointer (some ⟨q, 0, none⟩)) w := by cases ch <;> kernel_rfl
set_option maxRecDepth 100000 in
theorem c_Done (ch : Bool) (args : Array Value) (w : World) : (callFunc (fDone ch) args).run Try.prog w = .ok (.enter (fDone ch) args) w := by cases ch <;> first | rfl | (show (callFunc _ _).run _ _ = _; simp only [fDone, Bool.false_eq_true, if_false, if_true]; go_simp)
theorem m_Result (ch : Bool) (q : Nat) (w : World) : (method 273 (tPg ch) (.pointer (some ⟨q, 0, none⟩)) "Result").run Try.prog w = .ok (fResult ch, .pointer (some ⟨q, 0, none⟩)) w := by cases ch <;> kernel_rfl
set_option maxRecDepth 100000 in
theorem c_Result (ch : Bool) (args : Array Value) (w : World) : (callFunc (fResult ch) args).run Try.prog w = .ok (.enter (fResult ch) args) w := by cases ch <;> first | rfl | (show (callFunc _ _).run _ _ = _; simp only [fResult, Bool.false_eq_true, if_false, if_true]; go_simp)
theorem m_Copy (ch : Bool) (q : Nat) (w : World) : (method 273 (tPg ch) (.pointer (some ⟨q, 0, none⟩)) "Copy").run Try.prog w = .ok (fCopy ch, .pointer (some ⟨q, 0, none⟩)) w := by cases ch <;> kernel_rfl
set_option maxRecDepth 100000 in
theorem c_Copy (ch : Bool) (args : Array Value) (w : World) : (callFunc (fCopy ch) args).run Try.prog w = .ok (.enter (fCopy ch) args) w := by cases ch <;> first | rfl | (show (callFunc _ _).run _ _ = _; simp only [fCopy, Bool.false_eq_true, if_false, if_true]; go_simp)

/-- What a step of a program leaves. -/
def PsQ (K : Bool) (w : World) (p d cm qm : Nat) (ch : Bool) (q : Nat) (B : List Nat) (N : Rn) (e : Ending) (w' : World) : Prop :=
  Ret (.tuple #[.bool N.wt, .int .i64 N.e]) (fun w' => Frm (d :: qm :: B) w w' ∧ Mm K w' p d cm qm (nAcc K N.did) N.ws ∧ ∃ B', (∀ x ∈ B', x ∈ B) ∧ PgAt w' ch q B' N.P) e w'
section
variable {K : Bool} {w : World} {p d cm qm q : Nat} {ws : List Int} {ch : Bool} {B : List Nat} {P : Rp}
theorem pStep (h : PgAt w ch q B P) (hen : P.en = false) (hM : Mm K w p d cm qm acc0 ws) :
    Calls Try.prog (fStep ch) #[.pointer (some ⟨q, 0, none⟩), .iface (tMm K) (.pointer (some ⟨aMm K p qm, 0, none⟩))] w (PsQ K w p d cm qm ch q B (nxt P ws)) := by
  obtain ⟨l, t, y, hL, hy, hw⟩ := nxt_way P ws h.ok hen
  have hok := nxt_ok P ws h.ok
  cases h with
  | code h ok r =>
    rename_i b c x
    unfold RelC at r
    rw [if_neg (by rw [hen]; simp)] at r
    obtain ⟨r1, r2⟩ := r
    have hl : l = x.l := by rw [hL] at r1; simpa using (List.cons.inj r1).1
    have ht : t = [] := by rw [hL] at r1; exact (List.cons.inj r1).2
    have hx : x = ⟨l, P.g, P.pc, 0⟩ := by rw [hl]; exact r2
    subst hx
    refine (cStep_at h hM y hy).mono fun e w' hh => ?_
    unfold CsQ at hh
    obtain ⟨he, hF, hM', hA⟩ := hh
    rcases hw with ⟨e0, he0, hc, hN⟩ | ⟨did, hc, hN⟩ | ⟨g, nx, rr, ws', did, hc, hg, hnx, hr, hN⟩
    · rw [hc] at he hM' hA; rw [hN]
      exact ⟨he, hF, hM', _, fun x hx => hx, .code hA ok (by unfold RelC; rw [if_neg (by rw [hen]; simp)]; exact ⟨by rw [hL, ht], rfl⟩)⟩
    · rw [hc] at he hM' hA; rw [hN]
      exact ⟨he, hF, hM', _, fun x hx => hx, .code hA ok (by unfold RelC; rw [if_neg (by rw [hen]; simp)]; exact ⟨by rw [hL, ht], rfl⟩)⟩
    · rw [hc] at he hM' hA; rw [hN] at hok ⊢
      refine ⟨he, hF, hM', _, fun x hx => hx, .code hA hok ?_⟩
      unfold RelC; dsimp only
      by_cases e : nx = l.length
      · rw [if_pos e]
        have hE : (Rp.ends { P with pc := P.pc + 1, g := g } rr) = { P with pc := P.pc + 1, g := g, res := rr, en := true } := by unfold Rp.ends; dsimp only; rw [hL, ht]
        rw [hE, if_pos rfl]; exact ⟨e, rfl⟩
      · rw [if_neg e, if_neg (by dsimp only; rw [hen]; simp)]
        exact ⟨by dsimp only; rw [hL, ht], by rw [hr e]⟩
  | chain h ok hl1 r =>
    rename_i pb o c a cl res
    unfold RelH at r
    rw [if_neg (by rw [hen]; simp)] at r
    have hcs' : hcs P = ⟨l, P.g, P.pc, 0⟩ :: t.map fr := by unfold hcs; rw [hL]
    rw [hcs'] at r
    obtain ⟨e0, cl1, rfl⟩ : ∃ e cl1, cl = e :: cl1 := by
      cases cl with
      | nil => simp at r
      | cons e cl1 => exact ⟨e, cl1, rfl⟩
    rw [List.map_cons, List.cons.injEq] at r
    obtain ⟨r1, r2⟩ := r
    have hfresh : ∀ f ∈ cl1, f.x.nx < f.x.l.length := fun f hf => by
      have : f.x ∈ t.map fr := by rw [← r2]; exact List.mem_map_of_mem hf
      obtain ⟨l2, h2, h3⟩ := List.mem_map.1 this
      rw [← h3]; exact (ok.all l2 (by rw [hL]; exact List.mem_cons_of_mem _ h2)).1
    refine (hStep_at h hM y (by rw [r1]; exact hy) hfresh).mono fun en w' hh => ?_
    rw [r1] at hh
    unfold HsQ at hh
    obtain ⟨he, hF, hM', a', o', c', rs', hC, hres⟩ := hh
    have hF' : Frm (d :: qm :: q :: pb :: (e0 :: cl1).map Ce.q) w w' := hF.weak (by
      intro x hx
      simp only [List.mem_cons, List.not_mem_nil, or_false, List.map_cons] at hx ⊢
      rcases hx with h | h | h | h | h <;> simp [h])
    rcases hw with ⟨e1, he0, hc, hN⟩ | ⟨did, hc, hN⟩ | ⟨g, nx, rr, ws', did, hc, hg, hnx, hr, hN⟩
    · rw [hc] at he hM' hC; rw [hN]
      have hcl : cl' e0 cl1 ⟨false, e1, ⟨l, P.g, P.pc, 0⟩, ws, acc0⟩ = e0 :: cl1 := if_pos he0
      rw [hcl] at hC
      exact ⟨he, hF', hM', _, fun x hx => hx, .chain hC ok hl1 (by unfold RelH; rw [if_neg (by rw [hen]; simp), hcs', List.map_cons, r1, r2])⟩
    · rw [hc] at he hM' hC; rw [hN]
      have hnl : P.pc ≠ l.length := by have := (List.getElem?_eq_some_iff.1 hy).1; omega
      have hcl : cl' e0 cl1 ⟨true, 0, ⟨l, P.g, P.pc, 0⟩, ws, did⟩ = { e0 with x := ⟨l, P.g, P.pc, 0⟩ } :: cl1 := by unfold cl'; rw [if_neg (by simp), if_neg hnl]
      rw [hcl] at hC
      exact ⟨he, hF', hM', q :: pb :: (({ e0 with x := ⟨l, P.g, P.pc, 0⟩ } : Ce) :: cl1).map Ce.q, fun x hx => hx, .chain hC ok hl1 (by unfold RelH; rw [if_neg (by rw [hen]; simp), hcs', List.map_cons, r2])⟩
    · rw [hc] at he hM' hC hres; rw [hN] at hok ⊢
      by_cases e : nx = l.length
      · have hcl : cl' e0 cl1 ⟨false, 0, ⟨l, g, nx, rr⟩, ws', did⟩ = cl1 := by unfold cl'; rw [if_neg (by simp), if_pos e]
        rw [hcl] at hC hres
        rw [if_pos e] at hok
        try dsimp only
        rw [if_pos e]
        refine ⟨he, hF', hM', _, ?_, .chain hC hok (by simp at hl1 ⊢; omega) ?_⟩
        · intro x hx
          simp only [List.mem_cons, List.map_cons] at hx ⊢
          rcases hx with h | h | h
          · exact .inl h
          · exact .inr (.inl h)
          · exact .inr (.inr (.inr h))
        · cases t with
          | nil =>
            have hcl1 : cl1 = [] := by simpa using r2
            have hE : (Rp.ends { P with pc := P.pc + 1, g := g } rr) = { P with pc := P.pc + 1, g := g, res := rr, en := true } := by unfold Rp.ends; dsimp only; rw [hL]
            unfold RelH
            rw [hE, if_pos rfl]; exact ⟨hcl1, hres hcl1⟩
          | cons l2 t =>
            have hE : (Rp.ends { P with pc := P.pc + 1, g := g } rr) = ⟨l2 :: t, 0, [0, 0, 0, 0], 0, false⟩ := by unfold Rp.ends; dsimp only; rw [hL]
            unfold RelH
            rw [hE, if_neg (by simp), r2]; rfl
      · have hcl : cl' e0 cl1 ⟨false, 0, ⟨l, g, nx, rr⟩, ws', did⟩ = { e0 with x := ⟨l, g, nx, rr⟩ } :: cl1 := by unfold cl'; rw [if_neg (by simp), if_neg e]
        rw [hcl] at hC
        rw [if_neg e] at hok
        try dsimp only
        rw [if_neg e]
        refine ⟨he, hF', hM', q :: pb :: (({ e0 with x := ⟨l, g, nx, rr⟩ } : Ce) :: cl1).map Ce.q, fun x hx => hx, .chain hC hok hl1 ?_⟩
        unfold RelH; rw [if_neg (by dsimp only; rw [hen]; simp), List.map_cons, r2]
        unfold hcs; dsimp only; rw [hL, hr e]
theorem pDone (h : PgAt w ch q B P) : Calls Try.prog (fDone ch) #[.pointer (some ⟨q, 0, none⟩)] w (Ret (.bool P.en) (fun w' => Frm [] w w')) := by
  cases h with
  | code h ok r =>
    rename_i b c x
    have hd : decide (x.nx = x.l.length) = P.en := by
      unfold RelC at r
      cases hen : P.en with
      | true => rw [if_pos hen] at r; simpa using r.1
      | false =>
        rw [if_neg (by rw [hen]; simp)] at r
        obtain ⟨_, l, t, hL, hpc⟩ := ok.on hen
        rw [hL] at r
        have hl : l = x.l := (List.cons.inj r.1).1
        have : x.nx = P.pc := by rw [r.2]
        simp; rw [this, ← hl]; omega
    refine (cdone_at h 0).mono ?_
    rw [hd]
    rintro e w' ⟨rfl, m, rfl⟩
    exact ⟨rfl, (Frm.refl _ _).drewN m⟩
  | chain h ok hl r =>
    rename_i pb o c a cl res
    have hd : decide (cl.length = 0) = P.en := by
      unfold RelH at r
      cases hen : P.en with
      | true => rw [if_pos hen] at r; rw [r.1]; rfl
      | false =>
        rw [if_neg (by rw [hen]; simp)] at r
        obtain ⟨_, l, t, hL, hpc⟩ := ok.on hen
        cases cl with
        | nil => unfold hcs at r; rw [hL] at r; simp at r
        | cons e l => rfl
    refine (hdone_at h).mono ?_
    rw [hd]
    rintro e w' ⟨rfl, rfl⟩
    exact ⟨rfl, Frm.refl _ _⟩
theorem pResult (h : PgAt w ch q B P) : Calls Try.prog (fResult ch) #[.pointer (some ⟨q, 0, none⟩)] w (Ret (.int .u64 P.res) (fun w' => Frm [] w w')) := by
  cases h with
  | code h ok r =>
    rename_i b c x
    have hd : x.res = P.res := by
      unfold RelC at r
      cases hen : P.en with
      | true => rw [if_pos hen] at r; exact r.2
      | false => rw [if_neg (by rw [hen]; simp)] at r; rw [r.2, (ok.on hen).1]
    refine (cresult_at h).mono ?_
    rw [hd]
    rintro e w' ⟨rfl, rfl⟩
    exact ⟨rfl, Frm.refl _ _⟩
  | chain h ok hl r =>
    rename_i pb o c a cl res
    have hd : (if cl.length = 0 then res else 0) = P.res := by
      unfold RelH at r
      cases hen : P.en with
      | true => rw [if_pos hen] at r; rw [r.1, r.2]; rfl
      | false =>
        rw [if_neg (by rw [hen]; simp)] at r
        obtain ⟨h0, l, t, hL, hpc⟩ := ok.on hen
        cases cl with
        | nil => unfold hcs at r; rw [hL] at r; simp at r
        | cons e l => rw [if_neg (by simp), h0]
    refine (hresult_at h).mono ?_
    rw [hd]
    rintro e w' ⟨rfl, rfl⟩
    exact ⟨rfl, Frm.refl _ _⟩
theorem pCopy (h : PgAt w ch q B P) : Calls Try.prog (fCopy ch) #[.pointer (some ⟨q, 0, none⟩)] w
    (fun e w' => ∃ q', Ret (.iface (tPg ch) (.pointer (some ⟨q', 0, none⟩))) (fun w' => Frm [] w w' ∧ ∃ B', PgAt w' ch q' B' P ∧ ∀ x ∈ B', w.heap.size ≤ x) e w') := by
  cases h with
  | code h ok r =>
    refine (ccopy_at h).mono ?_
    rintro e w' ⟨q', rfl, hF, hA, hq⟩
    exact ⟨q', rfl, hF, [q'], .code hA ok r, by simpa using hq⟩
  | chain h ok hl r =>
    rename_i pb o c a cl res
    refine (hcopy_at h hl).mono ?_
    rintro e w' ⟨q', rfl, hF, g, dl, hA, hx, hq, hg, hn⟩
    have hdl : dl.length = cl.length := by have := congrArg List.length hx; simpa using this
    refine ⟨q', rfl, hF, _, .chain hA ok (by omega) ?_, ?_⟩
    · unfold RelH at r ⊢
      split
      · rename_i e; rw [if_pos e] at r
        have : cl.length = 0 := by rw [r.1]; rfl
        exact ⟨List.length_eq_zero_iff.1 (by omega), r.2⟩
      · rename_i e; rw [if_neg e] at r; rw [hx]; exact r
    · intro x hx2
      simp only [List.mem_cons, List.mem_map] at hx2
      rcases hx2 with rfl | rfl | ⟨e, he, rfl⟩
      · exact hq
      · exact hg
      · exact hn e he
/-! The wrappers. -/
theorem hE_pg (h : PgAt w ch q B P) : Calls Try.prog 61 #[.iface (tPg ch) (.pointer (some ⟨q, 0, none⟩))] w (Ret (.bool P.en) (fun w' => Frm [] w w')) := by
  have hF : Frm [] w (w.alloc (.cells #[.bool false] 4)) := (Frm.refl _ _).alloc _
  refine hasEnded_any (f := fDone ch) (S := fun w3 => Frm [] (w.alloc (.cells #[.bool false] 4)) w3) (m_Done ch q) (c_Done ch)
    (pDone (h.frm0 hF)) (fun w3 w' h3 hf => (hF.trans h3).trans_new hf (by simp)) (fun w3 h3 => h3.heap (heap_alloc_new _ _) (by simp))
theorem rO_pg (h : PgAt w ch q B P) : Calls Try.prog 62 #[.iface (tPg ch) (.pointer (some ⟨q, 0, none⟩))] w (Ret (.int .u64 P.res) (fun w' => Frm [] w w')) := by
  have hF : Frm [] w (w.alloc (.cells #[.int .u64 0] 28)) := (Frm.refl _ _).alloc _
  refine resultOf_any (f := fResult ch) (S := fun w3 => Frm [] (w.alloc (.cells #[.int .u64 0] 28)) w3) (m_Result ch q) (c_Result ch)
    (pResult (h.frm0 hF)) (fun w3 w' h3 hf => (hF.trans h3).trans_new hf (by simp)) (fun w3 h3 => h3.heap (heap_alloc_new _ _) (by simp))
theorem cO_pg (h : PgAt w ch q B P) : Calls Try.prog 57 #[.iface (tPg ch) (.pointer (some ⟨q, 0, none⟩))] w
    (fun e w' => ∃ q', Ret (.iface (tPg ch) (.pointer (some ⟨q', 0, none⟩))) (fun w' => Frm [] w w' ∧ ∃ B', PgAt w' ch q' B' P ∧ ∀ x ∈ B', w.heap.size ≤ x) e w') := by
  have hF : Frm [] w (w.alloc (.cells #[.nilIface] 27)) := (Frm.refl _ _).alloc _
  refine copyOf_any (f := fCopy ch) (S := fun q' w3 => Frm [] (w.alloc (.cells #[.nilIface] 27)) w3 ∧ ∃ B', PgAt w3 ch q' B' P ∧ ∀ x ∈ B', w.heap.size + 1 ≤ x) (m_Copy ch q) (c_Copy ch)
    ((pCopy (h.frm0 hF)).mono ?_) (fun q' w3 w' h3 hf => ?_) (fun q' w3 h3 => h3.1.heap (heap_alloc_new _ _) (by simp))
  · rintro e w' ⟨q', rfl, h1, B', h2, h3⟩
    exact ⟨q', rfl, h1, B', h2, fun x hx => by simpa using h3 x hx⟩
  · obtain ⟨h1, B', h2, h3⟩ := h3
    refine ⟨(hF.trans h1).trans_new hf (by simp), B', h2.frm hf (fun x hx => by have := h3 x hx; simp; omega) ?_, fun x hx => by have := h3 x hx; omega⟩
    intro x hx; simp at hx; subst hx
    exact ni_of (h1.heap (heap_alloc_new _ _) (by simp)) (by decide)
theorem sO_pg (h : PgAt w ch q B P) (hen : P.en = false) (hM : Mm K w p d cm qm acc0 ws) :
    Calls Try.prog 73 #[.iface (tPg ch) (.pointer (some ⟨q, 0, none⟩)), .iface (tMm K) (.pointer (some ⟨aMm K p qm, 0, none⟩))] w (PsQ K w p d cm qm ch q B (nxt P ws)) := by
  have hF : Frm [] w ((w.alloc (.cells #[.bool false] 4)).alloc (.cells #[.int .i64 0] 38)) := ((Frm.refl _ _).alloc _).alloc _
  have hpl := hM.plt
  have hdl := hM.dlt
  have hqm := hM.qlt
  have hBl := h.lt
  have hx : (nxt P ws).wt = true → (nxt P ws).e = 0 := by
    obtain ⟨l, t, y, hL, hy, ⟨e, he, _, hN⟩ | ⟨did, _, hN⟩ | ⟨g, nx, r, ws', did, _, hg, hnx, hr, hN⟩⟩ := nxt_way P ws h.ok hen <;> rw [hN] <;> simp
  have hS := pStep (h.frm0 hF) hen (hM.frm0 hF)
  generalize nxt P ws = N at hx hS ⊢
  refine Calls.mono (stepOf_any (f := fStep ch) (S := fun w3 => Frm (d :: qm :: B) ((w.alloc (.cells #[.bool false] 4)).alloc (.cells #[.int .i64 0] 38)) w3 ∧ Mm K w3 p d cm qm (nAcc K N.did) N.ws ∧ ∃ B', (∀ x ∈ B', x ∈ B) ∧ PgAt w3 ch q B' N.P)
    (S' := fun w' => Frm (d :: qm :: B) w w' ∧ Mm K w' p d cm qm (nAcc K N.did) N.ws ∧ ∃ B', (∀ x ∈ B', x ∈ B) ∧ PgAt w' ch q B' N.P) hx (m_Step ch q) (c_Step ch) hS (fun w3 w' h3 hf => ?_) (fun w3 h3 => ?_)) (fun _ _ hh => hh)
  · obtain ⟨h1, h2, B', h4, h5⟩ := h3
    have n0 := h1.heap (k := w.heap.size) (heap_alloc_old _ (heap_alloc_new _ _)) (by simp only [List.mem_cons, not_or]; exact ⟨by omega, by omega, fun hx => by have := hBl _ hx; omega⟩)
    have n1 := h1.heap (k := w.heap.size + 1) (heap_alloc_at _ (by simp)) (by simp only [List.mem_cons, not_or]; exact ⟨by omega, by omega, fun hx => by have := hBl _ hx; omega⟩)
    refine ⟨(hF.nil.trans h1).trans_new hf (by simp), h2.frm hf (by simp; omega) (by simp; omega) (by simp; omega), B', h4, h5.frm hf (fun x hx => by have := hBl x (h4 x hx); simp; omega) ?_⟩
    intro x hx
    simp at hx
    rcases hx with rfl | rfl
    · exact ni_of n0 (by decide)
    · exact ni_of n1 (by decide)
  · exact ⟨h3.1.heap (heap_alloc_old _ (heap_alloc_new _ _)) (by simp only [List.mem_cons, not_or]; exact ⟨by omega, by omega, fun hx => by have := hBl _ hx; omega⟩),
      h3.1.heap (heap_alloc_at _ (by simp)) (by simp only [List.mem_cons, not_or]; exact ⟨by omega, by omega, fun hx => by have := hBl _ hx; omega⟩)⟩
end
#print axioms sO_pg
end Go.Proofs.Ytieccmmnfnpcoaa
