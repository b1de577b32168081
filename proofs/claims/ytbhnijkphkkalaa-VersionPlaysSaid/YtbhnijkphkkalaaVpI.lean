/- The reference's Next, whole: it makes the same step. (By gen_vpi.py.) -/
import Derived.Test.YtbhnijkphkkalaaVpH
namespace Go.Proofs.Ytbhnijkphkkalaa
open Go.ChangeShapes Go.WideShapes Go.ChangeAt Go.RowKit
set_option linter.unusedVariables false

def RV.arr (R : RV) : Array Value := #[.bool R.W, .int .i64 R.V, .int .i64 R.F, .slice R.la R.ln R.lc, .int .i64 R.many, .int .i64 R.tries, .int .i64 R.steps, .int .u64 R.first, .slice R.ra R.rn R.rcap, .int .u64 R.res, .bool R.ended]
def bkO : Option Addr → List Nat
  | some a => [a.block]
  | none => []
/-- What the reference has read lies somewhere, where it lay, or in a new row. -/
def RdAt (w w' : World) (R R' : RV) (rl' : List Int) : Prop :=
  (∃ rb ro, Li .u64 w' R'.ra R'.rn R'.rcap rb ro rl') ∧ ∀ x ∈ bkO R'.ra, (x ∈ bkO R.ra ∨ w.heap.size ≤ x) ∧ x < w'.heap.size
def NextQ (w : World) (n g : Nat) (P : Pg) (ws : List Int) (R : RV) (e : Ending) (w' : World) : Prop :=
  ∃ R' rl', NxQ w n g (stp P ws).2.2.2 R'.arr (stp P ws).1 (stp P ws).2.1 e w' ∧ Re (stp P ws).2.2.1 R' rl' ∧ (R'.la = R.la ∧ R'.ln = R.ln ∧ R'.lc = R.lc) ∧ RdAt w w' R R' rl'
theorem NxQ.frm {w : World} {n g : Nat} {ws : List Int} {cs : Array Value} {b : Bool} {no : Int} {e : Ending} {w' : World} (h : NxQ w n g ws cs b no e w') : Frm [] w w' := by
  obtain ⟨_, _, _, _, hF, _⟩ := h; exact hF
theorem RdAt.same {w w' : World} {R R' : RV} {rl : List Int} {rb ro : Nat} (hL : Li .u64 w R.ra R.rn R.rcap rb ro rl) (hb : ∀ x ∈ bkO R.ra, x < w.heap.size) (hF : Frm [] w w') (h1 : R'.ra = R.ra) (h2 : R'.rn = R.rn) (h3 : R'.rcap = R.rcap) : RdAt w w' R R' rl := by
  refine ⟨⟨rb, ro, ?_⟩, fun x hx => ?_⟩
  · rw [h1, h2, h3]; exact hL.frm0 hF
  · rw [h1] at hx; exact ⟨.inl hx, Nat.lt_of_lt_of_le (hb x hx) hF.size⟩
theorem RdAt.nil {w w' : World} {R R' : RV} (h1 : R'.ra = none) (h2 : R'.rn = 0) (h3 : R'.rcap = 0) : RdAt w w' R R' [] := by
  refine ⟨⟨0, 0, ?_⟩, fun x hx => ?_⟩
  · rw [h1, h2, h3]; exact Li.nil _ _ _
  · rw [h1] at hx; simp [bkO] at hx
theorem RdAt.new {w w' : World} {R R' : RV} {rl : List Int} (h : NewR w w' R'.ra R'.rn R'.rcap rl) : RdAt w w' R R' rl := by
  obtain ⟨B, hB, hR⟩ := h
  obtain ⟨b, hL⟩ := hR.li
  refine ⟨⟨b, 0, hL⟩, fun x hx => ?_⟩
  have hx' : x ∈ Go.Proofs.Ytbhnijkphkkalaa.blk (.slice R'.ra R'.rn R'.rcap) := by
    cases hr : R'.ra with
    | none => rw [hr] at hx; simp [bkO] at hx
    | some a => rw [hr] at hx; exact hx
  have := hR.blk x hx'
  exact ⟨.inr (by omega), this.2⟩


set_option maxHeartbeats 4000000 in
theorem Next_any {w : World} {P : Pg} {R : RV} {rl ws : List Int} {n g oo c : Nat} (h : Re P R rl) (hok : Ok P) (hf : Fit P) (hn : ws.length = n) (h0 : 0 < n) (hle : n ≤ 65536) (hnw : ∀ x ∈ ws, 0 ≤ x)
    (hrd : Rd w (.slice (some ⟨g, oo, none⟩) n c) (u64s ws)) {lb lo rb ro : Nat} (hLL : P.R = false → Li .u64 w R.la R.ln R.lc lb lo P.buf) (hLR : Li .u64 w R.ra R.rn R.rcap rb ro rl) (hRb : ∀ x ∈ bkO R.ra, x < w.heap.size) (hk0 : P.R = false → P.st = 1 ∨ P.st = 2 → P.k = 0) :
    Calls Try.prog 23 #[R.v, .slice (some ⟨g, oo, none⟩) n c] w (NextQ w n g P ws R) := by
  have hg : g < w.heap.size := hrd.cells.1
  have hre := h
  have hws0 := h.wsteps
  have hrs0 := h.rsteps
  have hfirst0 := h.first
  have hrd0 := h.read
  have mvR : ∀ {w'}, Frm [] w w' → Rd w' (.slice (some ⟨g, oo, none⟩) n c) (u64s ws) := fun hF => hrd.frm hF (by simp)
  by_cases h5 : P.st = 5
  · have he : R.ended = true := by rw [h.ended, h5]; rfl
    have hs : stp P ws = (false, 17, P, ws) := by unfold stp; rw [if_pos h5]
    unfold NextQ
    rw [hs]
    have hcall := next_end (w := w) (W := R.W) (V := R.V) (F := R.F) (la := R.la) (ln := R.ln) (lc := R.lc) (many := R.many) (tries := R.tries) (steps := R.steps) (first := R.first) (ra := R.ra) (rn := R.rn) (rcap := R.rcap) (res := R.res) hrd
    rw [← he] at hcall
    exact hcall.mono fun e w' hh => ⟨R, rl, hh, h, ⟨rfl, rfl, rfl⟩, RdAt.same hLR hRb hh.frm rfl rfl rfl⟩
  have he : R.ended = false := by rw [h.ended]; simpa using h5
  have HA : Hid (∀ w', Frm [] w w' → Calls Try.prog 40 #[R.v] w' (Ret (.agg #[.int .i64 (akind P), .int .i64 ((wrd P.L P.F P.k P.st : Nat) : Int), .int .u64 0, .int .u64 (aaft P)]) (fun w'' => Frm [] w' w''))) :=
    Lib.hid fun w' hF => acc_any h hok hf h5 (fun hR => (hLL hR).frm0 hF)
  have hak : akind P = 1 ∨ akind P = 2 := by unfold akind; split <;> simp
  unfold RV.v at HA ⊢
  rw [he] at HA ⊢
  cases hx : ws[wrd P.L P.F P.k P.st]? with
  | none =>
    have hs : stp P ws = (false, 3, P, ws) := by unfold stp; rw [if_neg h5]; simp only [hx]
    unfold NextQ
    rw [hs]
    have HD : Hid (∀ w', Frm [] w w' → Calls Try.prog 39 _ w' (DoQ w' n g ws 0 0 0 0 3)) := Lib.hid fun w' hF => do_out hn h0 (mvR hF) hle (akind P) hak _ (aaft P) (List.getElem?_eq_none_iff.1 hx)
    refine (next_err hg HA HD hrd).mono fun e w' hh => ⟨R, rl, ?_, h, ⟨rfl, rfl, rfl⟩, RdAt.same hLR hRb hh.frm rfl rfl rfl⟩
    unfold RV.arr; rw [he]; exact hh
  | some v =>
    have hv0 : 0 ≤ v := hnw v (List.mem_of_getElem? hx)
    by_cases s1 : P.st = 1
    · have ha1 : akind P = 1 := by unfold akind; rw [if_pos (.inr s1)]
      have ha2 : aaft P = 0 := by unfold aaft; rw [if_pos (.inr s1)]
      rw [ha1, ha2] at HA
      have HD : Hid (∀ w', Frm [] w w' → Calls Try.prog 39 _ w' (DoQ w' n g ws 1 _ v v 0)) := Lib.hid fun w' hF => do_load hn h0 (mvR hF) hle _ v hx
      have hst0 : R.steps = 0 := by
        cases hR : P.R with
        | false => rcases hws0 hR h5 with h | h | h <;> omega
        | true => rcases hrs0 hR h5 with h | h <;> omega
      rw [hst0] at HA ⊢
      by_cases hev : v % 2 = 0
      · have hcall := next_look hg HA HD hev hv0
        cases hR : P.R with
        | false =>
          have hs : stp P ws = (false, 0, ⟨P.R, P.L, P.F, P.buf, P.k, 2, v, P.res, P.tr⟩, ws) := by unfold stp; rw [if_neg h5]; simp only [hx]; rw [if_pos s1, if_neg (by omega), hR]; rfl
          unfold NextQ
          rw [hs]
          refine hcall.mono fun e w' hh => ⟨{ R with steps := 1, first := v, ended := false }, rl, hh, ⟨h.w, h.v, h.f, h.ln, h.many, h.tries, rfl, h.res, rfl, h.rn, fun _ _ => .inr (.inl ⟨rfl, rfl⟩), (fun hh _ => absurd (hR.symm.trans hh) (by decide)), (fun hh => absurd (hR.symm.trans hh) (by decide))⟩, ⟨rfl, rfl, rfl⟩, RdAt.same hLR hRb hh.frm rfl rfl rfl⟩
        | true =>
          have hs : stp P ws = (false, 0, ⟨P.R, P.L, P.F, P.buf, P.k, nxt P.k P.buf.length, v, P.res, P.tr⟩, ws) := by unfold stp; rw [if_neg h5]; simp only [hx]; rw [if_pos s1, if_neg (by omega), hR]; rfl
          unfold NextQ
          rw [hs]
          have hkr : P.k = 0 ∧ rl = [] := by rcases hrs0 hR h5 with h | h <;> first | exact ⟨h.2.1, h.2.2.2⟩ | (exfalso; omega)
          have hnx := nxt_cases P.k P.buf.length
          refine hcall.mono fun e w' hh => ⟨{ R with steps := 1, first := v, ended := false }, rl, hh, ⟨h.w, h.v, h.f, h.ln, h.many, h.tries, rfl, h.res, ?_, h.rn, (fun hh => absurd (hR.symm.trans hh) (by decide)), fun _ _ => .inr ⟨?_, ?_, ?_⟩, fun _ hh => ?_⟩, ⟨rfl, rfl, rfl⟩, RdAt.same hLR hRb hh.frm rfl rfl rfl⟩
          · show false = decide (nxt P.k P.buf.length = 5)
            rcases hnx with h | h <;> rw [h.1] <;> rfl
          · rcases hnx with h | h
            · exact .inl h.1
            · exact .inr ⟨h.1, by show P.k = P.buf.length; have := hf.kle; omega⟩
          · show (1 : Int) = 1 + (P.k : Int); omega
          · show rl = P.buf.take P.k; rw [hkr.1, hkr.2]; rfl
          · exfalso; have hh' : nxt P.k P.buf.length = 5 := hh; rcases hnx with h | h <;> omega
      · have hod : v % 2 = 1 := by omega
        cases hR : P.R with
        | false =>
          have hW : R.W = true := by rw [h.w, hR]; rfl
          have hs : stp P ws = (false, 8, P, ws) := by unfold stp; rw [if_neg h5]; simp only [hx]; rw [if_pos s1, if_pos (by omega), hR]; rfl
          unfold NextQ
          rw [hs]
          rw [hW] at HA ⊢
          refine (next_state hg HA HD hrd hod hv0).mono fun e w' hh => ⟨R, rl, ?_, h, ⟨rfl, rfl, rfl⟩, RdAt.same hLR hRb hh.frm rfl rfl rfl⟩
          unfold RV.arr; rw [he, hst0, hW]; exact hh
        | true =>
          have hW : R.W = false := by rw [h.w, hR]; rfl
          have hs : stp P ws = (true, 0, P, ws) := by unfold stp; rw [if_neg h5]; simp only [hx]; rw [if_pos s1, if_pos (by omega), hR]; rfl
          unfold NextQ
          rw [hs]
          rw [hW] at HA ⊢
          refine (next_wait hg HA HD hrd hod hv0).mono fun e w' hh => ⟨R, rl, ?_, h, ⟨rfl, rfl, rfl⟩, RdAt.same hLR hRb hh.frm rfl rfl rfl⟩
          unfold RV.arr; rw [he, hst0, hW]; exact hh
    · cases hR : P.R with
      | false =>
        have hW : R.W = true := by rw [h.w, hR]; rfl
        rw [hW] at HA ⊢
        have ha1 : akind P = 2 := by unfold akind; rw [if_neg (by rw [hR]; simp [s1])]
        have ha2 : aaft P = val P.buf P.k P.st P.was := by unfold aaft; rw [if_neg (by rw [hR]; simp [s1])]
        rw [ha1, ha2] at HA
        have HD : Hid (∀ w', Frm [] w w' → Calls Try.prog 39 _ w' (DoQ w' n g (ws.set (wrd P.L P.F P.k P.st) (val P.buf P.k P.st P.was)) 2 _ v (val P.buf P.k P.st P.was) 0)) := Lib.hid fun w' hF => do_store hn h0 (mvR hF) hle _ v _ hx
        have hln := h.ln hR
        have hle2 := hf.le
        rcases hws0 hR h5 with ⟨e1, _⟩ | ⟨e1, e2⟩ | ⟨e1, e2⟩
        · exact absurd e1 s1
        · have hs : stp P ws = (false, 0, ⟨P.R, P.L, P.F, P.buf, P.k, nxt P.k P.buf.length, P.was, P.res, P.tr⟩, ws.set (wrd P.L P.F P.k P.st) (val P.buf P.k P.st P.was)) := by unfold stp; rw [if_neg h5]; simp only [hx]; rw [if_neg s1, hR, if_neg (by decide), if_pos e1]
          unfold NextQ
          rw [hs]
          have hnx := nxt_cases P.k P.buf.length
          have hk2 : P.k = 0 := hk0 hR (.inr e1)
          refine (next_wmid hg HA HD hv0 (by omega) (by omega) (by omega)).mono fun e w' hh => ⟨{ R with W := true, steps := R.steps + 1, ended := false }, rl, hh, ⟨by rw [hR]; rfl, h.v, h.f, h.ln, h.many, h.tries, h.first, h.res, ?_, h.rn, fun _ _ => .inr (.inr ⟨?_, ?_⟩), (fun hh _ => absurd (hR.symm.trans hh) (by decide)), (fun hh => absurd (hR.symm.trans hh) (by decide))⟩, ⟨rfl, rfl, rfl⟩, RdAt.same hLR hRb hh.frm rfl rfl rfl⟩
          · show false = decide (nxt P.k P.buf.length = 5)
            rcases hnx with h | h <;> rw [h.1] <;> rfl
          · rcases hnx with h | h
            · exact .inl h.1
            · exact .inr ⟨h.1, by show P.k = P.buf.length; have := hf.kle; omega⟩
          · show R.steps + 1 = 2 + (P.k : Int); omega
        · rcases e1 with e1 | ⟨e1, hkn⟩
          · have hk := hok.word e1
            have hs : stp P ws = (false, 0, ⟨P.R, P.L, P.F, P.buf, P.k + 1, nxt (P.k + 1) P.buf.length, P.was, P.res, P.tr⟩, ws.set (wrd P.L P.F P.k P.st) (val P.buf P.k P.st P.was)) := by unfold stp; rw [if_neg h5]; simp only [hx]; rw [if_neg s1, hR, if_neg (by decide), if_neg (by omega), if_pos e1]
            unfold NextQ
            rw [hs]
            have hnx := nxt_cases (P.k + 1) P.buf.length
            refine (next_wmid hg HA HD hv0 (by omega) (by omega) (by omega)).mono fun e w' hh => ⟨{ R with W := true, steps := R.steps + 1, ended := false }, rl, hh, ⟨by rw [hR]; rfl, h.v, h.f, h.ln, h.many, h.tries, h.first, h.res, ?_, h.rn, fun _ _ => .inr (.inr ⟨?_, ?_⟩), (fun hh _ => absurd (hR.symm.trans hh) (by decide)), (fun hh => absurd (hR.symm.trans hh) (by decide))⟩, ⟨rfl, rfl, rfl⟩, RdAt.same hLR hRb hh.frm rfl rfl rfl⟩
            · show false = decide (nxt (P.k + 1) P.buf.length = 5)
              rcases hnx with h | h <;> rw [h.1] <;> rfl
            · rcases hnx with h | h
              · exact .inl h.1
              · exact .inr ⟨h.1, by show P.k + 1 = P.buf.length; omega⟩
            · show R.steps + 1 = 2 + ((P.k + 1 : Nat) : Int); omega
          · have hs : stp P ws = (false, 0, ⟨P.R, P.L, P.F, P.buf, P.k, 5, P.was, 1, P.tr⟩, ws.set (wrd P.L P.F P.k P.st) (val P.buf P.k P.st P.was)) := by unfold stp; rw [if_neg h5]; simp only [hx]; rw [if_neg s1, hR, if_neg (by decide), if_neg (by omega), if_neg (by omega)]
            unfold NextQ
            rw [hs]
            exact (next_wend hg HA HD hv0 (by omega) (by omega)).mono fun e w' hh => ⟨{ R with W := true, steps := R.steps + 1, res := 1, ended := true }, rl, hh, ⟨by rw [hR]; rfl, h.v, h.f, h.ln, h.many, h.tries, h.first, rfl, rfl, h.rn, (fun _ hh => absurd rfl hh), (fun hh _ => absurd (hR.symm.trans hh) (by decide)), (fun hh => absurd (hR.symm.trans hh) (by decide))⟩, ⟨rfl, rfl, rfl⟩, RdAt.same hLR hRb hh.frm rfl rfl rfl⟩
      | true =>
        have hW : R.W = false := by rw [h.w, hR]; rfl
        rw [hW] at HA ⊢
        have ha1 : akind P = 1 := by unfold akind; rw [if_pos (.inl hR)]
        have ha2 : aaft P = 0 := by unfold aaft; rw [if_pos (.inl hR)]
        rw [ha1, ha2] at HA
        have HD : Hid (∀ w', Frm [] w w' → Calls Try.prog 39 _ w' (DoQ w' n g ws 1 _ v v 0)) := Lib.hid fun w' hF => do_load hn h0 (mvR hF) hle _ v hx
        have hmany := h.many hR
        have htr := h.tries hR
        have hle2 := hf.le
        have hot := hok.tries hR h5
        rcases hrs0 hR h5 with ⟨e1, _⟩ | ⟨e1, e2, e3⟩
        · exact absurd e1 s1
        · rcases e1 with e1 | ⟨e1, hkn⟩
          · have hk := hok.word e1
            have hs : stp P ws = (false, 0, ⟨P.R, P.L, P.F, P.buf.set P.k v, P.k + 1, nxt (P.k + 1) P.buf.length, P.was, P.res, P.tr⟩, ws) := by unfold stp; rw [if_neg h5]; simp only [hx]; rw [if_neg s1, hR, if_pos rfl, if_pos e1]
            unfold NextQ
            rw [hs]
            have hnx := nxt_cases (P.k + 1) P.buf.length
            have hrnl := h.rn
            have hrl : rl.length = P.k := by rw [e3, List.length_take]; omega
            refine (next_read hg HA HD hv0 (by omega) (by omega) (by omega) hLR (by omega)).mono fun e w' hh => ?_
            obtain ⟨a2, k2, hN, hNew⟩ := hh
            refine ⟨{ R with W := false, steps := R.steps + 1, ra := a2, rn := R.rn + 1, rcap := k2, ended := false }, rl ++ [v], hN, ⟨by rw [hR]; rfl, h.v, h.f, (fun hh => absurd (hR.symm.trans hh) (by decide)), fun _ => by show R.many = ((P.buf.set P.k v).length : Int); rw [List.length_set]; exact hmany, h.tries, h.first, h.res, ?_, by show R.rn + 1 = (rl ++ [v]).length; rw [List.length_append]; simp [hrnl], (fun hh => absurd (hR.symm.trans hh) (by decide)), fun _ _ => .inr ⟨?_, ?_, ?_⟩, fun _ hh => ?_⟩, ⟨rfl, rfl, rfl⟩, RdAt.new hNew⟩
            · show false = decide (nxt (P.k + 1) P.buf.length = 5)
              rcases hnx with h | h <;> rw [h.1] <;> rfl
            · rcases hnx with h | h
              · exact .inl h.1
              · exact .inr ⟨h.1, by show P.k + 1 = (P.buf.set P.k v).length; rw [List.length_set]; omega⟩
            · show R.steps + 1 = 1 + ((P.k + 1 : Nat) : Int); omega
            · show rl ++ [v] = (P.buf.set P.k v).take (P.k + 1)
              rw [List.take_succ_eq_append_getElem (by simp; exact hk), List.take_set_of_le (Nat.le_refl _), e3]; simp
            · exfalso; have hh' : nxt (P.k + 1) P.buf.length = 5 := hh; rcases hnx with h | h <;> omega
          · have hrb : rl = P.buf := by rw [e3, hkn, List.take_of_length_le (Nat.le_refl _)]
            by_cases hvw : v = P.was
            · have hs : stp P ws = (false, 0, ⟨P.R, P.L, P.F, P.buf, P.k, 5, P.was, 1, P.tr⟩, ws) := by unfold stp; rw [if_neg h5]; simp only [hx]; rw [if_neg s1, hR, if_pos rfl, if_neg (by omega), if_pos hvw]
              unfold NextQ
              rw [hs]
              exact (next_same hg HA HD hv0 (by omega) (by omega) (by omega) (hvw.trans h.first.symm)).mono fun e w' hh => ⟨{ R with W := false, steps := R.steps + 1, res := 1, ended := true }, rl, hh, ⟨by rw [hR]; rfl, h.v, h.f, (fun hh => absurd (hR.symm.trans hh) (by decide)), h.many, h.tries, h.first, rfl, rfl, h.rn, (fun hh => absurd (hR.symm.trans hh) (by decide)), (fun _ hh => absurd rfl hh), fun _ _ _ => hrb⟩, ⟨rfl, rfl, rfl⟩, RdAt.same hLR hRb hh.frm rfl rfl rfl⟩
            · have hvf : v ≠ R.first := fun e => hvw (e.trans h.first)
              by_cases ht : P.tr = 1
              · have hs : stp P ws = (false, 0, ⟨P.R, P.L, P.F, P.buf, 0, 5, P.was, 0, 0⟩, ws) := by unfold stp; rw [if_neg h5]; simp only [hx]; rw [if_neg s1, hR, if_pos rfl, if_neg (by omega), if_neg hvw, if_pos ht]
                unfold NextQ
                rw [hs]
                have hr0 : R.res = 0 := by rw [h.res]; exact hok.res h5
                rw [htr, ht] at HA ⊢
                exact (next_fail hg HA HD hv0 (by omega) (by omega) (by omega) hvf).mono fun e w' hh => ⟨{ R with W := false, tries := 0, steps := 0, ra := none, rn := 0, rcap := 0, ended := true }, [], hh, ⟨by rw [hR]; rfl, h.v, h.f, (fun hh => absurd (hR.symm.trans hh) (by decide)), h.many, fun _ => rfl, h.first, hr0, rfl, rfl, (fun hh => absurd (hR.symm.trans hh) (by decide)), (fun _ hh => absurd rfl hh), (fun _ _ hh => absurd hh (by show (0 : Int) ≠ 1; decide))⟩, ⟨rfl, rfl, rfl⟩, RdAt.nil rfl rfl rfl⟩
              · have hs : stp P ws = (false, 0, ⟨P.R, P.L, P.F, P.buf, 0, 1, P.was, P.res, P.tr - 1⟩, ws) := by unfold stp; rw [if_neg h5]; simp only [hx]; rw [if_neg s1, hR, if_pos rfl, if_neg (by omega), if_neg hvw, if_neg ht]
                unfold NextQ
                rw [hs]
                exact (next_again hg HA HD hv0 (by omega) (by omega) (by omega) hvf (by omega) (by omega)).mono fun e w' hh => ⟨{ R with W := false, tries := R.tries - 1, steps := 0, ra := none, rn := 0, rcap := 0, ended := false }, [], hh, ⟨by rw [hR]; rfl, h.v, h.f, (fun hh => absurd (hR.symm.trans hh) (by decide)), h.many, fun _ => by show R.tries - 1 = P.tr - 1; rw [htr], h.first, h.res, rfl, rfl, (fun hh => absurd (hR.symm.trans hh) (by decide)), fun _ _ => .inl ⟨rfl, rfl, rfl, rfl⟩, (fun _ hh => absurd hh (by show (1 : Int) ≠ 5; decide))⟩, ⟨rfl, rfl, rfl⟩, RdAt.nil rfl rfl rfl⟩
#print axioms Next_any
end Go.Proofs.Ytbhnijkphkkalaa
