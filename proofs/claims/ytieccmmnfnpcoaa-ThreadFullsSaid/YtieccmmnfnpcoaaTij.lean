/- Stage 12: the law's program: chains of new codes. -/
import Derived.Test.YtieccmmnfnpcoaaTii
namespace Go.Proofs.Ytieccmmnfnpcoaa
open Go.ChangeShapes Go.WideShapes Go.ChangeAt Go.RowKit
set_option linter.unusedVariables false
/-- Lists of instructions, as slices one after the other. -/
structure LsL (w : World) (a : Option Addr) (n c b o : Nat) (Ls : List (List Ins)) : Prop where
  len : Ls.length = n
  ad : 0 < n → a = some ⟨b, o, none⟩
  cell : ∀ (i : Nat) (l : List Ins), Ls[i]? = some l → ∃ a' n' c' b' o', w.cell? ⟨b, o + i, none⟩ = some (.slice a' n' c') ∧ InL w a' n' c' b' o' l
  cap : n ≤ c
theorem LsL.frm {D : List Nat} {w w' : World} {a : Option Addr} {n c b o : Nat} {Ls : List (List Ins)} (h : LsL w a n c b o Ls) (hf : Frm D w w') (hd : ∀ x ∈ D, ∀ (i : Nat) (l : List Ins), Ls[i]? = some l → w.heap.size ≤ x) : LsL w' a n c b o Ls := by
  refine ⟨h.len, h.ad, fun i l hl => ?_, h.cap⟩
  obtain ⟨a', n', c', b', o', h1, h2⟩ := h.cell i l hl
  have hb := World.block_lt_of_cell? w _ h1
  refine ⟨a', n', c', b', o', ?_, h2.frm hf (fun hp hx => ?_)⟩
  · rw [hf.cell hb (fun hx => by have := hd b hx i l hl; dsimp only at hb; omega)]; exact h1
  · have := h2.lt hp; have := hd b' hx i l hl; omega
theorem LsL.frm0 {w w' : World} {a : Option Addr} {n c b o : Nat} {Ls : List (List Ins)} (h : LsL w a n c b o Ls) (hf : Frm [] w w') : LsL w' a n c b o Ls := h.frm hf (by simp)
theorem ix_lsl {a : Option Addr} {n c b o k : Nat} (ha : 0 < n → a = some ⟨b, o, none⟩) (hk : k < n) (w : World) : (Instr.indexAt 23 (.slice a n c) (.int .i64 (k : Int))).run Try.prog w = .ok (.pointer (some ⟨b, o + k, none⟩)) w := by
  obtain rfl := ha (by omega)
  have h1 : (k : Int) < (n : Int) := by omega
  simp [go_sem, h1]
def ce0 : Ce := ⟨0, 0, 0, ⟨[], [], 0, 0⟩⟩
def ceF (l : List Ce) (i : Nat) : List Value := [(l.getD i ce0).val]
/-- New codes in a row that grows. -/
structure News (w0 w : World) (a : Option Addr) (c : Nat) (el : List Ce) (Ls : List (List Ins)) : Prop where
  row : Gr 27 1 w0.heap.size w a el.length c (ceF el)
  code : ∀ (i : Nat) (e : Ce), el[i]? = some e → CodeAt w e.q e.b e.c e.x
  new : ∀ (i : Nat) (e : Ce), el[i]? = some e → w0.heap.size ≤ e.q
  new2 : ∀ (i : Nat) (e : Ce), el[i]? = some e → w0.heap.size ≤ e.b
  is : el.map Ce.x = Ls.map fr
theorem News.codes {w0 w : World} {a : Option Addr} {c : Nat} {el : List Ce} {Ls : List (List Ins)} (h : News w0 w a c el Ls) : ∃ pb, Codes w a pb 0 el := by
  by_cases hp : 0 < el.length
  · obtain ⟨g, hg, _, hl, _, hc⟩ := h.row.at_ hp
    refine ⟨g, fun _ => hg, fun i e he => ?_, h.code⟩
    have hi := (List.getElem?_eq_some_iff.1 he).1
    have := hc i hi 0 e.val (by unfold ceF; rw [List.getD_eq_getElem?_getD, he]; rfl)
    rw [Nat.mul_one, Nat.add_zero] at this
    rw [Nat.zero_add]; exact this
  · have : el = [] := List.eq_nil_of_length_eq_zero (by omega)
    subst this
    exact ⟨0, fun h => absurd h (by simp), fun i e h => by simp at h, fun i e h => by simp at h⟩
theorem News.quiet {w0 w w' : World} {a : Option Addr} {c : Nat} {el : List Ce} {Ls : List (List Ins)} (h : News w0 w a c el Ls) (hf : Frm [] w w') : News w0 w' a c el Ls :=
  ⟨h.row.frm0 hf, fun i e he => (h.code i e he).frm0 hf, h.new, h.new2, h.is⟩
theorem News.next {w0 w w' : World} {a a' : Option Addr} {c c' : Nat} {el : List Ce} {Ls : List (List Ins)} {l : List Ins} {q b cc : Nat} (h : News w0 w a c el Ls) (hA : CodeAt w q b cc (fr l)) (hq : w0.heap.size ≤ q) (hb : w0.heap.size ≤ b)
    (hG : Gr 27 1 w0.heap.size w' a' (el.length + 1) c' (upd (ceF el) el.length [.iface 76 (.pointer (some ⟨q, 0, none⟩))])) (hf : Frm (bkG a) w w') : News w0 w' a' c' (el ++ [⟨q, b, cc, fr l⟩]) (Ls ++ [l]) := by
  have hr : ∀ x ∈ bkG a, NI w x := fun x hx => by
    obtain ⟨_, _, ⟨hh, _⟩ | ⟨g, cs, hg, _, hb, _⟩⟩ := h.row
    · rw [hh] at hx; simp [bkG] at hx
    · rw [hg] at hx; simp [bkG] at hx; subst hx; exact ni_of hb (by decide)
  have hc : ∀ (q b c : Nat) (x : Cd), CodeAt w q b c x → CodeAt w' q b c x := fun q b c x hA =>
    hA.frm hf (fun hx => h.row.ne hA.obj (by decide) q hx rfl) (fun hx => hA.bni (hr b hx) rfl)
  have key : ∀ (i : Nat) (x : Ce), (el ++ [(⟨q, b, cc, fr l⟩ : Ce)])[i]? = some x → (el[i]? = some x) ∨ (i = el.length ∧ x = ⟨q, b, cc, fr l⟩) := fun i x hx => by
    rcases Nat.lt_or_ge i el.length with hi | hi
    · rw [List.getElem?_append_left hi] at hx; exact .inl hx
    · rw [List.getElem?_append_right hi] at hx
      have : i - el.length = 0 := by have := (List.getElem?_eq_some_iff.1 hx).1; simp at this; omega
      rw [this] at hx; simp at hx
      exact .inr ⟨by omega, hx.symm⟩
  refine ⟨?_, fun i x hx => ?_, fun i x hx => ?_, fun i x hx => ?_, by rw [List.map_append, List.map_append, h.is]; rfl⟩
  · rw [List.length_append, List.length_singleton]
    refine hG.congr fun k hk => ?_
    unfold ceF
    by_cases e : k = el.length
    · subst e
      rw [upd_eq, List.getD_eq_getElem?_getD, List.getElem?_append_right (Nat.le_refl _), Nat.sub_self]; rfl
    · rw [upd_ne _ _ e, List.getD_eq_getElem?_getD, List.getElem?_append_left (by omega), List.getD_eq_getElem?_getD]
  · rcases key i x hx with h1 | ⟨_, rfl⟩
    · exact hc _ _ _ _ (h.code i x h1)
    · exact hc _ _ _ _ hA
  · rcases key i x hx with h1 | ⟨_, rfl⟩
    · exact h.new i x h1
    · exact hq
  · rcases key i x hx with h1 | ⟨_, rfl⟩
    · exact h.new2 i x h1
    · exact hb
def rp0 (Ls : List (List Ins)) : Rp := ⟨Ls, 0, [0, 0, 0, 0], 0, false⟩
theorem rp0_ok {Ls : List (List Ins)} (hp : 0 < Ls.length) (h : ∀ l ∈ Ls, Lok l) : ROk (rp0 Ls) := by
  cases Ls with
  | nil => simp at hp
  | cons l t => exact ⟨rfl, fun _ => ⟨rfl, l, t, rfl, (h l (by simp)).1⟩, h⟩
/-- A single new code is a program. -/
theorem CodeAt.prog {w : World} {q b c : Nat} {l : List Ins} (h : CodeAt w q b c (fr l)) : PgAt w false q [q] (rp0 [l]) :=
  .code h (rp0_ok (by simp) (fun l' hl => by simp at hl; subst hl; exact ⟨h.pos, h.le, h.ok⟩)) (by unfold RelC rp0; rw [if_neg (by simp)]; exact ⟨rfl, rfl⟩)
theorem ChAt.prog {w : World} {q pb o c : Nat} {a : Option Addr} {cl : List Ce} {Ls : List (List Ins)} (h : ChAt w q pb o c a cl 0) (hx : cl.map Ce.x = Ls.map fr) (hp : 0 < Ls.length) (hl : cl.length ≤ 1000000) : PgAt w true q (q :: pb :: cl.map Ce.q) (rp0 Ls) := by
  have hok : ∀ l ∈ Ls, Lok l := fun l hm => by
    have : fr l ∈ cl.map Ce.x := by rw [hx]; exact List.mem_map_of_mem hm
    obtain ⟨e, he, hfe⟩ := List.mem_map.1 this
    obtain ⟨i, hi⟩ := List.getElem?_of_mem he
    have hc := h.code i e hi
    have h1 := hc.pos; have h2 := hc.le; have h3 := hc.ok
    rw [hfe] at h1 h2 h3
    exact ⟨h1, h2, h3⟩
  refine .chain h (rp0_ok hp hok) hl ?_
  unfold RelH rp0
  rw [if_neg (by simp), hx]
  cases Ls with
  | nil => simp at hp
  | cons l t => rfl
section
variable {w : World} {a : Option Addr} {n c b o : Nat} {Ls : List (List Ins)}
set_option maxRecDepth 100000 in
set_option maxHeartbeats 2000000 in
theorem program_any (h : LsL w a n c b o Ls) (hok : ∀ l ∈ Ls, Lok l) (hp : 0 < n) (hn : n ≤ 1000) : Calls Try.prog 28 #[.slice a n c] w
    (fun e w' => ∃ ch q B, Ret (.iface (tPg ch) (.pointer (some ⟨q, 0, none⟩))) (fun w' => Frm [] w w' ∧ PgAt w' ch q B (rp0 Ls) ∧ ∀ x ∈ B, w.heap.size ≤ x) e w') := by
  have H := Lib.hid h
  have HOK := Lib.hid hok
  have HP := Lib.hid hp
  have hn2 : (n : Int) ≤ 1000 := by omega
  have HNN := Lib.hid hn
  clear h hok hp hn
  go_enter Try.func28, Try.ntmps28
  go_wp2_with fail
  go_loopw [3, 12] (fun sl i wr => ∃ (k : Nat) (el : List Ce) (a1 : Option Addr) (c1 : Nat), k ≤ n ∧ el.length = k ∧ i = .int .i64 k ∧ sl = .slice a1 k c1 ∧ Frm [] w wr ∧ News w wr a1 c1 el (Ls.take k)) (fun _ i _ => n - (intOf i).toNat)
  case atStart => exact ⟨0, [], none, 0, Nat.zero_le _, rfl, rfl, rfl, Frm.refl _ _, ⟨Gr.nil _ _ _ _ _, fun i e he => by simp at he, fun i e he => by simp at he, fun i e he => by simp at he, rfl⟩⟩
  case round =>
    obtain ⟨k, el, a1, c1, hk, hek, rfl, rfl, hF, hNw⟩ := hrel
    by_cases hlt : k < n
    · have hL := H.out.frm0 hF
      obtain ⟨l, hl⟩ : ∃ l, Ls[k]? = some l := ⟨_, List.getElem?_eq_getElem (by rw [H.out.len]; exact hlt)⟩
      obtain ⟨a', n', c', b', o', hcl, hin⟩ := hL.cell k l hl
      have hix := ix_lsl (c := c) hL.ad hlt
      have HNC := Lib.hid (newcode_ok hin (HOK.out l (List.mem_of_getElem? hl)))
      have HF := Lib.hid hF
      have HNw := Lib.hid hNw
      have HL := Lib.hid hl
      have HEK := Lib.hid hek
      clear hF hNw hl hL hin hek
      go_wp2_with fail
      refine HNC.out.mono ?_
      rintro e w1 ⟨q, bq, cq, rfl, hF1, hA1, hq1, hb1⟩
      have hal : Frm [] w1 (w1.alloc (.cells #[.iface 76 (.pointer (some ⟨q, 0, none⟩))] 27)) := (Frm.refl _ _).alloc _
      have hs := HF.out.size
      have hs1 := hF1.size
      have HN1 := Lib.hid ((HNw.out.quiet hF1).quiet hal)
      have HA1 := Lib.hid (hA1.frm0 hal)
      have HGG := Lib.hid (heap_alloc_new w1 (.cells #[.iface 76 (.pointer (some ⟨q, 0, none⟩))] 27))
      have HF1 := Lib.hid ((HF.out.trans hF1).trans hal)
      have hww : w.heap.size ≤ (w1.alloc (.cells #[.iface 76 (.pointer (some ⟨q, 0, none⟩))] 27)).heap.size := HF1.out.size
      have HWW := Lib.hid hww
      have HQ := Lib.hid (And.intro (show w.heap.size ≤ q by omega) (show w.heap.size ≤ bq by omega))
      have hrow := HN1.out.row
      rw [HEK.out] at hrow
      have HROW := Lib.hid hrow
      have HK2 := Lib.hid (show k ≤ 1000000 by omega)
      clear hal hs hs1 hF1 hA1 hww hrow hq1 hb1
      go_wp2_with (at_builtin; refine wpl_gr Try.underlying108 i_prog (by decide) (by decide) (by decide) rfl (.tmp 27) (.tmp 30) rfl (B := w.heap.size) (g2 := w1.heap.size) (l := [.iface 76 (.pointer (some ⟨q, 0, none⟩))]) (by simp [Act.eval]) (by simp [Act.eval]) HROW.out rfl (by simp [Value.oneCell']) HGG.out HK2.out HWW.out ?_; intro a2 c2 w3 hG3 hF3 hb3; have HG3 := Lib.hid hG3; have HF3 := Lib.hid hF3; clear hG3 hF3 hb3)
      go_roundw
      case rel =>
        have hG3 := HG3.out
        rw [← HEK.out] at hG3
        have hN3 := HN1.out.next HA1.out HQ.out.1 HQ.out.2 hG3 HF3.out
        refine ⟨k + 1, el ++ [⟨q, bq, cq, fr l⟩], a2, c2, by omega, by simp [HEK.out], by go_num, rfl, HF1.out.trans_new HF3.out (fun x hx => .inr (HROW.out.from_ x hx).1), ?_⟩
        rw [List.take_add_one, HL.out]; exact hN3
      case measure => simp [intOf]; omega
    · have hkn : k = n := by omega
      subst hkn
      have htk : Ls.take k = Ls := List.take_of_length_le (by rw [H.out.len]; exact Nat.le_refl _)
      rw [htk] at hNw
      obtain ⟨pb, hC⟩ := hNw.codes
      have HF := Lib.hid hF
      have HNw := Lib.hid hNw
      have HC := Lib.hid hC
      have HEK := Lib.hid hek
      by_cases h1 : k = 1
      · subst h1
        obtain ⟨e0, rfl⟩ : ∃ e0, el = [e0] := by
          match el, hek with
          | [e], _ => exact ⟨e, rfl⟩
        obtain ⟨l0, rfl⟩ : ∃ l0, Ls = [l0] := by
          match Ls, H.out.len with
          | [l], _ => exact ⟨l, rfl⟩
        have hcell := hC.cell 0 e0 rfl
        have had := hC.ad (by simp)
        subst had
        have hx0 : e0.x = fr l0 := by have := hNw.is; simpa using this
        have hpg : PgAt wr false e0.q [e0.q] (rp0 [l0]) := by have := hC.code 0 e0 rfl; rw [hx0] at this; exact this.prog
        have hnew := hNw.new 0 e0 rfl
        have HPG := Lib.hid hpg
        clear hF hNw hC hek hpg hx0 htk
        go_wp2
        go_ret
        exact ⟨false, e0.q, [e0.q], rfl, HF.out, HPG.out, by simpa using hnew⟩
      · have hb1 : ((k : Int) == 1) = false := by simp; omega
        obtain ⟨e0, el', rfl⟩ : ∃ e0 el', el = e0 :: el' := by
          cases el with
          | nil => simp at hek; have := HP.out; omega
          | cons e el' => exact ⟨e, el', rfl⟩
        have hx0 : e0.x.nx < e0.x.l.length := by
          have h2 := (hC.code 0 e0 rfl).pos
          have h3 : e0.x ∈ Ls.map fr := by rw [← hNw.is]; simp
          obtain ⟨l2, _, h4⟩ := List.mem_map.1 h3
          rw [← h4]; show 0 < _; rw [← h4] at h2; exact h2
        have hCh := chain_ok hC (by simp at hek ⊢; omega) hx0 c1
        rw [hek] at hCh
        have HCH := Lib.hid hCh
        clear hF hNw hC hek hCh htk h1
        go_wp2_with fail
        refine HCH.out.mono ?_
        rintro e w2 ⟨q', rfl, hF2, g, dl, hA2, hx2, hq2, hg2, hn2'⟩
        have hdl : dl.length = k := by have := congrArg List.length hx2; simp at this; have := HEK.out; simp at this; omega
        have hpg := hA2.prog (hx2.trans HNw.out.is) (by rw [H.out.len]; exact HP.out) (by omega)
        have hs := HF.out.size
        have HPG := Lib.hid hpg
        have HF2 := Lib.hid (HF.out.trans hF2)
        have HNEW := Lib.hid (And.intro hq2 (And.intro hg2 hn2'))
        clear hF2 hA2 hx2 hq2 hg2 hn2' hpg hdl
        go_wp2
        go_ret
        refine ⟨true, q', _, rfl, HF2.out, HPG.out, fun x hx => ?_⟩
        obtain ⟨z1, z2, z3⟩ := HNEW.out
        simp only [List.mem_cons, List.mem_map] at hx
        rcases hx with rfl | rfl | ⟨e, he, rfl⟩
        · omega
        · omega
        · have := z3 e he; omega
end
#print axioms program_any
end Go.Proofs.Ytieccmmnfnpcoaa
