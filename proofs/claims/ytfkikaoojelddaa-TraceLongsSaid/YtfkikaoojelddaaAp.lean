/- append onto a row of the call's own, and where the new row lies; a region's operation taken by hand. No type of the program in it. -/
import Derived.Test.YtfkikaoojelddaaRw
import Derived.Maps.AppendAt
import Derived.Deep.RegionHeld3
namespace Go.Proofs.Ytfkikaoojelddaa
open Go.ChangeShapes Go.WideShapes Go.ChangeAt Go.RowKit

/-- append of integers that are read somewhere, and where the new slice lies. -/
theorem run_app_at {k : IntKind} {t T : TypeId} {z : Value} {by_ : Nat} (hT : Try.prog.underlying T = some (.slice t)) (hi0 : (Try.prog.info? t).map (fun i => (i.zero, i.size, i.bytes)) = some (some z, 1, by_)) (hz : z.cells.size = 1) (hby : by_ ≤ 8)
    {B : Nat} {w : World} {a a2 : Option Addr} {n c m c2 b2 o2 : Nat} {l l2 : List Int} (hR : Row k t B w a n c l) (hL : Li k w a2 m c2 b2 o2 l2) (hn : l.length + m ≤ 10000000) (hB : B ≤ w.heap.size) (ty : TypeId) :
    ∃ a' c' w', (Builtin.append_ #[T, T] ty #[.slice a n c, .slice a2 m c2]).run Try.prog w = .ok (.slice a' (n + m) c') w' ∧ Row k t B w' a' (n + m) c' (l ++ l2) ∧ Frm (Go.Proofs.Ytfkikaoojelddaa.blk (.slice a n c)) w w' ∧
      ∀ x ∈ Go.Proofs.Ytfkikaoojelddaa.blk (.slice a' (n + m) c'), x ∈ Go.Proofs.Ytfkikaoojelddaa.blk (.slice a n c) ∨ w.heap.size ≤ x := by
  obtain ⟨i0, hi, hz0, hz1, hz2⟩ := info_parts hi0
  have hfm := hR.form
  obtain ⟨hO, rfl⟩ := hR
  have hlen := hL.len
  by_cases hm : 0 < m
  · obtain rfl := hL.ad hm
    obtain ⟨v', w', hr, hO2, hg, _, hat⟩ := run_append_own_at (P := Try.prog) w B T ty t i0 z 1 by_ hT hi hz0 hz1 hz2 hz (by decide) _ _ _ hO ⟨b2, o2, none⟩ m c2 (ns k l2) (by rw [ns_length]; omega)
      (fun j u hj => by
        rw [Addr.add_lit]
        have hjl := (List.getElem?_eq_some_iff.1 hj).1
        rw [ns_length] at hjl
        rw [hL.cell j (l2[j]) (List.getElem?_eq_getElem hjl), ← hj]
        simp [ns, List.getElem?_eq_getElem hjl]) (ns_one k l2) (by unfold maxLen; omega) (by
          have : (l.length + m) * by_ ≤ (l.length + m) * 8 := Nat.mul_le_mul_left _ hby
          omega) hB
    obtain ⟨a', c', rfl, _, _⟩ := own_form hO2
    refine ⟨a', c', w', hr, ⟨?_, by simp [hlen]⟩, Frm.grown hg (fun k hk => own_ownb hO k hk), fun x hx => ?_⟩
    · have e : ns k (l ++ l2) = ns k l ++ ns k l2 := by simp [ns]
      rw [e, List.length_append, hlen]; exact hO2
    · cases a' with
      | none => cases hx
      | some a'' =>
        simp [Go.Proofs.Ytfkikaoojelddaa.blk] at hx
        subst hx
        rcases hat with hat | hat
        · exact .inl (own_ownb hO _ hat.symm)
        · simp [Value.ownBlock] at hat; right; omega
  · obtain rfl : m = 0 := by omega
    obtain rfl : l2 = [] := List.eq_nil_of_length_eq_zero hlen
    have := run_append_none (P := Try.prog) w T ty t i0 hT hi a l.length c a2 c2 hfm.1 hfm.2
    exact ⟨a, c, w, this, ⟨by simpa using hO, by simp⟩, Frm.refl _ _, fun x hx => .inl hx⟩
/-- append at an operation in the text's order, and where the new slice lies. -/
theorem wpl_app_at {k : IntKind} {t T : TypeId} {z : Value} {by_ : Nat} (hT : Try.prog.underlying T = some (.slice t)) (hi0 : (Try.prog.info? t).map (fun i => (i.zero, i.size, i.bytes)) = some (some z, 1, by_)) (hz : z.cells.size = 1) (hby : by_ ≤ 8)
    {w : World} {ops : Array Oper} {rest : List Oper} {o : Oper} {x : Act} {Q : Exit → Act → World → Prop} (hgd : o.guard = none) (p q : Operand)
    (ho : o.op = .call { callee := .builtin .append, args := #[p, q], argTypes := #[T, T] }) {B : Nat} {a a2 : Option Addr} {n c m c2 b2 o2 : Nat} {l l2 : List Int}
    (hd : x.eval p = .slice a n c) (hq : x.eval q = .slice a2 m c2) (hR : Row k t B w a n c l) (hL : Li k w a2 m c2 b2 o2 l2) (hn : l.length + m ≤ 10000000) (hB : B ≤ w.heap.size)
    (hK : ∀ a' c' w', Row k t B w' a' (n + m) c' (l ++ l2) → Frm (blk (.slice a n c)) w w' → (∀ x ∈ blk (.slice a' (n + m) c'), x ∈ blk (.slice a n c) ∨ w.heap.size ≤ x) → wpList Try.prog ops Q rest (x.put o.dst (.slice a' (n + m : Nat) c')) w') : wpList Try.prog ops Q (o :: rest) x w := by
  refine wpList_plain hgd fun K hK' => ?_
  obtain ⟨a', c', w', hr, h1, h2, h3⟩ := run_app_at hT hi0 hz hby hR hL hn hB o.type
  unfold Oper.wp
  simp [execOp, ho, resolve, invoke, builtin, hd, hq, hr, Result.andThen]
  exact hK' _ _ (hK _ _ _ h1 h2 h3)
/-- append of integers that are read somewhere, at an operation of a region that is guarded, and wanted. -/
theorem step_appW {k : IntKind} {t T : TypeId} {z : Value} {by_ : Nat} (hT : Try.prog.underlying T = some (.slice t)) (hi0 : (Try.prog.info? t).map (fun i => (i.zero, i.size, i.bytes)) = some (some z, 1, by_)) (hz : z.cells.size = 1) (hby : by_ ≤ 8)
    {w : World} {ops : Array Oper} {o : Oper} {x : Act} {K : Act → World → Prop} {Q : Exit → Act → World → Prop} {E : Prop} (hw : Region.wanted o (yielded ops x.tmps) = true) (p q : Operand)
    (ho : o.op = .call { callee := .builtin .append, args := #[p, q], argTypes := #[T, T] }) {B : Nat} {a a2 : Option Addr} {n c m c2 b2 o2 : Nat} {l l2 : List Int}
    (hd : x.eval p = .slice a n c) (hq : x.eval q = .slice a2 m c2) (hR : Row k t B w a n c l) (hL : Li k w a2 m c2 b2 o2 l2) (hn : l.length + m ≤ 10000000) (hB : B ≤ w.heap.size)
    (hK : ∀ a' c' w', Row k t B w' a' (n + m) c' (l ++ l2) → Frm (blk (.slice a n c)) w w' → (∀ x ∈ blk (.slice a' (n + m) c'), x ∈ blk (.slice a n c) ∨ w.heap.size ≤ x) → K (x.put o.dst (.slice a' (n + m : Nat) c')) w') :
    if Region.wanted o (yielded ops x.tmps) = true then Oper.wp Try.prog o x w K Q else E := by
  rw [if_pos hw]
  obtain ⟨a', c', w', hr, h1, h2, h3⟩ := run_app_at hT hi0 hz hby hR hL hn hB o.type
  unfold Oper.wp
  simp [execOp, ho, resolve, invoke, builtin, hd, hq, hr, Result.andThen]
  exact hK _ _ _ h1 h2 h3

/-- An operation of a region that comes first: one that is wanted, and one that is not. -/
theorem take_in {P : Program} {ops : Array Oper} {Q : Exit → Act → World → Prop} {md : Region.Mode} {S : World → Prop} {i d : Nat} {oi : Oper} {v : Value} {fuel : Nat} {listed : Array Bool} {a : Act} {w : World} (hi : ops[i]? = some oi) (hd : oi.dst = some d)
    (hs : Region.noSelect ops = true) (hf : Region.free md ops listed i = true) (hr : (Region.ready md ops listed).contains i = true) (hQ : ∀ c a w, Q (.panic c) (a.put oi.dst v) w → Q (.panic c) a w)
    (hw : Region.wanted oi (yielded ops a.tmps) = true) (hy : ∀ w, S w → (execOp a.eval oi).run P w = .ok (.value v) w) (hS : S w) (h : wpAnyH P md ops Q S fuel (listed.setIfInBounds i true) (a.put (some d) v) w) : wpAnyH P md ops Q S (fuel + 1) listed a w :=
  wpAnyH_take hi hs hf hr hQ (.inl ⟨hw, hy⟩) hS (by rw [hd]; exact h)
theorem take_out {P : Program} {ops : Array Oper} {Q : Exit → Act → World → Prop} {md : Region.Mode} {S : World → Prop} {i d : Nat} {oi : Oper} {fuel : Nat} {listed : Array Bool} {a : Act} {w : World} (hi : ops[i]? = some oi) (hd : oi.dst = some d)
    (hs : Region.noSelect ops = true) (hf : Region.free md ops listed i = true) (hr : (Region.ready md ops listed).contains i = true) (hQ : ∀ c a w, Q (.panic c) (a.put oi.dst undef) w → Q (.panic c) a w)
    (hw : Region.wanted oi (yielded ops a.tmps) = false) (hS : S w) (h : wpAnyH P md ops Q S fuel (listed.setIfInBounds i true) (a.put (some d) undef) w) : wpAnyH P md ops Q S (fuel + 1) listed a w :=
  wpAnyH_take hi hs hf hr hQ (.inr ⟨hw, rfl⟩) hS (by rw [hd]; exact h)

end Go.Proofs.Ytfkikaoojelddaa
