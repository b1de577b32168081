/- Layer 4: the examples of the chapter. -/
import Derived.Test.YtegoggnocpgoiaaScrU
namespace Go.Proofs.Ytegoggnocpgoiaa
open Go.ChangeShapes Go.WideShapes Go.ChangeAt Go.RowKit

theorem key_is (x : Int) (h : 0 ≤ x ∧ x ≤ 255) (s : ByteArray) (hs : keyB x = s) (w : World) : Calls Try.prog 17 #[.int .u8 x] w (Ret (.string s) (fun w' => Frm [] w w')) := by
  subst hs; exact key_any x h.1 h.2 w
theorem val_is (x : Int) (h : 0 ≤ x ∧ x ≤ 255) (s : ByteArray) (hs : valB x = s) (w : World) : Calls Try.prog 19 #[.int .u8 x] w (Ret (.string s) (fun w' => Frm [] w w')) := by
  subst hs; exact value_any x h.1 h.2 w
theorem parses_is {w : World} {a : Option Addr} {n c b o : Nat} {l : List Int} (hL : Li .u8 w a n c b o l) (hB : Byt l) (hn : n ≤ 4096) (t : Int) (hm : mb t = true) {m : List Opr} (he : prs l t = m) {a2 : Option Addr} {n2 c2 b2 o2 : Nat} (hW : Lo w a2 n2 c2 b2 o2 m) :
    Calls Try.prog 9 #[.slice a n c, .int .i64 t, .int .i64 0, .slice a2 n2 c2] w (Ret (.bool true) (fun w' => Frm [] w w')) := by
  subst he; exact parses_ok hL hB hn t hm hW
theorem qnext_is {w : World} {a : Option Addr} {n c b o : Nat} {l : List Int} (hL : Li .u8 w a n c b o l) (hB : Byt l) (h0 : 0 < n) (hn : n ≤ 2147483647) (t : Int) (hm : mb t = true) {x : Opr} {z : Int} (hx : nx l t = x) (hz : ((min (nxN l) n : Nat) : Int) = z) :
    Calls Try.prog 10 #[.slice a n c, .int .i64 t, .agg #[.int .i64 x.k, .int .i64 x.t, .int .i64 x.n, .int .i64 x.v, .string x.key, .string x.val, .string x.old, .int .i64 x.tk], .int .i64 z, .int .i64 0] w (Ret (.bool true) (fun w' => Frm [] w w')) := by
  subst hx hz; exact qnext_ok hL hB h0 hn t hm
theorem valid_is (w : World) (o : Opr) (h : OpOk o) (r : Bool) (hr : (wr o).isSome = r) : Calls Try.prog 15 #[.agg #[.int .i64 o.k, .int .i64 o.t, .int .i64 o.n, .int .i64 o.v, .string o.key, .string o.val, .string o.old, .int .i64 o.tk]] w (Ret (.bool r) (fun w' => Frm [] w w')) := by
  subst hr; exact valid_any w o h
theorem ok_lit {o : Opr} (h1 : o.key.size ≤ 1000) (h2 : o.val.size ≤ 1000) (h3 : o.old.size ≤ 1000) : OpOk o := by
  unfold OpOk maxLen; omega
theorem ok_nx1 (l : List Int) (t : Int) {o : Opr} (h : nx l t = o) : OpOk o := by subst h; exact nx_ok l t
abbrev aA : ByteArray := ⟨#[97, 97]⟩
abbrev cC : ByteArray := ⟨#[99, 99]⟩
abbrev dD : ByteArray := ⟨#[100, 100, 100]⟩
abbrev abX : ByteArray := ⟨#[97, 98, 120]⟩

theorem nineteen : (⟨#[98, 100]⟩ : ByteArray) ++ reps 120 19 = keyB 19 := by
  have := key_eq (x := 19) (by omega) (by omega)
  rw [← this]; rfl
theorem byt_of {l : List Int} (h : l.all (fun x => decide (0 ≤ x ∧ x ≤ 255)) = true) : Byt l := fun x hx => by
  have := List.all_eq_true.1 h x hx
  simpa using this

theorem p1 : prs [8, 3, 3, 9, 4, 7] 2 = [⟨1, 1, 4, 0, noB, noB, noB, 0⟩, ⟨2, 0, 9, 0, noB, noB, noB, 0⟩, ⟨4, 0, 8, 0, noB, noB, noB, 0⟩] := by rfl
theorem p2 : prs [5, 0, 19, 14, 41, 0, 2, 7, 4, 1, 2, 3] 3 = [⟨3, 0, 0, 1, keyB 19, noB, noB, 0⟩, ⟨3, 1, 0, 2, aA, cC, noB, 5⟩, ⟨3, 0, 0, 5, abX, dD, cC, 0⟩] := by rfl
theorem p3 : prs [5, 5, 1, 40, 13, 6, 5, 15] 1 = [⟨3, 0, 9, 6, abX, noB, noB, 0⟩, ⟨3, 0, 0, 7, noB, noB, noB, 0⟩, ⟨3, 0, 0, 8, noB, noB, noB, 1⟩] := by rfl
theorem p4 : prs [6] 1 = [⟨3, 0, 0, 1, aA, noB, noB, 0⟩] := by rfl
theorem p5 : nx [6, 7, 9] 1 = ⟨3, 0, 0, 8, noB, noB, noB, 0⟩ := by rfl
theorem wl1 : wrA [⟨1, 1, 4, 0, noB, noB, noB, 0⟩, ⟨4, 0, 8, 0, noB, noB, noB, 0⟩] = some [8, 3, 4, 7] := by
  have e1 := wr_nx (l := [8, 3]) (t := 2) (byt_of (by decide)) (by omega) (by omega)
  have e2 := wr_nx (l := [4, 7]) (t := 2) (byt_of (by decide)) (by omega) (by omega)
  have f1 : nx [8, 3] 2 = ⟨1, 1, 4, 0, noB, noB, noB, 0⟩ := by rfl
  have f2 : nx [4, 7] 2 = ⟨4, 0, 8, 0, noB, noB, noB, 0⟩ := by rfl
  rw [f1] at e1
  rw [f2] at e2
  unfold wrA wrA wrA
  rw [e1, e2]; rfl
theorem wl2 : wrA [⟨3, 0, 0, 2, aA, cC, noB, 5⟩] = some [5, 41, 0, 2] := by
  have e1 := wr_nx (l := [5, 41, 0, 2]) (t := 2) (byt_of (by decide)) (by omega) (by omega)
  have f1 : nx [5, 41, 0, 2] 2 = ⟨3, 0, 0, 2, aA, cC, noB, 5⟩ := by rfl
  rw [f1] at e1
  unfold wrA wrA
  rw [e1]
  have : sb ⟨3, 0, 0, 2, aA, cC, noB, 5⟩ = [5, 41, 0, 2] := by
    have hk : kn aA = 0 := by decide
    have hv : vn cC = 2 := vn_hit (k := 2) (by omega) (by
      intro j hj
      match j, hj with
      | 0, _ => decide
      | 1, _ => decide) (by rfl)
    unfold sb sbq sbp
    simp [vc, hk, hv]
  rw [this]; rfl
theorem wl3 : wrA [⟨1, 32, 1, 0, noB, noB, noB, 0⟩] = none := by
  have : wr ⟨1, 32, 1, 0, noB, noB, noB, 0⟩ = none := by
    apply wr_none
    intro h
    have := congrArg Opr.t h
    revert this
    decide
  unfold wrA; rw [this]; rfl
theorem wl4 : (wr ⟨2, 1, 0, 0, noB, noB, noB, 0⟩).isSome = false := by
  have : wr ⟨2, 1, 0, 0, noB, noB, noB, 0⟩ = none := by
    apply wr_none
    intro h
    have := congrArg Opr.t h
    revert this
    decide
  rw [this]; rfl
end Go.Proofs.Ytegoggnocpgoiaa
