/- The examples of the chapter: what each call of them does. -/
import Derived.Test.YtamnhpcbflpabaaClkS
namespace Go.Proofs.Ytamnhpcbflpabaa
open Go.ChangeShapes Go.WideShapes Go.ChangeAt Go.RowKit

instance (l : List Al) : Decidable (Sorted l) := inferInstanceAs (Decidable (List.Pairwise _ l))
theorem tk10 : tk 10 = true := by decide
theorem tk12 : tk 12 = true := by decide
/-- What an operation leaves of a clock. -/
def Left (w : World) (p : Nat) (now : Int) (v : Value) (l : List Al) (r : Value) (e : Ending) (w' : World) : Prop :=
  ∃ v', Ret r (fun w' => Frm (p :: blk v) w w' ∧ ClockAt w' p now v' l ∧ ∀ x ∈ blk v', x ∈ blk v ∨ w.heap.size ≤ x) e w'
theorem set_is {w : World} {p : Nat} {now : Int} {v : Value} {l l' : List Al} {e : Int} (hK : ClockAt w p now v l) (hs : Sorted l) (hl : l.length ≤ 4096) (id at' : Int) (he : sErr l id at' = e) (hL : sL l id at' = l') :
    Calls Try.prog 15 #[.pointer (some ⟨p, 0, none⟩), .int .i64 id, .int .i64 at'] w (Left w p now v l' (.int .i64 e)) := by
  subst he hL; exact set_any hK hs hl id at'
theorem clear_is {w : World} {p : Nat} {now : Int} {v : Value} {l l' : List Al} {e : Int} (hK : ClockAt w p now v l) (hl : l.length ≤ 4096) (id : Int) (he : cErr l id = e) (hL : cL l id = l') :
    Calls Try.prog 20 #[.pointer (some ⟨p, 0, none⟩), .int .i64 id] w (Left w p now v l' (.int .i64 e)) := by
  subst he hL; exact clear_any hK hl id
theorem next_is {w : World} {p : Nat} {now : Int} {v : Value} {l : List Al} {t : Int} (hK : ClockAt w p now v l) (ht : nxt l = t) :
    Calls Try.prog 21 #[.pointer (some ⟨p, 0, none⟩)] w (Ret (.int .i64 t) (fun w' => w = w')) := by
  subst ht; exact next_clk hK
theorem k_set1 {w : World} {p : Nat} {v : Value} (hK : ClockAt w p 10 v []) : Calls Try.prog 15 #[.pointer (some ⟨p, 0, none⟩), .int .i64 7, .int .i64 12] w (Left w p 10 v [(7, 12)] (.int .i64 0)) :=
  set_is hK (by decide) (by decide) 7 12 (by decide) (by decide)
theorem k_set2 {w : World} {p : Nat} {v : Value} (hK : ClockAt w p 10 v [(7, 12)]) : Calls Try.prog 15 #[.pointer (some ⟨p, 0, none⟩), .int .i64 3, .int .i64 12] w (Left w p 10 v [(3, 12), (7, 12)] (.int .i64 0)) :=
  set_is hK (by decide) (by decide) 3 12 (by decide) (by decide)
theorem k_set3 {w : World} {p : Nat} {v : Value} (hK : ClockAt w p 10 v [(3, 12), (7, 12)]) : Calls Try.prog 15 #[.pointer (some ⟨p, 0, none⟩), .int .i64 9, .int .i64 4] w (Left w p 10 v [(9, 4), (3, 12), (7, 12)] (.int .i64 0)) :=
  set_is hK (by decide) (by decide) 9 4 (by decide) (by decide)
theorem k_set4 {w : World} {p : Nat} {v : Value} (hK : ClockAt w p 10 v [(9, 4), (3, 12), (7, 12)]) : Calls Try.prog 15 #[.pointer (some ⟨p, 0, none⟩), .int .i64 7, .int .i64 1] w (Left w p 10 v [(9, 4), (3, 12), (7, 12)] (.int .i64 11)) :=
  set_is hK (by decide) (by decide) 7 1 (by decide) (by decide)
theorem k_next {w : World} {p : Nat} {v : Value} (hK : ClockAt w p 10 v [(9, 4), (3, 12), (7, 12)]) : Calls Try.prog 21 #[.pointer (some ⟨p, 0, none⟩)] w (Ret (.int .i64 4) (fun w' => w = w')) := next_is hK rfl
theorem k_alarms {w : World} {p : Nat} {v : Value} (hK : ClockAt w p 10 v [(9, 4), (3, 12), (7, 12)]) : Calls Try.prog 19 #[.pointer (some ⟨p, 0, none⟩)] w
    (Ret (.slice (some ⟨w.heap.size, 0, none⟩) 3 3) (fun w' => Frm [] w w' ∧ w'.heap[w.heap.size]? = some (.cells #[.int .i64 9, .int .i64 4, .int .i64 3, .int .i64 12, .int .i64 7, .int .i64 12] 47 (0, 0)))) := alarms_clk hK (by decide)
theorem k_same {w : World} {g h : Nat} (hg : w.heap[g]? = some (.cells #[.int .i64 9, .int .i64 4, .int .i64 3, .int .i64 12, .int .i64 7, .int .i64 12] 47 (0, 0)))
    (hh : w.heap[h]? = some (.cells #[.int .i64 9, .int .i64 4, .int .i64 3, .int .i64 12, .int .i64 7, .int .i64 12] 47 (0, 0))) :
    Calls Try.prog 25 #[.slice (some ⟨g, 0, none⟩) 3 3, .slice (some ⟨h, 0, none⟩) 3 3] w (Ret (.bool true) (fun w' => Frm [] w w')) :=
  same_any (l1 := [(9, 4), (3, 12), (7, 12)]) (l2 := [(9, 4), (3, 12), (7, 12)]) (als_given rfl hg (by decide)) (als_given rfl hh (by decide)) (by decide)
theorem ticks_is {w : World} {p : Nat} {now n now' : Int} {v wv : Value} {l want l' : List Al} (hK : ClockAt w p now v l) (hs : Sorted l) (hl : l.length ≤ 4096) (ht : tk now = true) (hn : 0 ≤ n) (hA : Als w wv want) (hpw : p ∉ blk wv)
    (hd : dl now n = now') (hw : l.take (cutAt now' l) = want) (hw' : l.drop (cutAt now' l) = l') :
    Calls Try.prog 23 #[.pointer (some ⟨p, 0, none⟩), .int .i64 n, .int .i64 0, wv] w (Left w p now' v l' (.bool true)) := by
  subst hd hw'
  exact (ticks_ok hK hs hl ht hn hA hw hpw).mono fun _ _ ⟨v2, he, hF, hK2, hb⟩ => ⟨v2, he, hF.weak (by intro x hx; rw [List.mem_singleton.1 hx]; simp), hK2, fun x hx => .inl (hb ▸ hx)⟩
theorem k_ticks1 {w : World} {p : Nat} {v : Value} (hK : ClockAt w p 10 v [(9, 4), (3, 12), (7, 12)]) : Calls Try.prog 23 #[.pointer (some ⟨p, 0, none⟩), .int .i64 0, .int .i64 0, .slice (some ⟨w.heap.size, 0, none⟩) 1 1] (w.alloc (.cells #[.int .i64 9, .int .i64 4] 47))
    (Left (w.alloc (.cells #[.int .i64 9, .int .i64 4] 47)) p 10 v [(3, 12), (7, 12)] (.bool true)) :=
  ticks_is (want := [(9, 4)]) (hK.alloc _) (by decide) (by decide) tk10 (by decide) (als_given rfl (heap_alloc_new _ _) (by decide)) (by have := hK.plt; simp [blk]; omega) (by decide) (by decide) (by decide)
theorem k_ticks2 {w : World} {p : Nat} {v : Value} (hK : ClockAt w p 10 v [(3, 12), (7, 12)]) : Calls Try.prog 23 #[.pointer (some ⟨p, 0, none⟩), .int .i64 2, .int .i64 0, .slice (some ⟨w.heap.size, 0, none⟩) 2 2] (w.alloc (.cells #[.int .i64 3, .int .i64 12, .int .i64 7, .int .i64 12] 47))
    (Left (w.alloc (.cells #[.int .i64 3, .int .i64 12, .int .i64 7, .int .i64 12] 47)) p 12 v [] (.bool true)) :=
  ticks_is (want := [(3, 12), (7, 12)]) (hK.alloc _) (by decide) (by decide) tk10 (by decide) (als_given rfl (heap_alloc_new _ _) (by decide)) (by have := hK.plt; simp [blk]; omega) (by decide) (by decide) (by decide)
theorem k_next2 {w : World} {p : Nat} {v : Value} (hK : ClockAt w p 12 v []) : Calls Try.prog 21 #[.pointer (some ⟨p, 0, none⟩)] w (Ret (.int .i64 4611686018427387904) (fun w' => w = w')) := next_is hK rfl
theorem k_clear {w : World} {p : Nat} {v : Value} (hK : ClockAt w p 12 v []) : Calls Try.prog 20 #[.pointer (some ⟨p, 0, none⟩), .int .i64 3] w (Left w p 12 v [] (.int .i64 9)) :=
  clear_is hK (by decide) 3 (by decide) (by decide)
theorem k_ticks3 {w : World} {p : Nat} {v : Value} (hK : ClockAt w p 12 v []) : Calls Try.prog 23 #[.pointer (some ⟨p, 0, none⟩), .int .i64 (-1), .int .i64 2, .slice none 0 0] w (Ret (.bool true) (fun w' => Frm [] w w')) :=
  ticks_err (want := []) (.inl ⟨rfl, rfl⟩) rfl (tick_bad hK _ (by decide))
theorem passed_is (w : World) (d n : Int) (b : Bool) (hb : psd d n = b) : Calls Try.prog 8 #[.int .i64 d, .int .i64 n] w (Ret (.bool b) (fun w' => w = w')) := by
  subst hb; exact passed_any w d n
theorem k_due1 (w : World) : Calls Try.prog 10 #[.int .i64 5, .int .i64 3, .int .i64 8, .int .i64 0] w (Ret (.bool true) (fun w' => w = w')) := due_law _ _ _ _ _ (by decide) (by decide)
theorem k_due2 (w : World) : Calls Try.prog 10 #[.int .i64 5, .int .i64 4611686018427387904, .int .i64 4611686018427387904, .int .i64 0] w (Ret (.bool true) (fun w' => w = w')) := due_law _ _ _ _ _ (by decide) (by decide)
theorem k_due3 (w : World) : Calls Try.prog 10 #[.int .i64 (-1), .int .i64 3, .int .i64 0, .int .i64 2] w (Ret (.bool true) (fun w' => w = w')) := due_law _ _ _ _ _ (by decide) (by decide)
theorem k_due4 (w : World) : Calls Try.prog 10 #[.int .i64 5, .int .i64 (-1), .int .i64 0, .int .i64 2] w (Ret (.bool true) (fun w' => w = w')) := due_law _ _ _ _ _ (by decide) (by decide)
theorem k_pas1 (w : World) : Calls Try.prog 8 #[.int .i64 5, .int .i64 5] w (Ret (.bool false) (fun w' => w = w')) := passed_is _ _ _ _ (by decide)
theorem k_pas2 (w : World) : Calls Try.prog 8 #[.int .i64 5, .int .i64 6] w (Ret (.bool true) (fun w' => w = w')) := passed_is _ _ _ _ (by decide)
theorem k_pas3 (w : World) : Calls Try.prog 8 #[.int .i64 4611686018427387904, .int .i64 4611686018427387905] w (Ret (.bool false) (fun w' => w = w')) := passed_is _ _ _ _ (by decide)

/-- What is true of the world while the examples run: only new blocks; three alarms lie from block s on. -/
structure Kn (w0 : World) (s : Nat) (w : World) : Prop where
  frm : Frm [] w0 w
  sz : s + 3 ≤ w.heap.size
  a0 : w.heap[s]? = some (.cells #[.int .i64 9, .int .i64 4] 47 (0, 0))
  a1 : w.heap[s + 1]? = some (.cells #[.int .i64 3, .int .i64 12] 47 (0, 0))
  a2 : w.heap[s + 2]? = some (.cells #[.int .i64 7, .int .i64 12] 47 (0, 0))
/-- Blocks that are new, and none of these three. -/
def Away (w0 : World) (s : Nat) (D : List Nat) : Prop := ∀ x ∈ D, w0.heap.size ≤ x ∧ (x < s ∨ s + 3 ≤ x)
theorem Kn.go {w0 w w' : World} {s : Nat} {D : List Nat} (hk : Kn w0 s w) (hF : Frm D w w') (hA : Away w0 s D) : Kn w0 s w' :=
  ⟨hk.frm.trans_new hF (fun x hx => .inr (hA x hx).1), Nat.le_trans hk.sz hF.size, hF.heap hk.a0 (fun hx => by have := hA _ hx; omega), hF.heap hk.a1 (fun hx => by have := hA _ hx; omega), hF.heap hk.a2 (fun hx => by have := hA _ hx; omega)⟩
theorem Kn.go0 {w0 w w' : World} {s : Nat} (hk : Kn w0 s w) (hF : Frm [] w w') : Kn w0 s w' := hk.go hF (fun x hx => by cases hx)
theorem Kn.drew {w0 w : World} {s : Nat} (hk : Kn w0 s w) : Kn w0 s w.drew := hk.go0 (Frm.refl _ _).drew
theorem Kn.alloc {w0 w : World} {s : Nat} (hk : Kn w0 s w) (o : Obj) : Kn w0 s (w.alloc o) := hk.go0 ((Frm.refl _ _).alloc o)
theorem Kn.c {w0 w : World} {s : Nat} (hk : Kn w0 s w) : (w.cell? ⟨s, 0, none⟩ = some (.int .i64 9) ∧ w.cell? ⟨s, 1, none⟩ = some (.int .i64 4)) ∧ (w.cell? ⟨s + 1, 0, none⟩ = some (.int .i64 3) ∧ w.cell? ⟨s + 1, 1, none⟩ = some (.int .i64 12)) ∧
    (w.cell? ⟨s + 2, 0, none⟩ = some (.int .i64 7) ∧ w.cell? ⟨s + 2, 1, none⟩ = some (.int .i64 12)) := ⟨cells2 hk.a0, cells2 hk.a1, cells2 hk.a2⟩
theorem Away.next {w0 w : World} {s p : Nat} {D D' : List Nat} (hA : Away w0 s (p :: D)) (hk : Kn w0 s w) (hb : ∀ x ∈ D', x ∈ D ∨ w.heap.size ≤ x) : Away w0 s (p :: D') := by
  intro x hx
  rcases List.mem_cons.1 hx with rfl | hx
  · exact hA _ (by simp)
  · rcases hb x hx with h1 | h1
    · exact hA _ (List.mem_cons_of_mem _ h1)
    · have h2 := hk.sz; have h3 := hk.frm.size; omega
end Go.Proofs.Ytamnhpcbflpabaa
