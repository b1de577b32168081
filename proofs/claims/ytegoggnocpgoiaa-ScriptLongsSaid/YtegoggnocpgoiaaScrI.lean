/- Package script: the shortest bytes of a request. -/
import Derived.Test.YtegoggnocpgoiaaScrH
namespace Go.Proofs.Ytegoggnocpgoiaa
open Go.ChangeShapes Go.WideShapes Go.ChangeAt Go.RowKit

/-- A new row of two bytes. -/
theorem rowU_new {B g n : Nat} {w : World} {l : List Int} (hl : l.length = n) (hn : n ≤ 100) (h : w.heap[g]? = some (.cells (u8s l).toArray 5 (0, 0))) (hB : B ≤ g) : RowU B w (some ⟨g, 0, none⟩) n n l := by
  refine ⟨⟨by rw [u8s_length]; omega, .inr ⟨g, n, (u8s l).toArray, by rw [hl], hB, h, by omega, by unfold maxLen; omega, by simp [u8s_length, hl], ?_⟩⟩, hl.symm⟩
  rw [List.take_of_length_le (by simp [u8s_length])]
/-- What the writer of a request knows: the operation at b3, what it needs at b6, its bytes. -/
structure SQ (w : World) (b3 b6 : Nat) (o : Opr) (k1 k2 k3 k4 : Bool) (B : Nat) (a : Option Addr) (n c : Nat) (l : List Int) : Prop where
  h3 : w.heap[b3]? = some (.cells #[.int .i64 o.k, .int .i64 o.t, .int .i64 o.n, .int .i64 o.v, .string o.key, .string o.val, .string o.old, .int .i64 o.tk] 30 (0, 0))
  h6 : w.heap[b6]? = some (.cells #[.bool k1, .bool k2, .bool k3, .bool k4] 91 (0, 0))
  row : RowU B w a n c l
  bl : B ≤ w.heap.size
theorem row_ne {B q : Nat} {w : World} {a : Option Addr} {n c : Nat} {l : List Int} {cs : Array Value} {t : TypeId} (h : RowU B w a n c l) (hq : w.heap[q]? = some (.cells cs t (0, 0))) (ht : t ≠ 5) : q ∉ blk (.slice a n c) := by
  intro hx
  obtain ⟨h0, hh⟩ := h.1
  rcases hh with ⟨hv, _⟩ | ⟨g, cap, cur, hv, hg, hc, r⟩
  · rw [hv] at hx; cases hx
  · rw [hv] at hx; simp [blk] at hx; subst hx
    have := hq.symm.trans hc
    simp at this
    exact ht this.2
namespace SQ
variable {w w' : World} {b3 b6 : Nat} {o : Opr} {k1 k2 k3 k4 : Bool} {B : Nat} {a a' : Option Addr} {n n' c c' : Nat} {l l' : List Int}
theorem quiet (h : SQ w b3 b6 o k1 k2 k3 k4 B a n c l) (hf : Frm [] w w') : SQ w' b3 b6 o k1 k2 k3 k4 B a n c l :=
  ⟨hf.heap h.h3 (by simp), hf.heap h.h6 (by simp), h.row.frm0 hf, Nat.le_trans h.bl hf.size⟩
theorem app (h : SQ w b3 b6 o k1 k2 k3 k4 B a n c l) {x : Obj} (hr : RowU B w' a' n' c' l') (hf : Frm (blk (.slice a n c)) (w.alloc x) w') : SQ w' b3 b6 o k1 k2 k3 k4 B a' n' c' l' :=
  ⟨hf.heap (heap_alloc_old x h.h3) (row_ne h.row h.h3 (by decide)), hf.heap (heap_alloc_old x h.h6) (row_ne h.row h.h6 (by decide)), hr, by have := hf.size; have := h.bl; simp at *; omega⟩
theorem cells3 (h : SQ w b3 b6 o k1 k2 k3 k4 B a n c l) : OpAt w b3 0 o := OpAt.block h.h3
theorem cells6 (h : SQ w b3 b6 o k1 k2 k3 k4 B a n c l) : w.cell? ⟨b6, 0, none⟩ = some (.bool k1) ∧ w.cell? ⟨b6, 1, none⟩ = some (.bool k2) ∧ w.cell? ⟨b6, 2, none⟩ = some (.bool k3) ∧ w.cell? ⟨b6, 3, none⟩ = some (.bool k4) := cells4 h.h6
end SQ
theorem w64_256 (x : Int) : wrap64 x % 256 = x % 256 := by unfold wrap64; omega

set_option maxHeartbeats 4000000 in
theorem short_0 (w : World) (x : Int) (o : Opr) (hv : vc o.v = 0) (_k0 : o.key.size ≤ maxLen) (_k1 : o.val.size ≤ maxLen) (_k2 : o.old.size ≤ maxLen) :
    Calls Try.prog 48 #[.int .u8 x, .agg #[.int .i64 o.k, .int .i64 o.t, .int .i64 o.n, .int .i64 o.v, .string o.key, .string o.val, .string o.old, .int .i64 o.tk]] w (fun e w' => ∃ a' c', Ret (.slice a' (sbq x o).length c') (fun w' => Frm [] w w' ∧ RowU w.heap.size w' a' (sbq x o).length c' (sbq x o)) e w') := by
  have hN := fun w => needs_0 w o.v hv
  have hl : (sbq x o) = [x, (o.tk * 8 + o.v - 1) % 256] := by unfold sbq sbp; simp [hv]
  rw [hl]
  have hy : wrap64 (wrap64 (wrap64 (o.tk * 8) + o.v) - 1) % 256 = (o.tk * 8 + o.v - 1) % 256 := by unfold wrap64; omega
  have hz : wrap64 (o.n - 1) % 256 = (o.n - 1) % 256 := by unfold wrap64; omega
  obtain ⟨y, hyy⟩ : ∃ y, (o.tk * 8 + o.v - 1) % 256 = y := ⟨_, rfl⟩
  obtain ⟨z, hzz⟩ : ∃ z, (o.n - 1) % 256 = z := ⟨_, rfl⟩
  rw [hyy] at hy ⊢
  rw [hzz] at hz
  try rw [hzz]
  have HN := Lib.hid hN
  clear hN hl hv hyy hzz
  go_enter Try.func48, Try.ntmps48
  go_wp2_with fail
  refine (HN.out _).mono ?_
  rintro e W1 ⟨rfl, hF1⟩
  have e3 := hF1.heap (heap_alloc_old (.cells #[.int .u8 x, .int .u8 y] 5) (heap_alloc_new w (.cells #[.int .i64 o.k, .int .i64 o.t, .int .i64 o.n, .int .i64 o.v, .string o.key, .string o.val, .string o.old, .int .i64 o.tk] 30))) (by simp)
  have e5 := hF1.heap (heap_alloc_at (k := w.heap.size + 1) (.cells (u8s [x, y]).toArray 5) (by simp)) (by simp)
  obtain ⟨c0, c1, c2, c3, c4, c5, c6, c7⟩ := OpAt.block e3
  simp only [Nat.zero_add] at c0 c1 c2 c3 c4 c5 c6 c7
  have hl3 := lt_of_heap e3
  have hFa : Frm [] w (W1.alloc (.cells #[.bool false, .bool false, .bool false, .bool false] 91)) := ((((Frm.refl [] w).alloc _).alloc _).trans hF1).alloc _
  have hS : SQ (W1.alloc (.cells #[.bool false, .bool false, .bool false, .bool false] 91)) w.heap.size W1.heap.size o false false false false w.heap.size (some ⟨w.heap.size + 1, 0, none⟩) 2 2 [x, y] :=
    ⟨heap_alloc_old _ e3, heap_alloc_new _ _, rowU_new rfl (by omega) (heap_alloc_old _ e5) (by omega), hFa.size⟩
  clear e3 e5 hF1
  go_wp2
  go_ret
  exact ⟨_, _, rfl, hFa, hS.row⟩

set_option maxHeartbeats 4000000 in
theorem short_1 (w : World) (x : Int) (o : Opr) (hv : vc o.v = 1) (_k0 : o.key.size ≤ maxLen) (_k1 : o.val.size ≤ maxLen) (_k2 : o.old.size ≤ maxLen) :
    Calls Try.prog 48 #[.int .u8 x, .agg #[.int .i64 o.k, .int .i64 o.t, .int .i64 o.n, .int .i64 o.v, .string o.key, .string o.val, .string o.old, .int .i64 o.tk]] w (fun e w' => ∃ a' c', Ret (.slice a' (sbq x o).length c') (fun w' => Frm [] w w' ∧ RowU w.heap.size w' a' (sbq x o).length c' (sbq x o)) e w') := by
  have hN := fun w => needs_1 w o.v hv
  have hl : (sbq x o) = [x, (o.tk * 8 + o.v - 1) % 256, kn o.key] := by unfold sbq sbp; simp [hv]
  rw [hl]
  have hy : wrap64 (wrap64 (wrap64 (o.tk * 8) + o.v) - 1) % 256 = (o.tk * 8 + o.v - 1) % 256 := by unfold wrap64; omega
  have hz : wrap64 (o.n - 1) % 256 = (o.n - 1) % 256 := by unfold wrap64; omega
  obtain ⟨y, hyy⟩ : ∃ y, (o.tk * 8 + o.v - 1) % 256 = y := ⟨_, rfl⟩
  obtain ⟨z, hzz⟩ : ∃ z, (o.n - 1) % 256 = z := ⟨_, rfl⟩
  rw [hyy] at hy ⊢
  rw [hzz] at hz
  try rw [hzz]
  have HN := Lib.hid hN
  clear hN hl hv hyy hzz
  go_enter Try.func48, Try.ntmps48
  go_wp2_with fail
  refine (HN.out _).mono ?_
  rintro e W1 ⟨rfl, hF1⟩
  have e3 := hF1.heap (heap_alloc_old (.cells #[.int .u8 x, .int .u8 y] 5) (heap_alloc_new w (.cells #[.int .i64 o.k, .int .i64 o.t, .int .i64 o.n, .int .i64 o.v, .string o.key, .string o.val, .string o.old, .int .i64 o.tk] 30))) (by simp)
  have e5 := hF1.heap (heap_alloc_at (k := w.heap.size + 1) (.cells (u8s [x, y]).toArray 5) (by simp)) (by simp)
  obtain ⟨c0, c1, c2, c3, c4, c5, c6, c7⟩ := OpAt.block e3
  simp only [Nat.zero_add] at c0 c1 c2 c3 c4 c5 c6 c7
  have hl3 := lt_of_heap e3
  have hFa : Frm [] w (W1.alloc (.cells #[.bool true, .bool false, .bool false, .bool false] 91)) := ((((Frm.refl [] w).alloc _).alloc _).trans hF1).alloc _
  have hS : SQ (W1.alloc (.cells #[.bool true, .bool false, .bool false, .bool false] 91)) w.heap.size W1.heap.size o true false false false w.heap.size (some ⟨w.heap.size + 1, 0, none⟩) 2 2 [x, y] :=
    ⟨heap_alloc_old _ e3, heap_alloc_new _ _, rowU_new rfl (by omega) (heap_alloc_old _ e5) (by omega), hFa.size⟩
  clear e3 e5 hF1
  go_wp2_with fail
  refine (keynum_any o.key _ _k0).mono ?_
  rintro e w20 ⟨rfl, hF2⟩
  replace hS := hS.quiet hF2
  replace hFa := hFa.trans hF2
  clear hF2 c0 c1 c2 c3 c4 c5 c6 c7
  go_wp2_with (at_builtin; refine wpl_appU rfl (.tmp 22) (.tmp 26) rfl (B := w.heap.size) (a := (some ⟨w.heap.size + 1, 0, none⟩)) (n := 2) (c := 2) (m := 1) (l := [x, y]) (l2 := [kn o.key]) (by simp [Act.eval]) (by simp [Act.eval]) (hS.row.frm0 ((Frm.refl _ _).alloc _)) (li_u8 (n := 1) rfl (heap_alloc_new _ _)) (by simp) (by have := hS.bl; simp; omega) ?_; intro a1 q1 w31 hR3 hF3; have hS3 : SQ w31 w.heap.size W1.heap.size o true false false false w.heap.size a1 3 q1 [x, y, kn o.key] := hS.app hR3 hF3; obtain ⟨c0, c1, c2, c3, c4, c5, c6, c7⟩ := hS3.cells3; simp only [Nat.zero_add] at c0 c1 c2 c3 c4 c5 c6 c7; obtain ⟨d0, d1, d2, d3⟩ := hS3.cells6)
  replace hFa := (hFa.alloc (.cells #[.int .u8 (kn o.key)] 5)).trans_new hF3 (fun j hj => .inr ((hS.row.frm0 ((Frm.refl _ _).alloc (.cells #[.int .u8 (kn o.key)] 5))).blk j hj).1)
  replace hS := hS3
  clear hS3 hR3 hF3 c0 c1 c2 c3 c4 c5 c6 c7 d0 d1 d2 d3
  go_ret
  exact ⟨_, _, rfl, hFa, hS.row⟩

set_option maxHeartbeats 4000000 in
theorem short_2 (w : World) (x : Int) (o : Opr) (hv : vc o.v = 2) (_k0 : o.key.size ≤ maxLen) (_k1 : o.val.size ≤ maxLen) (_k2 : o.old.size ≤ maxLen) :
    Calls Try.prog 48 #[.int .u8 x, .agg #[.int .i64 o.k, .int .i64 o.t, .int .i64 o.n, .int .i64 o.v, .string o.key, .string o.val, .string o.old, .int .i64 o.tk]] w (fun e w' => ∃ a' c', Ret (.slice a' (sbq x o).length c') (fun w' => Frm [] w w' ∧ RowU w.heap.size w' a' (sbq x o).length c' (sbq x o)) e w') := by
  have hN := fun w => needs_2 w o.v hv
  have hl : (sbq x o) = [x, (o.tk * 8 + o.v - 1) % 256, kn o.key, vn o.val] := by unfold sbq sbp; simp [hv]
  rw [hl]
  have hy : wrap64 (wrap64 (wrap64 (o.tk * 8) + o.v) - 1) % 256 = (o.tk * 8 + o.v - 1) % 256 := by unfold wrap64; omega
  have hz : wrap64 (o.n - 1) % 256 = (o.n - 1) % 256 := by unfold wrap64; omega
  obtain ⟨y, hyy⟩ : ∃ y, (o.tk * 8 + o.v - 1) % 256 = y := ⟨_, rfl⟩
  obtain ⟨z, hzz⟩ : ∃ z, (o.n - 1) % 256 = z := ⟨_, rfl⟩
  rw [hyy] at hy ⊢
  rw [hzz] at hz
  try rw [hzz]
  have HN := Lib.hid hN
  clear hN hl hv hyy hzz
  go_enter Try.func48, Try.ntmps48
  go_wp2_with fail
  refine (HN.out _).mono ?_
  rintro e W1 ⟨rfl, hF1⟩
  have e3 := hF1.heap (heap_alloc_old (.cells #[.int .u8 x, .int .u8 y] 5) (heap_alloc_new w (.cells #[.int .i64 o.k, .int .i64 o.t, .int .i64 o.n, .int .i64 o.v, .string o.key, .string o.val, .string o.old, .int .i64 o.tk] 30))) (by simp)
  have e5 := hF1.heap (heap_alloc_at (k := w.heap.size + 1) (.cells (u8s [x, y]).toArray 5) (by simp)) (by simp)
  obtain ⟨c0, c1, c2, c3, c4, c5, c6, c7⟩ := OpAt.block e3
  simp only [Nat.zero_add] at c0 c1 c2 c3 c4 c5 c6 c7
  have hl3 := lt_of_heap e3
  have hFa : Frm [] w (W1.alloc (.cells #[.bool true, .bool false, .bool true, .bool false] 91)) := ((((Frm.refl [] w).alloc _).alloc _).trans hF1).alloc _
  have hS : SQ (W1.alloc (.cells #[.bool true, .bool false, .bool true, .bool false] 91)) w.heap.size W1.heap.size o true false true false w.heap.size (some ⟨w.heap.size + 1, 0, none⟩) 2 2 [x, y] :=
    ⟨heap_alloc_old _ e3, heap_alloc_new _ _, rowU_new rfl (by omega) (heap_alloc_old _ e5) (by omega), hFa.size⟩
  clear e3 e5 hF1
  go_wp2_with fail
  refine (keynum_any o.key _ _k0).mono ?_
  rintro e w20 ⟨rfl, hF2⟩
  replace hS := hS.quiet hF2
  replace hFa := hFa.trans hF2
  clear hF2 c0 c1 c2 c3 c4 c5 c6 c7
  go_wp2_with (at_builtin; refine wpl_appU rfl (.tmp 22) (.tmp 26) rfl (B := w.heap.size) (a := (some ⟨w.heap.size + 1, 0, none⟩)) (n := 2) (c := 2) (m := 1) (l := [x, y]) (l2 := [kn o.key]) (by simp [Act.eval]) (by simp [Act.eval]) (hS.row.frm0 ((Frm.refl _ _).alloc _)) (li_u8 (n := 1) rfl (heap_alloc_new _ _)) (by simp) (by have := hS.bl; simp; omega) ?_; intro a1 q1 w31 hR3 hF3; have hS3 : SQ w31 w.heap.size W1.heap.size o true false true false w.heap.size a1 3 q1 [x, y, kn o.key] := hS.app hR3 hF3; obtain ⟨c0, c1, c2, c3, c4, c5, c6, c7⟩ := hS3.cells3; simp only [Nat.zero_add] at c0 c1 c2 c3 c4 c5 c6 c7; obtain ⟨d0, d1, d2, d3⟩ := hS3.cells6)
  replace hFa := (hFa.alloc (.cells #[.int .u8 (kn o.key)] 5)).trans_new hF3 (fun j hj => .inr ((hS.row.frm0 ((Frm.refl _ _).alloc (.cells #[.int .u8 (kn o.key)] 5))).blk j hj).1)
  replace hS := hS3
  clear hS3 hR3 hF3 c0 c1 c2 c3 c4 c5 c6 c7 d0 d1 d2 d3
  refine (valnum_any o.val _ _k1).mono ?_
  rintro e w21 ⟨rfl, hF2⟩
  replace hS := hS.quiet hF2
  replace hFa := hFa.trans hF2
  clear hF2
  go_wp2_with (at_builtin; refine wpl_appU rfl (.tmp 38) (.tmp 42) rfl (B := w.heap.size) (a := a1) (n := 3) (c := q1) (m := 1) (l := [x, y, kn o.key]) (l2 := [vn o.val]) (by simp [Act.eval]) (by simp [Act.eval]) (hS.row.frm0 ((Frm.refl _ _).alloc _)) (li_u8 (n := 1) rfl (heap_alloc_new _ _)) (by simp) (by have := hS.bl; simp; omega) ?_; intro a2 q2 w32 hR3 hF3; have hS3 : SQ w32 w.heap.size W1.heap.size o true false true false w.heap.size a2 4 q2 [x, y, kn o.key, vn o.val] := hS.app hR3 hF3; obtain ⟨c0, c1, c2, c3, c4, c5, c6, c7⟩ := hS3.cells3; simp only [Nat.zero_add] at c0 c1 c2 c3 c4 c5 c6 c7; obtain ⟨d0, d1, d2, d3⟩ := hS3.cells6)
  replace hFa := (hFa.alloc (.cells #[.int .u8 (vn o.val)] 5)).trans_new hF3 (fun j hj => .inr ((hS.row.frm0 ((Frm.refl _ _).alloc (.cells #[.int .u8 (vn o.val)] 5))).blk j hj).1)
  replace hS := hS3
  clear hS3 hR3 hF3 c0 c1 c2 c3 c4 c5 c6 c7 d0 d1 d2 d3
  go_ret
  exact ⟨_, _, rfl, hFa, hS.row⟩

set_option maxHeartbeats 4000000 in
theorem short_3 (w : World) (x : Int) (o : Opr) (hv : vc o.v = 3) (_k0 : o.key.size ≤ maxLen) (_k1 : o.val.size ≤ maxLen) (_k2 : o.old.size ≤ maxLen) :
    Calls Try.prog 48 #[.int .u8 x, .agg #[.int .i64 o.k, .int .i64 o.t, .int .i64 o.n, .int .i64 o.v, .string o.key, .string o.val, .string o.old, .int .i64 o.tk]] w (fun e w' => ∃ a' c', Ret (.slice a' (sbq x o).length c') (fun w' => Frm [] w w' ∧ RowU w.heap.size w' a' (sbq x o).length c' (sbq x o)) e w') := by
  have hN := fun w => needs_3 w o.v hv
  have hl : (sbq x o) = [x, (o.tk * 8 + o.v - 1) % 256, kn o.key, vn o.old, vn o.val] := by unfold sbq sbp; simp [hv]
  rw [hl]
  have hy : wrap64 (wrap64 (wrap64 (o.tk * 8) + o.v) - 1) % 256 = (o.tk * 8 + o.v - 1) % 256 := by unfold wrap64; omega
  have hz : wrap64 (o.n - 1) % 256 = (o.n - 1) % 256 := by unfold wrap64; omega
  obtain ⟨y, hyy⟩ : ∃ y, (o.tk * 8 + o.v - 1) % 256 = y := ⟨_, rfl⟩
  obtain ⟨z, hzz⟩ : ∃ z, (o.n - 1) % 256 = z := ⟨_, rfl⟩
  rw [hyy] at hy ⊢
  rw [hzz] at hz
  try rw [hzz]
  have HN := Lib.hid hN
  clear hN hl hv hyy hzz
  go_enter Try.func48, Try.ntmps48
  go_wp2_with fail
  refine (HN.out _).mono ?_
  rintro e W1 ⟨rfl, hF1⟩
  have e3 := hF1.heap (heap_alloc_old (.cells #[.int .u8 x, .int .u8 y] 5) (heap_alloc_new w (.cells #[.int .i64 o.k, .int .i64 o.t, .int .i64 o.n, .int .i64 o.v, .string o.key, .string o.val, .string o.old, .int .i64 o.tk] 30))) (by simp)
  have e5 := hF1.heap (heap_alloc_at (k := w.heap.size + 1) (.cells (u8s [x, y]).toArray 5) (by simp)) (by simp)
  obtain ⟨c0, c1, c2, c3, c4, c5, c6, c7⟩ := OpAt.block e3
  simp only [Nat.zero_add] at c0 c1 c2 c3 c4 c5 c6 c7
  have hl3 := lt_of_heap e3
  have hFa : Frm [] w (W1.alloc (.cells #[.bool true, .bool true, .bool true, .bool false] 91)) := ((((Frm.refl [] w).alloc _).alloc _).trans hF1).alloc _
  have hS : SQ (W1.alloc (.cells #[.bool true, .bool true, .bool true, .bool false] 91)) w.heap.size W1.heap.size o true true true false w.heap.size (some ⟨w.heap.size + 1, 0, none⟩) 2 2 [x, y] :=
    ⟨heap_alloc_old _ e3, heap_alloc_new _ _, rowU_new rfl (by omega) (heap_alloc_old _ e5) (by omega), hFa.size⟩
  clear e3 e5 hF1
  go_wp2_with fail
  refine (keynum_any o.key _ _k0).mono ?_
  rintro e w20 ⟨rfl, hF2⟩
  replace hS := hS.quiet hF2
  replace hFa := hFa.trans hF2
  clear hF2 c0 c1 c2 c3 c4 c5 c6 c7
  go_wp2_with (at_builtin; refine wpl_appU rfl (.tmp 22) (.tmp 26) rfl (B := w.heap.size) (a := (some ⟨w.heap.size + 1, 0, none⟩)) (n := 2) (c := 2) (m := 1) (l := [x, y]) (l2 := [kn o.key]) (by simp [Act.eval]) (by simp [Act.eval]) (hS.row.frm0 ((Frm.refl _ _).alloc _)) (li_u8 (n := 1) rfl (heap_alloc_new _ _)) (by simp) (by have := hS.bl; simp; omega) ?_; intro a1 q1 w31 hR3 hF3; have hS3 : SQ w31 w.heap.size W1.heap.size o true true true false w.heap.size a1 3 q1 [x, y, kn o.key] := hS.app hR3 hF3; obtain ⟨c0, c1, c2, c3, c4, c5, c6, c7⟩ := hS3.cells3; simp only [Nat.zero_add] at c0 c1 c2 c3 c4 c5 c6 c7; obtain ⟨d0, d1, d2, d3⟩ := hS3.cells6)
  replace hFa := (hFa.alloc (.cells #[.int .u8 (kn o.key)] 5)).trans_new hF3 (fun j hj => .inr ((hS.row.frm0 ((Frm.refl _ _).alloc (.cells #[.int .u8 (kn o.key)] 5))).blk j hj).1)
  replace hS := hS3
  clear hS3 hR3 hF3 c0 c1 c2 c3 c4 c5 c6 c7 d0 d1 d2 d3
  refine (valnum_any o.old _ _k2).mono ?_
  rintro e w21 ⟨rfl, hF2⟩
  replace hS := hS.quiet hF2
  replace hFa := hFa.trans hF2
  clear hF2
  go_wp2_with (at_builtin; refine wpl_appU rfl (.tmp 30) (.tmp 34) rfl (B := w.heap.size) (a := a1) (n := 3) (c := q1) (m := 1) (l := [x, y, kn o.key]) (l2 := [vn o.old]) (by simp [Act.eval]) (by simp [Act.eval]) (hS.row.frm0 ((Frm.refl _ _).alloc _)) (li_u8 (n := 1) rfl (heap_alloc_new _ _)) (by simp) (by have := hS.bl; simp; omega) ?_; intro a2 q2 w32 hR3 hF3; have hS3 : SQ w32 w.heap.size W1.heap.size o true true true false w.heap.size a2 4 q2 [x, y, kn o.key, vn o.old] := hS.app hR3 hF3; obtain ⟨c0, c1, c2, c3, c4, c5, c6, c7⟩ := hS3.cells3; simp only [Nat.zero_add] at c0 c1 c2 c3 c4 c5 c6 c7; obtain ⟨d0, d1, d2, d3⟩ := hS3.cells6)
  replace hFa := (hFa.alloc (.cells #[.int .u8 (vn o.old)] 5)).trans_new hF3 (fun j hj => .inr ((hS.row.frm0 ((Frm.refl _ _).alloc (.cells #[.int .u8 (vn o.old)] 5))).blk j hj).1)
  replace hS := hS3
  clear hS3 hR3 hF3 c0 c1 c2 c3 c4 c5 c6 c7 d0 d1 d2 d3
  refine (valnum_any o.val _ _k1).mono ?_
  rintro e w22 ⟨rfl, hF2⟩
  replace hS := hS.quiet hF2
  replace hFa := hFa.trans hF2
  clear hF2
  go_wp2_with (at_builtin; refine wpl_appU rfl (.tmp 38) (.tmp 42) rfl (B := w.heap.size) (a := a2) (n := 4) (c := q2) (m := 1) (l := [x, y, kn o.key, vn o.old]) (l2 := [vn o.val]) (by simp [Act.eval]) (by simp [Act.eval]) (hS.row.frm0 ((Frm.refl _ _).alloc _)) (li_u8 (n := 1) rfl (heap_alloc_new _ _)) (by simp) (by have := hS.bl; simp; omega) ?_; intro a3 q3 w33 hR3 hF3; have hS3 : SQ w33 w.heap.size W1.heap.size o true true true false w.heap.size a3 5 q3 [x, y, kn o.key, vn o.old, vn o.val] := hS.app hR3 hF3; obtain ⟨c0, c1, c2, c3, c4, c5, c6, c7⟩ := hS3.cells3; simp only [Nat.zero_add] at c0 c1 c2 c3 c4 c5 c6 c7; obtain ⟨d0, d1, d2, d3⟩ := hS3.cells6)
  replace hFa := (hFa.alloc (.cells #[.int .u8 (vn o.val)] 5)).trans_new hF3 (fun j hj => .inr ((hS.row.frm0 ((Frm.refl _ _).alloc (.cells #[.int .u8 (vn o.val)] 5))).blk j hj).1)
  replace hS := hS3
  clear hS3 hR3 hF3 c0 c1 c2 c3 c4 c5 c6 c7 d0 d1 d2 d3
  go_ret
  exact ⟨_, _, rfl, hFa, hS.row⟩

set_option maxHeartbeats 4000000 in
theorem short_4 (w : World) (x : Int) (o : Opr) (hv : vc o.v = 4) (_k0 : o.key.size ≤ maxLen) (_k1 : o.val.size ≤ maxLen) (_k2 : o.old.size ≤ maxLen) :
    Calls Try.prog 48 #[.int .u8 x, .agg #[.int .i64 o.k, .int .i64 o.t, .int .i64 o.n, .int .i64 o.v, .string o.key, .string o.val, .string o.old, .int .i64 o.tk]] w (fun e w' => ∃ a' c', Ret (.slice a' (sbq x o).length c') (fun w' => Frm [] w w' ∧ RowU w.heap.size w' a' (sbq x o).length c' (sbq x o)) e w') := by
  have hN := fun w => needs_4 w o.v hv
  have hl : (sbq x o) = [x, (o.tk * 8 + o.v - 1) % 256, kn o.key, (o.n - 1) % 256] := by unfold sbq sbp; simp [hv]
  rw [hl]
  have hy : wrap64 (wrap64 (wrap64 (o.tk * 8) + o.v) - 1) % 256 = (o.tk * 8 + o.v - 1) % 256 := by unfold wrap64; omega
  have hz : wrap64 (o.n - 1) % 256 = (o.n - 1) % 256 := by unfold wrap64; omega
  obtain ⟨y, hyy⟩ : ∃ y, (o.tk * 8 + o.v - 1) % 256 = y := ⟨_, rfl⟩
  obtain ⟨z, hzz⟩ : ∃ z, (o.n - 1) % 256 = z := ⟨_, rfl⟩
  rw [hyy] at hy ⊢
  rw [hzz] at hz
  try rw [hzz]
  have HN := Lib.hid hN
  clear hN hl hv hyy hzz
  go_enter Try.func48, Try.ntmps48
  go_wp2_with fail
  refine (HN.out _).mono ?_
  rintro e W1 ⟨rfl, hF1⟩
  have e3 := hF1.heap (heap_alloc_old (.cells #[.int .u8 x, .int .u8 y] 5) (heap_alloc_new w (.cells #[.int .i64 o.k, .int .i64 o.t, .int .i64 o.n, .int .i64 o.v, .string o.key, .string o.val, .string o.old, .int .i64 o.tk] 30))) (by simp)
  have e5 := hF1.heap (heap_alloc_at (k := w.heap.size + 1) (.cells (u8s [x, y]).toArray 5) (by simp)) (by simp)
  obtain ⟨c0, c1, c2, c3, c4, c5, c6, c7⟩ := OpAt.block e3
  simp only [Nat.zero_add] at c0 c1 c2 c3 c4 c5 c6 c7
  have hl3 := lt_of_heap e3
  have hFa : Frm [] w (W1.alloc (.cells #[.bool true, .bool false, .bool false, .bool true] 91)) := ((((Frm.refl [] w).alloc _).alloc _).trans hF1).alloc _
  have hS : SQ (W1.alloc (.cells #[.bool true, .bool false, .bool false, .bool true] 91)) w.heap.size W1.heap.size o true false false true w.heap.size (some ⟨w.heap.size + 1, 0, none⟩) 2 2 [x, y] :=
    ⟨heap_alloc_old _ e3, heap_alloc_new _ _, rowU_new rfl (by omega) (heap_alloc_old _ e5) (by omega), hFa.size⟩
  clear e3 e5 hF1
  go_wp2_with fail
  refine (keynum_any o.key _ _k0).mono ?_
  rintro e w20 ⟨rfl, hF2⟩
  replace hS := hS.quiet hF2
  replace hFa := hFa.trans hF2
  clear hF2 c0 c1 c2 c3 c4 c5 c6 c7
  go_wp2_with (first | (at_builtin; refine wpl_appU rfl (.tmp 22) (.tmp 26) rfl (B := w.heap.size) (a := (some ⟨w.heap.size + 1, 0, none⟩)) (n := 2) (c := 2) (m := 1) (l := [x, y]) (l2 := [kn o.key]) (by simp [Act.eval]) (by simp [Act.eval]) (hS.row.frm0 ((Frm.refl _ _).alloc _)) (li_u8 (n := 1) rfl (heap_alloc_new _ _)) (by simp) (by have := hS.bl; simp; omega) ?_; intro a1 q1 w31 hR3 hF3; have hS3 : SQ w31 w.heap.size W1.heap.size o true false false true w.heap.size a1 3 q1 [x, y, kn o.key] := hS.app hR3 hF3; obtain ⟨c0, c1, c2, c3, c4, c5, c6, c7⟩ := hS3.cells3; simp only [Nat.zero_add] at c0 c1 c2 c3 c4 c5 c6 c7; obtain ⟨d0, d1, d2, d3⟩ := hS3.cells6) | (at_builtin; refine wpl_appU rfl (.tmp 46) (.tmp 51) rfl (B := w.heap.size) (a := a1) (n := 3) (c := q1) (m := 1) (l := [x, y, kn o.key]) (l2 := [z]) (by simp [Act.eval]) (by simp [Act.eval]) (hS3.row.frm0 ((Frm.refl _ _).alloc _)) (li_u8 (n := 1) rfl (heap_alloc_new _ _)) (by simp) (by have := hS3.bl; simp; omega) ?_; intro a2 q2 w32 hR4 hF4; have hS4 : SQ w32 w.heap.size W1.heap.size o true false false true w.heap.size a2 4 q2 [x, y, kn o.key, z] := hS3.app hR4 hF4))
  replace hFa := (hFa.alloc (.cells #[.int .u8 (kn o.key)] 5)).trans_new hF3 (fun j hj => .inr ((hS.row.frm0 ((Frm.refl _ _).alloc (.cells #[.int .u8 (kn o.key)] 5))).blk j hj).1)
  replace hFa := (hFa.alloc (.cells #[.int .u8 z] 5)).trans_new hF4 (fun j hj => .inr ((hS3.row.frm0 ((Frm.refl _ _).alloc (.cells #[.int .u8 z] 5))).blk j hj).1)
  replace hS := hS4
  go_ret
  exact ⟨_, _, rfl, hFa, hS.row⟩
end Go.Proofs.Ytegoggnocpgoiaa
