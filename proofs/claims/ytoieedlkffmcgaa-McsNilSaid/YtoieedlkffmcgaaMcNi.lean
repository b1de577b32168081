/- Nil and zero programs, nil arenas; the walk of McsNil (by gen_mcn.py). -/
import Derived.Test.YtoieedlkffmcgaaMcAl
namespace Go.Proofs.Ytoieedlkffmcgaa
open Go.ChangeShapes Go.WideShapes Go.ChangeAt Go.RowKit
set_option linter.unusedVariables false

/-- A zero program. -/
def PgZ (w : World) (q : Nat) (T : TypeId) : Prop := w.heap[q]? = some (.cells #[.int .i64 0, .int .i64 0, .int .i64 0, .int .i64 0, .int .i64 0, .int .u64 0] T (0, 0))
section
variable {w : World} {q : Nat} {T : TypeId}
theorem PgZ.frm {w' : World} (h : PgZ w q T) (hf : Frm [] w w') : PgZ w' q T := hf.heap h (by simp)
theorem z_none (h : PgZ w q T) : Calls Try.prog 53 #[.pointer (some ⟨q, 0, none⟩)] w (Ret (.bool true) (fun w' => w = w')) := by
  obtain ⟨c0, c1, c2, c3, c4, c5⟩ := cells6 h
  clear h
  go_enter Try.func53, Try.ntmps53
  go_wp2
  go_ret
  exact ⟨rfl, rfl⟩
theorem z_threads (h : PgZ w q T) : Calls Try.prog 46 #[.pointer (some ⟨q, 0, none⟩)] w (Ret (.int .i64 0) (fun w' => w = w')) := by
  have H := Lib.hid h
  clear h
  go_enter Try.func46, Try.ntmps46
  go_wp2_with fail
  refine (z_none H.out).mono ?_
  rintro e w' ⟨rfl, rfl⟩
  go_wp2
  go_ret
  exact ⟨rfl, rfl⟩
theorem z_cnone (h : PgZ w q T) : Calls Try.prog 77 #[.pointer (some ⟨q, 0, none⟩)] w (Ret (.bool true) (fun w' => w = w')) := by
  have H := Lib.hid h
  clear h
  go_enter Try.func77, Try.ntmps77
  go_wp2_with fail
  refine (z_threads H.out).mono ?_
  rintro e w' ⟨rfl, rfl⟩
  go_wp2
  go_ret
  exact ⟨rfl, rfl⟩
theorem z_cdone (h : PgZ w q T) : Calls Try.prog 78 #[.pointer (some ⟨q, 0, none⟩)] w (Ret (.bool true) (fun w' => w = w')) := by
  obtain ⟨c0, c1, c2, c3, c4, c5⟩ := cells6 h
  clear h
  go_enter Try.func78, Try.ntmps78
  go_wp2
  go_ret
  exact ⟨rfl, rfl⟩
theorem z_cresult (h : PgZ w q T) : Calls Try.prog 79 #[.pointer (some ⟨q, 0, none⟩)] w (Ret (.int .u64 0) (fun w' => w = w')) := by
  have H := Lib.hid h
  clear h
  go_enter Try.func79, Try.ntmps79
  go_wp2_with fail
  refine (z_cnone H.out).mono ?_
  rintro e w' ⟨rfl, rfl⟩
  go_wp2
  go_ret
  exact ⟨rfl, rfl⟩

theorem z_run (h : PgZ w q T) (v m : Value) : Calls Try.prog 80 #[.pointer (some ⟨q, 0, none⟩), v, m] w (Ret (.tuple #[.bool false, .int .i64 1]) (fun w' => Frm [] w w')) := by
  obtain ⟨X, hX⟩ : ∃ X, X = (w.alloc (.cells #[.bool false] 4)).alloc (.cells #[.int .i64 0] 25) := ⟨_, rfl⟩
  have hFX : Frm [] w X := by rw [hX]; exact ((Frm.refl _ _).alloc _).alloc _
  have g0 : X.heap[w.heap.size]? = some (.cells #[.bool false] 4 (0, 0)) := by rw [hX]; exact heap_alloc_old _ (heap_alloc_new _ _)
  have g1 : X.heap[w.heap.size + 1]? = some (.cells #[.int .i64 0] 25 (0, 0)) := by rw [hX]; exact heap_alloc_at _ (by simp)
  have k0 : X.cell? ⟨w.heap.size, 0, none⟩ = some (.bool false) := by rw [cell_of_heap g0]; rfl
  have k1 : X.cell? ⟨w.heap.size + 1, 0, none⟩ = some (.int .i64 0) := by rw [cell_of_heap g1]; rfl
  have z0 : X.frozen? ⟨w.heap.size, 0, none⟩ = false := frozen_of_heap g0
  have z1 : X.frozen? ⟨w.heap.size + 1, 0, none⟩ = false := frozen_of_heap g1
  have HPX := Lib.hid (h.frm hFX)
  have HFX := Lib.hid hFX
  clear h hFX g0 g1
  go_enter_defers Try.func80, Try.ntmps80
  go_wp2_with fail
  rw [← hX]
  clear hX
  refine (z_cnone HPX.out).mono ?_
  rintro e w' ⟨rfl, rfl⟩
  go_wp2
  have hA : Frm [] w ((X.setCell ⟨w.heap.size, 0, none⟩ (.bool false)).setCell ⟨w.heap.size + 1, 0, none⟩ (.int .i64 1)) :=
    (HFX.out.setCell _ _ (.inr (Nat.le_refl _))).setCell _ _ (.inr (Nat.le_succ _))
  have HA := Lib.hid hA
  clear hA
  simp only [bodyPostD, Leaves]
  exact ⟨.tuple #[.bool false, .int .i64 1], by simp [results, Try.results80, go_sem, k0, k1], rfl, HA.out⟩

theorem n_run {b t L k : Nat} {st met : Int} (h : PgC w q T b t L k st met) (v m : Value) : Calls Try.prog 80 #[.pointer (some ⟨q, 0, none⟩), v, .nilIface] w (Ret (.tuple #[.bool false, .int .i64 1]) (fun w' => Frm [] w w')) := by
  obtain ⟨X, hX⟩ : ∃ X, X = (w.alloc (.cells #[.bool false] 4)).alloc (.cells #[.int .i64 0] 25) := ⟨_, rfl⟩
  have hFX : Frm [] w X := by rw [hX]; exact ((Frm.refl _ _).alloc _).alloc _
  have g0 : X.heap[w.heap.size]? = some (.cells #[.bool false] 4 (0, 0)) := by rw [hX]; exact heap_alloc_old _ (heap_alloc_new _ _)
  have g1 : X.heap[w.heap.size + 1]? = some (.cells #[.int .i64 0] 25 (0, 0)) := by rw [hX]; exact heap_alloc_at _ (by simp)
  have k0 : X.cell? ⟨w.heap.size, 0, none⟩ = some (.bool false) := by rw [cell_of_heap g0]; rfl
  have k1 : X.cell? ⟨w.heap.size + 1, 0, none⟩ = some (.int .i64 0) := by rw [cell_of_heap g1]; rfl
  have z0 : X.frozen? ⟨w.heap.size, 0, none⟩ = false := frozen_of_heap g0
  have z1 : X.frozen? ⟨w.heap.size + 1, 0, none⟩ = false := frozen_of_heap g1
  have HPX := Lib.hid (h.frm hFX (by simp))
  have HFX := Lib.hid hFX
  clear h hFX g0 g1
  go_enter_defers Try.func80, Try.ntmps80
  go_wp2_with fail
  rw [← hX]
  clear hX
  refine (cnone_pg HPX.out).mono ?_
  rintro e w' ⟨rfl, rfl⟩
  go_wp2
  have hA : Frm [] w ((X.setCell ⟨w.heap.size, 0, none⟩ (.bool false)).setCell ⟨w.heap.size + 1, 0, none⟩ (.int .i64 1)) :=
    (HFX.out.setCell _ _ (.inr (Nat.le_refl _))).setCell _ _ (.inr (Nat.le_succ _))
  have HA := Lib.hid hA
  clear hA
  simp only [bodyPostD, Leaves]
  exact ⟨.tuple #[.bool false, .int .i64 1], by simp [results, Try.results80, go_sem, k0, k1], rfl, HA.out⟩

theorem aStep_z (h : PgZ w q T) (m : Value) : Calls Try.prog 76 #[.pointer (some ⟨q, 0, none⟩), m] w (Ret (.tuple #[.bool false, .int .i64 1]) (fun w' => Frm [] w w')) := by
  have hmf : ∀ (fn : Fn) (first cap : Array Value) (w : World), (Instr.makeFunc fn first cap).run Try.prog w = .ok (.func fn first cap) w := fun _ _ _ _ => rfl
  have H := Lib.hid (fun v => z_run h v m)
  clear h
  go_enter Try.func76, Try.ntmps76
  go_wp2_with fail
  refine (H.out _).mono ?_
  rintro e w1 ⟨rfl, hR⟩
  have HR := Lib.hid hR
  clear hR
  go_wp2
  go_ret2
  exact ⟨rfl, HR.out⟩

theorem aStep_n {b t L k : Nat} {st met : Int} (h : PgC w q T b t L k st met) : Calls Try.prog 76 #[.pointer (some ⟨q, 0, none⟩), .nilIface] w (Ret (.tuple #[.bool false, .int .i64 1]) (fun w' => Frm [] w w')) := by
  have hmf : ∀ (fn : Fn) (first cap : Array Value) (w : World), (Instr.makeFunc fn first cap).run Try.prog w = .ok (.func fn first cap) w := fun _ _ _ _ => rfl
  have H := Lib.hid (fun v => n_run h v (.bool true))
  clear h
  go_enter Try.func76, Try.ntmps76
  go_wp2_with fail
  refine (H.out _).mono ?_
  rintro e w1 ⟨rfl, hR⟩
  have HR := Lib.hid hR
  clear hR
  go_wp2
  go_ret2
  exact ⟨rfl, HR.out⟩

theorem aDone_z (h : PgZ w q T) : Calls Try.prog 74 #[.pointer (some ⟨q, 0, none⟩)] w (Ret (.bool true) (fun w' => w = w')) := by
  have H := Lib.hid (z_cdone h)
  clear h
  go_enter Try.func74, Try.ntmps74
  go_wp2_with fail
  refine H.out.mono ?_
  rintro e w' ⟨rfl, rfl⟩
  go_wp2
  go_ret
  exact ⟨rfl, rfl⟩
theorem aDone_p (w : World) : Calls Try.prog 74 #[.pointer none] w (Ret (.bool true) (fun w' => w = w')) := by
  go_enter Try.func74, Try.ntmps74
  go_wp2
  go_ret
  exact ⟨rfl, rfl⟩

theorem aResult_z (h : PgZ w q T) : Calls Try.prog 75 #[.pointer (some ⟨q, 0, none⟩)] w (Ret (.int .u64 0) (fun w' => w = w')) := by
  have H := Lib.hid (z_cresult h)
  clear h
  go_enter Try.func75, Try.ntmps75
  go_wp2_with fail
  refine H.out.mono ?_
  rintro e w' ⟨rfl, rfl⟩
  go_wp2
  go_ret
  exact ⟨rfl, rfl⟩
theorem aResult_p (w : World) : Calls Try.prog 75 #[.pointer none] w (Ret (.int .u64 0) (fun w' => w = w')) := by
  go_enter Try.func75, Try.ntmps75
  go_wp2
  go_ret
  exact ⟨rfl, rfl⟩

theorem aCopy_z (h : PgZ w q T) : Calls Try.prog 73 #[.pointer (some ⟨q, 0, none⟩)] w (Ret (.nilIface) (fun w' => w = w')) := by
  have H := Lib.hid (z_cnone h)
  clear h
  go_enter Try.func73, Try.ntmps73
  go_wp2_with fail
  refine H.out.mono ?_
  rintro e w' ⟨rfl, rfl⟩
  go_wp2
  go_ret
  exact ⟨rfl, rfl⟩
theorem aCopy_p (w : World) : Calls Try.prog 73 #[.pointer none] w (Ret (.nilIface) (fun w' => w = w')) := by
  go_enter Try.func73, Try.ntmps73
  go_wp2
  go_ret
  exact ⟨rfl, rfl⟩

theorem aStep_p (w : World) (m : Value) : Calls Try.prog 76 #[.pointer none, m] w (Ret (.tuple #[.bool false, .int .i64 1]) (fun w' => Frm [] w w')) := by
  go_enter Try.func76, Try.ntmps76
  go_wp2
  go_ret2
  exact ⟨rfl, Frm.refl _ _⟩

theorem rStep_z (h : PgZ w q T) (m : Value) : Calls Try.prog 95 #[.pointer (some ⟨q, 0, none⟩), m] w (Ret (.tuple #[.bool false, .int .i64 1]) (fun w' => Frm [] w w')) := by
  have hmf : ∀ (fn : Fn) (first cap : Array Value) (w : World), (Instr.makeFunc fn first cap).run Try.prog w = .ok (.func fn first cap) w := fun _ _ _ _ => rfl
  have H := Lib.hid (fun v => z_run h v m)
  clear h
  go_enter Try.func95, Try.ntmps95
  go_wp2_with fail
  refine (H.out _).mono ?_
  rintro e w1 ⟨rfl, hR⟩
  have HR := Lib.hid hR
  clear hR
  go_wp2
  go_ret2
  exact ⟨rfl, HR.out⟩

theorem rStep_n {b t L k : Nat} {st met : Int} (h : PgC w q T b t L k st met) : Calls Try.prog 95 #[.pointer (some ⟨q, 0, none⟩), .nilIface] w (Ret (.tuple #[.bool false, .int .i64 1]) (fun w' => Frm [] w w')) := by
  have hmf : ∀ (fn : Fn) (first cap : Array Value) (w : World), (Instr.makeFunc fn first cap).run Try.prog w = .ok (.func fn first cap) w := fun _ _ _ _ => rfl
  have H := Lib.hid (fun v => n_run h v (.bool true))
  clear h
  go_enter Try.func95, Try.ntmps95
  go_wp2_with fail
  refine (H.out _).mono ?_
  rintro e w1 ⟨rfl, hR⟩
  have HR := Lib.hid hR
  clear hR
  go_wp2
  go_ret2
  exact ⟨rfl, HR.out⟩

theorem rDone_z (h : PgZ w q T) : Calls Try.prog 93 #[.pointer (some ⟨q, 0, none⟩)] w (Ret (.bool true) (fun w' => w = w')) := by
  have H := Lib.hid (z_cdone h)
  clear h
  go_enter Try.func93, Try.ntmps93
  go_wp2_with fail
  refine H.out.mono ?_
  rintro e w' ⟨rfl, rfl⟩
  go_wp2
  go_ret
  exact ⟨rfl, rfl⟩
theorem rDone_p (w : World) : Calls Try.prog 93 #[.pointer none] w (Ret (.bool true) (fun w' => w = w')) := by
  go_enter Try.func93, Try.ntmps93
  go_wp2
  go_ret
  exact ⟨rfl, rfl⟩

theorem rResult_z (h : PgZ w q T) : Calls Try.prog 94 #[.pointer (some ⟨q, 0, none⟩)] w (Ret (.int .u64 0) (fun w' => w = w')) := by
  have H := Lib.hid (z_cresult h)
  clear h
  go_enter Try.func94, Try.ntmps94
  go_wp2_with fail
  refine H.out.mono ?_
  rintro e w' ⟨rfl, rfl⟩
  go_wp2
  go_ret
  exact ⟨rfl, rfl⟩
theorem rResult_p (w : World) : Calls Try.prog 94 #[.pointer none] w (Ret (.int .u64 0) (fun w' => w = w')) := by
  go_enter Try.func94, Try.ntmps94
  go_wp2
  go_ret
  exact ⟨rfl, rfl⟩

theorem rCopy_z (h : PgZ w q T) : Calls Try.prog 92 #[.pointer (some ⟨q, 0, none⟩)] w (Ret (.nilIface) (fun w' => w = w')) := by
  have H := Lib.hid (z_cnone h)
  clear h
  go_enter Try.func92, Try.ntmps92
  go_wp2_with fail
  refine H.out.mono ?_
  rintro e w' ⟨rfl, rfl⟩
  go_wp2
  go_ret
  exact ⟨rfl, rfl⟩
theorem rCopy_p (w : World) : Calls Try.prog 92 #[.pointer none] w (Ret (.nilIface) (fun w' => w = w')) := by
  go_enter Try.func92, Try.ntmps92
  go_wp2
  go_ret
  exact ⟨rfl, rfl⟩

theorem rStep_p (w : World) (m : Value) : Calls Try.prog 95 #[.pointer none, m] w (Ret (.tuple #[.bool false, .int .i64 1]) (fun w' => Frm [] w w')) := by
  go_enter Try.func95, Try.ntmps95
  go_wp2
  go_ret2
  exact ⟨rfl, Frm.refl _ _⟩

end

/-- A nil or zero program. -/
def NilP (w : World) (back : Bool) (v : Value) : Prop := v = .pointer none ∨ ∃ q, v = .pointer (some ⟨q, 0, none⟩) ∧ PgZ w q (Tp back)
theorem NilP.frm {w w' : World} {back : Bool} {v : Value} (h : NilP w back v) (hf : Frm [] w w') : NilP w' back v := by
  rcases h with h | ⟨q, h, hz⟩
  · exact .inl h
  · exact .inr ⟨q, h, hz.frm hf⟩
section
variable {w : World} {back : Bool} {v : Value}
theorem Step_nilp (h : NilP w back v) (m : Value) : Calls Try.prog (fStep back) #[v, m] w (Ret (.tuple #[.bool false, .int .i64 1]) (fun w' => Frm [] w w')) := by
  rcases h with rfl | ⟨q, rfl, hz⟩ <;> cases back
  · exact aStep_p w m
  · exact rStep_p w m
  · exact aStep_z hz m
  · exact rStep_z hz m

theorem Done_nilp (h : NilP w back v) : Calls Try.prog (fDone back) #[v] w (Ret (.bool true) (fun w' => w = w')) := by
  rcases h with rfl | ⟨q, rfl, hz⟩ <;> cases back
  · exact aDone_p w
  · exact rDone_p w
  · exact aDone_z hz
  · exact rDone_z hz

theorem Result_nilp (h : NilP w back v) : Calls Try.prog (fResult back) #[v] w (Ret (.int .u64 0) (fun w' => w = w')) := by
  rcases h with rfl | ⟨q, rfl, hz⟩ <;> cases back
  · exact aResult_p w
  · exact rResult_p w
  · exact aResult_z hz
  · exact rResult_z hz

theorem Copy_nilp (h : NilP w back v) : Calls Try.prog (fCopy back) #[v] w (Ret (.nilIface) (fun w' => w = w')) := by
  rcases h with rfl | ⟨q, rfl, hz⟩ <;> cases back
  · exact aCopy_p w
  · exact rCopy_p w
  · exact aCopy_z hz
  · exact rCopy_z hz

theorem Step_nil_mem {q b t L k : Nat} {s o : Int} {e : Bool} (h : PgR w q back b t L k s o e) : Calls Try.prog (fStep back) #[.pointer (some ⟨q, 0, none⟩), .nilIface] w (Ret (.tuple #[.bool false, .int .i64 1]) (fun w' => Frm [] w w')) := by
  obtain ⟨met, hP, hr⟩ := h
  cases back with
  | false => exact aStep_n hP
  | true => exact rStep_n hP
theorem mp_Step (back : Bool) (v : Value) (h : ∃ a, v = .pointer a) (w : World) : (method 249 (Ip back) v "Step").run Try.prog w = .ok (fStep back, v) w := by obtain ⟨a, rfl⟩ := h; cases back <;> cases a <;> kernel_rfl
theorem mp_Done (back : Bool) (v : Value) (h : ∃ a, v = .pointer a) (w : World) : (method 249 (Ip back) v "Done").run Try.prog w = .ok (fDone back, v) w := by obtain ⟨a, rfl⟩ := h; cases back <;> cases a <;> kernel_rfl
theorem mp_Result (back : Bool) (v : Value) (h : ∃ a, v = .pointer a) (w : World) : (method 249 (Ip back) v "Result").run Try.prog w = .ok (fResult back, v) w := by obtain ⟨a, rfl⟩ := h; cases back <;> cases a <;> kernel_rfl
theorem mp_Copy (back : Bool) (v : Value) (h : ∃ a, v = .pointer a) (w : World) : (method 249 (Ip back) v "Copy").run Try.prog w = .ok (fCopy back, v) w := by obtain ⟨a, rfl⟩ := h; cases back <;> cases a <;> kernel_rfl
end
theorem kn_begin0 {w : World} {n : Nat} (h : Nd w n 1 2) (back : Bool) : Calls Try.prog 11 #[.pointer (some ⟨n, 0, none⟩), .int .i64 0, .int .i64 0, .bool back] w (fun e w' => ∃ q, Ret (.tuple #[.iface (Ip back) (.pointer (some ⟨q, 0, none⟩)), .int .i64 0]) (fun w' => Frm [] w w' ∧ PgR w' q back 1 2 0 0 1 0 false ∧ w.heap.size ≤ q) e w') := begin_yes h (by decide) ⟨by decide, by decide, .inl (by decide)⟩ (by decide) back
theorem cells2b {w : World} {b : Nat} {x0 x1 : Value} {t : TypeId} (h : w.heap[b]? = some (.cells #[x0, x1] t (0, 0))) : w.cell? ⟨b, 0, none⟩ = some x0 ∧ w.cell? ⟨b, 1, none⟩ = some x1 := by
  refine ⟨?_, ?_⟩ <;> rw [cell_of_heap h] <;> rfl

set_option maxRecDepth 100000 in
set_option maxHeartbeats 2000000 in
theorem walk_McsNil (lk : Int) (_wl : (Lit.int .i64 lk).wf = true) (nd : Int) (_wn : (Lit.int .i64 nd).wf = true) (w : World) :
    Calls Try.prog 6 #[.int .i64 lk, .int .i64 nd] w (Ret (.bool true) (fun w' => Below w.heap.size w w')) := by
  have hmk := mk_13
  go_enter Try.func6, Try.ntmps6
  go_wp2_with fail
  have hr0 := rd_13 w
  refine (made_any hr0 (by decide) (by decide)).mono ?_
  rintro e w1 ⟨p, d, c, rfl, hF, hM, hp, hd⟩
  have HF := Lib.hid ((((Frm.refl [] w).alloc _).trans hF))
  have HM := Lib.hid hM
  clear hF hM hp hd hr0 hmk
  go_wp2_with fail
  refine (kn_new _).mono ?_
  rintro e w2 ⟨rfl, hF, hN⟩
  generalize w1.heap.size = n at hN
  replace HF := Lib.hid (HF.out.trans hF)
  replace HM := Lib.hid (HM.out.frm hF (by simp) (by simp))
  have HN := Lib.hid hN
  clear hF hN
  go_wp2_with fail
  obtain ⟨X, hX⟩ : ∃ X, X = w2.alloc (.cells #[.bool false, .bool true] 4) := ⟨_, rfl⟩
  have hFX : Frm [] w2 X := by rw [hX]; exact (Frm.refl _ _).alloc _
  have hb : X.heap[w2.heap.size]? = some (.cells #[.bool false, .bool true] 4 (0, 0)) := by rw [hX]; exact heap_alloc_new _ _
  rw [← hX]
  replace HN := Lib.hid (HN.out.frm hFX)
  replace HM := Lib.hid (HM.out.frm hFX (by simp) (by simp))
  replace HF := Lib.hid (HF.out.trans hFX)
  have HB := Lib.hid hb
  clear hX hb hFX
  go_loopw [10, 11, 12, 13, 14, 15, 16, 17, 18, 43, 44, 45, 46, 47, 48, 49, 50, 51, 52, 53, 54, 55, 56, 57, 58, 59, 60, 61, 62, 63, 64, 65, 66, 67, 68, 69, 70, 71, 72, 73, 74, 75, 76, 77, 78, 79, 80, 81, 82, 83, 84, 85, 86, 87, 88, 89, 90, 91, 92, 93, 94, 95, 96, 97, 98, 99, 100, 101, 102, 103] (fun _ _ _ _ _ _ _ _ _ i _ _ _ _ _ _ _ _ _ _ _ _ _ _ _ _ _ _ _ _ _ _ _ _ _ _ _ _ _ _ _ _ _ _ _ _ _ _ _ _ _ _ _ _ _ _ _ _ _ _ _ _ _ _ _ _ _ _ _ _ wr => ∃ k : Nat, k ≤ 2 ∧ i = .int .i64 k ∧ Frm [] X wr) (fun _ _ _ _ _ _ _ _ _ i _ _ _ _ _ _ _ _ _ _ _ _ _ _ _ _ _ _ _ _ _ _ _ _ _ _ _ _ _ _ _ _ _ _ _ _ _ _ _ _ _ _ _ _ _ _ _ _ _ _ _ _ _ _ _ _ _ _ _ _ _ => 2 - (intOf i).toNat)
  case atStart => exact ⟨0, by omega, rfl, Frm.refl _ _⟩
  case round =>
    obtain ⟨k, hk, rfl, hF⟩ := hrel
    obtain ⟨s0, s1⟩ := cells2b (hF.heap HB.out (by simp))
    have hBl := Nat.lt_of_lt_of_le (lt_of_heap HB.out) hF.size
    have HR := Lib.hid hF
    have HNr := Lib.hid (HN.out.frm hF)
    clear hF
    have hkk : k = 0 ∨ k = 1 ∨ k = 2 := by omega
    rcases hkk with rfl | rfl | rfl
    · have HZ0 : Hid (Zv wr (.pointer none)) := Lib.hid (Zv.nil wr)
      have hm := m_Step false
      have hc := c_Step false
      have hm2 := m_Done false
      have hc2 := c_Done false
      go_wp2_with fail
      refine (begin_z HZ0.out false).mono ?_
      rintro e y1 ⟨rfl, g1⟩
      replace HR := Lib.hid (HR.out.trans g1)
      replace HNr := Lib.hid (HNr.out.frm g1)
      clear g1
      go_wp2_with fail
      refine (begin_z (.inr ⟨_, rfl, heap_alloc_new y1 _⟩) false).mono ?_
      rintro e y2 ⟨rfl, g1⟩
      have g2 : Frm [] y1 y2 := ((Frm.refl [] y1).alloc _).trans g1
      replace HR := Lib.hid (HR.out.trans g2)
      replace HNr := Lib.hid (HNr.out.frm g2)
      clear g1 g2
      go_wp2_with fail
      refine (kn_begin0 HNr.out false).mono ?_
      rintro e y3 ⟨qx, rfl, g1, hQ, hq⟩
      replace HR := Lib.hid (HR.out.trans g1)
      have HQ := Lib.hid hQ
      clear g1 hQ hq
      go_wp2_with fail
      refine (Step_nil_mem HQ.out).mono ?_
      rintro e y4 ⟨rfl, g1⟩
      replace HR := Lib.hid (HR.out.trans g1)
      replace HQ := Lib.hid (HQ.out.frm g1 (by simp))
      clear g1
      go_wp2_with fail
      refine (Done_any HQ.out).mono ?_
      rintro e y5 ⟨rfl, rfl⟩
      clear hm hc hm2 hc2
      go_wp2
      go_roundw
      case rel => exact ⟨1, by omega, by go_num, HR.out⟩
      case measure => simp [intOf]
    · have HZ0 : Hid (Zv wr (.pointer none)) := Lib.hid (Zv.nil wr)
      have hm := m_Step true
      have hc := c_Step true
      have hm2 := m_Done true
      have hc2 := c_Done true
      go_wp2_with fail
      refine (begin_z HZ0.out true).mono ?_
      rintro e y1 ⟨rfl, g1⟩
      replace HR := Lib.hid (HR.out.trans g1)
      replace HNr := Lib.hid (HNr.out.frm g1)
      clear g1
      go_wp2_with fail
      refine (begin_z (.inr ⟨_, rfl, heap_alloc_new y1 _⟩) true).mono ?_
      rintro e y2 ⟨rfl, g1⟩
      have g2 : Frm [] y1 y2 := ((Frm.refl [] y1).alloc _).trans g1
      replace HR := Lib.hid (HR.out.trans g2)
      replace HNr := Lib.hid (HNr.out.frm g2)
      clear g1 g2
      go_wp2_with fail
      refine (kn_begin0 HNr.out true).mono ?_
      rintro e y3 ⟨qx, rfl, g1, hQ, hq⟩
      replace HR := Lib.hid (HR.out.trans g1)
      have HQ := Lib.hid hQ
      clear g1 hQ hq
      go_wp2_with fail
      refine (Step_nil_mem HQ.out).mono ?_
      rintro e y4 ⟨rfl, g1⟩
      replace HR := Lib.hid (HR.out.trans g1)
      replace HQ := Lib.hid (HQ.out.frm g1 (by simp))
      clear g1
      go_wp2_with fail
      refine (Done_any HQ.out).mono ?_
      rintro e y5 ⟨rfl, rfl⟩
      clear hm hc hm2 hc2
      go_wp2
      go_roundw
      case rel => exact ⟨2, by omega, by go_num, HR.out⟩
      case measure => simp [intOf]
    · have e2 : ((2 : Nat) : Int) = 2 := rfl
      rw [e2]
      clear e2
      go_wp2_with fail
      obtain ⟨Y, hY⟩ : ∃ Y, Y = ((wr.alloc (.cells #[.int .i64 0, .int .i64 0, .int .i64 0, .int .i64 0, .int .i64 0, .int .u64 0] 68)).alloc (.cells #[.int .i64 0, .int .i64 0, .int .i64 0, .int .i64 0, .int .i64 0, .int .u64 0] 69)).alloc (.cells #[.iface 62 (.pointer none), .iface 62 (.pointer (some ⟨wr.heap.size, 0, none⟩)), .iface 63 (.pointer none), .iface 63 (.pointer (some ⟨wr.heap.size + 1, 0, none⟩))] 37) := ⟨_, rfl⟩
      have hFY : Frm [] wr Y := by rw [hY]; exact (((Frm.refl _ _).alloc _).alloc _).alloc _
      have y1 : PgZ Y wr.heap.size (Tp false) := by rw [hY]; exact heap_alloc_old _ (heap_alloc_old _ (heap_alloc_new _ _))
      have y2 : PgZ Y (wr.heap.size + 1) (Tp true) := by rw [hY]; exact heap_alloc_old _ (heap_alloc_at _ (by simp))
      have y3 : Y.heap[wr.heap.size + 2]? = some (.cells #[.iface (Ip false) (.pointer none), .iface (Ip false) (.pointer (some ⟨wr.heap.size, 0, none⟩)), .iface (Ip true) (.pointer none), .iface (Ip true) (.pointer (some ⟨wr.heap.size + 1, 0, none⟩))] 37 (0, 0)) := by rw [hY]; exact heap_alloc_at _ (by simp)
      rw [← hY]
      have HG := Lib.hid (HF.out.trans (HR.out.trans hFY))
      have HMY := Lib.hid (HM.out.frm (HR.out.trans hFY) (by simp) (by simp))
      have Y1 := Lib.hid y1
      have Y2 := Lib.hid y2
      have Y3 := Lib.hid y3
      have hY3l := lt_of_heap y3
      clear hY hFY y1 y2 y3 s0 s1 hBl
      generalize wr.heap.size = z at Y1 Y2 Y3 hY3l ⊢
      go_loopw [22, 23, 24, 116, 117, 118, 119, 120, 121, 122, 123, 124, 125, 126, 127, 128, 129, 130, 131, 132, 133, 134, 135, 136, 137, 138, 139, 140, 141, 142, 143, 144, 145, 146, 147] (fun _ _ _ i _ _ _ _ _ _ _ _ _ _ _ _ _ _ _ _ _ _ _ _ _ _ _ _ _ _ _ _ _ _ _ wz => ∃ k : Nat, k ≤ 4 ∧ i = .int .i64 k ∧ Frm [] Y wz) (fun _ _ _ i _ _ _ _ _ _ _ _ _ _ _ _ _ _ _ _ _ _ _ _ _ _ _ _ _ _ _ _ _ _ _ _ => 4 - (intOf i).toNat)
      case atStart => exact ⟨0, by omega, rfl, Frm.refl _ _⟩
      case round =>
        obtain ⟨j, hj, rfl, hFz⟩ := hrel
        obtain ⟨s0, s1, s2, s3⟩ := cells4 (hFz.heap Y3.out (by simp))
        have hl3 := Nat.lt_of_lt_of_le hY3l hFz.size
        have HZ := Lib.hid hFz
        have N0 : Hid (NilP wr false (.pointer none)) := Lib.hid (.inl rfl)
        have N1 : Hid (NilP wr false (.pointer (some ⟨z, 0, none⟩))) := Lib.hid (.inr ⟨_, rfl, Y1.out.frm hFz⟩)
        have N2 : Hid (NilP wr true (.pointer none)) := Lib.hid (.inl rfl)
        have N3 : Hid (NilP wr true (.pointer (some ⟨z + 1, 0, none⟩))) := Lib.hid (.inr ⟨_, rfl, Y2.out.frm hFz⟩)
        clear hFz
        have hjj : j = 0 ∨ j = 1 ∨ j = 2 ∨ j = 3 ∨ j = 4 := by omega
        rcases hjj with rfl | rfl | rfl | rfl | rfl
        · have hm := mp_Step false (.pointer none) ⟨_, rfl⟩
          have hc := c_Step false
          have hm2 := mp_Done false (.pointer none) ⟨_, rfl⟩
          have hc2 := c_Done false
          have hm3 := mp_Result false (.pointer none) ⟨_, rfl⟩
          have hc3 := c_Result false
          have hm4 := mp_Copy false (.pointer none) ⟨_, rfl⟩
          have hc4 := c_Copy false
          go_wp2_with fail
          refine (Step_nilp N0.out _).mono ?_
          rintro e y1 ⟨rfl, g1⟩
          replace HZ := Lib.hid (HZ.out.trans g1)
          replace N0 := Lib.hid (N0.out.frm g1)
          clear g1
          go_wp2_with fail
          refine (Done_nilp N0.out).mono ?_
          rintro e y2 ⟨rfl, rfl⟩
          go_wp2_with fail
          refine (Result_nilp N0.out).mono ?_
          rintro e y2 ⟨rfl, rfl⟩
          go_wp2_with fail
          refine (Copy_nilp N0.out).mono ?_
          rintro e y2 ⟨rfl, rfl⟩
          clear hm hc hm2 hc2 hm3 hc3 hm4 hc4
          go_wp2
          go_roundw
          case rel => exact ⟨1, by omega, by go_num, HZ.out⟩
          case measure => simp [intOf]
        · have hm := mp_Step false (.pointer (some ⟨z, 0, none⟩)) ⟨_, rfl⟩
          have hc := c_Step false
          have hm2 := mp_Done false (.pointer (some ⟨z, 0, none⟩)) ⟨_, rfl⟩
          have hc2 := c_Done false
          have hm3 := mp_Result false (.pointer (some ⟨z, 0, none⟩)) ⟨_, rfl⟩
          have hc3 := c_Result false
          have hm4 := mp_Copy false (.pointer (some ⟨z, 0, none⟩)) ⟨_, rfl⟩
          have hc4 := c_Copy false
          go_wp2_with fail
          refine (Step_nilp N1.out _).mono ?_
          rintro e y1 ⟨rfl, g1⟩
          replace HZ := Lib.hid (HZ.out.trans g1)
          replace N1 := Lib.hid (N1.out.frm g1)
          clear g1
          go_wp2_with fail
          refine (Done_nilp N1.out).mono ?_
          rintro e y2 ⟨rfl, rfl⟩
          go_wp2_with fail
          refine (Result_nilp N1.out).mono ?_
          rintro e y2 ⟨rfl, rfl⟩
          go_wp2_with fail
          refine (Copy_nilp N1.out).mono ?_
          rintro e y2 ⟨rfl, rfl⟩
          clear hm hc hm2 hc2 hm3 hc3 hm4 hc4
          go_wp2
          go_roundw
          case rel => exact ⟨2, by omega, by go_num, HZ.out⟩
          case measure => simp [intOf]
        · have hm := mp_Step true (.pointer none) ⟨_, rfl⟩
          have hc := c_Step true
          have hm2 := mp_Done true (.pointer none) ⟨_, rfl⟩
          have hc2 := c_Done true
          have hm3 := mp_Result true (.pointer none) ⟨_, rfl⟩
          have hc3 := c_Result true
          have hm4 := mp_Copy true (.pointer none) ⟨_, rfl⟩
          have hc4 := c_Copy true
          go_wp2_with fail
          refine (Step_nilp N2.out _).mono ?_
          rintro e y1 ⟨rfl, g1⟩
          replace HZ := Lib.hid (HZ.out.trans g1)
          replace N2 := Lib.hid (N2.out.frm g1)
          clear g1
          go_wp2_with fail
          refine (Done_nilp N2.out).mono ?_
          rintro e y2 ⟨rfl, rfl⟩
          go_wp2_with fail
          refine (Result_nilp N2.out).mono ?_
          rintro e y2 ⟨rfl, rfl⟩
          go_wp2_with fail
          refine (Copy_nilp N2.out).mono ?_
          rintro e y2 ⟨rfl, rfl⟩
          clear hm hc hm2 hc2 hm3 hc3 hm4 hc4
          go_wp2
          go_roundw
          case rel => exact ⟨3, by omega, by go_num, HZ.out⟩
          case measure => simp [intOf]
        · have hm := mp_Step true (.pointer (some ⟨z + 1, 0, none⟩)) ⟨_, rfl⟩
          have hc := c_Step true
          have hm2 := mp_Done true (.pointer (some ⟨z + 1, 0, none⟩)) ⟨_, rfl⟩
          have hc2 := c_Done true
          have hm3 := mp_Result true (.pointer (some ⟨z + 1, 0, none⟩)) ⟨_, rfl⟩
          have hc3 := c_Result true
          have hm4 := mp_Copy true (.pointer (some ⟨z + 1, 0, none⟩)) ⟨_, rfl⟩
          have hc4 := c_Copy true
          go_wp2_with fail
          refine (Step_nilp N3.out _).mono ?_
          rintro e y1 ⟨rfl, g1⟩
          replace HZ := Lib.hid (HZ.out.trans g1)
          replace N3 := Lib.hid (N3.out.frm g1)
          clear g1
          go_wp2_with fail
          refine (Done_nilp N3.out).mono ?_
          rintro e y2 ⟨rfl, rfl⟩
          go_wp2_with fail
          refine (Result_nilp N3.out).mono ?_
          rintro e y2 ⟨rfl, rfl⟩
          go_wp2_with fail
          refine (Copy_nilp N3.out).mono ?_
          rintro e y2 ⟨rfl, rfl⟩
          clear hm hc hm2 hc2 hm3 hc3 hm4 hc4
          go_wp2
          go_roundw
          case rel => exact ⟨4, by omega, by go_num, HZ.out⟩
          case measure => simp [intOf]
        · go_wp2_with fail
          refine known_true.mono ?_
          rintro e y1 ⟨rfl, g1⟩
          have HE := Lib.hid (HG.out.trans (HZ.out.trans g1))
          clear g1
          go_wp2
          go_ret
          exact ⟨rfl, HE.out.below (Nat.le_refl _) (by simp)⟩
#print axioms walk_McsNil
end Go.Proofs.Ytoieedlkffmcgaa
