/- Stage 12: chains: goOn drops; keeps; Step. -/
import Derived.Test.YtieccmmnfnpcoaaThL
namespace Go.Proofs.Ytieccmmnfnpcoaa
open Go.ChangeShapes Go.WideShapes Go.ChangeAt Go.RowKit
set_option linter.unusedVariables false
theorem ta_code (v : Option Addr) (w : World) : (Instr.typeAssert (.iface 76 (.pointer v)) 27 76 true).run Try.prog w = .ok (.tuple #[.pointer v, .bool true]) w := by kernel_rfl
theorem ta_chain (v : Option Addr) (w : World) : (Instr.typeAssert (.iface 76 (.pointer v)) 27 129 true).run Try.prog w = .ok (.tuple #[.pointer none, .bool false]) w := by kernel_rfl
set_option maxRecDepth 100000 in
theorem keeps_any (q : Nat) (w : World) : Calls Try.prog 120 #[.iface 76 (.pointer (some ⟨q, 0, none⟩))] w (Ret (.bool true) (fun w' => w = w')) := by
  have h1 := ta_code (some ⟨q, 0, none⟩)
  have h2 := ta_chain (some ⟨q, 0, none⟩)
  go_enter Try.func120, Try.ntmps120
  go_wp2
  go_ret
  exact ⟨rfl, rfl⟩
section
variable {w : World} {q pb o c : Nat} {a : Option Addr} {cl : List Ce} {res : Int}
set_option maxRecDepth 100000 in
set_option maxHeartbeats 4000000 in
/-- The last one has ended. -/
theorem hgo_end {e : Ce} (h : ChAt w q pb o c a [e] res) (hx : e.x.nx = e.x.l.length) : Calls Try.prog 68 #[.pointer (some ⟨q, 0, none⟩)] w (Ret (.tuple #[]) (fun w' => Frm [q] w w' ∧ ∃ a' o', ChAt w' q pb o' (c - 1) a' [] e.x.res)) := by
  have h0 := h.c0
  have hcap := h.cap
  obtain ⟨a', hcut, ha'⟩ := cut_prog (n := 0) (c := c) (h.ad (by simp)) (by simpa using hcap)
  obtain rfl := h.ad (by simp)
  have hp : w.cell? ⟨pb, o, none⟩ = some (.iface 76 (.pointer (some ⟨e.q, 0, none⟩))) := h.pcell (i := 0) rfl
  have H1 := Lib.hid (hE_code (h.code 0 e rfl))
  have hd : decide (e.x.nx = e.x.l.length) = true := by simp; omega
  rw [hd] at H1
  have H := Lib.hid h
  clear h hd hx hcap ha'
  go_enter Try.func68, Try.ntmps68
  go_wp2_with fail
  refine wp_loop_rounds 2 ?_
  rw [rounds_succ]
  go_wp2_with fail
  refine H1.out.mono ?_
  rintro e1 w1 ⟨rfl, hF1⟩
  have hA1 := H.out.frm0 hF1
  clear h0 hp
  have h0 := hA1.c0
  have hp : w1.cell? ⟨pb, o, none⟩ = some (.iface 76 (.pointer (some ⟨e.q, 0, none⟩))) := hA1.pcell (i := 0) rfl
  have H2 := Lib.hid (rO_code (hA1.code 0 e rfl))
  have HF1 := Lib.hid hF1
  have HA1 := Lib.hid hA1
  clear hF1 hA1
  go_wp2_with fail
  refine H2.out.mono ?_
  rintro e2 w2 ⟨rfl, hF2⟩
  have hA2 := HA1.out.frm0 hF2
  clear h0 hp
  have h0 := hA2.c0
  have hc1 := hA2.c1
  have hfz := hA2.frz
  have hA3 := hA2.drop (a' := a') (by simp) e.x.res
  have hF3 : Frm [q] w2 ((w2.setCell ⟨q, 1, none⟩ (.int .u64 e.x.res)).setCell ⟨q, 0, none⟩ (.slice a' ([] : List Ce).length (c - 1))) :=
    ((Frm.refl [q] w2).setCell ⟨q, 1, none⟩ _ (.inl (by simp))).setCell ⟨q, 0, none⟩ _ (.inl (by simp))
  have HF2 := Lib.hid (HF1.out.nil.trans (hF2.nil.trans hF3))
  have HA3 := Lib.hid hA3
  have hql := hA2.lt
  clear hA2 hF2 hA3 hF3
  go_wp2_with fail
  rw [rounds_succ]
  go_wp2
  go_end0
  exact ⟨rfl, HF2.out, a', o + 1, HA3.out⟩
set_option maxRecDepth 100000 in
set_option maxHeartbeats 4000000 in
/-- The first one has ended, the next one has not. -/
theorem hgo_next {e f : Ce} {l : List Ce} (h : ChAt w q pb o c a (e :: f :: l) res) (hx : e.x.nx = e.x.l.length) (hy : f.x.nx < f.x.l.length) : Calls Try.prog 68 #[.pointer (some ⟨q, 0, none⟩)] w (Ret (.tuple #[]) (fun w' => Frm [q] w w' ∧ ∃ a' o' r, ChAt w' q pb o' (c - 1) a' (f :: l) r)) := by
  have h0 := h.c0
  have hcap := h.cap
  obtain ⟨a', hcut, ha'⟩ := cut_prog (n := l.length + 1) (c := c) (h.ad (by simp)) (by simpa using hcap)
  obtain rfl := h.ad (by simp)
  obtain rfl := ha' (by omega)
  rw [List.length_cons, List.length_cons] at h0
  have hp : w.cell? ⟨pb, o, none⟩ = some (.iface 76 (.pointer (some ⟨e.q, 0, none⟩))) := h.pcell (i := 0) rfl
  have H1 := Lib.hid (hE_code (h.code 0 e rfl))
  have hd : decide (e.x.nx = e.x.l.length) = true := by simp; omega
  rw [hd] at H1
  have hdf : decide (f.x.nx = f.x.l.length) = false := by simp; omega
  have HDF := Lib.hid hdf
  have H := Lib.hid h
  clear h hd hdf hx hcap ha' hy
  go_enter Try.func68, Try.ntmps68
  go_wp2_with fail
  refine wp_loop_rounds 2 ?_
  rw [rounds_succ]
  go_wp2_with fail
  refine H1.out.mono ?_
  rintro e1 w1 ⟨rfl, hF1⟩
  have hA1 := H.out.frm0 hF1
  clear h0 hp
  have h0 := hA1.c0
  rw [List.length_cons, List.length_cons] at h0
  have hp : w1.cell? ⟨pb, o, none⟩ = some (.iface 76 (.pointer (some ⟨e.q, 0, none⟩))) := hA1.pcell (i := 0) rfl
  have H2 := Lib.hid (rO_code (hA1.code 0 e rfl))
  have HF1 := Lib.hid hF1
  have HA1 := Lib.hid hA1
  clear hF1 hA1
  go_wp2_with fail
  refine H2.out.mono ?_
  rintro e2 w2 ⟨rfl, hF2⟩
  have hA2 := HA1.out.frm0 hF2
  clear h0 hp
  have h0 := hA2.c0
  rw [List.length_cons, List.length_cons] at h0
  have hc1 := hA2.c1
  have hfz := hA2.frz
  have hA3 := hA2.drop (a' := some ⟨pb, o + 1, none⟩) (fun _ => rfl) e.x.res
  have hF3 : Frm [q] w2 ((w2.setCell ⟨q, 1, none⟩ (.int .u64 e.x.res)).setCell ⟨q, 0, none⟩ (.slice (some ⟨pb, o + 1, none⟩) (f :: l).length (c - 1))) :=
    ((Frm.refl [q] w2).setCell ⟨q, 1, none⟩ _ (.inl (by simp))).setCell ⟨q, 0, none⟩ _ (.inl (by simp))
  have HF2 := Lib.hid (HF1.out.nil.trans (hF2.nil.trans hF3))
  have HA3 := Lib.hid hA3
  have hql := hA2.lt
  clear hA2 hF2 hA3 hF3
  go_wp2_with fail
  rw [rounds_succ]
  have hA3 := HA3.out
  have hF3 := HF2.out
  rw [List.length_cons] at hA3 hF3
  clear HA3 HF2 h0 hc1 hfz
  generalize (w2.setCell ⟨q, 1, none⟩ (.int .u64 e.x.res)).setCell ⟨q, 0, none⟩ (.slice (some ⟨pb, o + 1, none⟩) (l.length + 1) (c - 1)) = w3 at hA3 hF3 ⊢
  have h0 := hA3.c0
  rw [List.length_cons] at h0
  have hp : w3.cell? ⟨pb, o + 1, none⟩ = some (.iface 76 (.pointer (some ⟨f.q, 0, none⟩))) := hA3.pcell (i := 0) rfl
  have H3 := Lib.hid (hE_code (hA3.code 0 f rfl))
  rw [HDF.out] at H3
  have HA3 := Lib.hid hA3
  have HF3 := Lib.hid hF3
  clear hA3 hF3
  go_wp2_with fail
  refine H3.out.mono ?_
  rintro e3 w4 ⟨rfl, hF4⟩
  have HF4 := Lib.hid hF4
  clear hF4
  go_wp2
  go_end0
  exact ⟨rfl, HF3.out.trans HF4.out.nil, _, o + 1, _, HA3.out.frm0 HF4.out⟩
end
end Go.Proofs.Ytieccmmnfnpcoaa
