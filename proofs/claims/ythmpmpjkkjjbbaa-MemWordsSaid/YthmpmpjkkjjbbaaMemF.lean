/- Package mem: the methods of an Once; the law's helpers through the interface. -/
import Derived.Test.YthmpmpjkkjjbbaaMemE
namespace Go.Proofs.Ythmpmpjkkjjbbaa
open Go.ChangeShapes Go.WideShapes Go.ChangeAt Go.RowKit

theorem Load_once {w : World} {q p d c : Nat} {a : Acc} {ws : List Int} (ho : OnceAt w q p a) (hM : MemAt w p d c ws) (hqp : q ≠ p) (hqd : q ≠ d) (x : Int) :
    Calls Try.prog 59 #[.pointer (some ⟨q, 0, none⟩), .int .i64 x] w (Ret (.tuple #[.int .u64 (oRes a ws ⟨1, x, 0, 0⟩).b, .int .i64 (oErr a ws.length 1 x)]) (fun w' => Frm [d, q] w w' ∧ MemAt w' p d c (oWs a ws ⟨1, x, 0, 0⟩) ∧ OnceAt w' q p (oAcc a ws ⟨1, x, 0, 0⟩))) := by
  go_enter Try.func59, Try.ntmps59
  go_wp2_with fail
  refine (mk_load _ _).mono ?_
  rintro e w1 ⟨rfl, hF1⟩
  have hM1 : MemAt w1 p d c ws := hM.frm hF1 (by simp) (by simp)
  have ho1 : OnceAt w1 q p a := ho.frm hF1 (by simp)
  go_wp2_with fail
  refine (odo_any ho1 hM1 hqp hqd _ _ _ _).mono ?_
  rintro e w2 ⟨rfl, hF2, hM2, hO2⟩
  have hF : Frm [d, q] w w2 := hF1.nil.trans hF2
  have hOa : ∀ oo, OnceAt (w2.alloc oo) q p (oAcc a ws ⟨1, x, 0, 0⟩) := fun oo => hO2.frm ((Frm.refl [] w2).alloc oo) (by simp)
  have HO := Lib.hid hOa
  clear hF1 hF2 hM1 ho1 hOa
  go_wp2
  go_ret2
  exact ⟨rfl, by repeat' (first | exact hF | apply Frm.alloc), by repeat' (first | exact hM2 | apply MemAt.alloc), by first | exact HO.out _ | exact hO2⟩

theorem Store_once {w : World} {q p d c : Nat} {a : Acc} {ws : List Int} (ho : OnceAt w q p a) (hM : MemAt w p d c ws) (hqp : q ≠ p) (hqd : q ≠ d) (x v : Int) :
    Calls Try.prog 60 #[.pointer (some ⟨q, 0, none⟩), .int .i64 x, .int .u64 v] w (Ret (.int .i64 (oErr a ws.length 2 x)) (fun w' => Frm [d, q] w w' ∧ MemAt w' p d c (oWs a ws ⟨2, x, 0, v⟩) ∧ OnceAt w' q p (oAcc a ws ⟨2, x, 0, v⟩))) := by
  go_enter Try.func60, Try.ntmps60
  go_wp2_with fail
  refine (mk_store _ _ _).mono ?_
  rintro e w1 ⟨rfl, hF1⟩
  have hM1 : MemAt w1 p d c ws := hM.frm hF1 (by simp) (by simp)
  have ho1 : OnceAt w1 q p a := ho.frm hF1 (by simp)
  go_wp2_with fail
  refine (odo_any ho1 hM1 hqp hqd _ _ _ _).mono ?_
  rintro e w2 ⟨rfl, hF2, hM2, hO2⟩
  have hF : Frm [d, q] w w2 := hF1.nil.trans hF2
  have hOa : ∀ oo, OnceAt (w2.alloc oo) q p (oAcc a ws ⟨2, x, 0, v⟩) := fun oo => hO2.frm ((Frm.refl [] w2).alloc oo) (by simp)
  have HO := Lib.hid hOa
  clear hF1 hF2 hM1 ho1 hOa
  go_wp2
  go_ret
  exact ⟨rfl, by repeat' (first | exact hF | apply Frm.alloc), by repeat' (first | exact hM2 | apply MemAt.alloc), by first | exact HO.out _ | exact hO2⟩

theorem CAS_once {w : World} {q p d c : Nat} {a : Acc} {ws : List Int} (ho : OnceAt w q p a) (hM : MemAt w p d c ws) (hqp : q ≠ p) (hqd : q ≠ d) (x o v : Int) :
    Calls Try.prog 58 #[.pointer (some ⟨q, 0, none⟩), .int .i64 x, .int .u64 o, .int .u64 v] w (Ret (.tuple #[.bool (oErr a ws.length 3 x == 0 && (oRes a ws ⟨3, x, o, v⟩).b == o), .int .i64 (oErr a ws.length 3 x)]) (fun w' => Frm [d, q] w w' ∧ MemAt w' p d c (oWs a ws ⟨3, x, o, v⟩) ∧ OnceAt w' q p (oAcc a ws ⟨3, x, o, v⟩))) := by
  go_enter Try.func58, Try.ntmps58
  go_wp2_with fail
  refine (mk_compareAndSwap _ _ _ _).mono ?_
  rintro e w1 ⟨rfl, hF1⟩
  have hM1 : MemAt w1 p d c ws := hM.frm hF1 (by simp) (by simp)
  have ho1 : OnceAt w1 q p a := ho.frm hF1 (by simp)
  go_wp2_with fail
  refine (odo_any ho1 hM1 hqp hqd _ _ _ _).mono ?_
  rintro e w2 ⟨rfl, hF2, hM2, hO2⟩
  have hF : Frm [d, q] w w2 := hF1.nil.trans hF2
  have hOa : ∀ oo, OnceAt (w2.alloc oo) q p (oAcc a ws ⟨3, x, o, v⟩) := fun oo => hO2.frm ((Frm.refl [] w2).alloc oo) (by simp)
  have HO := Lib.hid hOa
  clear hF1 hF2 hM1 ho1 hOa
  by_cases he : oErr a ws.length 3 x = 0
  · have he1 : (oErr a ws.length 3 x == 0) = true := by simp [he]
    have HE := Lib.hid he
    clear he
    go_wp2
    go_ret2
    exact ⟨by simp [HE.out], by repeat' (first | exact hF | apply Frm.alloc), by repeat' (first | exact hM2 | apply MemAt.alloc), by first | exact HO.out _ | exact hO2⟩
  · have he1 : (oErr a ws.length 3 x == 0) = false := by simp [he]
    go_wp2
    go_ret2
    exact ⟨by simp [he], by repeat' (first | exact hF | apply Frm.alloc), by repeat' (first | exact hM2 | apply MemAt.alloc), by first | exact HO.out _ | exact hO2⟩

theorem Swap_once {w : World} {q p d c : Nat} {a : Acc} {ws : List Int} (ho : OnceAt w q p a) (hM : MemAt w p d c ws) (hqp : q ≠ p) (hqd : q ≠ d) (x v : Int) :
    Calls Try.prog 61 #[.pointer (some ⟨q, 0, none⟩), .int .i64 x, .int .u64 v] w (Ret (.tuple #[.int .u64 (oRes a ws ⟨4, x, 0, v⟩).b, .int .i64 (oErr a ws.length 4 x)]) (fun w' => Frm [d, q] w w' ∧ MemAt w' p d c (oWs a ws ⟨4, x, 0, v⟩) ∧ OnceAt w' q p (oAcc a ws ⟨4, x, 0, v⟩))) := by
  go_enter Try.func61, Try.ntmps61
  go_wp2_with fail
  refine (mk_swap _ _ _).mono ?_
  rintro e w1 ⟨rfl, hF1⟩
  have hM1 : MemAt w1 p d c ws := hM.frm hF1 (by simp) (by simp)
  have ho1 : OnceAt w1 q p a := ho.frm hF1 (by simp)
  go_wp2_with fail
  refine (odo_any ho1 hM1 hqp hqd _ _ _ _).mono ?_
  rintro e w2 ⟨rfl, hF2, hM2, hO2⟩
  have hF : Frm [d, q] w w2 := hF1.nil.trans hF2
  have hOa : ∀ oo, OnceAt (w2.alloc oo) q p (oAcc a ws ⟨4, x, 0, v⟩) := fun oo => hO2.frm ((Frm.refl [] w2).alloc oo) (by simp)
  have HO := Lib.hid hOa
  clear hF1 hF2 hM1 ho1 hOa
  go_wp2
  go_ret2
  exact ⟨rfl, by repeat' (first | exact hF | apply Frm.alloc), by repeat' (first | exact hM2 | apply MemAt.alloc), by first | exact HO.out _ | exact hO2⟩

theorem loads_mem {w : World} {p d c : Nat} {ws : List Int} (hM : MemAt w p d c ws) (x v e : Int) :
    Calls Try.prog 22 #[.iface 26 (.pointer (some ⟨p, 0, none⟩)), .int .i64 x, .int .u64 v, .int .i64 e] w (Ret (.bool ((mRes ws ⟨1, x, 0, 0⟩).b == v && mErr ws.length 1 x == e)) (fun w' => Frm [d] w w' ∧ MemAt w' p d c (mWs ws ⟨1, x, 0, 0⟩))) := by
  have hm : ∀ w : World, (method 207 26 (.pointer (some ⟨p, 0, none⟩)) "Load").run Try.prog w = .ok (55, .pointer (some ⟨p, 0, none⟩)) w := fun _ => by kernel_rfl
  go_enter Try.func22, Try.ntmps22
  go_wp2_with fail
  refine (Load_mem hM _).mono ?_
  rintro e1 w1 ⟨rfl, hF, hM1⟩
  by_cases hv : (mRes ws ⟨1, x, 0, 0⟩).b = v
  · have hv1 : ((mRes ws ⟨1, x, 0, 0⟩).b == v) = true := by simp [hv]
    have HV := Lib.hid hv
    clear hv
    go_wp2
    go_ret
    exact ⟨by simp [HV.out], hF, hM1⟩
  · have hv1 : ((mRes ws ⟨1, x, 0, 0⟩).b == v) = false := by simp [hv]
    go_wp2
    go_ret
    exact ⟨by simp [hv], hF, hM1⟩

theorem loads_once {w : World} {q p d c : Nat} {a : Acc} {ws : List Int} (ho : OnceAt w q p a) (hM : MemAt w p d c ws) (hqp : q ≠ p) (hqd : q ≠ d) (x v e : Int) :
    Calls Try.prog 22 #[.iface 50 (.pointer (some ⟨q, 0, none⟩)), .int .i64 x, .int .u64 v, .int .i64 e] w (Ret (.bool ((oRes a ws ⟨1, x, 0, 0⟩).b == v && oErr a ws.length 1 x == e)) (fun w' => Frm [d, q] w w' ∧ MemAt w' p d c (oWs a ws ⟨1, x, 0, 0⟩) ∧ OnceAt w' q p (oAcc a ws ⟨1, x, 0, 0⟩))) := by
  have hm : ∀ w : World, (method 207 50 (.pointer (some ⟨q, 0, none⟩)) "Load").run Try.prog w = .ok (59, .pointer (some ⟨q, 0, none⟩)) w := fun _ => by kernel_rfl
  go_enter Try.func22, Try.ntmps22
  go_wp2_with fail
  refine (Load_once ho hM hqp hqd _).mono ?_
  rintro e1 w1 ⟨rfl, hF, hM1, hO1⟩
  by_cases hv : (oRes a ws ⟨1, x, 0, 0⟩).b = v
  · have hv1 : ((oRes a ws ⟨1, x, 0, 0⟩).b == v) = true := by simp [hv]
    have HV := Lib.hid hv
    clear hv
    go_wp2
    go_ret
    exact ⟨by simp [HV.out], hF, hM1, hO1⟩
  · have hv1 : ((oRes a ws ⟨1, x, 0, 0⟩).b == v) = false := by simp [hv]
    go_wp2
    go_ret
    exact ⟨by simp [hv], hF, hM1, hO1⟩

theorem stores_mem {w : World} {p d c : Nat} {ws : List Int} (hM : MemAt w p d c ws) (x v e : Int) :
    Calls Try.prog 21 #[.iface 26 (.pointer (some ⟨p, 0, none⟩)), .int .i64 x, .int .u64 v, .int .i64 e] w (Ret (.bool (mErr ws.length 2 x == e)) (fun w' => Frm [d] w w' ∧ MemAt w' p d c (mWs ws ⟨2, x, 0, v⟩))) := by
  have hm : ∀ w : World, (method 207 26 (.pointer (some ⟨p, 0, none⟩)) "Store").run Try.prog w = .ok (31, .pointer (some ⟨p, 0, none⟩)) w := fun _ => by kernel_rfl
  go_enter Try.func21, Try.ntmps21
  go_wp2_with fail
  refine (Store_mem hM _ _).mono ?_
  rintro e1 w1 ⟨rfl, hF, hM1⟩
  go_wp2
  go_ret
  exact ⟨rfl, hF, hM1⟩

theorem stores_once {w : World} {q p d c : Nat} {a : Acc} {ws : List Int} (ho : OnceAt w q p a) (hM : MemAt w p d c ws) (hqp : q ≠ p) (hqd : q ≠ d) (x v e : Int) :
    Calls Try.prog 21 #[.iface 50 (.pointer (some ⟨q, 0, none⟩)), .int .i64 x, .int .u64 v, .int .i64 e] w (Ret (.bool (oErr a ws.length 2 x == e)) (fun w' => Frm [d, q] w w' ∧ MemAt w' p d c (oWs a ws ⟨2, x, 0, v⟩) ∧ OnceAt w' q p (oAcc a ws ⟨2, x, 0, v⟩))) := by
  have hm : ∀ w : World, (method 207 50 (.pointer (some ⟨q, 0, none⟩)) "Store").run Try.prog w = .ok (60, .pointer (some ⟨q, 0, none⟩)) w := fun _ => by kernel_rfl
  go_enter Try.func21, Try.ntmps21
  go_wp2_with fail
  refine (Store_once ho hM hqp hqd _ _).mono ?_
  rintro e1 w1 ⟨rfl, hF, hM1, hO1⟩
  go_wp2
  go_ret
  exact ⟨rfl, hF, hM1, hO1⟩

theorem swaps_mem {w : World} {p d c : Nat} {ws : List Int} (hM : MemAt w p d c ws) (x v u e : Int) :
    Calls Try.prog 29 #[.iface 26 (.pointer (some ⟨p, 0, none⟩)), .int .i64 x, .int .u64 v, .int .u64 u, .int .i64 e] w (Ret (.bool ((mRes ws ⟨4, x, 0, v⟩).b == u && mErr ws.length 4 x == e)) (fun w' => Frm [d] w w' ∧ MemAt w' p d c (mWs ws ⟨4, x, 0, v⟩))) := by
  have hm : ∀ w : World, (method 207 26 (.pointer (some ⟨p, 0, none⟩)) "Swap").run Try.prog w = .ok (28, .pointer (some ⟨p, 0, none⟩)) w := fun _ => by kernel_rfl
  go_enter Try.func29, Try.ntmps29
  go_wp2_with fail
  refine (Swap_mem hM _ _).mono ?_
  rintro e1 w1 ⟨rfl, hF, hM1⟩
  by_cases hv : (mRes ws ⟨4, x, 0, v⟩).b = u
  · have hv1 : ((mRes ws ⟨4, x, 0, v⟩).b == u) = true := by simp [hv]
    have HV := Lib.hid hv
    clear hv
    go_wp2
    go_ret
    exact ⟨by simp [HV.out], hF, hM1⟩
  · have hv1 : ((mRes ws ⟨4, x, 0, v⟩).b == u) = false := by simp [hv]
    go_wp2
    go_ret
    exact ⟨by simp [hv], hF, hM1⟩

theorem swaps_once {w : World} {q p d c : Nat} {a : Acc} {ws : List Int} (ho : OnceAt w q p a) (hM : MemAt w p d c ws) (hqp : q ≠ p) (hqd : q ≠ d) (x v u e : Int) :
    Calls Try.prog 29 #[.iface 50 (.pointer (some ⟨q, 0, none⟩)), .int .i64 x, .int .u64 v, .int .u64 u, .int .i64 e] w (Ret (.bool ((oRes a ws ⟨4, x, 0, v⟩).b == u && oErr a ws.length 4 x == e)) (fun w' => Frm [d, q] w w' ∧ MemAt w' p d c (oWs a ws ⟨4, x, 0, v⟩) ∧ OnceAt w' q p (oAcc a ws ⟨4, x, 0, v⟩))) := by
  have hm : ∀ w : World, (method 207 50 (.pointer (some ⟨q, 0, none⟩)) "Swap").run Try.prog w = .ok (61, .pointer (some ⟨q, 0, none⟩)) w := fun _ => by kernel_rfl
  go_enter Try.func29, Try.ntmps29
  go_wp2_with fail
  refine (Swap_once ho hM hqp hqd _ _).mono ?_
  rintro e1 w1 ⟨rfl, hF, hM1, hO1⟩
  by_cases hv : (oRes a ws ⟨4, x, 0, v⟩).b = u
  · have hv1 : ((oRes a ws ⟨4, x, 0, v⟩).b == u) = true := by simp [hv]
    have HV := Lib.hid hv
    clear hv
    go_wp2
    go_ret
    exact ⟨by simp [HV.out], hF, hM1, hO1⟩
  · have hv1 : ((oRes a ws ⟨4, x, 0, v⟩).b == u) = false := by simp [hv]
    go_wp2
    go_ret
    exact ⟨by simp [hv], hF, hM1, hO1⟩

end Go.Proofs.Ythmpmpjkkjjbbaa
