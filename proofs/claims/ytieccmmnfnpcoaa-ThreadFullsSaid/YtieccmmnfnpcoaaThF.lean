/- The methods of an Once. -/
import Derived.Test.YtieccmmnfnpcoaaThE
namespace Go.Proofs.Ytieccmmnfnpcoaa
open Go.ChangeShapes Go.WideShapes Go.ChangeAt Go.RowKit
theorem Load_once {w : World} {q p d c : Nat} {a : Acc} {ws : List Int} (ho : OnceAt w q p a) (hM : MemAt w p d c ws) (hqp : q ≠ p) (hqd : q ≠ d) (x : Int) :
    Calls Try.prog 123 #[.pointer (some ⟨q, 0, none⟩), .int .i64 x] w (Ret (.tuple #[.int .u64 (oRes a ws ⟨1, x, 0, 0⟩).b, .int .i64 (oErr a ws.length 1 x)]) (fun w' => Frm [d, q] w w' ∧ MemAt w' p d c (oWs a ws ⟨1, x, 0, 0⟩) ∧ OnceAt w' q p (oAcc a ws ⟨1, x, 0, 0⟩))) := by
  go_enter Try.func123, Try.ntmps123
  go_wp2_with fail
  refine (mk_load _ _).mono ?_
  rintro e w1 ⟨rfl, hF1⟩
  have hM1 : MemAt w1 p d c ws := hM.frm hF1 (by simp) (by simp)
  have ho1 : OnceAt w1 q p a := ho.frm hF1 (by simp)
  go_wp2_with fail
  refine (odo_any ho1 hM1 hqp hqd _ _ _ _).mono ?_
  rintro e w2 ⟨rfl, hF2, hM2, hO2⟩
  have hF : Frm [d, q] w w2 := hF1.nil.trans hF2
  have hOa : ∀ oo, OnceAt (w2.alloc oo) q p (oAcc a ws ⟨1, x, 0, 0⟩) := fun oo => hO2.frm ((Frm.refl [] w2).alloc oo) (by simp)
  have HO := Lib.hid hOa
  clear hF1 hF2 hM1 ho1 hOa
  go_wp2
  go_ret2
  exact ⟨rfl, by repeat' (first | exact hF | apply Frm.alloc), by repeat' (first | exact hM2 | apply MemAt.alloc), by first | exact HO.out _ | exact hO2⟩

theorem Store_once {w : World} {q p d c : Nat} {a : Acc} {ws : List Int} (ho : OnceAt w q p a) (hM : MemAt w p d c ws) (hqp : q ≠ p) (hqd : q ≠ d) (x v : Int) :
    Calls Try.prog 124 #[.pointer (some ⟨q, 0, none⟩), .int .i64 x, .int .u64 v] w (Ret (.int .i64 (oErr a ws.length 2 x)) (fun w' => Frm [d, q] w w' ∧ MemAt w' p d c (oWs a ws ⟨2, x, 0, v⟩) ∧ OnceAt w' q p (oAcc a ws ⟨2, x, 0, v⟩))) := by
  go_enter Try.func124, Try.ntmps124
  go_wp2_with fail
  refine (mk_store _ _ _).mono ?_
  rintro e w1 ⟨rfl, hF1⟩
  have hM1 : MemAt w1 p d c ws := hM.frm hF1 (by simp) (by simp)
  have ho1 : OnceAt w1 q p a := ho.frm hF1 (by simp)
  go_wp2_with fail
  refine (odo_any ho1 hM1 hqp hqd _ _ _ _).mono ?_
  rintro e w2 ⟨rfl, hF2, hM2, hO2⟩
  have hF : Frm [d, q] w w2 := hF1.nil.trans hF2
  have hOa : ∀ oo, OnceAt (w2.alloc oo) q p (oAcc a ws ⟨2, x, 0, v⟩) := fun oo => hO2.frm ((Frm.refl [] w2).alloc oo) (by simp)
  have HO := Lib.hid hOa
  clear hF1 hF2 hM1 ho1 hOa
  go_wp2
  go_ret
  exact ⟨rfl, by repeat' (first | exact hF | apply Frm.alloc), by repeat' (first | exact hM2 | apply MemAt.alloc), by first | exact HO.out _ | exact hO2⟩

theorem CAS_once {w : World} {q p d c : Nat} {a : Acc} {ws : List Int} (ho : OnceAt w q p a) (hM : MemAt w p d c ws) (hqp : q ≠ p) (hqd : q ≠ d) (x o v : Int) :
    Calls Try.prog 121 #[.pointer (some ⟨q, 0, none⟩), .int .i64 x, .int .u64 o, .int .u64 v] w (Ret (.tuple #[.bool (oErr a ws.length 3 x == 0 && (oRes a ws ⟨3, x, o, v⟩).b == o), .int .i64 (oErr a ws.length 3 x)]) (fun w' => Frm [d, q] w w' ∧ MemAt w' p d c (oWs a ws ⟨3, x, o, v⟩) ∧ OnceAt w' q p (oAcc a ws ⟨3, x, o, v⟩))) := by
  go_enter Try.func121, Try.ntmps121
  go_wp2_with fail
  refine (mk_compareAndSwap _ _ _ _).mono ?_
  rintro e w1 ⟨rfl, hF1⟩
  have hM1 : MemAt w1 p d c ws := hM.frm hF1 (by simp) (by simp)
  have ho1 : OnceAt w1 q p a := ho.frm hF1 (by simp)
  go_wp2_with fail
  refine (odo_any ho1 hM1 hqp hqd _ _ _ _).mono ?_
  rintro e w2 ⟨rfl, hF2, hM2, hO2⟩
  have hF : Frm [d, q] w w2 := hF1.nil.trans hF2
  have hOa : ∀ oo, OnceAt (w2.alloc oo) q p (oAcc a ws ⟨3, x, o, v⟩) := fun oo => hO2.frm ((Frm.refl [] w2).alloc oo) (by simp)
  have HO := Lib.hid hOa
  clear hF1 hF2 hM1 ho1 hOa
  by_cases he : oErr a ws.length 3 x = 0
  · have he1 : (oErr a ws.length 3 x == 0) = true := by simp [he]
    have HE := Lib.hid he
    clear he
    go_wp2
    go_ret2
    exact ⟨by simp [HE.out], by repeat' (first | exact hF | apply Frm.alloc), by repeat' (first | exact hM2 | apply MemAt.alloc), by first | exact HO.out _ | exact hO2⟩
  · have he1 : (oErr a ws.length 3 x == 0) = false := by simp [he]
    go_wp2
    go_ret2
    exact ⟨by simp [he], by repeat' (first | exact hF | apply Frm.alloc), by repeat' (first | exact hM2 | apply MemAt.alloc), by first | exact HO.out _ | exact hO2⟩

theorem Swap_once {w : World} {q p d c : Nat} {a : Acc} {ws : List Int} (ho : OnceAt w q p a) (hM : MemAt w p d c ws) (hqp : q ≠ p) (hqd : q ≠ d) (x v : Int) :
    Calls Try.prog 125 #[.pointer (some ⟨q, 0, none⟩), .int .i64 x, .int .u64 v] w (Ret (.tuple #[.int .u64 (oRes a ws ⟨4, x, 0, v⟩).b, .int .i64 (oErr a ws.length 4 x)]) (fun w' => Frm [d, q] w w' ∧ MemAt w' p d c (oWs a ws ⟨4, x, 0, v⟩) ∧ OnceAt w' q p (oAcc a ws ⟨4, x, 0, v⟩))) := by
  go_enter Try.func125, Try.ntmps125
  go_wp2_with fail
  refine (mk_swap _ _ _).mono ?_
  rintro e w1 ⟨rfl, hF1⟩
  have hM1 : MemAt w1 p d c ws := hM.frm hF1 (by simp) (by simp)
  have ho1 : OnceAt w1 q p a := ho.frm hF1 (by simp)
  go_wp2_with fail
  refine (odo_any ho1 hM1 hqp hqd _ _ _ _).mono ?_
  rintro e w2 ⟨rfl, hF2, hM2, hO2⟩
  have hF : Frm [d, q] w w2 := hF1.nil.trans hF2
  have hOa : ∀ oo, OnceAt (w2.alloc oo) q p (oAcc a ws ⟨4, x, 0, v⟩) := fun oo => hO2.frm ((Frm.refl [] w2).alloc oo) (by simp)
  have HO := Lib.hid hOa
  clear hF1 hF2 hM1 ho1 hOa
  go_wp2
  go_ret2
  exact ⟨rfl, by repeat' (first | exact hF | apply Frm.alloc), by repeat' (first | exact hM2 | apply MemAt.alloc), by first | exact HO.out _ | exact hO2⟩

end Go.Proofs.Ytieccmmnfnpcoaa
