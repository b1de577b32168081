/- Layer 1: the walk of MemHolds. -/
import Derived.Test.YthmpmpjkkjjbbaaMemS
import Derived.Test.YthmpmpjkkjjbbaaArgs
namespace Go.Proofs.Ythmpmpjkkjjbbaa
open Go.ChangeShapes Go.WideShapes Go.ChangeAt Go.RowKit

theorem same_eq {w : World} {p d c p' d' c' : Nat} {ws us : List Int} (hM : MemAt w p d c ws) (hN : MemAt w p' d' c' us) (he : ws = us) :
    Calls Try.prog 20 #[.pointer (some ⟨p, 0, none⟩), .pointer (some ⟨p', 0, none⟩)] w (Ret (.bool true) (fun w' => Frm [] w w')) := by
  refine (same_mem hM hN).mono fun e w' hh => ?_
  obtain ⟨m, h1, h2⟩ := hh
  have h2 : w' = w.drewN m := h2
  refine ⟨?_, by rw [h2]; exact (Frm.refl _ _).drewN _⟩
  rw [h1]; simp [he]

theorem Own.slice {B : Nat} {w : World} {v : Value} {xs : List Int} (h : Own B w v xs) (hx : 0 < xs.length) : ∃ g c, v = .slice (some ⟨g, 0, none⟩) xs.length c ∧ B ≤ g ∧ g < w.heap.size ∧
    ∀ i x, xs[i]? = some x → w.cell? ⟨g, i, none⟩ = some (.int .u64 x) := by
  have hr := h.rd
  have hf := h.from_
  rcases hr with ⟨_, he⟩ | ⟨b, o, c, rfl, hl, hb, hcell⟩
  · have : xs = [] := by simpa [u64s] using he
    subst this; simp at hx
  · obtain ⟨_, h2⟩ := h
    rcases h2 with ⟨hv, _⟩ | ⟨g, cap, cur, hv, _⟩
    · cases hv
    · have e : (⟨b, o, none⟩ : Addr) = ⟨g, 0, none⟩ := by injection hv with h1; injection h1
      obtain ⟨rfl, rfl⟩ : b = g ∧ o = 0 := by injection e with e1 e2; exact ⟨e1, e2⟩
      refine ⟨b, c, by simp [u64s], hf b rfl, hb, fun i x hi => ?_⟩
      have := hcell i _ (by rw [u64s, List.getElem?_map, hi]; rfl)
      rw [Nat.zero_add] at this; exact this

/-- What an access that has no error was, and that it is the same access again. -/
theorem again {ws : List Int} {k wd bf af : Int} (h0 : mErr ws.length k wd = 0) : ∃ b y : Int, mRes ws ⟨k, wd, bf, af⟩ = ⟨k, wd, b, y⟩ ∧ mWs ws ⟨k, wd, bf, af⟩ = ws.set wd.toNat y ∧
    ws[wd.toNat]? = some b ∧ (k = 1 → y = b) ∧ mRes ws ⟨k, wd, b, y⟩ = ⟨k, wd, b, y⟩ ∧ mWs ws ⟨k, wd, b, y⟩ = ws.set wd.toNat y ∧ 0 ≤ wd ∧ wd < ws.length ∧ 1 ≤ k ∧ k ≤ 4 := by
  have hk : ¬ (k < 1 ∨ 4 < k) := by intro h; unfold mErr at h0; rw [if_pos h] at h0; cases h0
  have hw : ¬ (wd < 0 ∨ (ws.length : Int) ≤ wd) := by intro h; unfold mErr at h0; rw [if_neg hk, if_pos h] at h0; cases h0
  have hlt : wd.toNat < ws.length := by omega
  refine ⟨ws.getD wd.toNat 0, aft k bf af (ws.getD wd.toNat 0), ?_, ?_, ?_, ?_, ?_, ?_, by omega, by omega, by omega, by omega⟩
  · simp [mRes, h0]
  · simp [mWs, h0]
  · rw [List.getD_eq_getElem?_getD, List.getElem?_eq_getElem hlt]; rfl
  · intro h; subst h; simp [aft]
  · have e : aft k (ws.getD wd.toNat 0) (aft k bf af (ws.getD wd.toNat 0)) (ws.getD wd.toNat 0) = aft k bf af (ws.getD wd.toNat 0) := by
      generalize ws.getD wd.toNat 0 = x
      unfold aft
      by_cases h1 : k = 2 ∨ k = 4
      · simp [h1]
      · by_cases h2 : k = 3
        · subst h2; simp
        · simp [h1, h2]
    unfold mRes
    simp only []
    rw [if_pos h0, e]
  · have e : aft k (ws.getD wd.toNat 0) (aft k bf af (ws.getD wd.toNat 0)) (ws.getD wd.toNat 0) = aft k bf af (ws.getD wd.toNat 0) := by
      generalize ws.getD wd.toNat 0 = x
      unfold aft
      by_cases h1 : k = 2 ∨ k = 4
      · simp [h1]
      · by_cases h2 : k = 3
        · subst h2; simp
        · simp [h1, h2]
    unfold mWs
    simp only []
    rw [if_pos h0, e]

theorem stores_ok {w : World} {p d c : Nat} {ws : List Int} (hM : MemAt w p d c ws) (x v : Int) (h0 : 0 ≤ x) (h1 : x < ws.length) :
    Calls Try.prog 21 #[.iface 26 (.pointer (some ⟨p, 0, none⟩)), .int .i64 x, .int .u64 v, .int .i64 0] w (Ret (.bool true) (fun w' => Frm [d] w w' ∧ MemAt w' p d c (ws.set x.toNat v))) := by
  have he : mErr ws.length 2 x = 0 := mErr_ok (by omega) (by omega) h0 h1
  have hw : mWs ws ⟨2, x, 0, v⟩ = ws.set x.toNat v := by unfold mWs; rw [if_pos (by exact he)]; simp [aft]
  have := stores_mem hM x v 0
  rw [he, hw] at this
  exact step_true this (by simp)
theorem swaps_ok {w : World} {p d c : Nat} {ws : List Int} (hM : MemAt w p d c ws) (x v u : Int) (h0 : 0 ≤ x) (hx : ws[x.toNat]? = some u) :
    Calls Try.prog 29 #[.iface 26 (.pointer (some ⟨p, 0, none⟩)), .int .i64 x, .int .u64 v, .int .u64 u, .int .i64 0] w (Ret (.bool true) (fun w' => Frm [d] w w' ∧ MemAt w' p d c (ws.set x.toNat v))) := by
  have h1 : x.toNat < ws.length := (List.getElem?_eq_some_iff.1 hx).1
  have he : mErr ws.length 4 x = 0 := mErr_ok (by omega) (by omega) h0 (by omega)
  have hw : mWs ws ⟨4, x, 0, v⟩ = ws.set x.toNat v := by unfold mWs; rw [if_pos (by exact he)]; simp [aft]
  have hr : (mRes ws ⟨4, x, 0, v⟩).b = u := by unfold mRes; rw [if_pos (by exact he)]; simp [List.getD_eq_getElem?_getD, hx]
  have := swaps_mem hM x v u 0
  rw [he, hw, hr] at this
  exact step_true this (by simp)
theorem Swap_ok {w : World} {p d c : Nat} {ws : List Int} (hM : MemAt w p d c ws) (x v u : Int) (h0 : 0 ≤ x) (hx : ws[x.toNat]? = some u) :
    Calls Try.prog 28 #[.pointer (some ⟨p, 0, none⟩), .int .i64 x, .int .u64 v] w (Ret (.tuple #[.int .u64 u, .int .i64 0]) (fun w' => Frm [d] w w' ∧ MemAt w' p d c (ws.set x.toNat v))) := by
  have h1 : x.toNat < ws.length := (List.getElem?_eq_some_iff.1 hx).1
  have he : mErr ws.length 4 x = 0 := mErr_ok (by omega) (by omega) h0 (by omega)
  have hw : mWs ws ⟨4, x, 0, v⟩ = ws.set x.toNat v := by unfold mWs; rw [if_pos (by exact he)]; simp [aft]
  have hr : (mRes ws ⟨4, x, 0, v⟩).b = u := by unfold mRes; rw [if_pos (by exact he)]; simp [List.getD_eq_getElem?_getD, hx]
  have := Swap_mem hM x v
  rw [he, hw, hr] at this
  exact this

set_option maxRecDepth 100000 in
set_option maxHeartbeats 6400000 in
theorem walk_MemHolds (a0 : Option Addr) (len cap : Nat) (zs : List Int) (k : Int) (_wk : (Lit.int .i64 k).wf = true) (wd : Int) (_ww : (Lit.int .i64 wd).wf = true) (bf : Int) (_wb : (Lit.int .u64 bf).wf = true) (af : Int) (_wa : (Lit.int .u64 af).wf = true) (v : Int) (_wv : (Lit.int .u64 v).wf = true) (w : World) (hr0 : IsRow .u64 w a0 len cap zs) :
    Calls Try.prog 8 #[.slice a0 len cap, .agg #[.int .i64 k, .int .i64 wd, .int .u64 bf, .int .u64 af], .int .u64 v] w (Ret (.bool true) (fun w' => Below w.heap.size w w')) := by
  by_cases h1 : len < 1
  · have hb1 : decide ((len : Int) < 1) = true := by simp; omega
    clear hr0
    go_enter Try.func8, Try.ntmps8
    go_wp2_with fail
    refine (known_true _).mono ?_
    rintro e w5 ⟨rfl, hF5⟩
    go_wp2
    go_ret
    exact ⟨rfl, (((Frm.refl [] _).alloc _).trans hF5).below (Nat.le_refl _) (by simp)⟩
  by_cases h2 : 40 < len
  · have hb1 : decide ((len : Int) < 1) = false := by simp; omega
    have hb2 : decide ((40 : Int) < len) = true := by simp; omega
    clear hr0
    go_enter Try.func8, Try.ntmps8
    go_wp2_with fail
    refine (known_true _).mono ?_
    rintro e w5 ⟨rfl, hF5⟩
    go_wp2
    go_ret
    exact ⟨rfl, (((Frm.refl [] _).alloc _).trans hF5).below (Nat.le_refl _) (by simp)⟩
  have hb1 : decide ((len : Int) < 1) = false := by simp; omega
  have hb2 : decide ((40 : Int) < len) = false := by simp; omega
  obtain ⟨hrd, hlen, hlc, hmx, hwf, b0, o0, rfl, hbw, hcl⟩ := hr0.rd (by omega)
  clear hr0 hwf
  generalize zs.take len = ws at hrd hlen hcl
  subst hlen
  have hRD := Lib.hid hrd
  have HCL := Lib.hid hcl
  clear hrd hcl
  go_enter Try.func8, Try.ntmps8
  go_wp2_with fail
  refine (made_any (hRD.out.frm ((Frm.refl [] _).alloc _) (by simp)) (by omega) (by omega)).mono ?_
  rintro e w1 ⟨p, d, c, rfl, hF1, hM, hp, hd⟩
  have hx4 := hF1.heap (heap_alloc_new w (.cells #[.int .i64 k, .int .i64 wd, .int .u64 bf, .int .u64 af] 30)) (by simp)
  have hF : Frm [] w w1 := ((Frm.refl _ _).alloc _).trans hF1
  clear hF1
  have hp1 : w.heap.size < p := by simp at hp; omega
  have hd1 : w.heap.size < d := by simp at hd; omega
  clear hp hd
  have hpl := hM.plt
  have hdl := hM.dlt
  go_wp2_with fail
  refine (made_any (hRD.out.frm hF (by simp)) (by omega) (by omega)).mono ?_
  rintro e w2 ⟨p', d', c', rfl, hF2, hN, hp', hd'⟩
  replace hx4 := hF2.heap hx4 (by simp)
  replace hM := hM.frm hF2 (by simp) (by simp)
  replace hF := hF.trans hF2
  clear hF2
  have hpp : p ≠ p' := by omega
  have hpd : p ≠ d' := by omega
  have hdp : d ≠ p' := by omega
  have hdd : d ≠ d' := by omega
  have hx4l := lt_of_heap hx4
  have hq1 : w.heap.size < p' := by omega
  have hq2 : w.heap.size < d' := by omega
  obtain ⟨b40, b41, b42, b43⟩ := cells4 hx4
  have HX4 := Lib.hid hx4
  clear hx4 hp' hd' hpl hdl
  go_wp2_with fail
  by_cases he : mErr ws.length k wd = 0
  · obtain ⟨b, y, hr, hw, hwb, hk1, hr2, hw2, hwd0, hwdl, hk1', hk4'⟩ := again (bf := bf) (af := af) he
    have hdo := do_mem hM k wd bf af
    rw [hr, hw, he] at hdo
    refine hdo.mono ?_
    clear hdo hr hw
    rintro e w3 ⟨rfl, hF3, hM3⟩
    replace hN := hN.frm hF3 (by simp; omega) (by simp; omega)
    replace hF := hF.trans_new hF3 (by simp; omega)
    have hx4 := hF3.heap HX4.out (by simp; omega)
    clear hM HX4 b40 b41 b42 b43
    obtain ⟨b40, b41, b42, b43⟩ := cells4 hx4
    have hx4l := lt_of_heap hx4
    have HX4 := Lib.hid hx4
    have hpl := hM3.plt
    have hdl := hM3.dlt
    have hpl' := hN.plt
    have hdl' := hN.dlt
    have HK1 := Lib.hid hk1
    have HWB := Lib.hid hwb
    clear hk1 hwb hx4
    have hk1b : (k == 1) = true → (b != y) = false := fun h => by have := HK1.out (by simpa using h); simp [this]
    have hdoes := does_mem (hN.alloc (.cells #[.int .i64 k, .int .i64 wd, .int .u64 b, .int .u64 y] 30)) ⟨k, wd, b, y⟩ ⟨k, wd, b, y⟩ 0
    rw [hr2, hw2] at hdoes
    have hdv : (accEq ⟨k, wd, b, y⟩ ⟨k, wd, b, y⟩ && mErr ws.length k wd == 0) = true := by simp [accEq, he]
    have HDO := Lib.hid hdoes
    have HDV := Lib.hid hdv
    clear hdoes hdv hr2 hw2
    by_cases hk2 : k = 1
    all_goals
      first
        | (have hkb : (k == 1) = true := by simp [hk2]
           have hby : (b != y) = false := hk1b hkb
           clear hk1b hk2)
        | (have hkb : (k == 1) = false := by simp [hk2]
           clear hk1b hk2)
      go_wp2_with fail
      refine (step_true HDO.out HDV.out).mono ?_
      rintro e w4 ⟨rfl, hF4, hN4⟩
      have hx9 := hF4.heap (heap_alloc_new w3 _) (by simp; omega)
      have hx9l := lt_of_heap hx9
      have hM4 := (hM3.alloc _).frm hF4 (by simp; omega) (by simp; omega)
      have hF4' : Frm [] w w4 := (hF.alloc _).trans_new hF4 (by simp; omega)
      have hx9r : w.heap.size < w3.heap.size := by omega
      generalize w3.heap.size = s9 at hx9 hx9l hx9r hpl hdl hpl' hdl' ⊢
      have h9p : s9 ≠ p := by omega
      have h9d : s9 ≠ d := by omega
      have h9p' : s9 ≠ p' := by omega
      have h9d' : s9 ≠ d' := by omega
      clear hF4 hM3 hF HDO HDV hN b40 b41 b42 b43 hpl hdl hpl' hdl' hx4l
      go_wp2_with fail
      refine (same_eq hM4 hN4 rfl).mono ?_
      rintro e w5 ⟨rfl, hF5⟩
      replace hx9 := hF5.heap hx9 (by simp)
      replace hM4 := hM4.frm hF5 (by simp) (by simp)
      replace hN4 := hN4.frm hF5 (by simp) (by simp)
      replace hF4' := hF4'.trans hF5
      clear hF5
      have hsl : (ws.set wd.toNat y).length = ws.length := by simp
      go_wp2_with fail
      refine (words_ok hM4 0 ws.length (by omega) (by rw [hsl]; omega)).mono ?_
      rintro e w6 ⟨v6, rfl, hF6, hO6⟩
      have hw6 : ((ws.set wd.toNat y).drop 0).take (ws.length - 0) = ws.set wd.toNat y := by
        rw [List.drop_zero]; exact List.take_of_length_le (by rw [hsl]; omega)
      rw [hw6] at hO6
      replace hx9 := hF6.heap hx9 (by simp)
      replace hM4 := hM4.frm hF6 (by simp) (by simp)
      replace hN4 := hN4.frm hF6 (by simp) (by simp)
      replace hF4' := hF4'.trans hF6
      clear hF6 hw6
      obtain ⟨c90, c91, c92, c93⟩ := cells4 hx9
      obtain ⟨g, cap6, rfl, hg, hgl, hcg⟩ := hO6.slice (by rw [hsl]; omega)
      rw [hsl]
      have hll : ((ws.length : Int) != ws.length) = false := by simp
      have HCG := Lib.hid hcg
      have HSL := Lib.hid hsl
      clear hO6 hcg hsl hg
      go_wp2_with fail
      go_loopw [12, 107, 108, 109, 110, 111, 112, 113, 114, 115, 116, 117, 118, 119, 120, 121, 122, 123, 124, 125, 126, 127, 128, 129, 130, 131, 132, 133, 134, 135, 136, 137, 138, 139, 140, 141, 142, 143, 144, 145, 146, 147, 148, 149] (fun _ i _ _ _ _ _ _ _ _ _ _ _ _ _ _ _ _ _ _ _ _ _ _ _ _ _ _ _ _ _ _ _ _ _ _ _ _ _ _ _ _ _ _ wr => ∃ kk : Nat, kk ≤ ws.length ∧ i = .int .i64 kk ∧ ∃ m, wr = w6.drewN m) (fun _ i _ _ _ _ _ _ _ _ _ _ _ _ _ _ _ _ _ _ _ _ _ _ _ _ _ _ _ _ _ _ _ _ _ _ _ _ _ _ _ _ _ _ _ => ws.length - (intOf i).toNat)
      case atStart => exact ⟨0, Nat.zero_le _, rfl, 0, rfl⟩
      case round =>
        obtain ⟨kk, hkk, rfl, m, rfl⟩ := hrel
        by_cases hlt : kk < ws.length
        · obtain ⟨x, hx⟩ : ∃ x, ws[kk]? = some x := ⟨_, List.getElem?_eq_getElem hlt⟩
          have cl : w6.cell? ⟨b0, o0 + kk, none⟩ = some (.int .u64 x) := (hF4'.cell hbw (by simp)).trans (HCL.out kk x hx)
          by_cases hw0 : (kk : Int) = wd
          · have hwk : ((kk : Int) == wd) = true := by simp [hw0]
            have hwk2 : ((kk : Int) != wd) = false := by simp [hw0]
            have hkw : wd.toNat = kk := by omega
            obtain rfl : x = b := by have h := HWB.out; rw [hkw, hx] at h; injection h
            have cg : w6.cell? ⟨g, kk, none⟩ = some (.int .u64 y) := HCG.out kk y (by rw [hkw, List.getElem?_set, if_pos rfl, if_pos hlt])
            have t1 : (y != y) = false := by simp
            have t2 : (x != x) = false := by simp
            clear hw0 hkw hx
            go_wp2
            go_quiet (fail)
            go_wp2
            go_roundw
            case rel => exact ⟨kk + 1, by omega, by go_num, _, rfl⟩
            case measure => simp [intOf]; omega
          · have hwk : ((kk : Int) == wd) = false := by simp [hw0]
            have hwk2 : ((kk : Int) != wd) = true := by simp [hw0]
            have hkw : wd.toNat ≠ kk := by omega
            have cg : w6.cell? ⟨g, kk, none⟩ = some (.int .u64 x) := HCG.out kk x (by rw [List.getElem?_set, if_neg hkw, hx])
            have t2 : (x != x) = false := by simp
            clear hw0 hkw hx
            go_wp2
            go_quiet (fail)
            go_wp2
            go_roundw
            case rel => exact ⟨kk + 1, by omega, by go_num, _, rfl⟩
            case measure => simp [intOf]; omega
        · obtain rfl : kk = ws.length := by omega
          clear hll
          have hwdl' : wd < ((ws.set wd.toNat y).length : Int) := by rw [HSL.out]; exact hwdl
          have hpl := hM4.plt
          have hdl := hM4.dlt
          have hpl' := hN4.plt
          have hdl' := hN4.dlt
          have HW := Lib.hid hwdl'
          clear hwdl'
          go_wp2_with fail
          refine (stores_ok (hM4.drewN _) wd v hwd0 HW.out).mono ?_
          rintro e w7 ⟨rfl, hF7, hM7⟩
          have hN7 := (hN4.drewN m).frm hF7 (by simp; omega) (by simp; omega)
          have hx9' := hF7.heap hx9 (by simp; omega)
          have hFw : Frm [] w w7 := (hF4'.drewN m).trans_new hF7 (by simp; omega)
          have hl7 : wd < (((ws.set wd.toNat y).set wd.toNat v).length : Int) := by simp; omega
          have HL7 := Lib.hid hl7
          clear hl7 hF7 hM4 hN4 hx9 hF4' c90 c91 c92 c93
          obtain ⟨c90, c91, c92, c93⟩ := cells4 hx9'
          go_wp2_with fail
          refine (stores_ok hM7 wd _ hwd0 HL7.out).mono ?_
          rintro e w8 ⟨rfl, hF8, hM8⟩
          have hN8 := hN7.frm hF8 (by simp; omega) (by simp; omega)
          have hx9 := hF8.heap hx9' (by simp; omega)
          replace hFw := hFw.trans_new hF8 (by simp; omega)
          clear hF8 hM7 hN7 hx9' c90 c91 c92 c93
          obtain ⟨c90, c91, c92, c93⟩ := cells4 hx9
          go_wp2_with fail
          refine (stores_ok hN8 wd _ hwd0 HW.out).mono ?_
          rintro e w9 ⟨rfl, hF9, hN9⟩
          have hM9 := hM8.frm hF9 (by simp; omega) (by simp; omega)
          have hx9' := hF9.heap hx9 (by simp; omega)
          replace hFw := hFw.trans_new hF9 (by simp; omega)
          clear hF9 hM8 hN8 hx9 c90 c91 c92 c93
          obtain ⟨c90, c91, c92, c93⟩ := cells4 hx9'
          rw [List.set_set, List.set_set] at hM9
          rw [List.set_set] at hN9
          go_wp2_with fail
          refine (same_eq hM9 hN9 rfl).mono ?_
          rintro e w10 ⟨rfl, hF10⟩
          replace hM9 := hM9.frm hF10 (by simp) (by simp)
          replace hN9 := hN9.frm hF10 (by simp) (by simp)
          have hx9 := hF10.heap hx9' (by simp)
          replace hFw := hFw.trans hF10
          clear hF10 hx9' c90 c91 c92 c93
          obtain ⟨c90, c91, c92, c93⟩ := cells4 hx9
          have hlw : wd.toNat < ws.length := by omega
          have HLW := Lib.hid hlw
          clear hlw
          go_wp2_with fail
          refine (Swap_ok hM9 wd v _ hwd0 (by rw [List.getElem?_set, if_pos rfl, if_pos HLW.out])).mono ?_
          rintro e w11 ⟨rfl, hF11, hM11⟩
          have hN11 := hN9.frm hF11 (by simp; omega) (by simp; omega)
          have hx9' := hF11.heap hx9 (by simp; omega)
          replace hFw := hFw.trans_new hF11 (by simp; omega)
          rw [List.set_set] at hM11
          clear hF11 hM9 hN9 hx9 c90 c91 c92 c93
          obtain ⟨c90, c91, c92, c93⟩ := cells4 hx9'
          go_wp2_with fail
          refine (swaps_ok hM11 wd _ v hwd0 (by rw [List.getElem?_set, if_pos rfl, if_pos HLW.out])).mono ?_
          rintro e w12 ⟨rfl, hF12, hM12⟩
          have hN12 := hN11.frm hF12 (by simp; omega) (by simp; omega)
          replace hFw := hFw.trans_new hF12 (by simp; omega)
          rw [List.set_set] at hM12
          clear hF12 hM11 hN11 hx9' c90 c91 c92 c93
          go_wp2_with fail
          refine (same_eq hM12 hN12 rfl).mono ?_
          rintro e w13 ⟨rfl, hF13⟩
          go_wp2_with fail
          refine (known_true _).mono ?_
          rintro e w14 ⟨rfl, hF14⟩
          go_wp2
          go_ret
          exact ⟨rfl, ((hFw.trans hF13).trans hF14).below (Nat.le_refl _) (by simp)⟩
  · have hdo := do_mem hM k wd bf af
    have hr : mRes ws ⟨k, wd, bf, af⟩ = ⟨0, 0, 0, 0⟩ := by unfold mRes; rw [if_neg he]
    have hw : mWs ws ⟨k, wd, bf, af⟩ = ws := by unfold mWs; rw [if_neg he]
    rw [hr, hw] at hdo
    have hne : (mErr ws.length k wd != 0) = true := by simpa using he
    refine hdo.mono ?_
    clear hdo hr hw
    rintro e w3 ⟨rfl, hF3, hM3⟩
    replace hN := hN.frm hF3 (by simp; omega) (by simp; omega)
    replace hF := hF.trans_new hF3 (by simp; omega)
    go_wp2_with fail
    refine (same_eq (hM3.alloc _) (hN.alloc _) rfl).mono ?_
    rintro e w4 ⟨rfl, hF4⟩
    go_wp2_with fail
    refine (known_true _).mono ?_
    rintro e w5 ⟨rfl, hF5⟩
    go_wp2
    go_ret
    exact ⟨rfl, (((hF.alloc _).trans hF4).trans hF5).below (Nat.le_refl _) (by simp)⟩
end Go.Proofs.Ythmpmpjkkjjbbaa
