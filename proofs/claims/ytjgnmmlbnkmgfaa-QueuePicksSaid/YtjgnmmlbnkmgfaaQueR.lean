/- The reference of layer 3: the pick in the place of a wanted one. -/
import Derived.Test.YtjgnmmlbnkmgfaaQueV
namespace Go.Proofs.Ytjgnmmlbnkmgfaa
open Go.ChangeShapes Go.WideShapes Go.ChangeAt Go.RowKit

theorem lastAt_succ (l : List Int) (x : Int) (k : Nat) : lastAt l x (k + 1) = if l[k]? = some x then (k : Int) else lastAt l x k := rfl

set_option maxHeartbeats 1000000 in
theorem rage_any {w : World} {a : Option Addr} {n c b o : Nat} {l : List Int} (hL : Li .i64 w a n c b o l) (hn : n ≤ 100000) (t : Int) :
    Calls Try.prog 31 #[.slice a n c, .int .i64 t] w (Ret (.int .i64 ((n : Int) - 1 - lastAt l t n)) (fun w' => w = w')) := by
  have hbd := lastAt_bd l t n
  obtain ⟨Z, hZ⟩ : ∃ Z, Z = lastAt l t n := ⟨_, rfl⟩
  rw [← hZ] at hbd ⊢
  have HZ := Lib.hid hZ
  have HL := Lib.hid hL
  clear hL hZ
  go_enter Try.func31, Try.ntmps31
  go_wp2_with fail
  go_loop [5, 6] (fun m i => ∃ (I : Int) (k : Nat), k ≤ n ∧ I + 1 = k ∧ i = .int .i64 I ∧ m = .int .i64 ((n : Int) - (k : Int)) ∧ Hid (Z = lastAt l t k)) (fun _ i => (intOf i + 1).toNat)
  case atStart => exact ⟨(n : Int) - 1, n, by omega, by omega, by go_num, by rw [Int.sub_self], HZ⟩
  case round =>
    obtain ⟨I, k, hk, hI, rfl, rfl, HK⟩ := hrel
    by_cases h0 : k = 0
    · subst h0
      obtain rfl : I = -1 := by omega
      have e := HK.out
      have e2 : Z = -1 := e
      have HE := Lib.hid e2
      clear e e2 hI
      go_wp2
      go_ret
      exact ⟨by rw [HE.out]; simp, rfl⟩
    · obtain ⟨j, rfl⟩ : ∃ j, k = j + 1 := ⟨k - 1, by omega⟩
      obtain rfl : I = (j : Int) := by omega
      have hlt : j < n := by omega
      obtain ⟨x, hx, hg, hc⟩ := HL.out.get hlt
      have hix := ix_int (c := c) HL.out.ad hlt
      have hb0 : (0 : Int) ≤ (j : Int) := by omega
      have hs := lastAt_succ l t j
      rw [hx] at hs
      have hkk := HK.out
      by_cases hxt : x = t
      · subst hxt
        rw [if_pos rfl] at hs
        have e2 : Z = (j : Int) := hkk.trans hs
        have HE := Lib.hid e2
        have e : (x != x) = false := by simp
        clear hx hg hs hkk e2 hI
        go_wp2
        go_ret
        exact ⟨by rw [HE.out, show (n : Int) - ((j : Int) + 1) = (n : Int) - 1 - (j : Int) by omega]; rfl, rfl⟩
      · rw [if_neg (by simpa using hxt)] at hs
        have HS := Lib.hid (hkk.trans hs)
        have e : (x != t) = true := by simpa using hxt
        clear hx hg hs hkk hI hxt
        go_wp2
        go_round
        case rel => exact ⟨(j : Int) - 1, j, by omega, by omega, by go_num, by go_num, HS⟩
        case measure => simp [intOf]; try omega

/-- A thread and its last pick. -/
def pa (l : List Int) (x : Int) : Al := (x, lastAt l x l.length)
set_option maxHeartbeats 1000000 in
theorem rfirst_any {w : World} {a : Option Addr} {n c b o : Nat} {l : List Int} (hL : Li .i64 w a n c b o l) (hn : n ≤ 100000) (t u : Int) :
    Calls Try.prog 47 #[.slice a n c, .int .i64 t, .int .i64 u] w (Ret (.bool (ltb (pa l t) (pa l u))) (fun w' => w = w')) := by
  have h1 := rage_any hL hn t
  have h2 := rage_any hL hn u
  have hln := hL.len
  have hpt : pa l t = (t, lastAt l t n) := by unfold pa; rw [hln]
  have hpu : pa l u = (u, lastAt l u n) := by unfold pa; rw [hln]
  rw [hpt, hpu]
  generalize lastAt l t n = x at *
  generalize lastAt l u n = y at *
  have hl : ltb (t, x) (u, y) = decide (x < y ∨ x = y ∧ t < u) := rfl
  rw [hl]
  clear hpt hpu hL hln hl
  by_cases hxy : x < y
  · have hr : decide (x < y ∨ x = y ∧ t < u) = true := by simp; omega
    rw [hr]
    have e1 : decide ((n : Int) - 1 - y < (n : Int) - 1 - x) = true := by simp; omega
    generalize (n : Int) - 1 - x = A at *
    generalize (n : Int) - 1 - y = B at *
    have H1 := Lib.hid h1
    have H2 := Lib.hid h2
    clear hr h1 h2 hxy
    go_enter Try.func47, Try.ntmps47
    go_wp2_with fail
    refine H1.out.mono ?_
    rintro e w1 ⟨rfl, rfl⟩
    go_wp2_with fail
    refine H2.out.mono ?_
    rintro e w1 ⟨rfl, rfl⟩
    go_wp2
    go_ret
    exact ⟨rfl, rfl⟩
  · have e1 : decide ((n : Int) - 1 - y < (n : Int) - 1 - x) = false := by simp; omega
    by_cases he : x = y
    · subst he
      by_cases htu : t < u
      · have hr : decide (x < x ∨ x = x ∧ t < u) = true := by simp; omega
        rw [hr]
        have e2 : decide (t < u) = true := by simpa using htu
        generalize (n : Int) - 1 - x = A at *
        have e3 : (A == A) = true := by simp
        have H1 := Lib.hid h1
        have H2 := Lib.hid h2
        clear hr h1 h2 hxy
        go_enter Try.func47, Try.ntmps47
        go_wp2_with fail
        refine H1.out.mono ?_
        rintro e w1 ⟨rfl, rfl⟩
        go_wp2_with fail
        refine H2.out.mono ?_
        rintro e w1 ⟨rfl, rfl⟩
        go_wp2
        go_ret
        exact ⟨rfl, rfl⟩
      · have hr : decide (x < x ∨ x = x ∧ t < u) = false := by simp; omega
        rw [hr]
        have e2 : decide (t < u) = false := by simpa using htu
        generalize (n : Int) - 1 - x = A at *
        have e3 : (A == A) = true := by simp
        have H1 := Lib.hid h1
        have H2 := Lib.hid h2
        clear hr h1 h2 hxy
        go_enter Try.func47, Try.ntmps47
        go_wp2_with fail
        refine H1.out.mono ?_
        rintro e w1 ⟨rfl, rfl⟩
        go_wp2_with fail
        refine H2.out.mono ?_
        rintro e w1 ⟨rfl, rfl⟩
        go_wp2
        go_ret
        exact ⟨rfl, rfl⟩
    · have hr : decide (x < y ∨ x = y ∧ t < u) = false := by simp; omega
      rw [hr]
      have e2 : ((n : Int) - 1 - x == (n : Int) - 1 - y) = false := by simp; omega
      generalize (n : Int) - 1 - x = A at *
      generalize (n : Int) - 1 - y = B at *
      have H1 := Lib.hid h1
      have H2 := Lib.hid h2
      clear hr h1 h2 hxy he
      go_enter Try.func47, Try.ntmps47
      go_wp2_with fail
      refine H1.out.mono ?_
      rintro e w1 ⟨rfl, rfl⟩
      go_wp2_with fail
      refine H2.out.mono ?_
      rintro e w1 ⟨rfl, rfl⟩
      go_wp2
      go_ret
      exact ⟨rfl, rfl⟩

/-- How many of the first j threads come before one. -/
def rkJ (l : List Int) (t : Int) (j : Nat) : Nat := (List.range j).countP (fun u : Nat => ltb (pa l (u : Int)) (pa l t))
theorem rkJ_succ (l : List Int) (t : Int) (j : Nat) : rkJ l t (j + 1) = rkJ l t j + if ltb (pa l (j : Int)) (pa l t) = true then 1 else 0 := by
  unfold rkJ; rw [List.range_succ, List.countP_append, List.countP_singleton]
theorem rkJ_le (l : List Int) (t : Int) (j : Nat) : rkJ l t j ≤ j := by
  unfold rkJ; have := List.countP_le_length (p := fun u : Nat => ltb (pa l (u : Int)) (pa l t)) (l := List.range j); simpa using this
/-- Whether a pick is urgent for one of the first k threads. -/
def urK (l : List Int) (T : Nat) (sz : Int) (k : Nat) : Bool := (List.range k).any (fun t : Nat => decide (sz - 1 ≤ (l.length : Int) - 1 - lastAt l (t : Int) l.length + (rkJ l (t : Int) T : Int)))
theorem urK_succ (l : List Int) (T : Nat) (sz : Int) (k : Nat) : urK l T sz (k + 1) = (urK l T sz k || decide (sz - 1 ≤ (l.length : Int) - 1 - lastAt l (k : Int) l.length + (rkJ l (k : Int) T : Int))) := by
  unfold urK; rw [List.range_succ, List.any_append]; simp

theorem ltb_irrefl (x : Al) : ltb x x = false := by unfold ltb; simp
theorem ltb_asymm {x y : Al} (h : ltb x y = true) : ltb y x = false := by
  rw [ltb_iff] at h; unfold ltb; simp; omega
theorem countP_sorted : ∀ {l : List Al}, l.Pairwise (fun x y => ltb x y = true) → ∀ {i : Nat} {a : Al}, l[i]? = some a → l.countP (fun x => ltb x a) = i
  | y :: l, hs, 0, a, h => by
    cases h
    rw [List.pairwise_cons] at hs
    rw [List.countP_cons, ltb_irrefl, List.countP_eq_zero.2 (fun x hx => by rw [ltb_asymm (hs.1 x hx)]; decide)]
    rfl
  | y :: l, hs, i + 1, a, h => by
    rw [List.pairwise_cons] at hs
    have hl : l[i]? = some a := by simpa using h
    rw [List.countP_cons, countP_sorted hs.2 hl, hs.1 a (List.mem_of_getElem? hl)]
    rfl
theorem rank_at {made : List Int} {T : Nat} {sz : Int} {l : List Al} (h : Inv made T sz l) {i : Nat} {a : Al} (hi : l[i]? = some a) : rkJ made a.1 T = i := by
  have hpa : ∀ x ∈ l, pa made x.1 = x := fun x hx => by unfold pa; rw [← h.at_ x hx]
  rw [← countP_sorted h.sorted hi]
  have e1 : rkJ made a.1 T = ((List.range T).map (fun i : Nat => (i : Int))).countP (fun u => ltb (pa made u) (pa made a.1)) := by
    unfold rkJ; rw [List.countP_map]; rfl
  rw [e1, ← h.perm.countP_eq, List.countP_map, hpa a (List.mem_of_getElem? hi)]
  apply List.countP_congr
  intro x hx
  simp only [Function.comp_apply]
  rw [hpa x hx]
theorem rank_head {made : List Int} {T : Nat} {sz : Int} {l : List Al} (h : Inv made T sz l) (hT : 1 ≤ T) :
    ∃ z : Nat, z < T ∧ (l.getD 0 (0, 0)).1 = (z : Int) ∧ ∀ t : Nat, t < T → (rkJ made (t : Int) T = 0 ↔ t = z) := by
  have hlen := h.length
  have hx : l[0]? = some (l[0]'(by omega)) := List.getElem?_eq_getElem _
  have hg : l.getD 0 (0, 0) = l[0]'(by omega) := by rw [List.getD_eq_getElem?_getD, hx]; rfl
  have hm := (h.mem_iff (l[0]'(by omega)).1).1 (List.mem_map_of_mem (List.getElem_mem _))
  refine ⟨(l[0]'(by omega)).1.toNat, by omega, by rw [hg, Int.toNat_of_nonneg hm.1], fun t ht => ?_⟩
  obtain ⟨y, hy, e⟩ := List.mem_map.1 ((h.mem_iff (t : Int)).2 ⟨by omega, by omega⟩)
  obtain ⟨i, hi, e2⟩ := List.getElem_of_mem hy
  have hr := rank_at h (by rw [List.getElem?_eq_getElem hi, e2] : l[i]? = some y)
  rw [e] at hr
  rw [hr]
  constructor
  · rintro rfl
    have : l[0]'(by omega) = y := e2
    rw [this, e]; simp
  · intro ht2
    have h0 := rank_at h hx
    have e3 : (l[0]'(by omega)).1 = (t : Int) := by omega
    rw [e3] at h0
    rw [e] at *
    omega
theorem urK_all {made : List Int} {T : Nat} {sz : Int} {l : List Al} (h : Inv made T sz l) : urK made T sz T = urg l sz made.length := by
  have hlen := h.length
  cases hu : urg l sz made.length with
  | true =>
    unfold urg at hu
    rw [List.any_eq_true] at hu
    obtain ⟨i, hi, hd⟩ := hu
    have hil := List.mem_range.1 hi
    have hx : l[i]? = some l[i] := List.getElem?_eq_getElem hil
    rw [List.getD_eq_getElem?_getD, hx] at hd
    have hd' : sz - 1 ≤ (made.length : Int) - 1 - (l[i]).2 + (i : Int) := by simpa using hd
    have hm := (h.mem_iff (l[i]).1).1 (List.mem_map_of_mem (List.getElem_mem _))
    have hr := rank_at h hx
    have ha := h.at_ _ (List.getElem_mem hil)
    unfold urK
    rw [List.any_eq_true]
    refine ⟨(l[i]).1.toNat, List.mem_range.2 (by omega), ?_⟩
    rw [Int.toNat_of_nonneg hm.1, hr, ← ha]
    simpa using hd'
  | false =>
    unfold urK
    rw [List.any_eq_false]
    intro t ht
    have htl := List.mem_range.1 ht
    obtain ⟨y, hy, e⟩ := List.mem_map.1 ((h.mem_iff (t : Int)).2 ⟨by omega, by omega⟩)
    obtain ⟨i, hi, e2⟩ := List.getElem_of_mem hy
    have hx : l[i]? = some y := by rw [List.getElem?_eq_getElem hi, e2]
    have hr := rank_at h hx
    have ha := h.at_ _ hy
    have := urg_false hu hx
    rw [e] at hr ha
    rw [hr, ← ha]
    simpa using this

set_option maxRecDepth 100000 in
set_option maxHeartbeats 3200000 in
theorem rnext_any {w : World} {a : Option Addr} {n c b o : Nat} {made : List Int} {l : List Al} (hL : Li .i64 w a n c b o made) (hn : n ≤ 1000) (T : Nat) (hT1 : 1 ≤ T) (hT2 : T ≤ 64) (s : Int) (hs1 : 1 ≤ s) (hs2 : s ≤ 100000) (want : Int)
    (h : Inv made T s l) (hw0 : 0 ≤ want) (hw1 : want < (T : Int)) :
    Calls Try.prog 30 #[.slice a n c, .int .i64 (T : Int), .int .i64 s, .int .i64 want] w (Ret (.int .i64 (nxT l s n want)) (fun w' => w = w')) := by
  have hln := hL.len
  have hlen := h.length
  obtain ⟨z, hz1, hz2, hz3⟩ := rank_head h hT1
  have hua := urK_all h
  obtain ⟨g0, g1, g2⟩ := idx_ok h hw0 hw1
  have hres : nxT l s n want = if urK made T s T = true then (z : Int) else want := by
    rw [hua, hln]
    unfold nxT nxI
    by_cases hu : urg l s n = true
    · rw [if_pos hu, if_pos hu]; exact hz2
    · rw [if_neg hu, if_neg hu, List.getD_eq_getElem?_getD, List.getElem?_eq_getElem g1]; exact g2
  have hag := fun t => rage_any hL (by omega) t
  have hfi := fun t u => rfirst_any hL (by omega) t u
  have hub := fun k => urK_succ made T s k
  rw [hln] at hub
  have hlb := fun x => lastAt_bd made x n
  generalize nxT l s n want = R at *
  have HRES := Lib.hid hres
  have HAG := Lib.hid hag
  have HFI := Lib.hid hfi
  have HUB := Lib.hid hub
  have HZ := Lib.hid hz3
  have HLB := Lib.hid hlb
  clear hL hres hag hfi hub hz3 hln hlen h hz2 hua g0 g1 g2 hlb
  go_enter Try.func30, Try.ntmps30
  go_wp2_with fail
  go_loop [9, 10, 11, 12, 13] (fun p u i _ _ => ∃ k : Nat, k ≤ T ∧ i = .int .i64 k ∧ p = .int .i64 (if z < k then (z : Int) else want) ∧ u = .bool (urK made T s k)) (fun _ _ i _ _ => T - (intOf i).toNat)
  case atStart => exact ⟨0, by omega, rfl, rfl, rfl⟩
  case round =>
    obtain ⟨k, hk, rfl, rfl, rfl⟩ := hrel
    by_cases hlt : k < T
    · have hb0 : (0 : Int) ≤ (k : Int) := by omega
      have hb1 : (k : Int) < (T : Int) := by omega
      obtain ⟨P, hP⟩ : ∃ P : Int, P = if z < k then (z : Int) else want := ⟨_, rfl⟩
      obtain ⟨U, hU⟩ : ∃ U, U = urK made T s k := ⟨_, rfl⟩
      rw [← hP, ← hU]
      have hus := HUB.out k
      rw [← hU] at hus
      have HP := Lib.hid hP
      have HUS := Lib.hid hus
      clear hP hU hus
      go_wp2_with fail
      go_loop [12, 13] (fun r i => ∃ j : Nat, j ≤ T ∧ i = .int .i64 j ∧ r = .int .i64 (rkJ made k j)) (fun _ i => T - (intOf i).toNat)
      case atStart => exact ⟨0, by omega, rfl, rfl⟩
      case round =>
        obtain ⟨j, hj, rfl, rfl⟩ := hrel
        have hrl := rkJ_le made k j
        by_cases hlt2 : j < T
        · have hb2 : (0 : Int) ≤ (j : Int) := by omega
          have hb3 : (j : Int) < (T : Int) := by omega
          have hf := HFI.out (j : Int) (k : Int)
          have hrs := rkJ_succ made k j
          cases hlt3 : ltb (pa made (j : Int)) (pa made (k : Int)) with
          | true =>
            rw [hlt3] at hf hrs
            rw [if_pos rfl] at hrs
            have HF := Lib.hid hf
            have HRS := Lib.hid hrs
            generalize rkJ made (k : Int) j = r at *
            clear hf hrs hlt3
            go_wp2_with (go_at_call 47; refine HF.out.mono ?_; rintro e w' ⟨rfl, rfl⟩)
            go_round
            case rel => exact ⟨j + 1, by omega, by go_num, by rw [HRS.out]; go_num⟩
            case measure => simp [intOf]; omega
          | false =>
            rw [hlt3] at hf hrs
            rw [if_neg (by decide)] at hrs
            have HF := Lib.hid hf
            have HRS := Lib.hid hrs
            generalize rkJ made (k : Int) j = r at *
            clear hf hrs hlt3
            go_wp2_with (go_at_call 47; refine HF.out.mono ?_; rintro e w' ⟨rfl, rfl⟩)
            go_round
            case rel => exact ⟨j + 1, by omega, by go_num, by rw [HRS.out]; rfl⟩
            case measure => simp [intOf]; omega
        · obtain rfl : j = T := by omega
          have hzk := HZ.out k hlt
          have hlb := HLB.out (k : Int)
          have hag := HAG.out (k : Int)
          have hus := HUS.out
          generalize rkJ made (k : Int) j = r at *
          generalize lastAt made (k : Int) n = q at *
          obtain ⟨hq0, hq1⟩ := hlb
          have HA := Lib.hid hag
          have hpn : (if r = 0 then (k : Int) else P) = (if z < k + 1 then (z : Int) else want) := by
            rw [HP.out]
            by_cases h0 : r = 0
            · obtain rfl := hzk.1 h0
              rw [if_pos h0, if_pos (by omega)]
            · rw [if_neg h0]
              have : ¬ k = z := fun e => h0 (hzk.2 e)
              by_cases hzk2 : z < k
              · rw [if_pos hzk2, if_pos (by omega)]
              · rw [if_neg hzk2, if_neg (by omega)]
          have HPN := Lib.hid hpn
          have HUK := Lib.hid hus
          have hw1' : IntKind.i64.wrap (s - 1) = s - 1 := by rw [IntKind.wrap_i64]; omega
          clear hag hus hpn HUS HP hzk
          have hr0 : (((r : Int) == 0) = true ∧ r = 0) ∨ (((r : Int) == 0) = false ∧ ¬ r = 0) := by
            by_cases h0 : r = 0
            · exact .inl ⟨by simp [h0], h0⟩
            · exact .inr ⟨by simpa using h0, h0⟩
          have hcd : (decide (s - 1 ≤ (n : Int) - 1 - q + (r : Int)) = true) ∨ (decide (s - 1 ≤ (n : Int) - 1 - q + (r : Int)) = false) := by
            cases decide (s - 1 ≤ (n : Int) - 1 - q + (r : Int)) <;> simp
          cases U with
          | true =>
            rcases hr0 with ⟨e0, h0⟩ | ⟨e0, h0⟩
            all_goals
              have H0 := Lib.hid h0
              clear h0 hcd
              go_wp2_with fail
              go_round
              case rel =>
                have hpn := HPN.out
                first | rw [if_pos H0.out] at hpn | rw [if_neg H0.out] at hpn
                exact ⟨k + 1, by omega, by go_num, by rw [← hpn], by rw [HUK.out]; rfl⟩
              case measure => simp [intOf]; omega
          | false =>
            rcases hr0 with ⟨e0, h0⟩ | ⟨e0, h0⟩
            all_goals
              rcases hcd with e1 | e1
              all_goals
                have H0 := Lib.hid h0
                have HE1 := Lib.hid e1
                clear h0
                go_wp2_with (go_at_call 31; refine HA.out.mono ?_; rintro e w' ⟨rfl, rfl⟩)
                go_round
                case rel =>
                  have hpn := HPN.out
                  first | rw [if_pos H0.out] at hpn | rw [if_neg H0.out] at hpn
                  exact ⟨k + 1, by omega, by go_num, by rw [← hpn], by rw [HUK.out, HE1.out]; rfl⟩
                case measure => simp [intOf]; omega
    · obtain rfl : k = T := by omega
      have hres := HRES.out
      cases hu : urK made k s k with
      | true =>
        rw [hu, if_pos rfl] at hres
        have HR := Lib.hid hres
        clear hres hu
        have hzz : (if z < k then (z : Int) else want) = (z : Int) := if_pos hz1
        rw [hzz]
        clear hzz
        go_wp2
        go_ret
        exact ⟨by rw [HR.out]; rfl, rfl⟩
      | false =>
        rw [hu, if_neg (by decide)] at hres
        have HR := Lib.hid hres
        clear hres hu
        go_wp2
        go_ret
        exact ⟨by rw [HR.out]; rfl, rfl⟩
end Go.Proofs.Ytjgnmmlbnkmgfaa
