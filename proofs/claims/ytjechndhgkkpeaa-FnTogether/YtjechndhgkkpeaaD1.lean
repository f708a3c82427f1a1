import Derived.Test.YtjechndhgkkpeaaDSh2
import Derived.Test.YtjechndhgkkpeaaGJ1
import Derived.OwnWalk
namespace Go.Proofs.Ytjechndhgkkpeaa
open Go.RowKit

/-- The last k numbers, from the last on, by z. -/
def hornF (ms : List Int) (z : Int) : Nat → Int
  | 0 => 0
  | k + 1 => (hornF ms z k + ms.getD (ms.length - 1 - k) 0) * z % 500000003
theorem hornF_bd (ms : List Int) (z : Int) (k : Nat) : 0 ≤ hornF ms z k ∧ hornF ms z k < 500000003 := by
  cases k with
  | zero => exact ⟨Int.le_refl _, by show (0 : Int) < _; decide⟩
  | succ k => exact mod_bd _ (by decide)
def valN (s : Int) (ms : List Int) (z : Int) : Int := (hornF ms z ms.length + s) % 500000003
theorem mul20 {x z : Int} (h0 : 0 ≤ x) (h1 : x ≤ 1000000006) (hz0 : 0 ≤ z) (hz1 : z ≤ 20) : 0 ≤ x * z ∧ x * z ≤ 20000000120 := by
  refine ⟨Int.mul_nonneg h0 hz0, ?_⟩
  have := Int.mul_le_mul_of_nonneg_left hz1 h0
  omega

set_option maxHeartbeats 1000000 in
theorem valueAt_any (s : Int) (a : Option Addr) (n c : Nat) (ms : List Int) (z : Int) (w : World) (h : Row64 w a n ms) (hn : n ≤ 19) (he : expsP ms) (hs : expP s) (hz0 : 0 ≤ z) (hz1 : z ≤ 20) :
    Calls Try.prog 26 #[.int .i64 s, .slice a n c, .int .i64 z] w fun e w' => e = .returned (.int .i64 (valN s ms z)) ∧ w' = w := by
  have H0 : Hid (Row64 w a n ms) := h
  have HL : Hid (ms.length = n) := h.len
  have HE : Hid (∀ j, j < n → expP (ms.getD j 0)) := fun j hj => he j (by rw [h.len]; exact hj)
  obtain ⟨hs0, hs1⟩ := hs
  clear h he
  go_enter Try.func26, Try.ntmps26
  go_wp2
  go_loopw [7, 8] (fun o i wr => ∃ (k : Nat) (v : Int), k ≤ n ∧ i = .int .i64 ((n : Int) - 1 - (k : Int)) ∧ o = .int .i64 v ∧ 0 ≤ v ∧ v < 500000003 ∧ Hid (v = hornF ms z k) ∧ w = wr) (fun _ i _ => (intOf i + 1).toNat)
  case atStart => exact ⟨0, 0, Nat.zero_le _, by go_num, rfl, by decide, by decide, rfl, rfl⟩
  case round =>
    obtain ⟨k, v, hk, rfl, rfl, hv0, hv1, HV, rfl⟩ := hrel
    by_cases hlt : k < n
    · obtain ⟨m, hm⟩ : ∃ m : Nat, n = m + 1 + k := ⟨n - 1 - k, by omega⟩
      obtain ⟨b, off, rfl, hb, hcell⟩ := H0.out.get m (by omega)
      obtain ⟨q, hq⟩ : ∃ q, q = ms.getD m 0 := ⟨_, rfl⟩
      obtain ⟨hq0, hq1⟩ := HE.out m (by omega)
      rw [← hq] at hcell hq0 hq1
      have em : ((n : Int) - 1 - (k : Int)) = (m : Int) := by omega
      have HN : Hid ((v + q) * z % 500000003 = hornF ms z (k + 1)) := by show _ = _; rw [hornF, ← HV.out, HL.out, hq, show n - 1 - k = m by omega]
      obtain ⟨hp0, hp1⟩ := mul20 (show 0 ≤ v + q by omega) (show v + q ≤ 1000000006 by omega) hz0 hz1
      obtain ⟨hm0, hm1⟩ := mod_bd ((v + q) * z) (show (1 : Int) ≤ 500000003 by decide)
      have hmn : (m : Int) < (n : Int) := by omega
      rw [em]
      clear hq HV
      go_wp2
      go_roundw
      case rel => exact ⟨k + 1, _, by omega, by rw [show ((n : Int) - 1 - ((k + 1 : Nat) : Int)) = (m : Int) - 1 by omega], rfl, hm0, hm1, HN, by trivial⟩
      case measure => simp [intOf]
    · obtain rfl : k = n := by omega
      have HE2 : Hid ((v + s) % 500000003 = valN s ms z) := by show _ = _; unfold valN; rw [HV.out, HL.out]
      rw [show ((k : Int) - 1 - (k : Int)) = -1 by omega]
      clear HV
      go_wp2
      go_ret
      exact ⟨by rw [← HE2.out]; rfl, rfl⟩

def dealt (s : Int) (ms : List Int) (i : Nat) : Int × Int := (((i + 1 : Nat) : Int), valN s ms ((i + 1 : Nat) : Int))
def dealL (s : Int) (ms : List Int) (n : Nat) : List (Int × Int) := (List.range n).map (dealt s ms)
theorem dealL_len (s : Int) (ms : List Int) (n : Nat) : (dealL s ms n).length = n := by simp [dealL]
theorem dealL_get (s : Int) (ms : List Int) (n k : Nat) (h : k < n) : (dealL s ms n).getD k (0, 0) = dealt s ms k := by simp [dealL, h]
def dealP (s : Int) (ms : List Int) (n : Int) : Prop := expP s ∧ ms.length ≤ 19 ∧ expsP ms ∧ (1 ≤ n ∧ n ≤ 20)
instance (s : Int) (ms : List Int) (n : Int) : Decidable (dealP s ms n) := by unfold dealP; infer_instance
def dealR (s : Int) (ms : List Int) (n : Int) : List (Int × Int) := if dealP s ms n then dealL s ms n.toNat else []

/-- The first k shares lie in the row. -/
def Pre2 (vs : List Value) (ps : List (Int × Int)) (k : Nat) : Prop := ∀ j, j < k → vs[j * 2]? = some (.int .i64 (ps.getD j (0, 0)).1) ∧ vs[j * 2 + 1]? = some (.int .i64 (ps.getD j (0, 0)).2)
theorem Pre2.set {vs : List Value} {ps : List (Int × Int)} {k : Nat} (h : Pre2 vs ps k) (hk : k * 2 + 1 < vs.length) : Pre2 ((vs.set (k * 2) (.int .i64 (ps.getD k (0, 0)).1)).set (k * 2 + 1) (.int .i64 (ps.getD k (0, 0)).2)) ps (k + 1) := by
  intro j hj
  by_cases e : j = k
  · subst e
    refine ⟨?_, ?_⟩
    · rw [List.getElem?_set_ne (by omega), List.getElem?_set_self (by omega)]
    · rw [List.getElem?_set_self (by simp; omega)]
  · have h1 := h j (by omega)
    refine ⟨?_, ?_⟩
    · rw [List.getElem?_set_ne (by omega), List.getElem?_set_ne (by omega)]; exact h1.1
    · rw [List.getElem?_set_ne (by omega), List.getElem?_set_ne (by omega)]; exact h1.2
theorem Pre2.all {vs : List Value} {ps : List (Int × Int)} {n : Nat} (h : Pre2 vs ps n) (hv : vs.length = n * 2) (hp : ps.length = n) : vs = flat ps := by
  apply List.ext_getElem?
  intro i
  by_cases hi : i < n * 2
  · have h1 := h (i / 2) (by omega)
    have h2 := flat_get ps (i / 2) (by omega)
    rcases Nat.mod_two_eq_zero_or_one i with e | e
    · have ei : i / 2 * 2 = i := by omega
      rw [ei] at h1 h2
      exact h1.1.trans h2.1.symm
    · have ei : i / 2 * 2 + 1 = i := by omega
      rw [ei] at h1 h2
      exact h1.2.trans h2.2.symm
  · rw [List.getElem?_eq_none (by omega), List.getElem?_eq_none (by rw [flat_len]; omega)]

theorem Try.infoShare : (Try.prog.info? 33).map (fun i => (i.zero, i.size, i.bytes)) = some (some (.agg #[.int .i64 0, .int .i64 0]), 2, 16) := by kernel_rfl

set_option maxHeartbeats 2000000 in
theorem implDeal_any (s : Int) (a : Option Addr) (n c : Nat) (ms : List Int) (t : Int) (w : World) (h : Row64 w a n ms) (hn : n ≤ 9223372036854775807) :
    Calls Try.prog 7 #[.int .i64 s, .slice a n c, .int .i64 t] w fun e w' => ∃ ar nr cr, e = .returned (.tuple #[.slice ar nr cr, .bool (decide (dealP s ms t))]) ∧ OwnSh w.heap.size w' ar nr cr (dealR s ms t) ∧ nr ≤ 20 ∧ Below w.heap.size w w' := by
  obtain ⟨i0, hi, hz0, hz1, hz2⟩ := info_parts Try.infoShare
  have H0 : Hid (Row64 w a n ms) := h
  have HL : Hid (ms.length = n) := h.len
  clear h
  by_cases h1 : expP s
  · by_cases h2 : 19 < (n : Int)
    · have HD : Hid (decide (dealP s ms t) = false) := decide_eq_false (fun hh => absurd hh.2.1 (by rw [HL.out]; omega))
      have HR : Hid (dealR s ms t = []) := by show _ = _; unfold dealR; rw [if_neg (fun hh => absurd hh.2.1 (by rw [HL.out]; omega))]
      go_enter Try.func7, Try.ntmps7
      go_wp2_with fail
      refine (isExponent_any s _).mono ?_
      rintro e w1 ⟨rfl, rfl⟩
      rw [decide_eq_true h1]
      go_wp2
      go_ret2
      exact ⟨none, 0, 0, by rw [HD.out]; rfl, by rw [HR.out]; exact own_sh_none _ _, by decide, Below.refl _ _⟩
    by_cases h3 : expsP ms
    · by_cases h4 : 1 ≤ t ∧ t ≤ 20
      · have HD : Hid (decide (dealP s ms t) = true) := decide_eq_true ⟨h1, by rw [HL.out]; omega, h3, h4⟩
        obtain ⟨N, rfl⟩ := Int.eq_ofNat_of_zero_le (show 0 ≤ t by omega)
        have HR : Hid (dealR s ms (N : Int) = dealL s ms N) := by show _ = _; unfold dealR; rw [if_pos ⟨h1, by rw [HL.out]; omega, h3, h4⟩, Int.toNat_natCast]
        have hN : N ≤ 20 := by omega
        go_enter Try.func7, Try.ntmps7
        go_wp2_with fail
        refine (isExponent_any s _).mono ?_
        rintro e w1 ⟨rfl, rfl⟩
        rw [decide_eq_true h1]
        go_wp2_with fail
        refine (allExponents_any a n c ms _ H0.out hn).mono ?_
        rintro e w1 ⟨rfl, rfl⟩
        rw [decide_eq_true h3]
        go_wp2_with fail
        refine (inBounds_t (N : Int) 1 20 _ h4).mono ?_
        rintro e w1 ⟨rfl, rfl⟩
        go_wp2_with (first | (at_make; refine wpList_make_full _ rfl _ _ 27 rfl w1.heap.size 33 i0 _ 2 Try.underlying27 hi hz0 hz1 _ _ _ _ N rfl rfl rfl rfl (by rw [hz2]; omega) (by unfold maxLen; omega) (by exact Nat.le_refl _) ?_; intro w2 hown hgrow))
        have hbl : Below w1.heap.size w1 w2 := (Below.refl _ _).grown hgrow (Nat.le_refl _) (by simp)
        clear hgrow hi hz0 hz1 hz2
        go_loopw [33] (fun i wr => ∃ k : Nat, k ≤ N ∧ i = .int .i64 k ∧ (∃ vs, wr.ownsRow w1.heap.size 33 2 (.slice (some ⟨w1.heap.size, 0, none⟩) N N) N vs ∧ Pre2 vs (dealL s ms N) k) ∧ Below w1.heap.size w1 wr) (fun i _ => N - (intOf i).toNat)
        case atStart => exact ⟨0, Nat.zero_le _, rfl, ⟨_, hown, fun j hj => absurd hj (Nat.not_lt_zero _)⟩, hbl⟩
        case round =>
          obtain ⟨k, hk, rfl, ⟨vs, hor, hpre⟩, hbr⟩ := hrel
          by_cases hkn : k < N
          · have hvl : vs.length = N * 2 := hor.1
            have f0 : wr.frozen? ⟨w1.heap.size, k * 2, none⟩ = false := hor.frozenAt _
            have f1 : wr.frozen? ⟨w1.heap.size, k * 2 + 1, none⟩ = false := hor.frozenAt _
            obtain ⟨y0, hy0⟩ : ∃ y, wr.cell? ⟨w1.heap.size, k * 2, none⟩ = some y := ⟨_, (hor.cellAt _ (by omega)).trans (List.getElem?_eq_getElem (by omega))⟩
            obtain ⟨y1, hy1⟩ : ∃ y, wr.cell? ⟨w1.heap.size, k * 2 + 1, none⟩ = some y := ⟨_, (hor.cellAt _ (by omega)).trans (List.getElem?_eq_getElem (by omega))⟩
            have hP := hpre.set (by omega)
            rw [dealL_get s ms N k hkn, show (dealt s ms k).1 = (k : Int) + 1 from rfl, show (dealt s ms k).2 = valN s ms ((k : Int) + 1) from rfl] at hP
            have hO := ((hor.stored (k * 2) (.int .i64 ((k : Int) + 1))).1.stored (k * 2 + 1) (.int .i64 (valN s ms ((k : Int) + 1)))).1
            have hB : Below w1.heap.size w1 ((wr.setCell ⟨w1.heap.size, k * 2, none⟩ (.int .i64 ((k : Int) + 1))).setCell ⟨w1.heap.size, k * 2 + 1, none⟩ (.int .i64 (valN s ms ((k : Int) + 1)))) := (hbr.setCell (Nat.le_refl _) _).setCell (Nat.le_refl _) _
            have FIN : Hid (_ ∧ _ ∧ _) := ⟨hO, hP, hB⟩
            have hkni : (k : Int) < (N : Int) := by omega
            have HRW : Hid (Row64 wr a n ms) := H0.out.kept hbr
            clear hP hO hB hor hpre hbr hbl hown
            go_wp2_with fail
            refine (valueAt_any s a n c ms ((k : Int) + 1) _ HRW.out (by omega) h3 h1 (by omega) (by omega)).mono ?_
            rintro e w3 ⟨rfl, rfl⟩
            obtain ⟨vv, hvv⟩ : ∃ vv, vv = valN s ms ((k : Int) + 1) := ⟨_, rfl⟩
            rw [← hvv] at FIN ⊢
            clear hvv
            go_wp2
            go_roundw
            case rel => exact ⟨k + 1, by omega, by go_num, ⟨_, FIN.out.1, FIN.out.2.1⟩, FIN.out.2.2⟩
            case measure => simp [intOf]; omega
          · obtain rfl : k = N := by omega
            have hvs := hpre.all hor.1 (dealL_len s ms k)
            rw [hvs] at hor
            have FIN : Hid (_ ∧ _) := ⟨hor, hbr⟩
            clear hor hpre hbr hvs hown hbl
            go_wp2
            go_ret2
            exact ⟨_, _, _, by rw [HD.out]; rfl, by rw [HR.out]; exact ⟨FIN.out.1, by omega⟩, by omega, FIN.out.2⟩
      · have HD : Hid (decide (dealP s ms t) = false) := decide_eq_false (fun hh => h4 hh.2.2.2)
        have HR : Hid (dealR s ms t = []) := by show _ = _; unfold dealR; rw [if_neg (fun hh => h4 hh.2.2.2)]
        go_enter Try.func7, Try.ntmps7
        go_wp2_with fail
        refine (isExponent_any s _).mono ?_
        rintro e w1 ⟨rfl, rfl⟩
        rw [decide_eq_true h1]
        go_wp2_with fail
        refine (allExponents_any a n c ms _ H0.out hn).mono ?_
        rintro e w1 ⟨rfl, rfl⟩
        rw [decide_eq_true h3]
        go_wp2_with fail
        refine (inBounds_f t 1 20 _ h4).mono ?_
        rintro e w1 ⟨rfl, rfl⟩
        go_wp2
        go_ret2
        exact ⟨none, 0, 0, by rw [HD.out]; rfl, by rw [HR.out]; exact own_sh_none _ _, by decide, Below.refl _ _⟩
    · have HD : Hid (decide (dealP s ms t) = false) := decide_eq_false (fun hh => h3 hh.2.2.1)
      have HR : Hid (dealR s ms t = []) := by show _ = _; unfold dealR; rw [if_neg (fun hh => h3 hh.2.2.1)]
      go_enter Try.func7, Try.ntmps7
      go_wp2_with fail
      refine (isExponent_any s _).mono ?_
      rintro e w1 ⟨rfl, rfl⟩
      rw [decide_eq_true h1]
      go_wp2_with fail
      refine (allExponents_any a n c ms _ H0.out hn).mono ?_
      rintro e w1 ⟨rfl, rfl⟩
      rw [decide_eq_false h3]
      go_wp2
      go_ret2
      exact ⟨none, 0, 0, by rw [HD.out]; rfl, by rw [HR.out]; exact own_sh_none _ _, by decide, Below.refl _ _⟩
  · have HD : Hid (decide (dealP s ms t) = false) := decide_eq_false (fun hh => h1 hh.1)
    have HR : Hid (dealR s ms t = []) := by show _ = _; unfold dealR; rw [if_neg (fun hh => h1 hh.1)]
    go_enter Try.func7, Try.ntmps7
    go_wp2_with fail
    refine (isExponent_any s _).mono ?_
    rintro e w1 ⟨rfl, rfl⟩
    rw [decide_eq_false h1]
    go_wp2
    go_ret2
    exact ⟨none, 0, 0, by rw [HD.out]; rfl, by rw [HR.out]; exact own_sh_none _ _, by decide, Below.refl _ _⟩

end Go.Proofs.Ytjechndhgkkpeaa
