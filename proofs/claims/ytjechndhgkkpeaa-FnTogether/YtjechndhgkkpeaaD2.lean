import Derived.Test.YtjechndhgkkpeaaD1
import Derived.Test.YtjechndhgkkpeaaWApp
namespace Go.Proofs.Ytjechndhgkkpeaa
open Go.RowKit

theorem horn_same (v q z : Int) : (v + q) % 500000003 * z % 500000003 = (v + q) * z % 500000003 := by
  rw [Int.mul_emod, Int.emod_emod_of_dvd _ (Int.dvd_refl _), ← Int.mul_emod]
theorem dealL_next (s : Int) (ms : List Int) (k : Nat) : dealL s ms (k + 1) = dealL s ms k ++ [dealt s ms k] := by simp [dealL, List.range_succ]
theorem own_sh_appended {B : Nat} {w : World} {v : Value} {m : Nat} {ps : List (Int × Int)} (hm : m ≤ 9223372036854775807) (h : w.ownsRow B 33 2 v m (flat ps)) : ∃ a cap, v = .slice a m cap ∧ OwnSh B w a m cap ps := by
  rcases h.2 with ⟨rfl, rfl⟩ | ⟨g, cap, cur, rfl, r⟩
  · exact ⟨_, _, rfl, h, hm⟩
  · exact ⟨_, _, rfl, h, hm⟩

set_option maxHeartbeats 4000000 in
theorem specDeal_any (s : Int) (a : Option Addr) (n c : Nat) (ms : List Int) (t : Int) (w : World) (h : Row64 w a n ms) (hn : n ≤ 9223372036854775807) :
    Calls Try.prog 8 #[.int .i64 s, .slice a n c, .int .i64 t] w fun e w' => ∃ ar nr cr, e = .returned (.tuple #[.slice ar nr cr, .bool (decide (dealP s ms t))]) ∧ OwnSh w.heap.size w' ar nr cr (dealR s ms t) ∧ nr ≤ 20 ∧ Below w.heap.size w w' := by
  obtain ⟨i0, hi, hz0, hz1, hz2⟩ := info_parts Try.infoShare
  have H0 : Hid (Row64 w a n ms) := h
  have HL : Hid (ms.length = n) := h.len
  have HOE : Hid (_) := own_sh_empty w
  have hbe : Below w.heap.size w (w.alloc (.cells #[] 33)) := (Below.refl _ _).alloc (Nat.le_refl _) _
  clear h
  by_cases h1 : expP s
  · by_cases h2 : 19 < (n : Int)
    · have HD : Hid (decide (dealP s ms t) = false) := decide_eq_false (fun hh => absurd hh.2.1 (by rw [HL.out]; omega))
      have HR : Hid (dealR s ms t = []) := by show _ = _; unfold dealR; rw [if_neg (fun hh => absurd hh.2.1 (by rw [HL.out]; omega))]
      go_enter Try.func8, Try.ntmps8
      go_wp2_with fail
      refine (l7Exp_any s _).mono ?_
      rintro e w1 ⟨rfl, rfl⟩
      rw [decide_eq_true h1]
      go_wp2
      go_ret2
      exact ⟨_, 0, 0, by rw [HD.out]; rfl, by rw [HR.out]; exact HOE.out, by decide, hbe⟩
    by_cases h4 : 1 ≤ t ∧ t ≤ 20
    · obtain ⟨N, rfl⟩ := Int.eq_ofNat_of_zero_le (show 0 ≤ t by omega)
      have hN : N ≤ 20 := by omega
      have hs0 := h1.1
      have hs1 := h1.2
      go_enter Try.func8, Try.ntmps8
      go_wp2_with fail
      refine (l7Exp_any s _).mono ?_
      rintro e w1 ⟨rfl, rfl⟩
      rw [decide_eq_true h1]
      go_wp2_with fail
      refine (l1In_t (N : Int) 1 20 _ h4).mono ?_
      rintro e w1 ⟨rfl, rfl⟩
      obtain ⟨w1, hw1⟩ : ∃ w1, w1 = w.alloc (.cells #[] 33) := ⟨_, rfl⟩
      rw [← hw1] at HOE hbe ⊢
      clear hw1
      go_wp2
      go_loopw [9] (fun i wr => ∃ k : Nat, k ≤ n ∧ i = .int .i64 k ∧ Hid (∀ j, j < k → expP (ms.getD j 0)) ∧ w1 = wr) (fun i _ => n - (intOf i).toNat)
      case atStart => exact ⟨0, Nat.zero_le _, rfl, (fun j hj => absurd hj (Nat.not_lt_zero _)), rfl⟩
      case round =>
        obtain ⟨k, hk, rfl, HA, rfl⟩ := hrel
        by_cases hlt : k < n
        · obtain ⟨b, off, rfl, hb, hcell⟩ := (H0.out.kept hbe).get k hlt
          obtain ⟨z, hz⟩ : ∃ z, z = ms.getD k 0 := ⟨_, rfl⟩
          rw [← hz] at hcell
          have HZ : Hid (z = ms.getD k 0) := hz
          have hlti : (k : Int) < (n : Int) := by omega
          clear hz
          go_wp2_with fail
          refine (l7Exp_any z _).mono ?_
          rintro e w2 ⟨rfl, rfl⟩
          by_cases hs : expP z
          · have HN : Hid (∀ j, j < k + 1 → expP (ms.getD j 0)) := fun j hj => by
              by_cases e : j = k
              · rw [e, ← HZ.out]; exact hs
              · exact HA.out j (by omega)
            rw [decide_eq_true hs]
            clear hs HA
            go_wp2
            go_roundw
            case rel => exact ⟨k + 1, by omega, by go_num, HN, by trivial⟩
            case measure => simp [intOf]; omega
          · have HD : Hid (decide (dealP s ms (N : Int)) = false) := decide_eq_false (fun hh => hs (by rw [HZ.out]; exact hh.2.2.1 k (by rw [HL.out]; exact hlt)))
            have HR : Hid (dealR s ms (N : Int) = []) := by show _ = _; unfold dealR; rw [if_neg (fun hh => hs (by rw [HZ.out]; exact hh.2.2.1 k (by rw [HL.out]; exact hlt)))]
            rw [decide_eq_false hs]
            clear hs HA
            go_wp2
            go_ret2
            exact ⟨_, 0, 0, by rw [HD.out]; rfl, by rw [HR.out]; exact HOE.out, by decide, hbe⟩
        · obtain rfl : k = n := by omega
          have h3 : expsP ms := fun j hj => HA.out j (by rw [HL.out] at hj; exact hj)
          have HD : Hid (decide (dealP s ms (N : Int)) = true) := decide_eq_true ⟨h1, by rw [HL.out]; omega, h3, h4⟩
          have HR : Hid (dealR s ms (N : Int) = dealL s ms N) := by show _ = _; unfold dealR; rw [if_pos ⟨h1, by rw [HL.out]; omega, h3, h4⟩, Int.toNat_natCast]
          have HE : Hid (∀ j, j < k → expP (ms.getD j 0)) := HA
          clear HA h3
          go_wp2
          go_loopw [8, 10] (fun o i wr => ∃ (q m cc : Nat) (ao : Option Addr), q ≤ N ∧ i = .int .i64 ((q : Int) + 1) ∧ o = .slice ao m cc ∧ m = q ∧ OwnSh w.heap.size wr ao m cc (dealL s ms q) ∧ Below w.heap.size w wr) (fun _ i _ => N + 1 - (intOf i).toNat)
          case atStart => exact ⟨0, 0, 0, _, Nat.zero_le _, rfl, rfl, rfl, HOE.out, hbe⟩
          case round =>
            obtain ⟨q, m, cc, ao, hq, rfl, rfl, rfl, hor, hbr⟩ := hrel
            by_cases hqN : m < N
            · have hle : ((m : Int) + 1 ≤ (N : Int)) := by omega
              have HOR : Hid (_) := hor
              have HRW : Hid (Row64 wr a k ms) := H0.out.kept hbr
              clear hor
              go_wp2
              go_loopw [11, 12] (fun f i wr2 => ∃ (j : Nat) (v : Int), j ≤ k ∧ i = .int .i64 ((k : Int) - 1 - (j : Int)) ∧ f = .int .i64 v ∧ 0 ≤ v ∧ v < 500000003 ∧ Hid (v = hornF ms ((m : Int) + 1) j) ∧ wr = wr2) (fun _ i _ => (intOf i + 1).toNat)
              case atStart => exact ⟨0, 0, Nat.zero_le _, by go_num, rfl, by decide, by decide, rfl, rfl⟩
              case round =>
                obtain ⟨j, v, hj, rfl, rfl, hv0, hv1, HV, rfl⟩ := hrel
                by_cases hjk : j < k
                · obtain ⟨u, hu⟩ : ∃ u : Nat, k = u + 1 + j := ⟨k - 1 - j, by omega⟩
                  obtain ⟨b, off, rfl, hb, hcell⟩ := HRW.out.get u (by omega)
                  obtain ⟨x, hx⟩ : ∃ x, x = ms.getD u 0 := ⟨_, rfl⟩
                  obtain ⟨hx0, hx1⟩ := HE.out u (by omega)
                  rw [← hx] at hcell hx0 hx1
                  have em : ((k : Int) - 1 - (j : Int)) = (u : Int) := by omega
                  have HN : Hid ((v + x) % 500000003 * ((m : Int) + 1) % 500000003 = hornF ms ((m : Int) + 1) (j + 1)) := by show _ = _; rw [horn_same, hornF, ← HV.out, HL.out, hx, show k - 1 - j = u by omega]
                  obtain ⟨hr0, hr1⟩ := mod_bd (v + x) (show (1 : Int) ≤ 500000003 by decide)
                  obtain ⟨hp0, hp1⟩ := mul20 hr0 (show (v + x) % 500000003 ≤ 1000000006 by omega) (show 0 ≤ (m : Int) + 1 by omega) (show (m : Int) + 1 ≤ 20 by omega)
                  obtain ⟨hm0, hm1⟩ := mod_bd ((v + x) % 500000003 * ((m : Int) + 1)) (show (1 : Int) ≤ 500000003 by decide)
                  have hun : (u : Int) < (k : Int) := by omega
                  rw [em]
                  clear hx HV
                  go_wp2
                  go_roundw
                  case rel => exact ⟨j + 1, _, by omega, by rw [show ((k : Int) - 1 - ((j + 1 : Nat) : Int)) = (u : Int) - 1 by omega], rfl, hm0, hm1, HN, by trivial⟩
                  case measure => simp [intOf]
                · obtain rfl : j = k := by omega
                  have HE2 : Hid ((v + s) % 500000003 = valN s ms ((m : Int) + 1)) := by show _ = _; unfold valN; rw [HV.out, HL.out]
                  rw [show ((j : Int) - 1 - (j : Int)) = -1 by omega]
                  obtain ⟨vv, hvv⟩ : ∃ vv, vv = (v + s) % 500000003 := ⟨_, rfl⟩
                  have HVV : Hid (vv = valN s ms ((m : Int) + 1)) := by rw [← HE2.out]; exact hvv
                  clear HV
                  have hor := HOR.out
                  have hws := hbr.size
                  have hcl : ∀ jj uu, ([Value.int .i64 ((m : Int) + 1), .int .i64 ((v + s) % 500000003)] : List Value)[jj]? = some uu → (wr.alloc (.cells #[.int .i64 ((m : Int) + 1), .int .i64 ((v + s) % 500000003)] 33)).cell? ((⟨wr.heap.size, 0, none⟩ : Addr).add jj) = some uu := by
                    intro jj uu hju
                    rw [Addr.add_lit, Nat.zero_add, cell_of_row _ wr.heap.size jj _ 33 _ (heap_alloc_new wr _), ← hju]
                    simp
                  have hor2 : (wr.alloc (.cells #[.int .i64 ((m : Int) + 1), .int .i64 ((v + s) % 500000003)] 33)).ownsRow w.heap.size 33 2 (.slice ao m cc) m (flat (dealL s ms m)) := ownsRow_below hor.row ((Below.refl _ _).alloc (Nat.le_refl _) _)
                  have hbr2 : Below w.heap.size w (wr.alloc (.cells #[.int .i64 ((m : Int) + 1), .int .i64 ((v + s) % 500000003)] 33)) := hbr.alloc hws _
                  go_wp2_with (first | (at_builtin; refine wpList_append_own _ rfl (.tmp 63) (.tmp 70) 27 rfl w.heap.size 33 i0 _ 2 16 Try.underlying27 hi hz0 hz1 hz2 rfl (by decide) _ m _ rfl hor2 ⟨wr.heap.size, 0, none⟩ 1 1 [.int .i64 ((m : Int) + 1), .int .i64 ((v + s) % 500000003)] rfl rfl hcl (ints_oneCell .i64 [(m : Int) + 1, (v + s) % 500000003]) (by unfold maxLen; omega) (by omega) (by simp; omega) ?_; intro v4 w4 hv4 hg4 _))
                  have he : flat (dealL s ms m) ++ [Value.int .i64 ((m : Int) + 1), .int .i64 ((v + s) % 500000003)] = flat (dealL s ms (m + 1)) := by rw [dealL_next, flat_append, HE2.out]; rfl
                  rw [he] at hv4
                  have hbr4 : Below w.heap.size w w4 := hbr2.grown hg4 (by simp; omega) (fun k hk => (hor2.lt k hk).1)
                  obtain ⟨a4, c4, rfl, ho4⟩ := own_sh_appended (by omega) hv4
                  go_roundw
                  case rel => exact ⟨m + 1, m + 1, c4, a4, by omega, by go_num, rfl, rfl, ho4, hbr4⟩
                  case measure => simp [intOf]; omega
            · obtain rfl : m = N := by omega
              have FIN : Hid (_ ∧ _) := ⟨hor, hbr⟩
              clear hor hbr
              go_wp2
              go_ret2
              exact ⟨_, _, _, by rw [HD.out]; rfl, by rw [HR.out]; exact FIN.out.1, by omega, FIN.out.2⟩
    · have HD : Hid (decide (dealP s ms t) = false) := decide_eq_false (fun hh => h4 hh.2.2.2)
      have HR : Hid (dealR s ms t = []) := by show _ = _; unfold dealR; rw [if_neg (fun hh => h4 hh.2.2.2)]
      go_enter Try.func8, Try.ntmps8
      go_wp2_with fail
      refine (l7Exp_any s _).mono ?_
      rintro e w1 ⟨rfl, rfl⟩
      rw [decide_eq_true h1]
      go_wp2_with fail
      refine (l1In_f t 1 20 _ h4).mono ?_
      rintro e w1 ⟨rfl, rfl⟩
      go_wp2
      go_ret2
      exact ⟨_, 0, 0, by rw [HD.out]; rfl, by rw [HR.out]; exact HOE.out, by decide, hbe⟩
  · have HD : Hid (decide (dealP s ms t) = false) := decide_eq_false (fun hh => h1 hh.1)
    have HR : Hid (dealR s ms t = []) := by show _ = _; unfold dealR; rw [if_neg (fun hh => h1 hh.1)]
    go_enter Try.func8, Try.ntmps8
    go_wp2_with fail
    refine (l7Exp_any s _).mono ?_
    rintro e w1 ⟨rfl, rfl⟩
    rw [decide_eq_false h1]
    go_wp2
    go_ret2
    exact ⟨_, 0, 0, by rw [HD.out]; rfl, by rw [HR.out]; exact HOE.out, by decide, hbe⟩

end Go.Proofs.Ytjechndhgkkpeaa
