import Derived.Test.YtdkgilkjcndonaaPL4
namespace Go.Proofs.Ytdkgilkjcndonaa
open Go.RowKit

theorem calls_boolP {P : Program} {f : Nat} {args : Array Value} {w : World} {b c : Bool} (h : Calls P f args w fun e w' => e = .returned (.bool b) ∧ w' = w) (e : b = c) : Calls P f args w fun e w' => e = .returned (.bool c) ∧ w' = w := by rw [e] at h; exact h
theorem l1In_d (x lo hi : Int) (w : World) : Calls Try.prog 42 #[.int .i64 x, .int .i64 lo, .int .i64 hi] w fun e w' => e = .returned (.bool (decide (lo ≤ x ∧ x ≤ hi))) ∧ w' = w := by
  by_cases h : lo ≤ x ∧ x ≤ hi
  · rw [decide_eq_true h]; exact l1In_t x lo hi w h
  · rw [decide_eq_false h]; exact l1In_f x lo hi w h

set_option maxRecDepth 10000 in
set_option maxHeartbeats 4000000 in
theorem l12CertOk_any (a1 : Option Addr) (n1 c1 : Nat) (a2 : Option Addr) (n2 c2 : Nat) (x : PC) (w : World) (h : PcAt w a1 n1 c1 a2 n2 x) :
    Calls Try.prog 68 #[pcv a1 n1 c1 a2 n2 c2 x] w (SaysP (certP x) w) := by
  have H0 : Hid (PcAt w a1 n1 c1 a2 n2 x) := h
  have HL : Hid (x.pols.length = n1 ∧ x.maps.length = n2) := ⟨h.pol.len, h.mp.len⟩
  have hle := h.le
  have hmax := h.max
  have hmx2 := h.mp.max
  clear h
  obtain ⟨w0, hw0⟩ : ∃ w0, w0 = w.alloc (.cells #[.slice a1 n1 c1, .slice a2 n2 c2, .bool x.self, .int .i64 x.need, .int .i64 x.nomap, .int .i64 x.noany] 41) := ⟨_, rfl⟩
  have HB0 : Hid (Below w.heap.size w w0) := by show Below _ _ _; rw [hw0]; exact (Below.refl _ _).alloc (Nat.le_refl _) _
  have hb0 : w0.heap[w.heap.size]? = some (.cells #[.slice a1 n1 c1, .slice a2 n2 c2, .bool x.self, .int .i64 x.need, .int .i64 x.nomap, .int .i64 x.noany] 41 (0, 0)) := by rw [hw0]; exact heap_alloc_new _ _
  have x0 : w0.cell? ⟨w.heap.size, 0, none⟩ = some (.slice a1 n1 c1) := (cell_of_row _ _ 0 _ 41 (0, 0) hb0).trans rfl
  have x1 : w0.cell? ⟨w.heap.size, 1, none⟩ = some (.slice a2 n2 c2) := (cell_of_row _ _ 1 _ 41 (0, 0) hb0).trans rfl
  have x3 : w0.cell? ⟨w.heap.size, 3, none⟩ = some (.int .i64 x.need) := (cell_of_row _ _ 3 _ 41 (0, 0) hb0).trans rfl
  have x4 : w0.cell? ⟨w.heap.size, 4, none⟩ = some (.int .i64 x.nomap) := (cell_of_row _ _ 4 _ 41 (0, 0) hb0).trans rfl
  have x5 : w0.cell? ⟨w.heap.size, 5, none⟩ = some (.int .i64 x.noany) := (cell_of_row _ _ 5 _ 41 (0, 0) hb0).trans rfl
  have lx : w.heap.size < w0.heap.size := (Array.getElem?_eq_some_iff.1 hb0).1
  have HW0 : Hid (_ = _) := hw0
  clear hw0 hb0
  unfold pcv
  go_enter Try.func68, Try.ntmps68
  go_upto_region 1 with fail
  rw [← HW0.out]
  clear HW0
  by_cases h6 : ¬ (n1 ≤ 6)
  · have HN : Hid (¬ certP x) := fun e => h6 (by rw [← HL.out.1]; exact e.1.1)
    have h6' : 6 < (n1 : Int) := by omega
    go_wp2
    go_ret
    exact saysP_f HN.out HB0.out
  replace h6 := Classical.not_not.1 h6
  have h6' : ¬ (6 < (n1 : Int)) := by omega
  by_cases h7 : ¬ (n2 ≤ 6)
  · have HN : Hid (¬ certP x) := fun e => h7 (by rw [← HL.out.2]; exact e.1.2)
    have h7' : 6 < (n2 : Int) := by omega
    go_wp2
    go_ret
    exact saysP_f HN.out HB0.out
  replace h7 := Classical.not_not.1 h7
  have h7' : ¬ (6 < (n2 : Int)) := by omega
  by_cases g0 : ¬ (-1 ≤ x.need ∧ x.need ≤ 10)
  · have HN : Hid (¬ certP x) := fun e => g0 e.2.1.1
    go_wp2_with fail
    refine (l1In_f x.need (-1) 10 _ g0).mono ?_
    rintro e w1 ⟨rfl, hw1⟩; have hw2 := hw1.symm; subst hw2
    clear g0
    go_wp2
    go_ret
    exact saysP_f HN.out HB0.out
  replace g0 := Classical.not_not.1 g0
  go_wp2_with fail
  refine (l1In_t x.need (-1) 10 _ g0).mono ?_
  rintro e w1 ⟨rfl, hw1⟩; have hw2 := hw1.symm; subst hw2
  by_cases g1 : ¬ (-1 ≤ x.nomap ∧ x.nomap ≤ 10)
  · have HN : Hid (¬ certP x) := fun e => g1 e.2.1.2.1
    go_wp2_with fail
    refine (l1In_f x.nomap (-1) 10 _ g1).mono ?_
    rintro e w1 ⟨rfl, hw1⟩; have hw2 := hw1.symm; subst hw2
    clear g1
    go_wp2
    go_ret
    exact saysP_f HN.out HB0.out
  replace g1 := Classical.not_not.1 g1
  go_wp2_with fail
  refine (l1In_t x.nomap (-1) 10 _ g1).mono ?_
  rintro e w1 ⟨rfl, hw1⟩; have hw2 := hw1.symm; subst hw2
  by_cases g2 : ¬ (-1 ≤ x.noany ∧ x.noany ≤ 10)
  · have HN : Hid (¬ certP x) := fun e => g2 e.2.1.2.2
    go_wp2_with fail
    refine (l1In_f x.noany (-1) 10 _ g2).mono ?_
    rintro e w1 ⟨rfl, hw1⟩; have hw2 := hw1.symm; subst hw2
    clear g2
    go_wp2
    go_ret
    exact saysP_f HN.out HB0.out
  replace g2 := Classical.not_not.1 g2
  go_wp2_with fail
  refine (l1In_t x.noany (-1) 10 _ g2).mono ?_
  rintro e w1 ⟨rfl, hw1⟩; have hw2 := hw1.symm; subst hw2
  have HG : Hid ((x.pols.length ≤ 6 ∧ x.maps.length ≤ 6) ∧ (-1 ≤ x.need ∧ x.need ≤ 10) ∧ (-1 ≤ x.nomap ∧ x.nomap ≤ 10) ∧ (-1 ≤ x.noany ∧ x.noany ≤ 10)) := ⟨⟨by rw [HL.out.1]; exact h6, by rw [HL.out.2]; exact h7⟩, g0, g1, g2⟩
  clear g0 g1 g2 x3 x4 x5
  go_wp2
  go_loopw [3] (fun i wr => ∃ k : Nat, k ≤ n1 ∧ i = .int .i64 k ∧ Hid (∀ j, j < k → (0 ≤ x.pols.getD j 0 ∧ x.pols.getD j 0 ≤ 1000) ∧ x.pols.getD j 0 ∉ x.pols.take j) ∧ Below w0.heap.size w0 wr) (fun i _ => n1 - (intOf i).toNat)
  case atStart => exact ⟨0, Nat.zero_le _, rfl, (fun j hj => absurd hj (Nat.not_lt_zero _)), Below.refl _ _⟩
  case round =>
    obtain ⟨k, hk, rfl, HA, hbr⟩ := hrel
    have y0 : wr.cell? ⟨w.heap.size, 0, none⟩ = some (.slice a1 n1 c1) := (hbr.cell (p := ⟨w.heap.size, 0, none⟩) lx).trans x0
    have y1 : wr.cell? ⟨w.heap.size, 1, none⟩ = some (.slice a2 n2 c2) := (hbr.cell (p := ⟨w.heap.size, 1, none⟩) lx).trans x1
    have lr : w.heap.size < wr.heap.size := Nat.lt_of_lt_of_le lx hbr.size
    have HR0 : Hid (PcAt wr a1 n1 c1 a2 n2 x) := (H0.out.kept HB0.out).kept hbr
    by_cases hlt : k < n1
    · obtain ⟨b, off, rfl, hb, hcell⟩ := HR0.out.pol.get k hlt
      obtain ⟨z, hz⟩ : ∃ z, z = x.pols.getD k 0 := ⟨_, rfl⟩
      rw [← hz] at hcell
      have HR : Hid (Row64 wr (some ⟨b, off, none⟩) k (x.pols.take k)) := HR0.out.pol.take k (by omega)
      have HZ : Hid (z = x.pols.getD k 0) := hz
      have hlti : (k : Int) < (n1 : Int) := by omega
      have hkc : k ≤ c1 := by omega
      have FB : Hid (∀ nq, Below w0.heap.size w0 (wr.drewN nq)) := fun nq => below_drewNP hbr nq
      clear hz hbr HR0 x0 x1
      by_cases hs : 0 ≤ z ∧ z ≤ 1000
      · by_cases hin : z ∈ x.pols.take k
        · have HT : Hid (¬ certP x) := fun hh => hh.2.2.2.1 k (by rw [HL.out.1]; exact hlt) (by rw [← HZ.out]; exact hin)
          have HD1 : Hid (decide (0 ≤ z ∧ z ≤ 1000) = true) := decide_eq_true hs
          have HD2 : Hid (decide (z ∈ x.pols.take k) = true) := decide_eq_true hin
          clear hs hin HA
          go_wp2_with fail
          go_quiet (first
            | (go_at_call 42; refine Calls.quiet_of_same (calls_boolP (l1In_d z 0 1000 _) HD1.out))
            | (go_at_call 45; refine Calls.quiet_of_same (calls_boolP (l1HasNum_any _ k c1 (x.pols.take k) z _ (HR.out.kept (below_drewNP (Below.refl _ _) _)) (by omega)) HD2.out)))
          go_wp2
          go_ret
          exact saysP_f HT.out (keepP HB0.out (FB.out _))
        · have HN : Hid (∀ j, j < k + 1 → (0 ≤ x.pols.getD j 0 ∧ x.pols.getD j 0 ≤ 1000) ∧ x.pols.getD j 0 ∉ x.pols.take j) := fun j hj => by
            by_cases e : j = k
            · rw [e, ← HZ.out]; exact ⟨hs, hin⟩
            · exact HA.out j (by omega)
          have HD1 : Hid (decide (0 ≤ z ∧ z ≤ 1000) = true) := decide_eq_true hs
          have HD2 : Hid (decide (z ∈ x.pols.take k) = false) := decide_eq_false hin
          clear hs hin HA
          go_wp2_with fail
          go_quiet (first
            | (go_at_call 42; refine Calls.quiet_of_same (calls_boolP (l1In_d z 0 1000 _) HD1.out))
            | (go_at_call 45; refine Calls.quiet_of_same (calls_boolP (l1HasNum_any _ k c1 (x.pols.take k) z _ (HR.out.kept (below_drewNP (Below.refl _ _) _)) (by omega)) HD2.out)))
          go_wp2
          go_roundw
          case rel => exact ⟨k + 1, by omega, by go_num, HN, FB.out _⟩
          case measure => simp [intOf]; omega
      · have HT : Hid (¬ certP x) := fun hh => hs (by rw [HZ.out]; exact hh.2.2.1 k (by rw [HL.out.1]; exact hlt))
        have HD1 : Hid (decide (0 ≤ z ∧ z ≤ 1000) = false) := decide_eq_false hs
        clear hs HA
        go_wp2_with fail
        go_quiet (first
          | (go_at_call 42; refine Calls.quiet_of_same (calls_boolP (l1In_d z 0 1000 _) HD1.out)))
        go_wp2
        go_ret
        exact saysP_f HT.out (keepP HB0.out (FB.out _))
    · obtain rfl : k = n1 := by omega
      have hge : ¬ ((k : Int) < (k : Int)) := by omega
      have HPL : Hid (_) := HA
      have HBR : Hid (Below w0.heap.size w0 wr) := hbr
      obtain ⟨W1, hW1⟩ : ∃ W1, W1 = wr := ⟨_, rfl⟩
      rw [← hW1] at HBR y0 y1 lr HR0 ⊢
      clear hbr x0 x1 HA hW1
      go_wp2
      go_loopw [4] (fun i wr => ∃ j : Nat, j ≤ n2 ∧ i = .int .i64 j ∧ Hid (∀ t, t < j → (1 ≤ (x.maps.getD t (0, 0)).1 ∧ (x.maps.getD t (0, 0)).1 ≤ 1000) ∧ (1 ≤ (x.maps.getD t (0, 0)).2 ∧ (x.maps.getD t (0, 0)).2 ≤ 1000)) ∧ W1 = wr) (fun i _ => n2 - (intOf i).toNat)
      case atStart => exact ⟨0, Nat.zero_le _, rfl, (fun j hj => absurd hj (Nat.not_lt_zero _)), rfl⟩
      case round =>
        obtain ⟨j, hj, rfl, HE, rfl⟩ := hrel
        by_cases hjt : j < n2
        · obtain ⟨b, off, rfl, hb, m0, m1⟩ := HR0.out.mp.get j hjt
          obtain ⟨p, hp⟩ : ∃ p, p = x.maps.getD j (0, 0) := ⟨_, rfl⟩
          rw [← hp] at m0 m1
          have HPP : Hid (p = x.maps.getD j (0, 0)) := hp
          have hjti : (j : Int) < (n2 : Int) := by omega
          clear hp
          by_cases q1 : 1 ≤ p.1 ∧ p.1 ≤ 1000
          · go_wp2_with fail
            refine (l1In_t p.1 1 1000 _ q1).mono ?_
            rintro e w1 ⟨rfl, hw1⟩; have hw2 := hw1.symm; subst hw2
            by_cases q2 : 1 ≤ p.2 ∧ p.2 ≤ 1000
            · have HN : Hid (∀ t, t < j + 1 → (1 ≤ (x.maps.getD t (0, 0)).1 ∧ (x.maps.getD t (0, 0)).1 ≤ 1000) ∧ (1 ≤ (x.maps.getD t (0, 0)).2 ∧ (x.maps.getD t (0, 0)).2 ≤ 1000)) := fun t ht => by
                by_cases e : t = j
                · rw [e, ← HPP.out]; exact ⟨q1, q2⟩
                · exact HE.out t (by omega)
              go_wp2_with fail
              refine (l1In_t p.2 1 1000 _ q2).mono ?_
              rintro e w1 ⟨rfl, hw1⟩; have hw2 := hw1.symm; subst hw2
              clear q1 q2 HE
              go_wp2
              go_roundw
              case rel => exact ⟨j + 1, by omega, by go_num, HN, by trivial⟩
              case measure => simp [intOf]; omega
            · have HT : Hid (¬ certP x) := fun hh => q2 (by rw [HPP.out]; exact (hh.2.2.2.2 j (by rw [HL.out.2]; exact hjt)).2)
              go_wp2_with fail
              refine (l1In_f p.2 1 1000 _ q2).mono ?_
              rintro e w1 ⟨rfl, hw1⟩; have hw2 := hw1.symm; subst hw2
              clear q1 q2 HE
              go_wp2
              go_ret
              exact saysP_f HT.out (keepP HB0.out HBR.out)
          · have HT : Hid (¬ certP x) := fun hh => q1 (by rw [HPP.out]; exact (hh.2.2.2.2 j (by rw [HL.out.2]; exact hjt)).1)
            go_wp2_with fail
            refine (l1In_f p.1 1 1000 _ q1).mono ?_
            rintro e w1 ⟨rfl, hw1⟩; have hw2 := hw1.symm; subst hw2
            clear q1 HE
            go_wp2
            go_ret
            exact saysP_f HT.out (keepP HB0.out HBR.out)
        · obtain rfl : j = n2 := by omega
          have hge2 : ¬ ((j : Int) < (j : Int)) := by omega
          have HT : Hid (certP x) := ⟨HG.out.1, HG.out.2, fun t ht => (HPL.out t (by rw [HL.out.1] at ht; exact ht)).1, fun t ht => (HPL.out t (by rw [HL.out.1] at ht; exact ht)).2, fun t ht => HE.out t (by rw [HL.out.2] at ht; exact ht)⟩
          go_wp2
          go_ret
          exact saysP_t HT.out (keepP HB0.out HBR.out)

set_option maxHeartbeats 2000000 in
theorem l12PathOk_any (a : Option Addr) (n c : Nat) (xs : List PC) (w : World) (h : Pcs w a n xs) :
    Calls Try.prog 41 #[.slice a n c] w (SaysP (pathP xs) w) := by
  have H0 : Hid (Pcs w a n xs) := h
  have HL : Hid (xs.length = n) := h.len
  have hn := h.max
  clear h
  by_cases h1 : (n : Int) < 1
  · have HN : Hid (¬ pathP xs) := fun e => by have := e.1.1; rw [HL.out] at this; omega
    go_enter Try.func41, Try.ntmps41
    go_wp2
    go_ret
    exact saysP_f HN.out (Below.refl _ _)
  by_cases h2 : 8 < (n : Int)
  · have HN : Hid (¬ pathP xs) := fun e => by have := e.1.2; rw [HL.out] at this; omega
    go_enter Try.func41, Try.ntmps41
    go_wp2
    go_ret
    exact saysP_f HN.out (Below.refl _ _)
  go_enter Try.func41, Try.ntmps41
  go_wp2
  go_loopw [3] (fun i wr => ∃ k : Nat, k ≤ n ∧ i = .int .i64 k ∧ Hid (∀ j, j < k → certP (xs.getD j default)) ∧ Below w.heap.size w wr) (fun i _ => n - (intOf i).toNat)
  case atStart => exact ⟨0, Nat.zero_le _, rfl, (fun j hj => absurd hj (Nat.not_lt_zero _)), Below.refl _ _⟩
  case round =>
    obtain ⟨k, hk, rfl, HA, hbr⟩ := hrel
    by_cases hlt : k < n
    · obtain ⟨b, off, a1, n1, d1, a2, n2, d2, rfl, hlb, hc, hp⟩ := (H0.out.kept hbr).get k hlt
      obtain ⟨y, hy⟩ : ∃ y, y = xs.getD k default := ⟨_, rfl⟩
      rw [← hy] at hc hp
      have HY : Hid (y = xs.getD k default) := hy
      obtain ⟨c0, c1, c2, c3, c4, c5⟩ := hc
      have hlti : (k : Int) < (n : Int) := by omega
      have HP : Hid (PcAt wr a1 n1 d1 a2 n2 y) := hp
      clear hy hp
      go_wp2_with fail
      refine (l12CertOk_any a1 n1 d1 a2 n2 d2 y _ HP.out).mono ?_
      rintro e w2 ⟨b2, rfl, HB2, hb2⟩
      have B2 : Below w.heap.size w w2 := keepP hbr hb2
      cases b2 with
      | true =>
        have HN : Hid (∀ j, j < k + 1 → certP (xs.getD j default)) := fun j hj => by
          by_cases e : j < k
          · exact HA.out j e
          · obtain rfl : j = k := by omega
            rw [← HY.out]; exact HB2.out.1 rfl
        clear HA hb2 hbr c0 c1 c2 c3 c4 c5 HB2
        go_wp2
        go_roundw
        case rel => exact ⟨k + 1, by omega, by go_num, HN, B2⟩
        case measure => simp [intOf]; omega
      | false =>
        have HN : Hid (¬ pathP xs) := fun e => absurd (HB2.out.2 (by rw [HY.out]; exact e.2 k (by rw [HL.out]; exact hlt))) (by decide)
        clear HA hb2 hbr c0 c1 c2 c3 c4 c5 HB2
        go_wp2
        go_ret
        exact saysP_f HN.out B2
    · obtain rfl : k = n := by omega
      have HT : Hid (pathP xs) := ⟨by rw [HL.out]; omega, fun j hj => HA.out j (by rw [HL.out] at hj; exact hj)⟩
      go_wp2
      go_ret
      exact saysP_t HT.out hbr

end Go.Proofs.Ytdkgilkjcndonaa
