import Derived.Test.YthncodopdcmfiaaQL3
namespace Go.Proofs.Ythncodopdcmfiaa
open Go.RowKit Go.Sort

theorem OwnU.block {B : Nat} {w : World} {g n : Nat} {zs : List Int} (h : OwnU B w (some ⟨g, 0, none⟩) n n zs) : w.heap[g]? = some (.cells (zs.map (Value.int .u64)).toArray 27 (0, 0)) := by
  rcases h.row.2 with ⟨h0, _⟩ | ⟨g', cap', cur, hv, hb, hg, h1, h2, h3, h4⟩
  · simp at h0
  · simp only [Value.slice.injEq, Option.some.injEq, Addr.mk.injEq, and_true, true_and] at hv
    obtain ⟨rfl, rfl⟩ := hv
    rw [List.take_of_length_le (by simp; omega)] at h4
    rw [hg, ← h4]
theorem OwnU.of_block {B : Nat} {w : World} {g n : Nat} {zs : List Int} (h : w.heap[g]? = some (.cells (zs.map (Value.int .u64)).toArray 27 (0, 0))) (hB : B ≤ g) (hl : zs.length = n) (hm : n ≤ maxLen) (hr : ∀ k, U64 (zs.getD k 0)) : OwnU B w (some ⟨g, 0, none⟩) n n zs :=
  ⟨⟨by simp [hl], .inr ⟨g, n, _, rfl, hB, h, Nat.le_refl _, hm, by simp [hl], by simp [List.take_of_length_le, hl]⟩⟩, hr⟩
theorem rowU_cells {w : World} {ad : Addr} {m : Nat} {ys : List Int} (h : RowU w (some ad) m ys) : ∀ j u, (ys.map (Value.int .u64))[j]? = some u → w.cell? (ad.add j) = some u := by
  intro j u hj
  have hjl : j < ys.length := by
    have := (List.getElem?_eq_some_iff.1 hj).1
    simpa using this
  obtain ⟨b, off, ha, _, hc⟩ := h.get j (by rw [← h.len]; exact hjl)
  simp only [Option.some.injEq] at ha
  subst ha
  rw [Addr.add_lit, hc]
  simp [hjl] at hj
  simp [hjl, hj]
theorem rowU_none {w : World} {m : Nat} {ys : List Int} (h : RowU w none m ys) : m = 0 ∧ ys = [] := by
  rcases Nat.eq_zero_or_pos m with h0 | h0
  · exact ⟨h0, List.eq_nil_of_length_eq_zero (by rw [h.len]; exact h0)⟩
  · obtain ⟨b, off, ha, _⟩ := h.get 0 h0
    simp at ha
theorem splice_all {α : Type} (L cs : List α) (h : L.length = cs.length) : splice L 0 cs = cs := by
  unfold splice
  rw [List.take_zero, List.nil_append, List.drop_eq_nil_of_le (by omega), List.append_nil]
theorem copyU_src {w : World} {a : Option Addr} {n : Nat} {zs : List Int} {X : List Value} (h : RowU w a n zs) (hX : X = zs.map (Value.int .u64)) (hp : 0 < n) : ∃ ad, a = some ad ∧ ∀ j v, X[j]? = some v → w.cell? (ad.add j) = some v := by
  cases a with
  | none => exact absurd (rowU_none h).1 (by omega)
  | some ad => exact ⟨ad, rfl, by rw [hX]; exact rowU_cells h⟩
theorem Try.sizeU : (Try.prog.info? 27).map (·.size) = some 1 := by kernel_rfl

set_option maxRecDepth 10000 in
set_option maxHeartbeats 1000000 in
theorem copyRow_any (a : Option Addr) (n c : Nat) (zs : List Int) (w : World) (h : RowU w a n zs) (hn : n ≤ 1000) :
    Calls Try.prog 54 #[.slice a n c] w fun e w' => ∃ g, e = .returned (.slice (some ⟨g, 0, none⟩) n n) ∧ w.heap.size ≤ g ∧ OwnU w.heap.size w' (some ⟨g, 0, none⟩) n n zs ∧ Below w.heap.size w w' := by
  obtain ⟨i0, hi, hz0, hz1, hz2⟩ := info_parts Try.infoU
  have H0 : Hid (RowU w a n zs) := h
  have HL : Hid (zs.length = n) := h.len
  clear h
  obtain ⟨X, hX⟩ : ∃ X, X = zs.map (Value.int .u64) := ⟨_, rfl⟩
  have HX : Hid (X = zs.map (Value.int .u64)) := hX
  have HXL : Hid (X.length = n) := by show _ = _; rw [hX, List.length_map, HL.out]
  clear hX
  obtain ⟨Z, hZ⟩ : ∃ Z, Z = (List.replicate n (0 : Int)).map (Value.int .u64) := ⟨_, rfl⟩
  have HZL : Hid (Z.length = n) := by show _ = _; rw [hZ]; simp
  have HZ : Hid (Z = (List.replicate n (0 : Int)).map (Value.int .u64)) := hZ
  clear hZ
  go_enter Try.func54, Try.ntmps54
  go_wp2_with (first | (at_make; refine wpList_make_full _ rfl _ _ 24 rfl w.heap.size 27 i0 _ 1 Try.underlying24 hi hz0 hz1 _ _ _ _ n rfl rfl rfl rfl (by rw [hz2]; omega) (by unfold maxLen; omega) (by exact Nat.le_refl _) ?_; intro w2 hown hgrow) | (refine wpList_copy_splice rfl (.tmp 7) (.tmp 8) 24 24 rfl 27 Try.underlying24 Try.sizeU (some ⟨w.heap.size, 0, none⟩) a n n n c rfl rfl w.heap.size 0 Z 27 (by rw [HZ.out]; exact OwnU.block ⟨madeU hown, u64_rep n⟩) X (by rw [HXL.out]; simp) (fun hp => ⟨rfl, copyU_src (H0.out.kept ((Below.refl _ _).grown hgrow (Nat.le_refl _) (by simp))) HX.out (by rw [HXL.out] at hp; exact hp)⟩) (by rw [HXL.out, HZL.out]; omega) (by rw [HX.out]; exact ints_oneCell .u64 zs) w.heap.size w ((Below.refl _ _).grown hgrow (Nat.le_refl _) (by simp)) (Nat.le_refl _) ?_; intro w3 HG3 hB3))
  go_ret
  refine ⟨_, rfl, Nat.le_refl _, OwnU.of_block ?_ (Nat.le_refl _) HL.out (by unfold maxLen; omega) H0.out.rng, hB3⟩
  have := HG3.out
  rw [splice_all _ _ (by rw [HZL.out, HXL.out]), HX.out] at this
  exact this

set_option maxRecDepth 10000 in
set_option maxHeartbeats 1000000 in
theorem rootOf_any (a : Option Addr) (n c : Nat) (zs : List Int) (w : World) (h : RowU w a n zs) (hn : n ≤ 1000) :
    Calls Try.prog 32 #[.slice a n c] w fun e w' => e = .returned (.int .u64 (rootL zs)) ∧ Below w.heap.size w w' := by
  have H0 : Hid (RowU w a n zs) := h
  have HL : Hid (zs.length = n) := h.len
  clear h
  by_cases hn0 : n = 0
  · subst hn0
    have HZ : Hid (zs = []) := List.eq_nil_of_length_eq_zero HL.out
    go_enter Try.func32, Try.ntmps32
    go_wp2
    go_ret
    exact ⟨by rw [HZ.out, rootL_nil]; rfl, Below.refl _ _⟩
  · have z0 : ((n : Int) == 0) = false := by simp; omega
    have hne : ¬ (n : Int) = 0 := by omega
    go_enter Try.func32, Try.ntmps32
    go_wp2_with fail
    refine (copyRow_any a n c zs _ H0.out hn).mono ?_
    rintro e w1 ⟨g, rfl, hgB, ho1, hb1⟩
    have HO1 : Hid (OwnU w.heap.size w1 (some ⟨g, 0, none⟩) n n zs) := ho1
    clear ho1
    go_wp2
    go_loopw [3] (fun v wr => ∃ (m : Nat) (ms : List Int), v = .slice (some ⟨g, 0, none⟩) m n ∧ 0 < m ∧ m ≤ n ∧ Hid (OwnU w.heap.size wr (some ⟨g, 0, none⟩) m n ms) ∧ Hid (rootL ms = rootL zs) ∧ Below w.heap.size w wr) (fun v _ => match v with | .slice _ m _ => m | _ => 0)
    case atStart => exact ⟨n, zs, rfl, by omega, Nat.le_refl _, HO1, rfl, hb1⟩
    case round =>
      obtain ⟨m, ms, rfl, hm0, hmn, HO, HR, hbr⟩ := hrel
      by_cases h1 : 1 < m
      · have h1i : (1 : Int) < (m : Int) := by omega
        go_wp2_with fail
        refine (pairedUp_any w.heap.size g m n ms _ HO.out (by omega) hm0 hmn).mono ?_
        rintro e w2 ⟨rfl, ho2, hb2⟩
        have HO2 : Hid (OwnU w.heap.size w2 (some ⟨g, 0, none⟩) ((m + 1) / 2) n (pairUp ms)) := ho2
        have HR2 : Hid (rootL (pairUp ms) = rootL zs) := by show _ = _; rw [rootL_up ms.length ms (Nat.le_refl _), HR.out]
        have hbr2 : Below w.heap.size w w2 := hbr.trans hb2
        clear ho2 HO HR hbr hb2 HO1 hb1
        go_wp2
        go_roundw
        case rel => exact ⟨(m + 1) / 2, pairUp ms, rfl, by omega, by omega, HO2, HR2, hbr2⟩
        case measure => simp; omega
      · obtain rfl : m = 1 := by omega
        obtain ⟨b, off, e, hlb, hc⟩ := HO.out.toRow.get 0 (by omega)
        simp only [Option.some.injEq, Addr.mk.injEq, and_true] at e
        obtain ⟨rfl, rfl⟩ := e
        have HV : Hid (ms.getD 0 0 = rootL zs) := by
          show _ = _
          rw [← HR.out]
          match ms, HO.out.len with
          | [x], _ => rw [rootL_one]; rfl
        rw [Nat.zero_add, HV.out] at hc
        clear HO HR HO1 hb1
        go_wp2
        go_ret
        exact ⟨rfl, hbr⟩

set_option maxRecDepth 10000 in
set_option maxHeartbeats 1000000 in
theorem l15Root_any : ∀ (N : Nat) (a : Option Addr) (n c : Nat) (zs : List Int) (w : World), n ≤ N → RowU w a n zs → n ≤ 1000 → n ≤ c → c ≤ 9223372036854775807 →
    Calls Try.prog 33 #[.slice a n c] w fun e w' => e = .returned (.int .u64 (rootL zs)) ∧ Below w.heap.size w w' := by
  intro N
  induction N with
  | zero =>
    intro a n c zs w hN h hn hc hcm
    obtain rfl : n = 0 := by omega
    have HZ : Hid (zs = []) := List.eq_nil_of_length_eq_zero h.len
    clear h
    go_enter Try.func33, Try.ntmps33
    go_wp2
    go_ret
    exact ⟨by rw [HZ.out, rootL_nil]; rfl, Below.refl _ _⟩
  | succ N ih =>
    intro a n c zs w hN h hn hc hcm
    by_cases hn0 : n = 0
    · exact ih a n c zs w (by omega) h hn hc hcm
    have H0 : Hid (RowU w a n zs) := h
    have HL : Hid (zs.length = n) := h.len
    obtain ⟨b, off, rfl, hlb, hc0⟩ := h.get 0 (by omega)
    clear h
    by_cases h1 : n = 1
    · subst h1
      have HV : Hid (zs.getD 0 0 = rootL zs) := by
        show _ = _
        match zs, HL.out with
        | [x], _ => rw [rootL_one]; rfl
      rw [Nat.add_zero, HV.out] at hc0
      go_enter Try.func33, Try.ntmps33
      go_wp2
      go_ret
      exact ⟨rfl, Below.refl _ _⟩
    · have z0 : ((n : Int) == 0) = false := by simp; omega
      have z1 : ((n : Int) == 1) = false := by simp; omega
      have z2 : ¬ (n : Int) = 0 := by omega
      have z3 : ¬ (n : Int) = 1 := by omega
      clear hc0
      have hkl := hk_lt (show 2 ≤ n by omega)
      have hkp := hk_pos n
      obtain ⟨k, hkk⟩ : ∃ k, k = hk n := ⟨_, rfl⟩
      have HKK : Hid (k = hk n) := hkk
      rw [← hkk] at hkl hkp
      clear hkk
      have HV : Hid (pairN (rootL (zs.take k)) (rootL (zs.drop k)) = rootL zs) := by show _ = _; rw [rootL_more zs (by rw [HL.out]; omega), HL.out, HKK.out]
      have b1 := rootL_bd _ (u64_take H0.out.rng k)
      have b2 := rootL_bd _ (u64_drop H0.out.rng k)
      obtain ⟨r1, hr1⟩ : ∃ r1, r1 = rootL (zs.take k) := ⟨_, rfl⟩
      obtain ⟨r2, hr2⟩ : ∃ r2, r2 = rootL (zs.drop k) := ⟨_, rfl⟩
      have ca0 : Hid (∀ d os, Calls Try.prog 33 #[.slice (some ⟨b, off, none⟩) k c] (grow (redrawn w d) os) fun e w'' => e = .returned (.int .u64 r1) ∧ ∃ p : Regrown, w'' = grow (redrawn w p.d) p.os) := fun d os => Calls.regrown_of (by rw [hr1]; exact ih (some ⟨b, off, none⟩) k c (zs.take k) _ (by omega) ((H0.out.take k (by omega)).kept (below_regrown w d os)) (by omega) (by omega) hcm)
      have ca1 : Hid (∀ d os, Calls Try.prog 33 #[.slice (some ⟨b, off + k, none⟩) (n - k) (c - k)] (grow (redrawn w d) os) fun e w'' => e = .returned (.int .u64 r2) ∧ ∃ p : Regrown, w'' = grow (redrawn w p.d) p.os) := fun d os => Calls.regrown_of (by rw [hr2]; exact ih (some ⟨b, off + k, none⟩) (n - k) (c - k) (zs.drop k) _ (by omega) ((H0.out.drop k (by omega)).kept (below_regrown w d os)) (by omega) (by omega) (by omega))
      rw [← hr1, ← hr2] at HV
      rw [← hr1] at b1
      rw [← hr2] at b2
      have ca2 : Hid (∀ d os, Calls Try.prog 57 #[.int .u64 r1, .int .u64 r2] (grow (redrawn w d) os) fun e w'' => e = .returned (.int .u64 (rootL zs)) ∧ ∃ p : Regrown, w'' = grow (redrawn w p.d) p.os) := fun d os => Calls.regrown_of (by rw [← HV.out]; exact l15Pair_any r1 r2 _ b1 b2)
      clear hr1 hr2 HV b1 b2 ih
      have i1 : (k : Int) ≤ (n : Int) := by omega
      have i2 : (k : Int) ≤ (c : Int) := by omega
      have i3 : ¬ (k : Int) = (c : Int) := by omega
      have i4 : ¬ k = c := by omega
      have i5 : k < c := by omega
      go_enter Try.func33, Try.ntmps33
      go_wp2_with fail
      refine (l15Half_any n _ (by omega)).mono ?_
      rintro e w1 ⟨rfl, hw⟩
      have hw2 := hw.symm
      subst hw2
      rw [← HKK.out]
      go_wp2_with fail
      refine wp_region_quiet_below (by kernel_rfl) (by kernel_rfl) ?_
      go_big_quiet_step (fail)
      go_big_quiet_step (fail)
      go_big_quiet_step (fail)
      go_big_quiet_step (exact ca0.out _ _)
      go_big_quiet_step (fail)
      go_big_quiet_step (fail)
      go_big_quiet_step (fail)
      go_big_quiet_step (exact ca1.out _ _)
      go_big_quiet_step (exact ca2.out _ _)
      go_big_quiet_step (fail)
      refine wpQuiet_nil ?_
      intro _ hw'
      obtain ⟨⟨dq, osq⟩, hw''⟩ := hw'
      subst hw''
      have HBQ : Hid (Below w.heap.size w (grow (redrawn w dq) osq)) := below_regrown w dq osq
      go_wp2
      go_ret
      exact ⟨rfl, HBQ.out⟩

end Go.Proofs.Ythncodopdcmfiaa
