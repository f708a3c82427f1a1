import Derived.Test.YtifdcfchliaipaaQL6p
import Derived.Deep.RegionHeldLaw
namespace Go.Proofs.Ytifdcfchliaipaa
open Go.RowKit Go.Sort

set_option maxHeartbeats 2000000 in
theorem l15Extend_any : ∀ (N : Nat) (a : Option Addr) (n c : Nat) (zs : List Int) (i : Nat) (fl : Bool) (w : World), n ≤ N → RowU w a n zs → 0 < n → 0 < i → i ≤ n → n ≤ 1000 → n ≤ c → c ≤ 9223372036854775807 →
    Calls Try.prog 46 #[.slice a n c, .int .i64 i, .bool fl] w fun e w' => ∃ a' c', e = .returned (.slice a' (extL zs i fl).length c') ∧ OwnU w.heap.size w' a' (extL zs i fl).length c' (extL zs i fl) ∧ Below w.heap.size w w' := by
  intro N
  induction N with
  | zero => intro a n c zs i fl w hN h h0; omega
  | succ N ih =>
    intro a n c zs i fl w hN h h0 hi0 hin hn hc hcm
    obtain ⟨i0, hi, hz0, hz1, hz2⟩ := info_parts Try.infoU
    have H0 : Hid (RowU w a n zs) := h
    have HL : Hid (zs.length = n) := h.len
    obtain ⟨b, off, rfl, hlb, hc0⟩ := h.get 0 (by omega)
    clear h hc0
    by_cases h1 : i = n
    · subst h1
      cases fl with
      | true =>
        have HE : Hid (extL zs i true = []) := (extL_all zs i true (.inl (by rw [HL.out]; exact Nat.le_refl _))).trans rfl
        have hoe := ownU_empty w
        have hbe : Below w.heap.size w (w.alloc (.cells #[] 23)) := (Below.refl _ _).alloc (Nat.le_refl _) _
        go_enter Try.func46, Try.ntmps46
        go_wp2
        go_ret
        exact ⟨_, _, by rw [HE.out]; rfl, by rw [HE.out]; exact hoe, hbe⟩
      | false =>
        have HE : Hid (extL zs i false = [rootL zs]) := (extL_all zs i false (.inl (by rw [HL.out]; exact Nat.le_refl _))).trans rfl
        go_enter Try.func46, Try.ntmps46
        go_wp2_with fail
        refine (l15Root_any i (some ⟨b, off, none⟩) i c zs _ (Nat.le_refl _) H0.out (by omega) (by omega) (by omega)).mono ?_
        rintro e w1 ⟨rfl, hb1⟩
        have hoe := rowU_lit1 w1 _ (rootL_bd zs H0.out.rng)
        have hbe : Below w.heap.size w (w1.alloc (.cells #[.int .u64 (rootL zs)] 23)) := hb1.alloc hb1.size _
        go_wp2
        go_ret
        exact ⟨_, _, by rw [HE.out]; rfl, by rw [HE.out]; exact hoe.mono hb1.size, hbe⟩
    · have z1 : ((i : Int) == (n : Int)) = false := by simp; omega
      have z3 : ¬ (i : Int) = (n : Int) := by omega
      have hkl := hk_lt (show 2 ≤ n by omega)
      have hkp := hk_pos n
      obtain ⟨k, hkk⟩ : ∃ k, k = hk n := ⟨_, rfl⟩
      have HKK : Hid (k = hk n) := hkk
      have HKZ : Hid (hk zs.length = k) := by show _ = _; rw [HL.out, hkk]
      rw [← hkk] at hkl hkp
      clear hkk
      have i1 : (k : Int) ≤ (n : Int) := by omega
      have i2 : (k : Int) ≤ (c : Int) := by omega
      have i3 : ¬ (k : Int) = (c : Int) := by omega
      have i4 : ¬ k = c := by omega
      have i5 : k < c := by omega
      have i6 : ¬ c = k := by omega
      have hdr : Below w.heap.size w w.drew := (Below.refl _ _).drew
      have H1 : Hid (∀ W, Below w.heap.size w W → RowU W (some ⟨b, off, none⟩) k (zs.take k)) := fun W hW => (H0.out.take k (by omega)).kept hW
      have H2 : Hid (∀ W, Below w.heap.size w W → RowU W (some ⟨b, off + k, none⟩) (n - k) (zs.drop k)) := fun W hW => (H0.out.drop k (by omega)).kept hW
      by_cases hik : i ≤ k
      · have j1 : (i : Int) ≤ (k : Int) := by omega
        obtain ⟨r, hr⟩ : ∃ r, r = rootL (zs.drop k) := ⟨_, rfl⟩
        have HR : Hid (r = rootL (zs.drop k)) := hr
        have HRB : Hid (U64 r) := by show U64 r; rw [hr]; exact rootL_bd _ (u64_drop H0.out.rng k)
        have HE : Hid (extL zs i fl = extL (zs.take k) i fl ++ [r]) := by show _ = _; rw [extL_lo zs i fl (by rw [HL.out]; omega) (by rw [HL.out]; omega) (by rw [HKZ.out]; exact hik), HKZ.out, hr]
        obtain ⟨L, hL⟩ : ∃ L, L = (extL (zs.take k) i fl).length := ⟨_, rfl⟩
        have HLL : Hid ((extL (zs.take k) i fl).length = L) := hL.symm
        have hLb : L ≤ 1001 := by have := extL_len _ (zs.take k) i fl (Nat.le_refl _); rw [List.length_take, HL.out] at this; omega
        have ih2 := fun W (hW : Below w.heap.size w W) => ih (some ⟨b, off, none⟩) k c (zs.take k) i fl W (by omega) (H1.out W hW) hkp hi0 hik (by omega) (by omega) hcm
        rw [← hL] at ih2
        have IH : Hid (_) := ih2
        clear hL hr ih ih2 H0
        go_enter Try.func46, Try.ntmps46
        go_wp2_with fail
        refine (l15Half_any n _ (by omega)).mono ?_
        rintro e w1 ⟨rfl, hw⟩
        have hw2 := hw.symm
        subst hw2
        rw [← HKK.out]
        go_wp2_with fail
        go_region_held_law (fun _ => True) (first | trivial)
          (first
            | (go_at_call 46; (try rw [if_neg i6]); (try rw [j6]); refine (IH.out _ hdr).mono ?_; rintro e w1 ⟨a1, c1, rfl, ho1, hb1⟩; have hb1' := keepT hdr hb1)
            | (go_at_call 38; (try rw [if_neg i6]); refine (l15Root_any (n - k) (some ⟨b, off + k, none⟩) (n - k) (c - k) (zs.drop k) _ (Nat.le_refl _) (H2.out _ hb1') (by omega) (by omega) (by omega)).mono ?_; rintro e w2 ⟨rfl, hb2⟩; rw [← HR.out]; have hb2' := keepT hb1' hb2; have hal : Below w2.heap.size w2 (w2.alloc (.cells #[.int .u64 r] 23)) := (Below.refl _ _).alloc (Nat.le_refl _) _; have hb3 := keepT hb2' hal; have hor := ho1.kept (keepT hb2 hal); have hcl := cell_oneU w2 r)
            | (refine step_append_ownT rfl (.tmp 28) (.tmp 33) 28 rfl w.heap.size 23 i0 _ 1 8 Try.underlying28 hi hz0 hz1 hz2 rfl (by decide) _ L _ rfl hor.row ⟨w2.heap.size, 0, none⟩ 1 1 ([r].map (Value.int .u64)) rfl rfl hcl (ints_oneCell .u64 [r]) (by unfold maxLen; omega) (by omega) (by have := hb3.size; exact this) ?_; intro v4 w4 hv4 hg4))
        all_goals
          rw [← List.map_append] at hv4
          obtain ⟨a4, c4, rfl, ho4⟩ := ownU_appended (u64_snoc hor.rng HRB.out) hv4
          have hb4 : Below w.heap.size w w4 := hb3.grown hg4 hb3.size (fun k hk => (hor.row.lt k hk).1)
          go_wp2
          go_ret
          exact ⟨a4, c4, by rw [HE.out, List.length_append, HLL.out]; simp [Array.getD], by rw [HE.out, List.length_append, HLL.out]; exact ho4, hb4⟩
      · have j1 : ¬ (i : Int) ≤ (k : Int) := by omega
        obtain ⟨q, rfl⟩ : ∃ q, i = k + q := ⟨i - k, by omega⟩
        have j2 : ((k + q : Nat) : Int) - (k : Int) = (q : Int) := by omega
        have j3 : IntKind.i64.wrap (((k + q : Nat) : Int) - (k : Int)) = (q : Int) := by rw [j2, IntKind.wrap_i64]; omega
        have j4 : IntKind.i64.wrap ((k : Int) + (q : Int) - (k : Int)) = (q : Int) := by rw [IntKind.wrap_i64]; omega
        have j5 : (k : Int) + (q : Int) - (k : Int) = (q : Int) := by omega
        have j6 : IntKind.i64.wrap (q : Int) = (q : Int) := by rw [IntKind.wrap_i64]; omega
        obtain ⟨r, hr⟩ : ∃ r, r = rootL (zs.take k) := ⟨_, rfl⟩
        have HR : Hid (r = rootL (zs.take k)) := hr
        have HRB : Hid (U64 r) := by show U64 r; rw [hr]; exact rootL_bd _ (u64_take H0.out.rng k)
        have HE : Hid (extL zs (k + q) fl = extL (zs.drop k) q false ++ [r]) := by show _ = _; rw [extL_hi zs (k + q) fl (by rw [HL.out]; omega) (by rw [HL.out]; omega) (by rw [HKZ.out]; omega), HKZ.out, hr, Nat.add_sub_cancel_left]
        obtain ⟨L, hL⟩ : ∃ L, L = (extL (zs.drop k) q false).length := ⟨_, rfl⟩
        have HLL : Hid ((extL (zs.drop k) q false).length = L) := hL.symm
        have hLb : L ≤ 1001 := by have := extL_len _ (zs.drop k) q false (Nat.le_refl _); rw [List.length_drop, HL.out] at this; omega
        have ih2 := fun W (hW : Below w.heap.size w W) => ih (some ⟨b, off + k, none⟩) (n - k) (c - k) (zs.drop k) q false W (by omega) (H2.out W hW) (by omega) (by omega) (by omega) (by omega) (by omega) (by omega)
        rw [← hL] at ih2
        have IH : Hid (_) := ih2
        clear hL hr ih ih2 H0
        go_enter Try.func46, Try.ntmps46
        go_wp2_with fail
        refine (l15Half_any n _ (by omega)).mono ?_
        rintro e w1 ⟨rfl, hw⟩
        have hw2 := hw.symm
        subst hw2
        rw [← HKK.out]
        go_wp2_with fail
        go_region_held_law (fun _ => True) (first | trivial)
          (first
            | (go_at_call 46; (try rw [if_neg i6]); (try rw [j6]); refine (IH.out _ hdr).mono ?_; rintro e w1 ⟨a1, c1, rfl, ho1, hb1⟩; have hb1' := keepT hdr hb1)
            | (go_at_call 38; (try rw [if_neg i6]); refine (l15Root_any k (some ⟨b, off, none⟩) k c (zs.take k) _ (Nat.le_refl _) (H1.out _ hb1') (by omega) (by omega) hcm).mono ?_; rintro e w2 ⟨rfl, hb2⟩; rw [← HR.out]; have hb2' := keepT hb1' hb2; have hal : Below w2.heap.size w2 (w2.alloc (.cells #[.int .u64 r] 23)) := (Below.refl _ _).alloc (Nat.le_refl _) _; have hb3 := keepT hb2' hal; have hor := ho1.kept (keepT hb2 hal); have hcl := cell_oneU w2 r)
            | (refine step_append_ownT rfl (.tmp 41) (.tmp 46) 28 rfl w.heap.size 23 i0 _ 1 8 Try.underlying28 hi hz0 hz1 hz2 rfl (by decide) _ L _ rfl hor.row ⟨w2.heap.size, 0, none⟩ 1 1 ([r].map (Value.int .u64)) rfl rfl hcl (ints_oneCell .u64 [r]) (by unfold maxLen; omega) (by omega) (by have := hb3.size; exact this) ?_; intro v4 w4 hv4 hg4))
        all_goals
          rw [← List.map_append] at hv4
          obtain ⟨a4, c4, rfl, ho4⟩ := ownU_appended (u64_snoc hor.rng HRB.out) hv4
          have hb4 : Below w.heap.size w w4 := hb3.grown hg4 hb3.size (fun k hk => (hor.row.lt k hk).1)
          go_wp2
          go_ret
          exact ⟨a4, c4, by rw [HE.out, List.length_append, HLL.out]; simp [Array.getD], by rw [HE.out, List.length_append, HLL.out]; exact ho4, hb4⟩

end Go.Proofs.Ytifdcfchliaipaa
