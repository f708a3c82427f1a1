import Derived.Test.YtifdcfchliaipaaQT5s
namespace Go.Proofs.Ytifdcfchliaipaa
open Go.RowKit Go.Sort

set_option maxRecDepth 10000 in
set_option maxHeartbeats 2000000 in
theorem lawTiled_walk (a : Option Addr) (n c : Nat) (xs : List TP) (m : Int) (w : World) (h : Tls w a n xs) :
    Calls Try.prog 10 #[.slice a n c, .int .i64 m] w fun e w' => e = .returned (.bool true) ∧ Below w.heap.size w w' := by
  have H0 : Hid (Tls w a n xs) := h
  clear h
  go_enter Try.func10, Try.ntmps10
  go_wp2_with fail
  refine (szTileOfS_any a n c xs 1048576 _ H0.out (by decide) (by decide)).mono ?_
  rintro e w0 ⟨r, rfl, hr, hb0⟩
  by_cases hneg : r < 0
  · clear hr
    go_wp2
    go_ret
    exact ⟨rfl, hb0⟩
  · have HZ : Hid (n ≤ 1048576 ∧ ∀ k, k < n → (xs.getD k default).hs.length ≤ 1048576) := by rcases hr with h | h; exact absurd h hneg; exact h.2.2
    clear hr
    go_wp2_with fail
    refine (toTileOfS_any a n c xs _ (H0.out.kept hb0) HZ.out.1 HZ.out.2).mono ?_
    rintro e w1 ⟨a1, rfl, ho1, hb1⟩
    go_wp2_with fail
    refine (specTiled_any a1 n n xs m _ ho1).mono ?_
    rintro e w2 ⟨rfl, hb2⟩
    have B2 := keepT (keepT hb0 hb1) hb2
    clear hb0 hb1 hb2 ho1
    obtain ⟨t, ht⟩ : ∃ t, t = tdV xs m := ⟨_, rfl⟩
    have HT : Hid (t = tdV xs m) := ht
    rw [← ht]
    clear ht
    obtain ⟨v, q⟩ := t
    go_wp2_with fail
    refine (toTileOfS_any a n c xs _ (H0.out.kept B2) HZ.out.1 HZ.out.2).mono ?_
    rintro e w3 ⟨a3, rfl, ho3, hb3⟩
    have B3 := keepT B2 hb3
    have HO3 : Hid (Tls w3 a3 n xs) := ho3
    clear hb3 ho3
    go_wp2_with fail
    refine (implTiled_any a3 n n xs m _ HO3.out).mono ?_
    rintro e w4 ⟨rfl, hb4⟩
    rw [← HT.out]
    have B4 := keepT B3 hb4
    have HO4 : Hid (Tls w4 a3 n xs) := HO3.out.kept hb4
    clear hb4 HO3
    have z1 : (v != v) = false := by simp
    have z2 : (q != q) = false := by simp
    go_wp2_with fail
    refine (toTileOfS_any a n c xs _ (H0.out.kept B4) HZ.out.1 HZ.out.2).mono ?_
    rintro e w5 ⟨a5, rfl, ho5, hb5⟩
    have B5 := keepT B4 hb5
    go_wp2_with fail
    refine (eqTileOfS_same a3 a5 n n n xs _ (HO4.out.kept hb5) ho5).mono ?_
    rintro e w6 ⟨rfl, hb6⟩
    go_wp2_with fail
    go_ret
    exact ⟨rfl, keepT B5 hb6⟩

end Go.Proofs.Ytifdcfchliaipaa
