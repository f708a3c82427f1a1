import Derived.Test.YtodbdjkkidfbdaaW9
namespace Go.Proofs.Ytodbdjkkidfbdaa
open Go.RowKit

set_option maxHeartbeats 1000000 in
theorem lawHashAll_walk (a : Option Addr) (n cap : Nat) (bss : List (List Int)) (w : World) (hr : IsRows2 w a n cap bss) :
    Calls Try.prog 4 #[.slice a n cap] w fun e w' => e = .returned (.bool true) ∧ Below w.heap.size w w' := by
  obtain ⟨hrow, hmax, hp⟩ := hr
  have H0 : Hid (Rows2 w a n bss) := hrow
  have HP : Hid (∀ k, k < n → (bss.getD k []).length ≤ 9223372036854775807) := hp
  clear hrow hp
  go_enter Try.func4, Try.ntmps4
  go_wp2_with fail
  refine (szByteSS_any a n cap bss _ H0.out hmax HP.out).mono ?_
  rintro e w0 ⟨r, rfl, hr, hw0⟩
  subst hw0
  by_cases hneg : r < 0
  · go_wp2
    go_ret
    exact ⟨rfl, Below.refl _ _⟩
  · have hnt : n + total bss ≤ 1048576 := by
      rcases hr with h | h
      · exact absurd h hneg
      · exact h
    have hn : n ≤ 1048576 := by omega
    have HT : Hid (total bss ≤ 1048576) := by show _ ≤ _; omega
    clear hr hnt
    obtain ⟨h, hh⟩ : ∃ h, h = hashL (partsL bss) := ⟨_, rfl⟩
    have HH : Hid (h = hashL (partsL bss)) := hh
    clear hh
    have t1 : (h != h) = false := by simp
    go_wp2_with fail
    refine (toByteSS_any a n cap bss _ H0.out hn HT.out).mono ?_
    rintro e w1 ⟨a1, rfl, ho1, hb1⟩
    have s1 := hb1.size
    go_wp2_with fail
    refine (specHashAll_any a1 n n bss _ ho1 hn HT.out).mono ?_
    rintro e w2 ⟨rfl, hb2⟩
    rw [← HH.out]
    have b2 : Below w.heap.size w w2 := hb1.trans (hb2.mono s1)
    have s2 := b2.size
    go_wp2_with fail
    refine (toByteSS_any a n cap bss _ (H0.out.kept b2) hn HT.out).mono ?_
    rintro e w3 ⟨a3, rfl, ho3, hb3⟩
    have b3 : Below w.heap.size w w3 := b2.trans (hb3.mono s2)
    have s3 := b3.size
    go_wp2_with fail
    refine (implHashAll_any a3 n n bss _ ho3 hn HT.out).mono ?_
    rintro e w4 ⟨rfl, hb4⟩
    rw [← HH.out]
    have b4 : Below w.heap.size w w4 := b3.trans (hb4.mono s3)
    have s4 := b4.size
    go_wp2_with fail
    refine (toByteSS_any a n cap bss _ (H0.out.kept b4) hn HT.out).mono ?_
    rintro e w5 ⟨a5, rfl, ho5, hb5⟩
    have b5 : Below w.heap.size w w5 := b4.trans (hb5.mono s4)
    have s5 := b5.size
    go_wp2_with fail
    refine (eqByteSS_same a3 a5 n n n bss _ ((ho3.kept hb4).kept hb5) ho5 hn HT.out).mono ?_
    rintro e w6 ⟨rfl, hb6⟩
    go_wp2
    go_ret
    exact ⟨rfl, b5.trans (hb6.mono s5)⟩

end Go.Proofs.Ytodbdjkkidfbdaa
