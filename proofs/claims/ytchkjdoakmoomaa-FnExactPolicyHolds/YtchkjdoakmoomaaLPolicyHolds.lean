import Derived.Test.YtchkjdoakmoomaaPL2
import Derived.Test.YtchkjdoakmoomaaPL6b
import Derived.Test.YtchkjdoakmoomaaPL9f
namespace Go.Proofs.Ytchkjdoakmoomaa
open Go.RowKit

set_option maxHeartbeats 2000000 in
theorem specHolds_any (ap : Option Addr) (np cp : Nat) (xs : List PC) (p : Int) (noMap noAny : Bool) (w : World) (h : Pcs w ap np xs) :
    Calls Try.prog 20 #[.slice ap np cp, .int .i64 p, .bool noMap, .bool noAny] w (SaysP (polP xs p noMap noAny) w) := by
  have H0 : Hid (Pcs w ap np xs) := h
  have HL : Hid (xs.length = np) := h.len
  clear h
  by_cases hp : 1 ≤ p ∧ p ≤ 1000
  · go_enter Try.func20, Try.ntmps20
    go_wp2_with fail
    refine (l1In_t p 1 1000 _ hp).mono ?_
    rintro e w1 ⟨rfl, hw1⟩; have hw2 := hw1.symm; subst hw2
    go_wp2_with fail
    refine (l12PathOk_any ap np cp xs _ H0.out).mono ?_
    rintro e w1 ⟨b1, rfl, HB, hb1⟩
    cases b1 with
    | false =>
      have HN : Hid (¬ polP xs p noMap noAny) := fun e => absurd (HB.out.2 e.1) (by decide)
      clear HB
      go_wp2
      go_ret
      exact saysP_f HN.out hb1
    | true =>
      have HP : Hid (pathP xs) := HB.out.1 rfl
      clear HB
      go_wp2_with fail
      refine (l12Holds_any ap np cp xs p noMap noAny _ (H0.out.kept hb1) HP.out).mono ?_
      rintro e w2 ⟨b2, rfl, HB2, hb2⟩
      have FIN : Hid (b2 = true ↔ polP xs p noMap noAny) := by
        show _ ↔ _
        rw [HB2.out]
        unfold polP
        rw [HL.out]
        exact ⟨fun e => ⟨HP.out, hp, e⟩, fun e => e.2.2⟩
      have B2 : Below w.heap.size w w2 := keepP hb1 hb2
      clear HB2
      go_wp2
      go_ret
      exact ⟨_, rfl, FIN, B2⟩
  · have HN : Hid (¬ polP xs p noMap noAny) := fun e => hp e.2.1
    go_enter Try.func20, Try.ntmps20
    go_wp2_with fail
    refine (l1In_f p 1 1000 _ hp).mono ?_
    rintro e w1 ⟨rfl, hw1⟩; have hw2 := hw1.symm; subst hw2
    go_wp2
    go_ret
    exact saysP_f HN.out (Below.refl _ _)

set_option maxRecDepth 10000 in
set_option maxHeartbeats 4000000 in
theorem lawPolicyHolds_walk (a : Option Addr) (n c : Nat) (xs : List PC) (p : Int) (noMap noAny : Bool) (w : World) (h : Pcs w a n xs) :
    Calls Try.prog 5 #[.slice a n c, .int .i64 p, .bool noMap, .bool noAny] w fun e w' => e = .returned (.bool true) ∧ Below w.heap.size w w' := by
  have HS : Hid (Pcs w a n xs) := h
  have HLN : Hid (xs.length = n) := h.len
  clear h
  go_enter Try.func5, Try.ntmps5
  go_wp2_with fail
  refine (szPolCertS_any a n c xs 1048576 _ HS.out (by decide) (by decide)).mono ?_
  rintro e w1 ⟨r, rfl, hr, hb1⟩
  by_cases hneg : r < 0
  · clear hr
    go_wp2
    go_ret
    exact ⟨rfl, hb1⟩
  · have hn : n ≤ 1048576 := by rcases hr with h | h; exact absurd h hneg; exact h.2.2.1
    have HK : Hid (∀ k, k < n → PcOk (xs.getD k default)) := by rcases hr with h | h; exact absurd h hneg; exact h.2.2.2
    have hr0 : ¬ r < 0 := hneg
    have HTO : Hid (∀ W, Below w.heap.size w W → Calls Try.prog 21 #[.slice a n c] W fun e w' => ∃ a', e = .returned (.slice a' n n) ∧ Pcs w' a' n xs ∧ Below W.heap.size W w') := fun W hW => (toPolCertS_at a n c xs W (HS.out.kept hW) hn HK.out).mono (fun e w' h => ⟨_, h.1, h.2.2.1.pcs HLN.out (by omega) h.2.2.2.1, h.2.2.2.2⟩)
    have HB1 : Hid (Below w.heap.size w w1) := hb1
    clear hr hneg hb1
    go_wp2_with fail
    refine (HTO.out _ HB1.out).mono ?_
    rintro e w2 ⟨a2, rfl, hs2, hb2⟩
    have B2 : Below w.heap.size w w2 := keepP HB1.out hb2
    go_wp2_with fail
    refine (specHolds_any a2 n n xs p noMap noAny _ hs2).mono ?_
    rintro e w3 ⟨b1, rfl, hv1, hb3⟩
    have HB3 : Hid (Below w.heap.size w w3) := keepP B2 hb3
    clear hs2 hb2 hb3 B2
    go_wp2_with fail
    refine (HTO.out _ HB3.out).mono ?_
    rintro e w4 ⟨a4, rfl, hs4, hb4⟩
    have HB4 : Hid (Below w.heap.size w w4) := keepP HB3.out hb4
    clear hb4
    go_wp2_with fail
    refine (implHolds_any a4 n n xs p noMap noAny _ hs4).mono ?_
    rintro e w5 ⟨b2, rfl, hv2, hb5⟩
    have HB5 : Hid (Below w.heap.size w w5) := keepP HB4.out hb5
    obtain rfl : b2 = b1 := by
      have h := hv2.out.trans hv1.out.symm
      cases b1 <;> cases b2 <;> simp_all
    have hs5 := hs4.kept hb5
    have t1 : (b2 != b2) = false := by simp
    clear hv1 hv2 hs4 hb5
    go_wp2_with fail
    refine (HTO.out _ HB5.out).mono ?_
    rintro e w6 ⟨a6, rfl, hs6, hb6⟩
    have HB6 : Hid (Below w.heap.size w w6) := keepP HB5.out hb6
    have hs56 := hs5.kept hb6
    clear hb6 hs5
    go_wp2_with fail
    refine (eqPolCertS_same a4 a6 n n n xs _ hs56 hs6).mono ?_
    rintro e w7 ⟨rfl, hb7⟩
    have B7 : Below w.heap.size w w7 := keepP HB6.out hb7
    go_wp2
    go_ret
    exact ⟨rfl, B7⟩

end Go.Proofs.Ytchkjdoakmoomaa
