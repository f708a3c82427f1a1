import Derived.Test.YtaiflnccpgcklaaDoorSS5
namespace Go.Proofs.YtaiflnccpgcklaaDoor
open Go.RowKit

theorem shows_same {xs : List ST} {s1 s2 : ByteArray} {b1 b2 : Bool} (h1 : (b1 = true ∧ schP xs ∧ s1 = textB xs xs.length) ∨ (b1 = false ∧ ¬ schP xs ∧ s1 = ByteArray.empty)) (h2 : (b2 = true ∧ schP xs ∧ s2 = textB xs xs.length) ∨ (b2 = false ∧ ¬ schP xs ∧ s2 = ByteArray.empty)) : s2 = s1 ∧ b2 = b1 := by
  rcases h1 with ⟨r1, p1, e1⟩ | ⟨r1, p1, e1⟩ <;> rcases h2 with ⟨r2, p2, e2⟩ | ⟨r2, p2, e2⟩
  · exact ⟨e2.trans e1.symm, r2.trans r1.symm⟩
  · exact absurd p1 p2
  · exact absurd p2 p1
  · exact ⟨e2.trans e1.symm, r2.trans r1.symm⟩

set_option maxRecDepth 10000 in
set_option maxHeartbeats 4000000 in
theorem lawShowSchema_walk (a : Option Addr) (n c : Nat) (xs : List ST) (w : World) (h : Sts w a n xs) (hF : FormW w) (hP : PowW w) :
    Calls Tryd.prog 3 #[.slice a n c] w fun e w' => e = .returned (.bool true) ∧ Below w.heap.size w w' := by
  have HS : Hid (Sts w a n xs) := h
  have HF : Hid (FormW w) := hF
  have HP : Hid (PowW w) := hP
  clear h hF hP
  go_enter Tryd.func3, Tryd.ntmps3
  go_wp2_with fail
  refine (szSTypeS_any a n c xs _ HS.out).mono ?_
  rintro e w1 ⟨r, rfl, hr, hb1⟩
  by_cases hneg : r < 0
  · go_wp2
    go_ret
    exact ⟨rfl, hb1⟩
  · have hn : n ≤ 1048576 := by rcases hr with h | h; exact absurd h hneg; exact h.1
    have HK : Hid (∀ k, k < n → (xs.getD k default).kids.length ≤ 1048576) := by rcases hr with h | h; exact absurd h hneg; exact h.2
    clear hr
    go_wp2_with fail
    refine (toSTypeS_any a n c xs _ (HS.out.kept hb1) hn HK.out).mono ?_
    rintro e w2 ⟨a2, rfl, hs2, hb2⟩
    have B2 : Below w.heap.size w w2 := hb1.trans (hb2.mono hb1.size)
    go_wp2_with fail
    refine (specShow_any a2 n n xs _ hs2).mono ?_
    rintro e w3 ⟨s1, b1, rfl, hv1, hb3⟩
    have B3 : Below w.heap.size w w3 := B2.trans (hb3.mono B2.size)
    clear hs2 hb2 hb3
    go_wp2_with fail
    refine (toSTypeS_any a n c xs _ (HS.out.kept B3) hn HK.out).mono ?_
    rintro e w4 ⟨a4, rfl, hs4, hb4⟩
    have B4 : Below w.heap.size w w4 := B3.trans (hb4.mono B3.size)
    clear hb4
    go_wp2_with fail
    refine (implShow_any a4 n n xs _ hs4 (HF.out.kept B4) (HP.out.kept B4)).mono ?_
    rintro e w5 ⟨s2, b2, rfl, hv2, hb5⟩
    have B5 : Below w.heap.size w w5 := B4.trans (hb5.mono B4.size)
    obtain ⟨rfl, rfl⟩ := shows_same hv1.out hv2.out
    have hs5 := hs4.kept hb5
    have t1 : (b2 != b2) = false := by simp
    clear hv1 hv2 hs4 hb5
    go_wp2_with fail
    refine (toSTypeS_any a n c xs _ (HS.out.kept B5) hn HK.out).mono ?_
    rintro e w6 ⟨a6, rfl, hs6, hb6⟩
    have B6 : Below w.heap.size w w6 := B5.trans (hb6.mono B5.size)
    have hs56 := hs5.kept hb6
    clear hb6 hs5
    go_wp2_with fail
    refine (eqSTypeS_same a4 a6 n n n xs _ hs56 hs6).mono ?_
    rintro e w7 ⟨rfl, hb7⟩
    have B7 : Below w.heap.size w w7 := B6.trans (hb7.mono B6.size)
    go_wp2
    go_ret
    exact ⟨rfl, B7⟩

end Go.Proofs.YtaiflnccpgcklaaDoor
