import Derived.Test.YtmmbfoncpjjonaaNF
namespace Go.Proofs.Ytmmbfoncpjjonaa
open Go.RowKit

set_option maxHeartbeats 1000000 in
theorem lawFold_walk (s : ByteArray) (hs : s.size ≤ maxLen) (w : World) :
    Calls Try.prog 3 #[.string s] w fun e w' => e = .returned (.bool true) ∧ Below w.heap.size w w' := by
  unfold maxLen at hs
  by_cases hbig : 1048576 < s.size
  · go_enter Try.func3, Try.ntmps3
    go_wp2
    go_ret
    exact ⟨rfl, Below.refl _ _⟩
  · have HS : Hid (s.size ≤ 1048576) := by show _ ≤ _; omega
    obtain ⟨t, ht⟩ : ∃ t, t = strOfNums (foldL s) := ⟨_, rfl⟩
    have HT : Hid (t = strOfNums (foldL s)) := ht
    clear ht
    go_enter Try.func3, Try.ntmps3
    go_wp2_with fail
    refine (specFold_any s _ HS.out).mono ?_
    rintro e w1 ⟨rfl, hb1⟩
    rw [← HT.out]
    go_wp2_with fail
    refine (implFold_any s _ HS.out).mono ?_
    rintro e w2 ⟨rfl, hb2⟩
    rw [← HT.out]
    go_wp2_with fail
    go_ret
    exact ⟨rfl, hb1.trans (hb2.mono hb1.size)⟩

end Go.Proofs.Ytmmbfoncpjjonaa
