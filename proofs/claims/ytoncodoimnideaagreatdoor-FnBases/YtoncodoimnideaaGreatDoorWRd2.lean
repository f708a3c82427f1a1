import Derived.Test.YtoncodoimnideaaGreatDoorWRd
import Derived.Test.YtoncodoimnideaaGreatDoorWApp
namespace Go.Proofs.YtoncodoimnideaaGreatDoor
open Go.RowKit

set_option maxRecDepth 10000 in
set_option maxHeartbeats 400000 in
theorem once_any (g : Nat) (a : Option Addr) (n cap : Nat) (bs : List Int) (m : Int) (w : World) (h : Rd w g a n cap bs) (hm0 : 0 ≤ m) (hm : m ≤ 100000) :
    Calls Tryz.prog 21 #[.pointer (some ⟨g, 0, none⟩), .int .i64 m] w fun e w' => ∃ v : Bool, e = .returned (.bool v) ∧ RdPost w g a n cap bs w' := by
  have H : Hid (Rd w g a n cap bs) := h
  clear h
  go_enter Tryz.func21, Tryz.ntmps21
  go_wp2_with fail
  refine (below_any g a n cap bs m _ H.out hm).mono ?_
  rintro e w1 ⟨v, rfl, hv0, hv1, hp⟩
  go_wp2
  go_ret
  exact ⟨_, rfl, hp⟩

theorem RdPost.grown {w w1 w2 : World} {g : Nat} {a : Option Addr} {n cap : Nat} {bs : List Int} {lo hi : Nat} (h : RdPost w g a n cap bs w1) (ht : Touch lo hi w1 w2) (hg : g < lo) (hlo : w.heap.size ≤ lo) : RdPost w g a n cap bs w2 :=
  ⟨h.1.touch ht hg, ⟨ht.os.trans h.2.os, ht.tape.trans h.2.tape, ht.output.trans h.2.output, Nat.le_trans h.2.size ht.size, fun k hk ho => (ht.block k (Nat.lt_of_lt_of_le hk h.2.size) (.inl (by omega))).trans (h.2.block k hk ho)⟩⟩

theorem owns_touch {w w' : World} {B e s n lo hi : Nat} {v : Value} {xs : List Value} (h : w.ownsRow B e s v n xs) (ht : Touch lo hi w w') (hd : hi ≤ B) : w'.ownsRow B e s v n xs := by
  refine ⟨h.1, ?_⟩
  rcases h.2 with hn | ⟨g, cap, cur, rfl, hb, hg, rest⟩
  · exact .inl hn
  · exact .inr ⟨g, cap, cur, rfl, hb, (ht.block g (Array.getElem?_eq_some_iff.1 hg).1 (.inr (by omega))).trans hg, rest⟩
theorem Own.touched {w w' : World} {B lo hi : Nat} {a : Option Addr} {n cap : Nat} {bs : List Int} (h : Own B w a n cap bs) (ht : Touch lo hi w w') (hd : hi ≤ B) : Own B w' a n cap bs := ⟨owns_touch h.row ht hd, h.byte⟩
theorem touch_grown {w w' : World} {r : Option Nat} {lo hi : Nat} (hg : w.grownBy w' r) (hr : ∀ k, r = some k → lo ≤ k ∧ k < hi) : Touch lo hi w w' :=
  ⟨hg.os, hg.tape, hg.output, hg.size, fun k hk ho => hg.block k hk (fun e => by have := hr k e.symm; omega)⟩

end Go.Proofs.YtoncodoimnideaaGreatDoor
