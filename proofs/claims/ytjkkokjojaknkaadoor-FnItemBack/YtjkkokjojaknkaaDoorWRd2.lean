import Derived.Test.YtjkkokjojaknkaaDoorWRd
import Derived.Test.YtjkkokjojaknkaaDoorFC
namespace Go.Proofs.YtjkkokjojaknkaaDoor
open Go.RowKit

set_option maxRecDepth 10000 in
set_option maxHeartbeats 400000 in
theorem once_any (g : Nat) (a : Option Addr) (n cap : Nat) (bs : List Int) (m : Int) (w : World) (h : Rd w g a n cap bs) (hm0 : 0 ≤ m) (hm : m ≤ 100000) :
    Calls Tryd.prog 33 #[.pointer (some ⟨g, 0, none⟩), .int .i64 m] w fun e w' => ∃ v : Bool, e = .returned (.bool v) ∧ RdPost w g a n cap bs w' := by
  have H : Hid (Rd w g a n cap bs) := h
  clear h
  go_enter Tryd.func33, Tryd.ntmps33
  go_wp2_with fail
  refine (below_any g a n cap bs m _ H.out hm).mono ?_
  rintro e w1 ⟨v, rfl, hv0, hv1, hp⟩
  go_wp2
  go_ret
  exact ⟨_, rfl, hp⟩

theorem RdPost.grown {w w1 w2 : World} {g : Nat} {a : Option Addr} {n cap : Nat} {bs : List Int} {lo hi : Nat} (h : RdPost w g a n cap bs w1) (ht : Touch lo hi w1 w2) (hg : g < lo) (hlo : w.heap.size ≤ lo) : RdPost w g a n cap bs w2 :=
  ⟨h.1.touch ht hg, ⟨ht.os.trans h.2.os, ht.tape.trans h.2.tape, ht.output.trans h.2.output, Nat.le_trans h.2.size ht.size, fun k hk ho => (ht.block k (Nat.lt_of_lt_of_le hk h.2.size) (.inl (by omega))).trans (h.2.block k hk ho)⟩⟩

theorem owns_touch {w w' : World} {B e s n lo hi : Nat} {v : Value} {xs : List Value} (h : w.ownsRow B e s v n xs) (ht : Touch lo hi w w') (hd : hi ≤ B) : w'.ownsRow B e s v n xs := by
  refine ⟨h.1, ?_⟩
  rcases h.2 with hn | ⟨g, cap, cur, rfl, hb, hg, rest⟩
  · exact .inl hn
  · exact .inr ⟨g, cap, cur, rfl, hb, (ht.block g (Array.getElem?_eq_some_iff.1 hg).1 (.inr (by omega))).trans hg, rest⟩
theorem Own.touched {w w' : World} {B lo hi : Nat} {a : Option Addr} {n cap : Nat} {bs : List Int} (h : Own B w a n cap bs) (ht : Touch lo hi w w') (hd : hi ≤ B) : Own B w' a n cap bs := ⟨owns_touch h.row ht hd, h.byte⟩
theorem touch_grown {w w' : World} {r : Option Nat} {lo hi : Nat} (hg : w.grownBy w' r) (hr : ∀ k, r = some k → lo ≤ k ∧ k < hi) : Touch lo hi w w' :=
  ⟨hg.os, hg.tape, hg.output, hg.size, fun k hk ho => hg.block k hk (fun e => by have := hr k e.symm; omega)⟩

set_option maxRecDepth 10000 in
set_option maxHeartbeats 1000000 in
theorem bytes_any (g : Nat) (a : Option Addr) (n cap : Nat) (bs : List Int) (m : Int) (w : World) (h : Rd w g a n cap bs) (hm0 : 0 ≤ m) (hm : m ≤ 1000) :
    Calls Tryd.prog 50 #[.pointer (some ⟨g, 0, none⟩), .int .i64 m] w fun e w' => ∃ (a' : Option Addr) (k c' : Nat) (xs : List Int), e = .returned (.slice a' k c') ∧ (k : Int) ≤ m ∧ Own w.heap.size w' a' k c' xs ∧ RdPost w g a n cap bs w' := by
  obtain ⟨i0, hi, hz0, hz1, hz2⟩ := info_parts Tryd.info5
  have H : Hid (Rd w g a n cap bs) := h
  have hgw := h.lt
  clear h
  go_enter Tryd.func50, Tryd.ntmps50
  go_wp2_with fail
  refine (below_any g a n cap bs (m + 1) _ H.out (by omega)).mono ?_
  rintro e w1 ⟨v, rfl, hv0, hv1, hp1⟩
  obtain ⟨u, rfl⟩ := Int.eq_ofNat_of_zero_le hv0
  have hum : (u : Int) ≤ m := by omega
  have hs1 := hp1.2.size
  have hoe : Own w.heap.size (w1.alloc (.cells #[] 5)) (some ⟨w1.heap.size, 0, none⟩) 0 0 [] := ⟨World.ownsRow_lit w1 #[] 0 hs1 (Nat.zero_le _) rfl, by simp⟩
  have hpe := hp1.alloc (.cells #[] 5)
  clear hp1
  go_wp2
  go_loopw [6, 7] (fun o i wr => ∃ (k c' : Nat) (a' : Option Addr) (xs : List Int), k ≤ u ∧ i = .int .i64 k ∧ o = .slice a' k c' ∧ Own w.heap.size wr a' k c' xs ∧ RdPost w g a n cap bs wr) (fun _ i _ => u - (intOf i).toNat)
  case atStart => exact ⟨0, 0, _, [], Nat.zero_le _, rfl, rfl, hoe, hpe⟩
  case round =>
    obtain ⟨k, c', a', xs, hk, rfl, rfl, hor, hpr⟩ := hrel
    have hsr := hpr.2.size
    by_cases hlt : k < u
    · go_wp2_with fail
      refine (next_any g a n cap bs _ hpr.1).mono ?_
      rintro e w2 ⟨x, rfl, hx0, hx1, hr2, ht2⟩
      have hor2 := hor.touched ht2 (by omega)
      have hp2 : RdPost w g a n cap bs w2 := ⟨hr2, hpr.2.trans ht2⟩
      have hs2 := ht2.size
      clear hor hpr hr2 ht2
      go_wp2_with (at_builtin; refine wpList_append_own _ rfl _ _ 22 rfl w.heap.size 5 i0 (.int .u8 0) 1 1 Tryd.underlying22 hi hz0 hz1 hz2 rfl (by decide) _ _ _ rfl (hor2.row.alloc _) ⟨w2.heap.size, 0, none⟩ 1 1 [_] rfl rfl (cell_one_new _ _ _) (by intro u hu; simp at hu; subst hu; rfl) (by unfold maxLen; omega) (by omega) (by simp; omega) ?_; intro v' w3 hown' hgrow' _)
      obtain ⟨a3, c3, rfl, ho3⟩ := own_appended (ys := [x]) hown' hor2.byte (by simpa using snoc_byte (xs := []) (by simp) x ⟨hx0, hx1⟩)
      have hT : Touch w.heap.size (w2.heap.size + 1) (w2.alloc (.cells #[.int .u8 x] 5)) w3 := touch_grown hgrow' (fun k hk => by have := (hor2.row.lt k hk); omega)
      have hp3 := (hp2.alloc (.cells #[.int .u8 x] 5)).grown hT hgw (Nat.le_refl _)
      go_roundw
      case rel => exact ⟨k + 1, c3, a3, xs ++ [x], by omega, by go_num, rfl, ho3, hp3⟩
      case measure => simp [intOf]; omega
    · have hku : k = u := by omega
      subst hku
      go_wp2
      go_ret
      exact ⟨a', k, c', xs, rfl, hum, hor, hpr⟩

end Go.Proofs.YtjkkokjojaknkaaDoor
