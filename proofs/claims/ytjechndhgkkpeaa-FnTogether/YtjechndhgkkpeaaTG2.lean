import Derived.Test.YtjechndhgkkpeaaTG1
import Derived.Test.YtjechndhgkkpeaaDD3
namespace Go.Proofs.Ytjechndhgkkpeaa
open Go.RowKit

set_option maxHeartbeats 400000 in
theorem byteAt_v (a : Option Addr) (n cap : Nat) (bs : List Int) (i : Nat) (m : Int) (w : World) (h : Row w a n bs) (hm : 0 < m) (hm2 : m ≤ 1000000000) :
    Calls Try.prog 10 #[.slice a n cap, .int .i64 (i : Int), .int .i64 m] w fun e w' => e = .returned (.int .i64 (byN bs i m)) ∧ w = w' := by
  have H : Hid (Row w a n bs) := h
  have hl := h.len
  clear h
  by_cases hlt : i < n
  · have HV : Hid (byN bs i m = bs.getD i 0 % m) := if_pos (by rw [hl]; exact hlt)
    clear hl
    obtain ⟨b, off, rfl, hb, hc⟩ := H.out.get i hlt
    obtain ⟨x, hx⟩ : ∃ x, x = bs.getD i 0 := ⟨_, rfl⟩
    have hxb := H.out.byte i
    rw [← hx] at hc hxb HV
    obtain ⟨hx0, hx1⟩ := hxb
    clear hx
    have hlti : (i : Int) < (n : Int) := by omega
    go_enter Try.func10, Try.ntmps10
    go_wp2
    go_ret
    exact ⟨by rw [HV.out]; rfl, rfl⟩
  · have HV : Hid (byN bs i m = 0) := if_neg (by rw [hl]; exact hlt)
    have hge : (n : Int) ≤ (i : Int) := by omega
    clear hl
    go_enter Try.func10, Try.ntmps10
    go_wp2
    go_ret
    exact ⟨by rw [HV.out]; rfl, rfl⟩

set_option maxHeartbeats 400000 in
theorem drawHash_any (a : Option Addr) (n cap : Nat) (bs : List Int) (w : World) (h : Row w a n bs) (hc : a = none → cap = 0) (hn : n ≤ 1000000000) :
    Calls Try.prog 13 #[.slice a n cap] w fun e w' => ∃ a' cap', e = .returned (.slice a' n cap') ∧ Own w.heap.size w' a' n cap' bs ∧ Below w.heap.size w w' := by
  obtain ⟨i0, hi, hz0, hz1, hz2⟩ := info_parts Try.info5
  have hoe := own_empty w
  have hal : Below w.heap.size w (w.alloc (.cells #[] 5)) := (Below.refl _ _).alloc (Nat.le_refl _) _
  have hra := h.kept hal
  go_enter Try.func13, Try.ntmps13
  go_wp2_with (first | (refine wpList_append_row _ rfl _ _ 22 rfl w.heap.size i0 Try.underlying22 hi hz0 hz1 hz2 _ 0 _ rfl hoe.row a n cap bs rfl hra hc (by omega) (by simp) ?_; intro v4 w4 hv4 hg4))
  have hb4 : Below w.heap.size w w4 := below_appended hal (by simp) hoe.row hg4
  obtain ⟨a4, c4, rfl, ho4⟩ := own_appended hv4 (by simp) h.byte
  rw [List.nil_append, Nat.zero_add] at ho4
  rw [Nat.zero_add]
  go_wp2
  go_ret
  exact ⟨_, _, rfl, ho4, hb4⟩

end Go.Proofs.Ytjechndhgkkpeaa
