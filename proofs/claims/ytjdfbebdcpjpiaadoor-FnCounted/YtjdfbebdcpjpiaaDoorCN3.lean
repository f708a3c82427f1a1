import Derived.Test.YtjdfbebdcpjpiaaDoorCN2
import Derived.Test.YtjdfbebdcpjpiaaDoorCNu
import Derived.Test.YtjdfbebdcpjpiaaDoorCNo
import Derived.Test.YtjdfbebdcpjpiaaDoorWL1
import Derived.Test.YtjdfbebdcpjpiaaDoorT5
import Derived.Test.YtjdfbebdcpjpiaaDoorT6
namespace Go.Proofs.YtjdfbebdcpjpiaaDoor
open Go.RowKit

set_option maxRecDepth 10000 in
set_option maxHeartbeats 400000 in
theorem big_any7 (a : Option Addr) (n cap : Nat) (w : World) (_hn : n ≤ 9223372036854775807) : Calls Tryd.prog 4 #[.slice a n cap] w fun e w' => e = .returned (.bool (decide (1048576 < (n : Int)))) ∧ w = w' := by
  go_enter Tryd.func4, Tryd.ntmps4
  go_wp2
  go_ret
  exact ⟨rfl, rfl⟩

set_option maxRecDepth 10000 in
set_option maxHeartbeats 400000 in
theorem inN_t (x lo hi : Int) (w : World) (h : lo ≤ x ∧ x ≤ hi) : Calls Tryd.prog 16 #[.int .i64 x, .int .i64 lo, .int .i64 hi] w fun e w' => e = .returned (.bool true) ∧ w' = w := by
  obtain ⟨h1, h2⟩ := h
  go_enter Tryd.func16, Tryd.ntmps16
  go_wp2
  go_ret
  exact ⟨by simp [*], rfl⟩

set_option maxRecDepth 10000 in
set_option maxHeartbeats 400000 in
theorem inN_f (x lo hi : Int) (w : World) (h : ¬ (lo ≤ x ∧ x ≤ hi)) : Calls Tryd.prog 16 #[.int .i64 x, .int .i64 lo, .int .i64 hi] w fun e w' => e = .returned (.bool false) ∧ w' = w := by
  by_cases h1 : lo ≤ x
  · have h2 : hi < x := by omega
    clear h
    go_enter Tryd.func16, Tryd.ntmps16
    go_wp2
    go_ret
    exact ⟨by simp [*], rfl⟩
  · have h2 : x < lo := by omega
    clear h h1
    go_enter Tryd.func16, Tryd.ntmps16
    go_wp2
    go_ret
    exact ⟨by simp [*], rfl⟩
theorem timeX_in {t : Int} {x : ByteArray} {ok : Bool} (h : timeX t x ok) (w : World) : Calls Tryd.prog 16 #[.int .i64 t, .int .i64 0, .int .i64 253402300799] w fun e w' => e = .returned (.bool ok) ∧ w' = w := by
  rcases h with ⟨rfl, h, _⟩ | ⟨rfl, h, _⟩
  · exact inN_t _ _ _ _ h
  · exact inN_f _ _ _ _ h

set_option maxRecDepth 10000 in
set_option maxHeartbeats 1000000 in
theorem sameNums_any (a b : Option Addr) (n m ca cb : Nat) (xs ys : List Int) (w : World) (hx : Row64 w a n xs) (hy : Row64 w b m ys) (hn : n ≤ 9000000) (hm : m ≤ 9000000) :
    Calls Tryd.prog 10 #[.slice a n ca, .slice b m cb] w fun e w' => e = .returned (.bool (decide (xs = ys))) ∧ Below w.heap.size w w' := by
  have HX : Hid (Row64 w a n xs) := hx
  have HY : Hid (Row64 w b m ys) := hy
  clear hx hy
  by_cases hnm : n = m
  · subst hnm
    go_enter Tryd.func10, Tryd.ntmps10
    go_wp2
    go_loopw [5] (fun i wr => ∃ k : Nat, k ≤ n ∧ i = .int .i64 k ∧ Hid (∀ j, j < k → xs.getD j 0 = ys.getD j 0) ∧ Below w.heap.size w wr) (fun i _ => n - (intOf i).toNat)
    case atStart => exact ⟨0, Nat.zero_le _, rfl, fun j hj => absurd hj (Nat.not_lt_zero j), Below.refl _ _⟩
    case round =>
      obtain ⟨k, hk, rfl, HE, hbr⟩ := hrel
      by_cases hlt : k < n
      · obtain ⟨b1, off1, rfl, hb1, hc1⟩ := HX.out.get k hlt
        obtain ⟨b2, off2, rfl, hb2, hc2⟩ := HY.out.get k hlt
        have hr1 : wr.cell? ⟨b1, off1 + k, none⟩ = some (.int .i64 (xs.getD k 0)) := (hbr.cell (p := ⟨b1, off1 + k, none⟩) hb1).trans hc1
        have hr2 : wr.cell? ⟨b2, off2 + k, none⟩ = some (.int .i64 (ys.getD k 0)) := (hbr.cell (p := ⟨b2, off2 + k, none⟩) hb2).trans hc2
        clear hc1 hc2
        obtain ⟨z, hz⟩ : ∃ z, z = xs.getD k 0 := ⟨_, rfl⟩
        obtain ⟨y, hy⟩ : ∃ y, y = ys.getD k 0 := ⟨_, rfl⟩
        rw [← hz] at hr1
        rw [← hy] at hr2
        have HZ : Hid (z = xs.getD k 0 ∧ y = ys.getD k 0) := ⟨hz, hy⟩
        clear hz hy
        by_cases hzy : z = y
        · subst hzy
          go_wp2
          go_quiet (fail)
          go_wp2
          go_roundw
          case rel => exact ⟨k + 1, by omega, by go_num, fun j hj => by
              rcases Nat.lt_or_ge j k with h | h
              · exact HE.out j h
              · obtain rfl : j = k := by omega
                exact HZ.out.1.symm.trans HZ.out.2, below_drewN hbr nq⟩
          case measure => simp [intOf]; omega
        · have hne : (z == y) = false := beq_false_of_ne hzy
          have HN : Hid (¬ z = y) := hzy
          clear hzy
          go_wp2
          go_quiet (fail)
          go_wp2
          go_ret
          have hd : decide (xs = ys) = false := decide_eq_false fun e => by
            subst e
            exact HN.out (HZ.out.1.trans HZ.out.2.symm)
          exact ⟨by rw [hd]; rfl, below_drewN hbr nq⟩
      · obtain rfl : k = n := by omega
        go_wp2
        go_ret
        have hd : decide (xs = ys) = true := decide_eq_true (List.ext_getElem (HX.out.len.trans HY.out.len.symm) fun j h1 h2 => by
          have := HE.out j (by rw [← HX.out.len]; exact h1)
          rw [List.getD_eq_getElem?_getD, List.getD_eq_getElem?_getD, List.getElem?_eq_getElem h1, List.getElem?_eq_getElem h2] at this
          simpa using this)
        exact ⟨by rw [hd]; rfl, hbr⟩
  · have hne : ((n : Int) == (m : Int)) = false := beq_false_of_ne (by omega)
    have HN : Hid (¬ n = m) := hnm
    clear hnm
    go_enter Tryd.func10, Tryd.ntmps10
    go_wp2
    go_ret
    have hd : decide (xs = ys) = false := decide_eq_false fun e => by
      subst e
      exact HN.out (HX.out.len.symm.trans HY.out.len)
    exact ⟨by rw [hd]; rfl, Below.refl _ _⟩

/-- What the law holds on its way. -/
structure Sit (w W : World) (l64 l8 : List (Option Addr × Nat × List Int)) : Prop where
  below : Below w.heap.size w W
  tab : TabW W
  pow : PowW W
  r64 : ∀ x ∈ l64, Row64 W x.1 x.2.1 x.2.2
  r8 : ∀ x ∈ l8, Row W x.1 x.2.1 x.2.2
theorem Sit.step {w W W' : World} {l64 l8 : List (Option Addr × Nat × List Int)} (h : Sit w W l64 l8) (hb : Below W.heap.size W W') : Sit w W' l64 l8 :=
  ⟨h.below.trans (hb.mono h.below.size), h.tab.kept hb, h.pow.kept hb, fun x hx => (h.r64 x hx).kept hb, fun x hx => (h.r8 x hx).kept hb⟩
theorem Sit.add64 {w W : World} {l64 l8 : List (Option Addr × Nat × List Int)} (h : Sit w W l64 l8) {a : Option Addr} {n : Nat} {zs : List Int} (hr : Row64 W a n zs) : Sit w W ((a, n, zs) :: l64) l8 :=
  ⟨h.below, h.tab, h.pow, fun x hx => by
    rcases List.mem_cons.1 hx with rfl | hx
    · exact hr
    · exact h.r64 x hx, h.r8⟩
theorem Sit.add8 {w W : World} {l64 l8 : List (Option Addr × Nat × List Int)} (h : Sit w W l64 l8) {a : Option Addr} {n : Nat} {zs : List Int} (hr : Row W a n zs) : Sit w W l64 ((a, n, zs) :: l8) :=
  ⟨h.below, h.tab, h.pow, h.r64, fun x hx => by
    rcases List.mem_cons.1 hx with rfl | hx
    · exact hr
    · exact h.r8 x hx⟩
theorem Own.nil_cap {B : Nat} {w : World} {a : Option Addr} {n cap : Nat} {bs : List Int} (h : Own B w a n cap bs) : a = none → cap = 0 := by
  intro e
  subst e
  rcases h.row.2 with ⟨hv, _⟩ | ⟨g, c, cur, hv, _⟩
  · simp only [Value.slice.injEq] at hv
    exact hv.2.2
  · simp at hv
theorem dec_self (x : List Int) : decide (x = x) = true := decide_eq_true rfl
theorem oidR_len {bs zs : List Int} (h : oidR bs zs true) : zs.length ≤ 12 := by
  rcases h with ⟨_, l, h1, h2, rfl, h3⟩ | ⟨h, _⟩
  · exact h3.1.2
  · cases h
theorem timeX_day2 {t : Int} {x x' : ByteArray} (h : timeX t x true) (k : timeX (t + 86400) x' true) : ((x'.extract 10 19).toList == (x.extract 10 19).toList) = true ∧ Op.bytesLess (x'.extract 0 10).toList (x.extract 0 10).toList = false ∧ ((x'.extract 0 10).toList == (x.extract 0 10).toList) = false := by
  obtain ⟨h1, h2⟩ := timeX_day h k
  rw [ByteArray.toList_eq, ByteArray.toList_eq, ByteArray.toList_eq, ByteArray.toList_eq]
  refine ⟨by rw [h1]; simp, bl_asym _ _ h2, beq_false_of_ne fun e => ?_⟩
  rw [e, bl_irr] at h2
  cases h2
theorem timeX_order2 {t u : Int} {x x' : ByteArray} (h : timeX t x true) (k : timeX u x' true) : Op.bytesLess x.toList x'.toList = decide (t < u) := by
  rw [ByteArray.toList_eq, ByteArray.toList_eq]
  exact timeX_order h k
theorem oidRes_none {zs bs : List Int} (h : oidRes zs bs false) : bs = [] := by
  rcases h with ⟨h, _⟩ | ⟨_, _, h⟩
  · cases h
  · exact h

end Go.Proofs.YtjdfbebdcpjpiaaDoor
