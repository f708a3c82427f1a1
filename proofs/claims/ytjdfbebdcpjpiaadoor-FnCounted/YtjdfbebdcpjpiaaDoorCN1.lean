import Derived.Test.YtjdfbebdcpjpiaaDoorWRd2
import Derived.Test.YtjdfbebdcpjpiaaDoorOR2n
import Derived.Test.YtjdfbebdcpjpiaaDoorO2n
import Derived.Test.YtjdfbebdcpjpiaaDoorDT6
namespace Go.Proofs.YtjdfbebdcpjpiaaDoor
open Go.RowKit

/-! What the law of identifiers and times draws. -/

/-- A row of numbers that is drawn, by a reader in the block g. -/
structure Arc (w : World) (g : Nat) (a : Option Addr) (n cap : Nat) (bs : List Int) (W : World) (ao : Option Addr) (m c : Nat) (zs : List Int) : Prop where
  rd : Rd W g a n cap bs
  own : W.ownsRow w.heap.size 2 1 (.slice ao m c) m (zs.map (Value.int .i64))
  touch : Touch g (g + 1) w W
  lt : g < w.heap.size
theorem Arc.below {w : World} {g : Nat} {a : Option Addr} {n cap : Nat} {bs : List Int} {W W' : World} {ao : Option Addr} {m c : Nat} {zs : List Int} (h : Arc w g a n cap bs W ao m c zs) (hb : Below W.heap.size W W') : Arc w g a n cap bs W' ao m c zs :=
  ⟨h.rd.kept hb, ownsRow_below h.own hb, h.touch.trans (Touch.of_below hb), h.lt⟩
theorem Arc.rdp {w : World} {g : Nat} {a : Option Addr} {n cap : Nat} {bs : List Int} {W W' : World} {ao : Option Addr} {m c : Nat} {zs : List Int} (h : Arc w g a n cap bs W ao m c zs) (hp : RdPost W g a n cap bs W') : Arc w g a n cap bs W' ao m c zs :=
  ⟨hp.1, owns_touch h.own hp.2 h.lt, h.touch.trans hp.2, h.lt⟩
theorem Arc.row {w : World} {g : Nat} {a : Option Addr} {n cap : Nat} {bs : List Int} {W W' : World} {ao ao' : Option Addr} {m c m' c' : Nat} {zs zs' : List Int} (h : Arc w g a n cap bs W ao m c zs) {hi : Nat} (ht : Touch w.heap.size hi W W') (ho : W'.ownsRow w.heap.size 2 1 (.slice ao' m' c') m' (zs'.map (Value.int .i64))) : Arc w g a n cap bs W' ao' m' c' zs' :=
  ⟨h.rd.touch ht h.lt, ho, ⟨ht.os.trans h.touch.os, ht.tape.trans h.touch.tape, ht.output.trans h.touch.output, Nat.le_trans h.touch.size ht.size, fun k hk ho => (ht.block k (Nat.lt_of_lt_of_le hk h.touch.size) (.inl hk)).trans (h.touch.block k hk ho)⟩, h.lt⟩
theorem ownsI_some {w : World} {B m c : Nat} {a : Option Addr} {xs : List Value} (h : w.ownsRow B 2 1 (.slice a m c) m xs) (hm : 0 < m) : ∃ g, a = some ⟨g, 0, none⟩ ∧ B ≤ g ∧ g < w.heap.size := by
  rcases h.2 with ⟨_, h0⟩ | ⟨g, cap, cur, hv, hb, hg, _⟩
  · omega
  · simp only [Value.slice.injEq] at hv
    exact ⟨g, hv.1, hb, (Array.getElem?_eq_some_iff.1 hg).1⟩

def arcC1 : Array Value := #[.int .i64 0, .int .i64 1, .int .i64 127, .int .i64 128, .int .i64 840, .int .i64 1099511627776, .int .i64 113549]
theorem arcC1_get (v : Nat) (h : v < 7) : ∃ x, arcC1[v]? = some (.int .i64 x) := by
  match v, h with
  | 0, _ | 1, _ | 2, _ | 3, _ | 4, _ | 5, _ | 6, _ => exact ⟨_, rfl⟩
def arcC2 : Array Value := #[.int .i64 (-1), .int .i64 3, .int .i64 40, .int .i64 999, .int .i64 1000, .int .i64 1001, .int .i64 1099511627777]
theorem arcC2_get (v : Nat) (h : v < 7) : ∃ x, arcC2[v]? = some (.int .i64 x) := by
  match v, h with
  | 0, _ | 1, _ | 2, _ | 3, _ | 4, _ | 5, _ | 6, _ => exact ⟨_, rfl⟩

def ArcR (w : World) (g : Nat) (a : Option Addr) (n cap : Nat) (bs : List Int) (e : Ending) (w' : World) : Prop := ∃ (ao : Option Addr) (m c : Nat) (zs : List Int), e = .returned (.slice ao m c) ∧ m ≤ 13 ∧ Hid (Arc w g a n cap bs w' ao m c zs)

set_option maxRecDepth 10000 in
set_option maxHeartbeats 1000000 in
theorem drawArcs_any (g : Nat) (a : Option Addr) (n cap : Nat) (bs : List Int) (w : World) (h : Rd w g a n cap bs) :
    Calls Tryd.prog 22 #[.pointer (some ⟨g, 0, none⟩)] w (ArcR w g a n cap bs) := by
  obtain ⟨i0, hi, hz0, hz1, hz2⟩ := info_parts Tryd.info2
  have HR : Hid (Rd w g a n cap bs) := h
  clear h
  go_enter Tryd.func22, Tryd.ntmps22
  go_wp2_with fail
  refine (below_any g a n cap bs 3 _ HR.out (by decide)).mono ?_
  rintro e w1 ⟨v1, rfl, hv10, hv11, hp1⟩
  have HP1 : Hid (RdPost w g a n cap bs w1) := hp1
  clear hp1 hv11 hv10
  go_wp2_with fail
  refine (below_any g a n cap bs 40 _ HP1.out.1 (by decide)).mono ?_
  rintro e w2 ⟨v2, rfl, hv20, hv21, hp2⟩
  have HP2 : Hid (RdPost w g a n cap bs w2) := HP1.out.step hp2
  clear hp2 hv21 hv20 HP1
  obtain ⟨w3, hw3⟩ : ∃ w3, w3 = w2.alloc (.cells #[.int .i64 v1, .int .i64 v2] 2) := ⟨_, rfl⟩
  have HA3 : Hid (Arc w g a n cap bs w3 (some ⟨w2.heap.size, 0, none⟩) 2 2 [v1, v2]) := by
    show Arc _ _ _ _ _ _ _ _ _ _ _
    have hb : Below w2.heap.size w2 w3 := by rw [hw3]; exact (Below.refl _ _).alloc (Nat.le_refl _) _
    have hs := HP2.out.2.size
    refine ⟨HP2.out.1.kept hb, ?_, HP2.out.2.trans (Touch.of_below hb), HR.out.lt⟩
    rw [hw3]
    exact World.ownsRow_lit w2 #[.int .i64 v1, .int .i64 v2] 2 hs (by decide) rfl
  have HW3 : Hid (_ = _) := hw3
  clear hw3 HP2
  go_wp2_with fail
  rw [← HW3.out]
  clear HW3
  refine (below_any g a n cap bs 4 _ HA3.out.rd (by decide)).mono ?_
  rintro e w4 ⟨v4, rfl, hv40, hv41, hp4⟩
  obtain ⟨V, rfl⟩ := Int.eq_ofNat_of_zero_le hv40
  have hV : V ≤ 3 := by omega
  have HA4 : Hid (Arc w g a n cap bs w4 (some ⟨w2.heap.size, 0, none⟩) 2 2 [v1, v2]) := HA3.out.rdp hp4
  clear hp4 hv41 hv40 HA3
  go_wp2
  go_loopw [3, 5] (fun o i wr => ∃ (k m c : Nat) (ao : Option Addr) (zs : List Int), k ≤ V ∧ Hid (m = k + 2) ∧ i = .int .i64 k ∧ o = .slice ao m c ∧ Hid (Arc w g a n cap bs wr ao m c zs)) (fun _ i _ => V - (intOf i).toNat)
  case atStart => exact ⟨0, 2, 2, _, _, Nat.zero_le _, rfl, rfl, rfl, HA4⟩
  case round =>
    obtain ⟨k, m, c, ao, zs, hk, hm, rfl, rfl, HA⟩ := hrel
    clear HA4
    by_cases hlt : k < V
    · have hlti : (k : Int) < (V : Int) := by omega
      obtain ⟨wt, hwt⟩ : ∃ wt, wt = wr.alloc (.cells arcC1 2) := ⟨_, rfl⟩
      have hbt : Below wr.heap.size wr wt := by rw [hwt]; exact (Below.refl _ _).alloc (Nat.le_refl _) _
      have xt : wt.heap[wr.heap.size]? = some (.cells arcC1 2) := by rw [hwt]; exact heap_alloc_new wr _
      have st : wr.heap.size < wt.heap.size := (Array.getElem?_eq_some_iff.1 xt).1
      have HAT : Hid (Arc w g a n cap bs wt ao m c zs) := HA.out.below hbt
      have HWT : Hid (_ = _) := hwt
      clear hwt
      go_wp2_with fail
      have et : wr.alloc (.cells #[.int .i64 0, .int .i64 1, .int .i64 127, .int .i64 128, .int .i64 840, .int .i64 1099511627776, .int .i64 113549] 2) = wt := HWT.out.symm
      rw [et]
      clear HWT et
      have hm3 : m ≤ 5 := by have := hm.out; omega
      refine (below_any g a n cap bs 7 _ HAT.out.rd (by decide)).mono ?_
      rintro e w5 ⟨v5, rfl, hv50, hv51, hp5⟩
      obtain ⟨u, rfl⟩ := Int.eq_ofNat_of_zero_le hv50
      have hu : u < 7 := by omega
      obtain ⟨x, hx⟩ := arcC1_get u hu
      have hgw := HA.out.lt
      have hgs := HA.out.touch.size
      have js : w5.cell? ⟨wr.heap.size, u, none⟩ = some (.int .i64 x) := (cell_of_row _ _ u _ 2 (0, 0) ((hp5.2.block _ st (.inr (by omega))).trans xt)).trans hx
      have HA5 : Hid (Arc w g a n cap bs w5 ao m c zs) := HAT.out.rdp hp5
      have hui : (u : Int) < 7 := by omega
      have hs5 := hp5.2.size
      have hd5 : wr.heap.size < w5.heap.size := by omega
      have hor := HA5.out.own
      have HOR : Hid (w5.ownsRow w.heap.size 2 1 (.slice ao m c) m (zs.map (Value.int .i64))) := hor
      clear hp5 hv51 hv50 xt hbt HA HAT hx hor
      have hB5 : w.heap.size ≤ (w5.alloc (.cells #[.int .i64 x] 2)).heap.size := by simp; omega
      go_wp2_with (at_builtin; refine wpList_append_own _ rfl _ _ 24 rfl w.heap.size 2 i0 (.int .i64 0) 1 8 Tryd.underlying24 hi hz0 hz1 hz2 rfl (by decide) _ _ _ rfl (HOR.out.alloc _) ⟨w5.heap.size, 0, none⟩ 1 1 [_] rfl rfl (cell_one_new _ _ _) (by intro u hu; simp at hu; subst hu; rfl) (by unfold maxLen; omega) (by omega) hB5 ?_; intro v' w6 hown' hgrow' _)
      obtain ⟨a6, c6, rfl⟩ := owns_slice hown'
      have HA6 : Hid (Arc w g a n cap bs w6 a6 (m + 1) c6 (zs ++ [x])) := by
        have h5 := HA5.out.below ((Below.refl w5.heap.size w5).alloc (Nat.le_refl _) (.cells #[.int .i64 x] 2))
        refine h5.row (hi := (w5.alloc (.cells #[.int .i64 x] 2)).heap.size) (touch_grown hgrow' (fun l hl => (HOR.out.alloc (.cells #[.int .i64 x] 2)).lt l hl)) ?_
        rw [List.map_append]
        exact hown'
      clear hown' hgrow'
      go_roundw
      case rel => exact ⟨k + 1, m + 1, c6, a6, _, by omega, by (show m + 1 = k + 1 + 2); have := hm.out; omega, by go_num, rfl, HA6⟩
      case measure => simp [intOf]; omega
    · obtain rfl : k = V := by omega
      have hm5 : m ≤ 5 ∧ 2 ≤ m := by have := hm.out; omega
      clear hm
      go_wp2_with fail
      refine (once_any g a n cap bs 5 _ HA.out.rd (by decide) (by decide)).mono ?_
      rintro e w7 ⟨b7, rfl, hp7⟩
      have HA7 : Hid (Arc w g a n cap bs w7 ao m c zs) := HA.out.rdp hp7
      clear hp7 HA
      cases b7 with
      | false =>
        go_wp2
        go_ret
        exact ⟨ao, m, c, zs, rfl, by omega, HA7⟩
      | true =>
        go_wp2_with fail
        refine (below_any g a n cap bs m _ HA7.out.rd (by omega)).mono ?_
        rintro e w8 ⟨v8, rfl, hv80, hv81, hp8⟩
        obtain ⟨q, rfl⟩ := Int.eq_ofNat_of_zero_le hv80
        have hq : q < m := by omega
        have hqi : (q : Int) < (m : Int) := by omega
        have HA8 : Hid (Arc w g a n cap bs w8 ao m c zs) := HA7.out.rdp hp8
        clear hp8 hv81 hv80 HA7
        obtain ⟨wt, hwt⟩ : ∃ wt, wt = w8.alloc (.cells arcC2 2) := ⟨_, rfl⟩
        have hbt : Below w8.heap.size w8 wt := by rw [hwt]; exact (Below.refl _ _).alloc (Nat.le_refl _) _
        have xt : wt.heap[w8.heap.size]? = some (.cells arcC2 2) := by rw [hwt]; exact heap_alloc_new w8 _
        have st : w8.heap.size < wt.heap.size := (Array.getElem?_eq_some_iff.1 xt).1
        have HAT : Hid (Arc w g a n cap bs wt ao m c zs) := HA8.out.below hbt
        have HWT : Hid (_ = _) := hwt
        clear hwt
        go_wp2_with fail
        have et : w8.alloc (.cells #[.int .i64 (-1), .int .i64 3, .int .i64 40, .int .i64 999, .int .i64 1000, .int .i64 1001, .int .i64 1099511627777] 2) = wt := HWT.out.symm
        rw [et]
        clear HWT et
        refine (below_any g a n cap bs 7 _ HAT.out.rd (by decide)).mono ?_
        rintro e w9 ⟨v9, rfl, hv90, hv91, hp9⟩
        obtain ⟨u, rfl⟩ := Int.eq_ofNat_of_zero_le hv90
        have hu : u < 7 := by omega
        obtain ⟨x, hx⟩ := arcC2_get u hu
        have hgw := HA8.out.lt
        have hgs := HA8.out.touch.size
        have js : w9.cell? ⟨w8.heap.size, u, none⟩ = some (.int .i64 x) := (cell_of_row _ _ u _ 2 (0, 0) ((hp9.2.block _ st (.inr (by omega))).trans xt)).trans hx
        have HA9 : Hid (Arc w g a n cap bs w9 ao m c zs) := HAT.out.rdp hp9
        have hui : (u : Int) < 7 := by omega
        have hs9 := hp9.2.size
        have hd9 : w8.heap.size < w9.heap.size := by omega
        clear hp9 hv91 hv90 xt hbt HA8 HAT hx
        obtain ⟨gb, rfl, hgb, hgl⟩ := ownsI_some HA9.out.own (by omega)
        have hl9 : zs.length = m := by simpa using HA9.out.own.1
        have hcq : w9.cell? ⟨gb, q, none⟩ = some (.int .i64 (zs.getD q 0)) := by
          have := World.ownsRow.cellAt HA9.out.own q (by omega)
          rw [this]
          simp [show q < zs.length by omega]
        have hfq : w9.frozen? ⟨gb, q, none⟩ = false := HA9.out.own.frozenAt q
        have HST : Hid (Arc w g a n cap bs (w9.setCell ⟨gb, q, none⟩ (.int .i64 x)) (some ⟨gb, 0, none⟩) m c (zs.set q x)) := by
          refine HA9.out.row (hi := gb + 1) (Touch.setCell (p := ⟨gb, q, none⟩) (Touch.same w.heap.size (gb + 1) w9) hgb (Nat.lt_succ_self gb) (.int .i64 x)) ?_
          rw [List.map_set]
          exact (HA9.out.own.stored _ _).1
        go_wp2
        go_ret
        exact ⟨_, m, c, _, rfl, by omega, HST⟩

def OidBR (w : World) (e : Ending) (w' : World) : Prop := ∃ (ao : Option Addr) (m c : Nat) (zs : List Int), e = .returned (.slice ao m c) ∧ m ≤ 13 ∧ w'.ownsRow w.heap.size 2 1 (.slice ao m c) m (zs.map (Value.int .i64)) ∧ Below w.heap.size w w'

set_option maxRecDepth 10000 in
set_option maxHeartbeats 1000000 in
theorem drawOidBytes_any (a : Option Addr) (n cap : Nat) (bs : List Int) (w : World) (h : Row w a n bs) (hn : n ≤ 1000000000) :
    Calls Tryd.prog 5 #[.slice a n cap] w (OidBR w) := by
  obtain ⟨i0, hi, hz0, hz1, hz2⟩ := info_parts Tryd.info2
  have H : Hid (Row w a n bs) := h
  clear h
  go_enter Tryd.func5, Tryd.ntmps5
  go_wp2_with fail
  refine (open_any a n cap bs _ H.out hn).mono ?_
  rintro e w1 ⟨rfl, hr, hb1⟩
  have HB1 : Hid (Below w.heap.size w w1) := hb1
  have HL : Hid (w.heap.size < w1.heap.size) := hr.lt
  clear hb1
  go_wp2_with fail
  refine (drawArcs_any _ a n cap bs _ hr).mono ?_
  rintro e w2 ⟨ao, m, c, zs, rfl, hm, HA⟩
  clear hr
  go_wp2_with fail
  refine (once_any _ a n cap bs 10 _ HA.out.rd (by decide) (by decide)).mono ?_
  rintro e w3 ⟨b3, rfl, hp3⟩
  have HA3 : Hid (Arc w1 w.heap.size a n cap bs w3 ao m c zs) := HA.out.rdp hp3
  clear hp3 HA
  have FIN : Hid (∀ {W : World} {ao : Option Addr} {m c : Nat} {zs : List Int}, Arc w1 w.heap.size a n cap bs W ao m c zs → W.ownsRow w.heap.size 2 1 (.slice ao m c) m (zs.map (Value.int .i64)) ∧ Below w.heap.size w W) := fun {W ao m c zs} hA => by
    refine ⟨⟨hA.own.1, ?_⟩, RdPost.below HB1.out ⟨hA.rd, hA.touch⟩⟩
    rcases hA.own.2 with h | ⟨g, c', cur, h1, h2, r⟩
    · exact .inl h
    · exact .inr ⟨g, c', cur, h1, Nat.le_of_lt (Nat.lt_of_lt_of_le HL.out h2), r⟩
  cases b3 with
  | false =>
    go_wp2
    go_ret
    exact ⟨ao, m, c, zs, rfl, hm, FIN.out HA3.out⟩
  | true =>
    go_wp2
    go_loopw [4] (fun o wr => ∃ (k cc : Nat) (ax : Option Addr) (ys : List Int), k ≤ 13 ∧ o = .slice ax k cc ∧ Hid (Arc w1 w.heap.size a n cap bs wr ax k cc ys)) (fun o _ => 13 - (match o with | .slice _ k _ => k | _ => 0))
    case atStart => exact ⟨m, c, ao, zs, hm, rfl, HA3⟩
    case round =>
      obtain ⟨k, cc, ax, ys, hk, rfl, HA⟩ := hrel
      clear HA3
      go_wp2_with fail
      refine (below_any _ a n cap bs 2 _ HA.out.rd (by decide)).mono ?_
      rintro e w5 ⟨v5, rfl, hv50, hv51, hp5⟩
      have HA5 : Hid (Arc w1 w.heap.size a n cap bs w5 ax k cc ys) := HA.out.rdp hp5
      clear hp5 HA
      have hv52 : v5 ≤ 1 := by omega
      clear hv51
      have hw8 : IntKind.i64.wrap (12 + v5) = 12 + v5 := by rcases (show v5 = 0 ∨ v5 = 1 by omega) with rfl | rfl <;> decide
      by_cases hlt : (k : Int) < 12 + v5
      · have hlw : w1.heap.size ≤ w5.heap.size := HA5.out.touch.size
        have HOR : Hid (w5.ownsRow w1.heap.size 2 1 (.slice ax k cc) k (ys.map (Value.int .i64))) := HA5.out.own
        have hB5 : w1.heap.size ≤ (w5.alloc (.cells #[.int .i64 1] 2)).heap.size := by simp; omega
        go_wp2_with (at_builtin; refine wpList_append_own _ rfl _ _ 24 rfl w1.heap.size 2 i0 (.int .i64 0) 1 8 Tryd.underlying24 hi hz0 hz1 hz2 rfl (by decide) _ _ _ rfl (HOR.out.alloc _) ⟨w5.heap.size, 0, none⟩ 1 1 [_] rfl rfl (cell_one_new _ _ _) (by intro u hu; simp at hu; subst hu; rfl) (by unfold maxLen; omega) (by omega) hB5 ?_; intro v' w6 hown' hgrow' _)
        obtain ⟨a6, c6, rfl⟩ := owns_slice hown'
        have HA6 : Hid (Arc w1 w.heap.size a n cap bs w6 a6 (k + 1) c6 (ys ++ [1])) := by
          have h5 := HA5.out.below ((Below.refl w5.heap.size w5).alloc (Nat.le_refl _) (.cells #[.int .i64 1] 2))
          refine h5.row (hi := (w5.alloc (.cells #[.int .i64 1] 2)).heap.size) (touch_grown hgrow' (fun l hl => (HOR.out.alloc (.cells #[.int .i64 1] 2)).lt l hl)) ?_
          rw [List.map_append]
          exact hown'
        clear hown' hgrow'
        go_roundw
        case rel => exact ⟨k + 1, c6, a6, _, by omega, rfl, HA6⟩
        case measure => show 13 - (k + 1) < 13 - k; omega
      · go_wp2
        go_ret
        exact ⟨ax, k, cc, ys, rfl, hk, FIN.out HA5.out⟩

set_option maxRecDepth 10000 in
set_option maxHeartbeats 1000000 in
theorem drawOidRead_any (a : Option Addr) (n cap : Nat) (bs : List Int) (w : World) (h : Row w a n bs) (hn : n ≤ 1000000000) :
    Calls Tryd.prog 12 #[.slice a n cap] w fun e w' => ∃ (ao : Option Addr) (m c : Nat) (xs : List Int), e = .returned (.slice ao m c) ∧ m ≤ 1000 ∧ Own w.heap.size w' ao m c xs ∧ Below w.heap.size w w' := by
  have H : Hid (Row w a n bs) := h
  clear h
  go_enter Tryd.func12, Tryd.ntmps12
  go_wp2_with fail
  refine (open_any a n cap bs _ H.out hn).mono ?_
  rintro e w1 ⟨rfl, hr, hb1⟩
  have HB1 : Hid (Below w.heap.size w w1) := hb1
  have HL : Hid (w.heap.size < w1.heap.size) := hr.lt
  clear hb1
  go_wp2_with fail
  refine (drawArcs_any _ a n cap bs _ hr).mono ?_
  rintro e w2 ⟨ao, m, c, zs, rfl, hm, HA⟩
  clear hr
  have hcap := owns_caps HA.out.own
  have HA2 : Hid (Arc w1 w.heap.size a n cap bs w2 ao m c zs) := HA
  clear HA
  go_wp2_with fail
  refine (specOidBytes_any ao m c zs _ (own64_of HA2.out.own).toRow (by omega)).mono ?_
  rintro e w3 ⟨b, k, cb, ys, ok, rfl, hres, hk, hO, hb3⟩
  have HR3 : Hid (RdPost w1 w.heap.size a n cap bs w3) := ⟨HA2.out.rd.kept hb3, HA2.out.touch.trans (Touch.of_below hb3)⟩
  have HO : Hid (Own w1.heap.size w3 b k cb ys) := by
    have hs := HA2.out.touch.size
    refine ⟨⟨hO.row.1, ?_⟩, hO.byte⟩
    rcases hO.row.2 with h | ⟨g, c', cur, h1, h2, r⟩
    · exact .inl h
    · exact .inr ⟨g, c', cur, h1, Nat.le_trans hs h2, r⟩
  clear hO hres hb3 HA2 hcap
  have FIN : Hid (∀ {W : World} {ax : Option Addr} {k c : Nat} {ys : List Int}, Own w1.heap.size W ax k c ys → RdPost w1 w.heap.size a n cap bs W → Own w.heap.size W ax k c ys ∧ Below w.heap.size w W) := fun {W ax k c ys} hO hp => by
    refine ⟨⟨⟨hO.row.1, ?_⟩, hO.byte⟩, RdPost.below HB1.out hp⟩
    rcases hO.row.2 with h | ⟨g, c', cur, h1, h2, r⟩
    · exact .inl h
    · exact .inr ⟨g, c', cur, h1, Nat.le_of_lt (Nat.lt_of_lt_of_le HL.out h2), r⟩
  go_wp2_with fail
  refine (once_any _ a n cap bs 3 _ HR3.out.1 (by decide) (by decide)).mono ?_
  rintro e w4 ⟨b4, rfl, hp4⟩
  have HR4 : Hid (RdPost w1 w.heap.size a n cap bs w4) := RdPost.step HR3.out hp4
  have HO4 : Hid (Own w1.heap.size w4 b k cb ys) := HO.out.touched hp4.2 HL.out
  clear hp4 HR3 HO
  cases b4 with
  | false =>
    go_wp2
    go_ret
    exact ⟨b, k, cb, ys, rfl, hk, FIN.out HO4.out HR4.out⟩
  | true =>
    by_cases hk0 : 0 < (k : Int)
    · go_wp2_with fail
      refine (below_any _ a n cap bs k _ HR4.out.1 (by omega)).mono ?_
      rintro e w5 ⟨v5, rfl, hv50, hv51, hp5⟩
      obtain ⟨q, rfl⟩ := Int.eq_ofNat_of_zero_le hv50
      have hq : q < k := by omega
      have hqi : (q : Int) < (k : Int) := by omega
      have HR5 : Hid (RdPost w1 w.heap.size a n cap bs w5) := RdPost.step HR4.out hp5
      have HO5 : Hid (Own w1.heap.size w5 b k cb ys) := HO4.out.touched hp5.2 HL.out
      clear hp5 HR4 HO4 hv50 hv51
      go_wp2_with fail
      refine (next_any _ a n cap bs _ HR5.out.1).mono ?_
      rintro e w6 ⟨x, rfl, hx0, hx1, hr6, ht6⟩
      have HR6 : Hid (RdPost w1 w.heap.size a n cap bs w6) := ⟨hr6, HR5.out.2.trans ht6⟩
      have HO6 : Hid (Own w1.heap.size w6 b k cb ys) := HO5.out.touched ht6 HL.out
      clear hr6 ht6 HR5 HO5
      obtain ⟨gb, off, rfl, hlb, hcq⟩ := HO6.out.toRow.get q hq
      obtain ⟨rfl, hgb⟩ : off = 0 ∧ w1.heap.size ≤ gb := by
        rcases HO6.out.row.2 with ⟨_, h0⟩ | ⟨g, c', cur, h1, h2, r⟩
        · omega
        · simp only [Value.slice.injEq, Option.some.injEq, Addr.mk.injEq] at h1
          exact ⟨h1.1.2.1, by rw [h1.1.1]; exact h2⟩
      rw [Nat.zero_add] at hcq
      have hfq : w6.frozen? ⟨gb, q, none⟩ = false := HO6.out.row.frozenAt q
      have HS : Hid (_) := HO6.out.store q x ⟨hx0, hx1⟩
      have HRS : Hid (RdPost w1 w.heap.size a n cap bs (w6.setCell ⟨gb, q, none⟩ (.int .u8 x))) := HR6.out.grown (lo := w1.heap.size) (hi := gb + 1) (Touch.setCell (p := ⟨gb, q, none⟩) (Touch.same w1.heap.size (gb + 1) w6) hgb (Nat.lt_succ_self gb) (.int .u8 x)) HL.out (Nat.le_refl _)
      go_wp2
      go_ret
      exact ⟨_, k, cb, _, rfl, hk, FIN.out HS.out HRS.out⟩
    · go_wp2
      go_ret
      exact ⟨b, k, cb, ys, rfl, hk, FIN.out HO4.out HR4.out⟩

end Go.Proofs.YtjdfbebdcpjpiaaDoor
