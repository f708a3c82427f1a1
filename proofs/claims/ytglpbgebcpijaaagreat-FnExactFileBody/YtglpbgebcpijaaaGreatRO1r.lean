import Derived.Test.YtglpbgebcpijaaaGreatRO1
namespace Go.Proofs.YtglpbgebcpijaaaGreat
open Go.RowKit

structure CellsRo (w : World) (b o : Nat) (a : Option Addr) (n c : Nat) (x : RoP) : Prop where
  c0 : w.cell? ⟨b, o, none⟩ = some (.slice a n c)
  c1 : w.cell? ⟨b, o + 1, none⟩ = some (.int .i64 x.need)
theorem CellsRo.of {w w' : World} {b o : Nat} {a : Option Addr} {n c : Nat} {x : RoP} (h : CellsRo w b o a n c x) (hc : ∀ i, w'.cell? ⟨b, i, none⟩ = w.cell? ⟨b, i, none⟩) : CellsRo w' b o a n c x :=
  ⟨(hc _).trans h.c0, (hc _).trans h.c1⟩
/-- The slice at a reads as these. -/
structure Ros (K : Nat → Nat → Prop) (w : World) (a : Option Addr) (n : Nat) (xs : List RoP) : Prop where
  len : xs.length = n
  max : n ≤ 9223372036854775807
  get : ∀ k, k < n → ∃ b off a1 n1 c1, a = some ⟨b, off, none⟩ ∧ b < w.heap.size ∧ CellsRo w b (off + k * 2) a1 n1 c1 (xs.getD k default) ∧ RowPu w a1 n1 (xs.getD k default).ks ∧ n1 ≤ 9223372036854775807 ∧ (PuW (xs.getD k default).ks) ∧ K n1 c1
theorem Ros.kept {K : Nat → Nat → Prop} {w w' : World} {a : Option Addr} {n : Nat} {xs : List RoP} (h : Ros K w a n xs) (hb : Below w.heap.size w w') : Ros K w' a n xs := by
  refine ⟨h.len, h.max, fun k hk => ?_⟩
  obtain ⟨b, off, a1, n1, c1, ha, hlt, hc, hp, hm⟩ := h.get k hk
  exact ⟨b, off, a1, n1, c1, ha, Nat.lt_of_lt_of_le hlt hb.size, hc.of (fun i => hb.cell (p := ⟨b, i, none⟩) hlt), hp.kept hb, hm⟩

set_option maxRecDepth 10000 in
set_option maxHeartbeats 2000000 in
theorem szRoleS_any (K : Nat → Nat → Prop) (a : Option Addr) (n cap : Nat) (xs : List RoP) (lf : Int) (w : World) (h : Ros K w a n xs) (hl0 : 0 ≤ lf) (hl1 : lf ≤ 1048576) :
    Calls Tryz.prog 48 #[.slice a n cap, .int .i64 lf] w fun e w' => ∃ r, e = .returned (.int .i64 r) ∧ (r < 0 ∨ (0 ≤ r ∧ r ≤ 1048576 ∧ n ≤ 1048576 ∧ ∀ k, k < n → (xs.getD k default).ks.length ≤ 1048576)) ∧ Below w.heap.size w w' := by
  have H0 : Hid (Ros K w a n xs) := h
  have hn := h.max
  clear h
  by_cases hlt : (n : Int) ≤ lf
  · go_enter Tryz.func48, Tryz.ntmps48
    go_wp2
    go_loopw [1, 5] (fun l i wr => ∃ (k : Nat) (left : Int), k ≤ n ∧ i = .int .i64 k ∧ l = .int .i64 left ∧ 0 ≤ left ∧ left ≤ 1048576 ∧ Hid (∀ j, j < k → (xs.getD j default).ks.length ≤ 1048576) ∧ Below w.heap.size w wr) (fun _ i _ => n - (intOf i).toNat)
    case atStart => exact ⟨0, lf - n, Nat.zero_le _, rfl, rfl, by omega, by omega, fun j hj => absurd hj (Nat.not_lt_zero _), Below.refl _ _⟩
    case round =>
      obtain ⟨k, left, hk, rfl, rfl, h0, h1, HA, hbr⟩ := hrel
      by_cases hkn : k < n
      · obtain ⟨b, off, a1, n1, d1, rfl, hlb, hc, hp, hm, _⟩ := H0.out.get k hkn
        obtain ⟨y, hy⟩ : ∃ y, y = xs.getD k default := ⟨_, rfl⟩
        rw [← hy] at hc hp
        have HY : Hid (y = xs.getD k default) := hy
        obtain ⟨c0, c1⟩ := hc.of (w' := wr) (fun i => hbr.cell (p := ⟨b, i, none⟩) hlb)
        have HLN : Hid (y.ks.length = n1) := hp.len
        have hkni : (k : Int) < (n : Int) := by omega
        clear hc hy hp
        go_wp2_with fail
        refine (szRole_gen y a1 n1 d1 left _ hm h0 h1).mono ?_
        rintro e w2 ⟨r, rfl, hr, hb2⟩
        have hb2' : Below w.heap.size w w2 := hbr.trans (hb2.mono hbr.size)
        by_cases hneg : r < 0
        · clear hr
          go_wp2
          go_ret
          exact ⟨_, rfl, .inl (by decide), hb2'⟩
        · have hr1 : 0 ≤ r := by omega
          have hr2 : r ≤ 1048576 := by omega
          have HR : Hid (y.ks.length ≤ 1048576) := by show _ ≤ _; rw [HLN.out]; omega
          clear hr
          go_wp2
          go_roundw
          case rel =>
            refine ⟨k + 1, r, by omega, by go_num, rfl, hr1, hr2, fun j hj => ?_, hb2'⟩
            by_cases hjk : j = k
            · subst hjk; rw [← HY.out]; exact HR.out
            · exact HA.out j (by omega)
          case measure => simp [intOf]; omega
      · obtain rfl : n = k := by omega
        go_wp2
        go_ret
        exact ⟨_, rfl, .inr ⟨h0, h1, by omega, HA.out⟩, hbr⟩
  · go_enter Tryz.func48, Tryz.ntmps48
    go_wp2
    go_ret
    exact ⟨_, rfl, .inl (by decide), Below.refl _ _⟩

set_option maxRecDepth 10000 in
set_option maxHeartbeats 4000000 in
theorem eqRoleS_same (K L : Nat → Nat → Prop) (a b : Option Addr) (n ca cb : Nat) (xs : List RoP) (w : World) (h : Ros K w a n xs) (h2 : Ros L w b n xs) :
    Calls Tryz.prog 69 #[.slice a n ca, .slice b n cb] w fun e w' => e = .returned (.bool true) ∧ Below w.heap.size w w' := by
  have HK : Hid (Ros K w a n xs) := h
  have HK2 : Hid (Ros L w b n xs) := h2
  have hn := h.max
  clear h h2
  go_enter Tryz.func69, Tryz.ntmps69
  go_wp2
  go_loopw [5] (fun i wr => ∃ k : Nat, k ≤ n ∧ i = .int .i64 k ∧ Below w.heap.size w wr) (fun i _ => n - (intOf i).toNat)
  case atStart => exact ⟨0, Nat.zero_le _, rfl, Below.refl _ _⟩
  case round =>
    obtain ⟨k, hk, rfl, hbr⟩ := hrel
    by_cases hkn : k < n
    · obtain ⟨b1, off1, p1, n1, d1, rfl, hl1, hc1, hp1, hm1, _⟩ := HK.out.get k hkn
      obtain ⟨b2, off2, q1, m1, e1, rfl, hl2, hc2, hp2, hm2, _⟩ := HK2.out.get k hkn
      obtain ⟨y, hy⟩ : ∃ y, y = xs.getD k default := ⟨_, rfl⟩
      rw [← hy] at hc1 hc2 hp1 hp2
      clear hy
      obtain rfl : m1 = n1 := by rw [← hp2.len, ← hp1.len]
      obtain ⟨c0, c1⟩ := hc1.of (w' := wr) (fun i => hbr.cell (p := ⟨b1, i, none⟩) hl1)
      obtain ⟨u0, u1⟩ := hc2.of (w' := wr) (fun i => hbr.cell (p := ⟨b2, i, none⟩) hl2)
      have HP1 : Hid (RowPu wr.drew p1 m1 y.ks) := hp1.kept hbr.drew
      have HP2 : Hid (RowPu wr.drew q1 m1 y.ks) := hp2.kept hbr.drew
      have hkni : (k : Int) < (n : Int) := by omega
      have hsz := hbr.size
      clear hc1 hc2 hp1 hp2
      go_wp2_with fail
      go_region_with (go_at_call 97; refine (eqRole_same y p1 q1 m1 d1 e1 _ HP1.out HP2.out (by unfold maxLen; omega)).mono ?_; rintro e w2 ⟨rfl, hb2⟩)
      all_goals
        have b5 : Below w.heap.size w w2 := hbr.drew.trans (hb2.mono hsz)
        go_wp2
        go_roundw
        case rel => exact ⟨k + 1, by omega, by go_num, b5⟩
        case measure => simp [intOf]; omega
    · go_wp2
      go_ret
      exact ⟨rfl, hbr⟩

theorem Tryz.infoRo : (Tryz.prog.info? 113).map (fun i => (i.zero, i.size, i.bytes)) = some (some (.agg #[.slice none 0 0, .int .i64 0]), 2, 32) := by kernel_rfl
/-- The first k lie in the row g, what they have behind it. -/
def RoPre (w : World) (g k : Nat) (xs : List RoP) : Prop := ∀ j, j < k → ∃ p n, CellsRo w g (j * 2) p n n (xs.getD j default) ∧ OwnPu (g + 1) w p n n (xs.getD j default).ks ∧ n ≤ 1048576 ∧ (PuW (xs.getD j default).ks)
theorem RoPre.kept {w w' : World} {g k : Nat} {xs : List RoP} (h : RoPre w g k xs) (hg : g < w.heap.size) (hb : Below w.heap.size w w') : RoPre w' g k xs := fun j hj => by
  obtain ⟨p, n, h3, h4, h5⟩ := h j hj
  exact ⟨p, n, h3.of (fun i => hb.cell (p := ⟨g, i, none⟩) hg), h4.kept hb, h5⟩
structure PutRoS (B : Nat) (w w' : World) (g n cap i : Nat) (a1 : Option Addr) (n1 d1 : Nat) (x : RoP) : Prop where
  own : ∃ vs, w'.ownsRow B 113 2 (.slice (some ⟨g, 0, none⟩) n cap) n vs
  old : ∀ j, j < n * 2 → j < i * 2 ∨ i * 2 + 2 ≤ j → w'.cell? ⟨g, j, none⟩ = w.cell? ⟨g, j, none⟩
  cells : CellsRo w' g (i * 2) a1 n1 d1 x
theorem putRo_is {B : Nat} {w : World} {g n cap : Nat} {vs : List Value} (h : w.ownsRow B 113 2 (.slice (some ⟨g, 0, none⟩) n cap) n vs) (i : Nat) (hi : i < n) (a1 : Option Addr) (n1 d1 : Nat) (x : RoP) : PutRoS B w (putRo w g (i * 2) (.slice a1 n1 d1) (.int .i64 x.need)) g n cap i a1 n1 d1 x := by
  have h1 := ((h.stored (i * 2) (.slice a1 n1 d1)).1.stored (i * 2 + 1) (.int .i64 x.need)).1
  have hl : vs.length = n * 2 := h.1
  have cc := fun j (hj : j < n * 2) => h1.cellAt j hj
  refine ⟨⟨_, h1⟩, fun j hj ho => ?_, ⟨?_, ?_⟩⟩
  · refine (cc j hj).trans ?_
    rw [h.cellAt j hj]
    rw [List.getElem?_set_ne (by omega), List.getElem?_set_ne (by omega)]
  · refine (cc _ (by omega)).trans ?_
    rw [List.getElem?_set_ne (by omega), List.getElem?_set_self (by omega)]
  · refine (cc _ (by omega)).trans ?_
    rw [List.getElem?_set_self (by simp; omega)]

set_option maxRecDepth 10000 in
set_option maxHeartbeats 4000000 in
theorem toRoleS_any (K : Nat → Nat → Prop) (a : Option Addr) (n cap : Nat) (xs : List RoP) (w : World) (h : Ros K w a n xs) (hn : n ≤ 1048576) (hz : ∀ k, k < n → (xs.getD k default).ks.length ≤ 1048576) :
    Calls Tryz.prog 63 #[.slice a n cap] w fun e w' => ∃ a', e = .returned (.slice a' n n) ∧ KeepB w.heap.size w' (fun W => Ros (fun n c => n ≤ c ∧ n ≤ 1048576) W a' n xs) ∧ Below w.heap.size w w' := by
  obtain ⟨i0, hi, hz0, hz1, hz2⟩ := info_parts Tryz.infoRo
  have HK : Hid (Ros K w a n xs) := h
  have HZ : Hid (∀ k, k < n → (xs.getD k default).ks.length ≤ 1048576) := hz
  have hlen : Hid (xs.length = n) := h.len
  clear h hz
  go_enter Tryz.func63, Tryz.ntmps63
  go_wp2_with (first | (at_make; refine wpList_make_full _ rfl _ _ 38 rfl w.heap.size 113 i0 _ 2 Tryz.underlying38 hi hz0 hz1 _ _ _ _ n rfl rfl rfl rfl (by rw [hz2]; omega) (by unfold maxLen; omega) (by exact Nat.le_refl _) ?_; intro w1 hown hgrow))
  have hbl : Below w.heap.size w w1 := (Below.refl _ _).grown hgrow (Nat.le_refl _) (by simp)
  clear hgrow hi hz0 hz1 hz2
  go_loopw [4] (fun i wr => ∃ k : Nat, k ≤ n ∧ i = .int .i64 k ∧ Hid (∃ vs, wr.ownsRow w.heap.size 113 2 (.slice (some ⟨w.heap.size, 0, none⟩) n n) n vs) ∧ Hid (RoPre wr w.heap.size k xs) ∧ Below w.heap.size w wr) (fun i _ => n - (intOf i).toNat)
  case atStart => exact ⟨0, Nat.zero_le _, rfl, ⟨_, hown⟩, fun j hj => absurd hj (Nat.not_lt_zero _), hbl⟩
  case round =>
    obtain ⟨k, hk, rfl, HOR, HPRE, hbr⟩ := hrel
    obtain ⟨vs, hor⟩ := HOR.out
    have hgl := (hor.lt _ rfl).2
    have HOV : Hid (_) := hor
    clear HOR hor hown hbl
    by_cases hkn : k < n
    · obtain ⟨b, off, a1, n1, d1, rfl, hlb, hc, hp, hm, hu, _⟩ := HK.out.get k hkn
      have hgp := HZ.out k hkn
      obtain ⟨y, hy⟩ : ∃ y, y = xs.getD k default := ⟨_, rfl⟩
      rw [← hy] at hc hp hgp hu
      have HY : Hid (y = xs.getD k default) := hy
      have HU : Hid (PuW y.ks) := hu
      have hn1 : n1 ≤ 1048576 := by rw [← hp.len]; exact hgp
      obtain ⟨c0, c1⟩ := hc.of (w' := wr) (fun i => hbr.cell (p := ⟨b, i, none⟩) hlb)
      have HP : Hid (RowPu wr a1 n1 y.ks) := hp.kept hbr
      have hkni : (k : Int) < (n : Int) := by omega
      have hsz := hbr.size
      clear hc hy hp hgp hu
      go_wp2_with fail
      refine (toRole_any y a1 n1 d1 _ HP.out hn1).mono ?_
      rintro e w2 ⟨p1, rfl, hp2, hb2⟩
      have hor2 : w2.ownsRow w.heap.size 113 2 (.slice (some ⟨w.heap.size, 0, none⟩) n n) n vs := ownsRow_below HOV.out hb2
      have hs2 := hb2.size
      have fr : ∀ j, w2.frozen? ⟨w.heap.size, j, none⟩ = false := fun j => hor2.frozenAt j
      have hvl : vs.length = n * 2 := hor2.1
      have cx : ∀ j, j < n * 2 → ∃ z, w2.cell? ⟨w.heap.size, j, none⟩ = some z := fun j hj => ⟨_, (hor2.cellAt j hj).trans (List.getElem?_eq_getElem (by omega))⟩
      obtain ⟨z0, x0⟩ := cx (k * 2) (by omega)
      obtain ⟨z1, x1⟩ := cx (k * 2 + 1) (by omega)
      have f0 := fr (k * 2)
      have f1 := fr (k * 2 + 1)
      have hS := putRo_is hor2 k hkn p1 n1 n1 y
      have hT := putRo_touch w2 w.heap.size (k * 2) (.slice p1 n1 n1) (.int .i64 y.need)
      have hP : RoPre (putRo w2 w.heap.size (k * 2) (.slice p1 n1 n1) (.int .i64 y.need)) w.heap.size (k + 1) xs := by
        intro j hj
        by_cases hjk : j = k
        · subst hjk
          rw [← HY.out]
          exact ⟨p1, n1, hS.cells, (hp2.mono (show w.heap.size + 1 ≤ wr.heap.size by omega)).touch5 hT (Nat.le_refl _), hn1, HU.out⟩
        · obtain ⟨r1, m1, q2, q3, q4⟩ := (HPRE.out.kept hgl hb2) j (by omega)
          have hx := hS.old
          exact ⟨r1, m1, ⟨(hx _ (by omega) (by omega)).trans q2.c0, (hx _ (by omega) (by omega)).trans q2.c1⟩, q3.touch5 hT (Nat.le_refl _), q4⟩
      have hB2 := hbr.trans (hb2.mono hsz)
      have hB4 : Below w.heap.size w (putRo w2 w.heap.size (k * 2) (.slice p1 n1 n1) (.int .i64 y.need)) := hB2.trans (hT.below (Nat.le_refl _) (by omega))
      have FIN : Hid (_ ∧ _ ∧ _) := ⟨hS.own, hP, hB4⟩
      have hgl2 : w.heap.size < w2.heap.size := by omega
      clear fr cx hS hP hB4 hB2 hor2 hp2 hb2 hvl HPRE HOV HP HK hT
      go_wp2
      go_roundw
      case rel => exact ⟨k + 1, by omega, by go_num, FIN.out.1, FIN.out.2.1, FIN.out.2.2⟩
      case measure => simp [intOf]; omega
    · obtain rfl : n = k := by omega
      have HX : Hid (n ≤ 9223372036854775807) := HK.out.max
      clear HOV HK
      go_wp2
      go_ret
      refine ⟨_, rfl, fun W hW => ⟨hlen.out, HX.out, fun j hj => ?_⟩, hbr⟩
      obtain ⟨p1, m1, h3, h4, h5, h6⟩ := HPRE.out j hj
      have hcc : ∀ i, W.cell? ⟨w.heap.size, i, none⟩ = _ := fun i => World.cell?_of_block (a := ⟨w.heap.size, i, none⟩) (hW.block w.heap.size hgl (.inr (Nat.le_refl _)))
      exact ⟨w.heap.size, 0, _, _, _, rfl, Nat.lt_of_lt_of_le hgl hW.size, by rw [Nat.zero_add]; exact h3.of hcc, (h4.touch5 hW (by omega)).toRow, by omega, h6, Nat.le_refl _, h5⟩

end Go.Proofs.YtglpbgebcpijaaaGreat
