import Derived.Test.YtjdfbebdcpjpiaaDoorDT2
namespace Go.Proofs.YtjdfbebdcpjpiaaDoor
open Go.RowKit

def TTPost (t : Int) (w : World) (e : Ending) (w' : World) : Prop := ∃ (x : ByteArray) (ok : Bool), e = .returned (.tuple #[.string x, .bool ok]) ∧ timeX t x ok ∧ Below w.heap.size w w'
theorem pad_size {n : Int} {k : Nat} (hl : (Lib.decDigits n.toNat).length ≤ k) : (pad n k).size = k := by
  unfold pad padL
  rw [Lib.size_eq]
  simp
  omega
/-- Where a day lies when its year and month are looked for. -/
def yearI (d y r : Int) : Prop := 1970 ≤ y ∧ r = d - dAhead y ∧ 0 ≤ r
def monI (d y r : Int) (k : Nat) : Prop := 1970 ≤ y ∧ dAhead y ≤ d ∧ d < dAhead (y + 1) ∧ k < 12 ∧ r = d - dAhead y - msum y k ∧ 0 ≤ r
theorem yearI_start {d : Int} (h : 0 ≤ d) : yearI d 1970 d := by
  have e : dAhead 1970 = 0 := by decide
  exact ⟨by decide, by omega, h⟩
theorem l6PadI_any (n : Int) (k : Nat) (w : World) (h0 : 0 ≤ n) (h1 : n.toNat < 10 ^ k) (hk : 1 ≤ k ∧ k ≤ 4) (hn : n < 10000) :
    Calls Tryd.prog 51 #[.int .i64 n, .int .i64 k] w fun e w' => ∃ x, e = .returned (.string x) ∧ x.size = k ∧ Hid (x = pad n k) ∧ Below w.heap.size w w' := by
  obtain ⟨m, rfl⟩ : ∃ m : Nat, n = m := ⟨n.toNat, by omega⟩
  have hl := (dec_len (n := m) (k := k) hk.1 (by simpa using h1)).2
  refine (l6Pad_any m k w (by omega) hk.2 hl).mono fun e w' ⟨h1, h2⟩ => ⟨_, h1, ?_, rfl, h2⟩
  exact pad_size (by simpa using hl)
theorem yearI_bd {d y r : Int} (h : yearI d y r) (hd : d ≤ 2932896) : 1970 ≤ y ∧ y < 10000 ∧ 0 ≤ r ∧ r ≤ 2932896 := by
  obtain ⟨h1, h2, h3⟩ := h
  have hy : y < 10000 := by
    rcases Int.lt_or_le y 10000 with h | h
    · exact h
    · have h2 := dAhead_mono 10000 (y - 10000).toNat
      rw [show (10000 : Int) + ((y - 10000).toNat : Int) = y by omega] at h2
      have h3 : dAhead 10000 = 2932897 := by decide
      omega
  have := dAhead_bd y h1 hy
  omega
theorem yearI_next {d y r : Int} (h : yearI d y r) (hr : ldays y ≤ r) : yearI d (y + 1) (r - ldays y) := by
  obtain ⟨h1, h2, h3⟩ := h
  have := dAhead_next y
  exact ⟨by omega, by omega, by omega⟩
theorem yearI_done {d y r : Int} (h : yearI d y r) (hr : ¬ ldays y ≤ r) : monI d y r 0 := by
  obtain ⟨h1, h2, h3⟩ := h
  have := dAhead_next y
  exact ⟨h1, by omega, by omega, by decide, by show r = d - dAhead y - 0; omega, h3⟩
theorem monI_next {d y r : Int} {k : Nat} (h : monI d y r k) (hr : mdays y (k + 1) ≤ r) : monI d y (r - mdays y (k + 1)) (k + 1) := by
  obtain ⟨h1, h2, h3, h4, h5, h6⟩ := h
  have e := msum_next y k
  have e2 := dAhead_next y
  have e3 := msum_year y
  refine ⟨h1, h2, h3, ?_, by omega, by omega⟩
  rcases Nat.lt_or_ge (k + 1) 12 with h | h
  · exact h
  · have : k + 1 = 12 := by omega
    rw [this] at e
    omega
theorem monI_done {d y r : Int} {k : Nat} (h : monI d y r k) (hr : ¬ mdays y (k + 1) ≤ r) : dateR d y (k + 1) (r + 1) := by
  obtain ⟨h1, h2, h3, h4, h5, h6⟩ := h
  have e := msum_next y k
  exact ⟨h1, h2, h3, k, rfl, h4, by omega, by omega, by omega⟩
theorem monI_bd {d y r : Int} {k : Nat} (h : monI d y r k) : r ≤ 366 := by
  obtain ⟨h1, h2, h3, h4, h5, h6⟩ := h
  have e2 := dAhead_next y
  have e3 := ldays_bd y
  have e4 := msum_bd y k (by omega)
  omega

set_option maxRecDepth 10000 in
set_option maxHeartbeats 4000000 in
theorem specTimeText_any (t : Int) (w : World) : Calls Tryd.prog 40 #[.int .i64 t] w (TTPost t w) := by
  by_cases ht : 0 ≤ t ∧ t ≤ 253402300799
  · have HT : Hid (0 ≤ t ∧ t ≤ 253402300799) := ht
    obtain ⟨ht0, ht1⟩ := ht
    go_enter Tryd.func40, Tryd.ntmps40
    go_wp2_with fail
    refine (l1In_t t 0 253402300799 _ HT.out).mono ?_
    rintro e w1 ⟨rfl, hw1⟩
    subst hw1
    have hd0 : 0 ≤ t / 86400 := by omega
    have hd1 : t / 86400 ≤ 2932896 := by omega
    have hs0 : 0 ≤ t % 86400 := by omega
    have hs1 : t % 86400 < 86400 := by omega
    have HY : Hid (yearI (t / 86400) 1970 (t / 86400)) := yearI_start hd0
    go_wp2
    go_loopw [4, 6] (fun r y wr => ∃ (rr yy : Int), r = .int .i64 rr ∧ y = .int .i64 yy ∧ Hid (yearI (t / 86400) yy rr) ∧ w1 = wr) (fun _ y _ => 10000 - (intOf y).toNat)
    case atStart => exact ⟨_, _, rfl, rfl, HY, rfl⟩
    case round =>
      clear HY
      obtain ⟨rr, yy, rfl, rfl, HI, rfl⟩ := hrel
      obtain ⟨q1, q2, q3, q4⟩ := yearI_bd HI.out hd1
      go_wp2_with fail
      refine (l6Days_any yy _ (by omega) (by omega)).mono ?_
      rintro e w2 ⟨rfl, hw2⟩
      subst hw2
      have hl := ldays_bd yy
      obtain ⟨L, hL⟩ : ∃ L, L = ldays yy := ⟨_, rfl⟩
      rw [← hL] at hl ⊢
      by_cases hge : L ≤ rr
      · have HN : Hid (yearI (t / 86400) (yy + 1) (rr - L)) := by
          show yearI _ _ _
          rw [hL]
          exact yearI_next HI.out (by rw [← hL]; exact hge)
        have HLD : Hid (L = ldays yy) := hL
        clear HI hL
        go_wp2_with fail
        refine (l6Days_any yy _ (by omega) (by omega)).mono ?_
        rintro e w3 ⟨rfl, hw3⟩
        subst hw3
        rw [← HLD.out]
        go_wp2
        go_roundw
        case rel => exact ⟨_, _, rfl, rfl, HN, by trivial⟩
        case measure => simp [intOf]; omega
      · have HM : Hid (monI (t / 86400) yy rr 0) := yearI_done HI.out (by rw [← hL]; exact hge)
        clear HI hL
        go_wp2
        go_loopw [4, 7] (fun r m wr => ∃ (r2 : Int) (k : Nat), r = .int .i64 r2 ∧ m = .int .i64 (k + 1) ∧ Hid (monI (t / 86400) yy r2 k) ∧ Below w2.heap.size w2 wr) (fun _ m _ => 13 - (intOf m).toNat)
        case atStart => exact ⟨_, 0, rfl, rfl, HM, Below.refl _ _⟩
        case round =>
          clear HM hl hge q3 q4
          obtain ⟨r2, k, rfl, rfl, HI, hbr⟩ := hrel
          have hws := hbr.size
          have hk : k < 12 := HI.out.2.2.2.1
          have hr0 : 0 ≤ r2 := HI.out.2.2.2.2.2
          have hr1 : r2 ≤ 366 := monI_bd HI.out
          go_wp2_with fail
          refine (l6Month_any yy (k + 1) _ (by omega) (by omega) (by omega) (by omega)).mono ?_
          rintro e w4 ⟨rfl, hb4⟩
          have hb4' : Below w2.heap.size w2 w4 := hbr.trans (hb4.mono hws)
          have hmd := mdays_bd yy (k + 1) (by omega) (by omega)
          obtain ⟨M, hM⟩ : ∃ M, M = mdays yy (k + 1) := ⟨_, rfl⟩
          rw [← hM] at hmd ⊢
          clear hb4 hbr
          by_cases hge : M ≤ r2
          · have HN : Hid (monI (t / 86400) yy (r2 - M) (k + 1)) := by
              show monI _ _ _ _
              rw [hM]
              exact monI_next HI.out (by rw [← hM]; exact hge)
            have HMD : Hid (M = mdays yy (k + 1)) := hM
            clear HI hM
            go_wp2_with fail
            refine (l6Month_any yy (k + 1) _ (by omega) (by omega) (by omega) (by omega)).mono ?_
            rintro e w5 ⟨rfl, hb5⟩
            have hb5' : Below w2.heap.size w2 w5 := hb4'.trans (hb5.mono hb4'.size)
            rw [← HMD.out]
            clear hb5
            go_wp2
            go_roundw
            case rel => exact ⟨_, k + 1, rfl, by go_num, HN, hb5'⟩
            case measure => simp [intOf]; omega
          · have HD0 : Hid (dateR (t / 86400) yy (k + 1) (r2 + 1)) := monI_done HI.out (by rw [← hM]; exact hge)
            have hzz : r2 + 1 ≤ 31 := by omega
            clear HI hM
            go_wp2_with fail
            refine (l6PadI_any yy 4 _ (by omega) (by omega) (by decide) (by omega)).mono ?_
            rintro e w6 ⟨x1, rfl, z1, H1, b6⟩
            have B6 : Below w2.heap.size w2 w6 := hb4'.trans (b6.mono hb4'.size)
            clear b6
            go_wp2_with fail
            refine (l6PadI_any (k + 1) 2 _ (by omega) (by omega) (by decide) (by omega)).mono ?_
            rintro e w7 ⟨x2, rfl, z2, H2, b7⟩
            have B7 : Below w2.heap.size w2 w7 := B6.trans (b7.mono B6.size)
            clear b7 B6
            go_wp2_with fail
            refine (l6PadI_any (r2 + 1) 2 _ (by omega) (by omega) (by decide) (by omega)).mono ?_
            rintro e w8 ⟨x3, rfl, z3, H3, b8⟩
            have B8 : Below w2.heap.size w2 w8 := B7.trans (b8.mono B7.size)
            clear b8 B7
            go_wp2_with fail
            have k0 : 0 ≤ t % 86400 / 3600 := by omega
            have k2 : t % 86400 / 3600 < 24 := by omega
            obtain ⟨hh, hhh⟩ : ∃ hh : Int, hh = t % 86400 / 3600 := ⟨_, rfl⟩
            rw [← hhh] at k0 k2 ⊢
            have HH1 : Hid (hh = t % 86400 / 3600) := hhh
            clear hhh
            refine (l6PadI_any hh 2 _ k0 (by omega) (by decide) (by omega)).mono ?_
            rintro e w9 ⟨x4, rfl, z4, H4, b9⟩
            have B9 : Below w2.heap.size w2 w9 := B8.trans (b9.mono B8.size)
            clear b9 B8 k0 k2
            go_wp2_with fail
            have k0 : 0 ≤ t % 86400 / 60 % 60 := by omega
            have k2 : t % 86400 / 60 % 60 < 60 := by omega
            obtain ⟨mm, hmm⟩ : ∃ mm : Int, mm = t % 86400 / 60 % 60 := ⟨_, rfl⟩
            rw [← hmm] at k0 k2 ⊢
            have HH2 : Hid (mm = t % 86400 / 60 % 60) := hmm
            clear hmm
            refine (l6PadI_any mm 2 _ k0 (by omega) (by decide) (by omega)).mono ?_
            rintro e w10 ⟨x5, rfl, z5, H5, b10⟩
            have B10 : Below w2.heap.size w2 w10 := B9.trans (b10.mono B9.size)
            clear b10 B9 k0 k2
            go_wp2_with fail
            have k0 : 0 ≤ t % 60 := by omega
            have k2 : t % 60 < 60 := by omega
            obtain ⟨ss, hss⟩ : ∃ ss : Int, ss = t % 60 := ⟨_, rfl⟩
            rw [← hss] at k0 k2 ⊢
            have HH3 : Hid (ss = t % 60) := hss
            clear hss
            refine (l6PadI_any ss 2 _ k0 (by omega) (by decide) (by omega)).mono ?_
            rintro e w11 ⟨x6, rfl, z6, H6, b11⟩
            have B11 : Below w2.heap.size w2 w11 := B10.trans (b11.mono B10.size)
            clear b11 B10 k0 k2
            go_wp2
            go_ret2
            refine ⟨_, true, rfl, .inl ⟨rfl, HT.out, yy, _, _, HD0.out, ?_⟩, B11⟩
            unfold timeTx
            have e60 : t % 86400 % 60 = ss := by rw [HH3.out]; omega
            rw [e60, ← HH1.out, ← HH2.out, ← H1.out, ← H2.out, ← H3.out, ← H4.out, ← H5.out, ← H6.out]
  · have HT : Hid (¬ (0 ≤ t ∧ t ≤ 253402300799)) := ht
    clear ht
    go_enter Tryd.func40, Tryd.ntmps40
    go_wp2_with fail
    refine (l1In_f t 0 253402300799 _ HT.out).mono ?_
    rintro e w1 ⟨rfl, hw1⟩
    subst hw1
    go_wp2
    go_ret2
    exact ⟨ByteArray.empty, false, rfl, .inr ⟨rfl, HT.out, rfl⟩, Below.refl _ _⟩

end Go.Proofs.YtjdfbebdcpjpiaaDoor
