import Derived.Test.YtflioloegppnmaaMTd
namespace Go.Proofs.Ytflioloegppnmaa
open Go.RowKit Go.Sort

theorem tlF_fine (zs : List Int) (P ix : Nat) : 0 < (tlF zs P ix 4).length ↔ 4 * ix * P + P ≤ zs.length := by
  constructor
  · intro h
    have := (tlF_hit zs P ix 4 0 h).2.1
    simpa using this
  · intro h
    exact tlF_has zs P ix 0 (by decide) (by simpa using h)
theorem tls_nil (w : World) (a : Option Addr) : Tls w a 0 [] := ⟨rfl, by decide, fun k hk => absurd hk (Nat.not_lt_zero _)⟩
theorem tdV_nil (m : Int) (h : ¬ (1 ≤ m ∧ m ≤ 200)) : tdV [] m = (0, -1) := by unfold tdV; rw [if_neg h]

set_option maxRecDepth 20000 in
set_option maxHeartbeats 16000000 in
theorem lawTiled_walk (a : Option Addr) (n cap : Nat) (bz : List Int) (w : World) (hr : IsRow .u8 w a n cap bz) :
    Calls Try.prog 3 #[.slice a n cap] w fun e w' => e = .returned (.bool true) ∧ Below w.heap.size w w' := by
  obtain ⟨i0, hi, hz0, hz1, hz2⟩ := info_parts Try.infoTl
  obtain ⟨hrow, hmax⟩ := hr.row
  obtain ⟨bs, hbs⟩ : ∃ bs, bs = bz.take n := ⟨_, rfl⟩
  rw [← hbs] at hrow
  clear hbs hr
  unfold maxLen at hmax
  have H0 : Hid (Row w a n bs) := hrow
  clear hrow
  by_cases hbig : 1048576 < n
  · have hd : decide (1048576 < n) = true := decide_eq_true hbig
    go_enter Try.func3, Try.ntmps3
    go_wp2_with fail
    refine (big_anyQ a n cap _ (by omega)).mono ?_
    rintro e w1 ⟨rfl, hw⟩
    have hw2 := hw.symm
    subst hw2
    rw [hd]
    go_wp2
    go_ret
    exact ⟨rfl, Below.refl _ _⟩
  have hd : decide (1048576 < n) = false := decide_eq_false hbig
  have hn : n ≤ 1000000000 := by omega
  go_enter Try.func3, Try.ntmps3
  go_wp2_with fail
  refine (big_anyQ a n cap _ (by omega)).mono ?_
  rintro e w1 ⟨rfl, hw⟩
  have hw2 := hw.symm
  subst hw2
  rw [hd]
  clear hd
  go_wp2_with fail
  refine (drawTile_any a n cap bs _ H0.out hn).mono ?_
  rintro e w1 ⟨ar, nr, cr, zs, x0, y0, rfl, hnr, hor, hb1⟩
  have hcr := hor.caps
  have HX1 : Hid (RowU w1 ar nr zs) := hor.toRow
  have HLN : Hid (zs.length = nr) := hor.len
  have HZ : Hid (∀ k, U64 (zs.getD k 0)) := hor.rng
  clear hor
  go_wp2_with fail
  refine (implLogRoot_any ar nr cr zs _ HX1.out).mono ?_
  rintro e w2 ⟨rfl, hb2⟩
  have B2 := keepT hb1 hb2
  have HX2 : Hid (RowU w2 ar nr zs) := HX1.out.kept hb2
  obtain ⟨t, ht⟩ : ∃ t, t = lrR zs := ⟨_, rfl⟩
  have HT : Hid (t = lrR zs) := ht
  rw [← ht]
  clear ht HX1 hb1 hb2
  obtain ⟨root, ok⟩ := t
  go_wp2_with fail
  refine (specLogRoot_any ar nr cr zs _ HX2.out hcr.1 hcr.2).mono ?_
  rintro e w3 ⟨rfl, hb3⟩
  rw [← HT.out]
  have HB3 : Hid (Below w.heap.size w w3) := keepT B2 hb3
  have HX3 : Hid (RowU w3 ar nr zs) := HX2.out.kept hb3
  have z1 : (root != root) = false := by simp
  have z2 : (ok != ok) = false := by simp
  clear hb3 HX2 B2
  have hsz3 : w3.heap.size ≤ w3.heap.size := Nat.le_refl _
  by_cases hmain : 1 ≤ nr ∧ nr ≤ 200
  · have hnr1 : 1 ≤ nr := hmain.1
    have hnr2 : nr ≤ 200 := hmain.2
    clear hmain
    have HRO : Hid (root = rootL zs) := by have h := HT.out; unfold lrR at h; rw [if_pos (by rw [HLN.out]; exact hnr2)] at h; exact (Prod.ext_iff.1 h).1
    obtain rfl : ok = true := by have h := HT.out; unfold lrR at h; rw [if_pos (by rw [HLN.out]; exact hnr2)] at h; exact (Prod.ext_iff.1 h).2
    have hn0 : ¬ nr = 0 := by omega
    have hn0i : ¬ (nr : Int) = 0 := by omega
    have hn0b : ((nr : Int) == 0) = false := by simp; omega
    clear HT
    have HO0 : Hid (OwnTl w3.heap.size (w3.alloc (.cells #[] 37)) (some ⟨w3.heap.size, 0, none⟩) 0 0 []) := ⟨[], rfl, World.ownsRow_lit w3 #[] 0 (Nat.le_refl _) (Nat.zero_le _) rfl, fun p hp => by simp at hp⟩
    have hbe : Below w3.heap.size w3 (w3.alloc (.cells #[] 37)) := (Below.refl _ _).alloc (Nat.le_refl _) _
    go_wp2
    go_loopw [12, 13, 14, 15] (fun o b p l wr => ∃ (L P m cc : Nat) (ao : Option Addr) (xs : List TP) (M : Int), L ≤ 4 ∧ l = .int .i64 L ∧ p = .int .i64 P ∧ 1 ≤ P ∧ P ≤ 256 ∧ b = .int .i64 M ∧ 1 ≤ M ∧ M ≤ 200 ∧ o = .slice ao m cc ∧ m ≤ 201 * L ∧ Hid (P = 4 ^ L) ∧ Hid (OwnTl w3.heap.size wr ao m cc xs) ∧ Hid (TlAll zs xs) ∧ Hid (TlLow zs xs L) ∧ Hid (Bef zs xs M) ∧ Below w3.heap.size w3 wr) (fun _ _ _ l _ => 4 - (intOf l).toNat)
    case atStart => exact ⟨0, 1, 0, 0, _, [], (nr : Int), Nat.zero_le _, rfl, rfl, by decide, by decide, rfl, by omega, by omega, rfl, by omega, rfl, HO0, fun t ht => by simp at ht, TlLow.zero _ _, by have h := Bef.start zs HZ.out (by rw [HLN.out]; omega); rw [HLN.out] at h; exact h, hbe⟩
    case round =>
      obtain ⟨L, P, m, cc, ao, xs, M, hL, rfl, rfl, hP1, hP2, rfl, hM1, hM2, rfl, hm, HP, HO, HA, HLo, HB, hbr⟩ := hrel
      clear HO0 hbe
      by_cases hL4 : L < 4
      · have hL4i : (L : Int) < 4 := by omega
        have hP64 : P ≤ 64 := by have h := pow4_le L (by omega); rw [HP.out]; exact h.2
        go_wp2
        go_loopw [12, 16] (fun o i wr => ∃ (ix m' cc' : Nat) (ao' : Option Addr) (ys : List TP), ix ≤ 201 ∧ i = .int .i64 ix ∧ o = .slice ao' m' cc' ∧ m' ≤ 201 * L + ix ∧ Hid (OwnTl w3.heap.size wr ao' m' cc' ys) ∧ Hid (TlAll zs ys) ∧ Hid (TlLow zs ys L) ∧ Hid (TlHas zs ys L ix) ∧ Hid (Bef zs ys M) ∧ Below w3.heap.size w3 wr) (fun _ i _ => 201 - (intOf i).toNat)
        case atStart => exact ⟨0, m, cc, ao, xs, Nat.zero_le _, rfl, rfl, by omega, HO, HA, HLo, fun ix h1 => absurd h1 (Nat.not_lt_zero _), HB, hbr⟩
        case round =>
          obtain ⟨ix, m', cc', ao', ys, hix, rfl, rfl, hm', HO2, HA2, HL2, HH2, HB2, hbq⟩ := hrel
          clear HO HA HLo HB hbr hm
          obtain ⟨A, hA⟩ : ∃ A, A = 4 * ix * P := ⟨_, rfl⟩
          have HAe : Hid (A = 4 * ix * P) := hA
          have hAb : A ≤ 60000 := by
            have h1 : 4 * ix * P ≤ 804 * 64 := Nat.mul_le_mul (by omega) hP64
            omega
          have hA4 : 4 * ix ≤ A := by rw [hA]; exact Nat.le_mul_of_pos_right _ (by omega)
          have hAi : 4 * (ix : Int) * (P : Int) = (A : Int) := by rw [hA]; push_cast; rfl
          clear hA
          have u1 : IntKind.i64.wrap (A : Int) = (A : Int) := by rw [IntKind.wrap_i64]; omega
          have hqs := hbq.size
          by_cases hlt : A < nr
          · have hix2 : ix ≤ 200 := by omega
            have hixi : (ix : Int) ≤ 200 := by omega
            have hlti : (A : Int) < (nr : Int) := by omega
            obtain ⟨hs, hhs⟩ : ∃ hs, hs = tlF zs P ix 4 := ⟨_, rfl⟩
            have HTR : Hid (tileR zs L ix = (hs, decide (0 < hs.length))) := by
              show _ = _
              unfold tileR
              rw [if_pos (by rw [HLN.out]; omega), Int.toNat_natCast, Int.toNat_natCast, ← HP.out, hhs]
            have HHS : Hid (hs = tlF zs P ix 4) := hhs
            have hq4 : hs.length ≤ 4 := by rw [hhs]; exact tlF_len zs P ix 4
            have hfine : 0 < hs.length ↔ A + P ≤ nr := by rw [hhs, tlF_fine, HLN.out, ← HAe.out]
            clear hhs
            go_wp2_with fail
            refine (implTile_any ar nr cr zs L ix _ (HX3.out.kept hbq) (by omega) hcr.1 hcr.2).mono ?_
            rintro e w4 ⟨ah, ch, rfl, hoh, hb4⟩
            rw [HTR.out] at hoh ⊢
            dsimp only at hoh ⊢
            obtain ⟨q, hq⟩ : ∃ q, q = hs.length := ⟨_, rfl⟩
            have HQ : Hid (q = hs.length) := hq
            rw [← hq] at hoh hq4 hfine ⊢
            clear hq HTR
            have hs4 := hb4.size
            have HOH : Hid (OwnU wr.heap.size w4 ah q ch hs) := hoh
            have B4 : Below w3.heap.size w3 w4 := keepT hbq hb4
            clear hoh
            by_cases hfin : A + P ≤ nr
            · have hq0 : 0 < q := hfine.2 hfin
              have hfi : (A : Int) + (P : Int) ≤ (nr : Int) := by omega
              rw [decide_eq_true hq0]
              have hq4i : ¬ (4 : Int) < (q : Int) := by omega
              go_wp2
              go_loopw [19] (fun j wr => ∃ k : Nat, k ≤ q ∧ j = .int .i64 k ∧ Below w4.heap.size w4 wr) (fun j _ => q - (intOf j).toNat)
              case atStart => exact ⟨0, Nat.zero_le _, rfl, Below.refl _ _⟩
              case round =>
                obtain ⟨k, hk, rfl, hbj⟩ := hrel
                by_cases hkq : k < q
                · have hkqi : (k : Int) < (q : Int) := by omega
                  obtain ⟨_, hF1, hF2⟩ := tlF_hit zs P ix 4 k (by rw [← HHS.out, ← HQ.out]; exact hkq)
                  rw [← HHS.out] at hF2
                  obtain ⟨Fr, hFr⟩ : ∃ Fr, Fr = (4 * ix + k) * P := ⟨_, rfl⟩
                  rw [← hFr, HLN.out] at hF1
                  rw [← hFr] at hF2
                  have hFi : (4 * (ix : Int) + (k : Int)) * (P : Int) = (Fr : Int) := by rw [hFr]; push_cast; rfl
                  clear hFr
                  have u2 : IntKind.i64.wrap (Fr : Int) = (Fr : Int) := by rw [IntKind.wrap_i64]; omega
                  have hci : (Fr : Int) + (P : Int) ≤ (nr : Int) := by omega
                  have hci2 : ¬ (nr : Int) < (Fr : Int) + (P : Int) := by omega
                  have hi2 : (Fr : Int) + (P : Int) ≤ (cr : Int) := by omega
                  have hi3 : (Fr : Int) ≤ (Fr : Int) + (P : Int) := by omega
                  have hi4 : ¬ cr = Fr := by omega
                  have hi5 : ¬ (Fr : Int) = (cr : Int) := by omega
                  have t1 : ((Fr : Int) + (P : Int) - (Fr : Int)).toNat = P := by omega
                  have t2 : ((Fr : Int) + (P : Int)).toNat = Fr + P := by omega
                  have t3 : (Fr : Int) + (P : Int) - (Fr : Int) = (P : Int) := by omega
                  have t4 : Fr + P - Fr = P := by omega
                  have hrowj := HX3.out.kept (keepT B4 hbj)
                  obtain ⟨b, off, rfl, hlb, _⟩ := hrowj.get 0 (by omega)
                  obtain ⟨r, hr⟩ : ∃ r, r = rootL ((zs.drop Fr).take P) := ⟨_, rfl⟩
                  have HR : Hid (lrR ((zs.drop Fr).take P) = (r, true)) := by
                    show _ = _
                    unfold lrR
                    rw [if_pos (by simp; omega), hr]
                  have HRW : Hid (RowU wr (some ⟨b, off + Fr, none⟩) P ((zs.drop Fr).take P)) := (hrowj.drop Fr (by omega)).take P (by omega)
                  rw [← hr] at hF2
                  obtain ⟨bh, oh, rfl, hlh, hch⟩ := (HOH.out.kept hbj).toRow.get k hkq
                  rw [hF2] at hch
                  have HCH : Hid (_ = _) := hch
                  clear hr hrowj hF2 hch
                  go_wp2_with fail
                  refine (implLogRoot_any (some ⟨b, off + Fr, none⟩) P (cr - Fr) ((zs.drop Fr).take P) _ HRW.out).mono ?_
                  rintro e w5 ⟨rfl, hb5⟩
                  rw [HR.out]
                  dsimp only
                  have hch5 := (hb5.cell (p := ⟨bh, oh + k, none⟩) hlh).trans HCH.out
                  have z3 : (r != r) = false := by simp
                  have B5 : Below w4.heap.size w4 w5 := keepT hbj hb5
                  clear HR HRW HCH hb5
                  go_wp2
                  go_roundw
                  case rel => exact ⟨k + 1, by omega, by go_num, B5⟩
                  case measure => simp [intOf]; omega
                · obtain rfl : k = q := by omega
                  obtain ⟨C, hC⟩ : ∃ C, C = k * P := ⟨_, rfl⟩
                  have hCb : C ≤ 1000 := by
                    have h1 : k * P ≤ 4 * 64 := Nat.mul_le_mul hq4 hP64
                    omega
                  have hCi : (k : Int) * (P : Int) = (C : Int) := by rw [hC]; push_cast; rfl
                  have hno : k < 4 → ¬ A + C + P ≤ nr := by
                    intro h4 hc
                    have := tlF_has zs P ix k h4 (by rw [HLN.out, Nat.add_mul, ← HAe.out, ← hC]; exact hc)
                    rw [← HHS.out, ← HQ.out] at this
                    omega
                  clear hC
                  by_cases h4 : k < 4
                  · have h4i : (k : Int) < 4 := by omega
                    have hnoi : ¬ (A : Int) + (C : Int) + (P : Int) ≤ (nr : Int) := by have := hno h4; omega
                    clear hno
                    obtain ⟨its, hits, hor, hall⟩ := HO2.out.kept (keepT hb4 hbj)
                    have hal : Below wr.heap.size wr (wr.alloc (.cells #[.int .i64 L, .int .i64 ix, .slice ah k ch] 37)) := (Below.refl _ _).alloc (Nat.le_refl _) _
                    have B5 : Below w3.heap.size w3 (wr.alloc (.cells #[.int .i64 L, .int .i64 ix, .slice ah k ch] 37)) := keepT (keepT B4 hbj) hal
                    have hs5 := B5.size
                    have hor5 := ownsRow_below hor hal
                    have HALL : Hid (∀ p ∈ its ++ [((⟨L, ix, hs⟩ : TP), ah, k, ch)], OwnU w3.heap.size (wr.alloc (.cells #[.int .i64 L, .int .i64 ix, .slice ah k ch] 37)) p.2.1 p.2.2.1 p.2.2.2 p.1.hs ∧ p.2.2.1 ≤ 4) := by
                      intro p hp
                      rcases List.mem_append.1 hp with hp | hp
                      · exact ⟨(hall p hp).1.kept hal, (hall p hp).2⟩
                      · simp only [List.mem_singleton] at hp
                        subst hp
                        exact ⟨((HOH.out.kept hbj).kept hal).mono hqs, hq4⟩
                    have hcl : ∀ j u, (flT [((⟨L, ix, hs⟩ : TP), ah, k, ch)])[j]? = some u → (wr.alloc (.cells #[.int .i64 L, .int .i64 ix, .slice ah k ch] 37)).cell? ((⟨wr.heap.size, 0, none⟩ : Addr).add j) = some u := cell_tile wr L ix ah k ch
                    have HITS : Hid (its.map Prod.fst = ys) := hits
                    clear hor hall hits hal
                    go_wp2_with (first | (at_builtin; refine wpList_append_own _ rfl (.tmp 170) (.tmp 175) 32 rfl w3.heap.size 37 i0 _ 3 40 Try.underlying32 hi hz0 hz1 hz2 rfl (by decide) _ m' _ rfl hor5 ⟨wr.heap.size, 0, none⟩ 1 1 (flT [((⟨L, ix, hs⟩ : TP), ah, k, ch)]) rfl rfl hcl (flT_one _) (by unfold maxLen; omega) (by omega) (by exact hs5) ?_; intro v6 w6 hv6 hg6 _))
                    rw [← flT_append] at hv6
                    obtain ⟨a6, c6, rfl, ho6⟩ := ownTl_appended hv6 HALL.out hg6 (fun k hk => own_kind hor5 k hk)
                    have B6 : Below w3.heap.size w3 w6 := B5.grown hg6 hs5 (fun k hk => (hor5.lt k hk).1)
                    have HO6 : Hid (OwnTl w3.heap.size w6 a6 (m' + 1) c6 (ys ++ [⟨L, ix, tlF zs (4 ^ L) ix 4⟩])) := by
                      show OwnTl _ _ _ _ _ _
                      rw [List.map_append, HITS.out] at ho6
                      rw [← HP.out, ← HHS.out]
                      exact ho6
                    clear ho6 hv6 hg6 hor5 hcl HALL
                    go_roundw
                    case rel => exact ⟨ix + 1, m' + 1, c6, a6, _, by omega, by go_num, rfl, by omega, HO6, HA2.out.snoc L ix, HL2.out.cat _, HH2.out.snoc, HB2.out.snoc _, B6⟩
                    case measure => simp [intOf]; omega
                  · have h4i : ¬ (k : Int) < 4 := by omega
                    clear hno
                    by_cases hyes : (A : Int) + (C : Int) + (P : Int) ≤ (nr : Int)
                    · skip
                      obtain ⟨its, hits, hor, hall⟩ := HO2.out.kept (keepT hb4 hbj)
                      have hal : Below wr.heap.size wr (wr.alloc (.cells #[.int .i64 L, .int .i64 ix, .slice ah k ch] 37)) := (Below.refl _ _).alloc (Nat.le_refl _) _
                      have B5 : Below w3.heap.size w3 (wr.alloc (.cells #[.int .i64 L, .int .i64 ix, .slice ah k ch] 37)) := keepT (keepT B4 hbj) hal
                      have hs5 := B5.size
                      have hor5 := ownsRow_below hor hal
                      have HALL : Hid (∀ p ∈ its ++ [((⟨L, ix, hs⟩ : TP), ah, k, ch)], OwnU w3.heap.size (wr.alloc (.cells #[.int .i64 L, .int .i64 ix, .slice ah k ch] 37)) p.2.1 p.2.2.1 p.2.2.2 p.1.hs ∧ p.2.2.1 ≤ 4) := by
                        intro p hp
                        rcases List.mem_append.1 hp with hp | hp
                        · exact ⟨(hall p hp).1.kept hal, (hall p hp).2⟩
                        · simp only [List.mem_singleton] at hp
                          subst hp
                          exact ⟨((HOH.out.kept hbj).kept hal).mono hqs, hq4⟩
                      have hcl : ∀ j u, (flT [((⟨L, ix, hs⟩ : TP), ah, k, ch)])[j]? = some u → (wr.alloc (.cells #[.int .i64 L, .int .i64 ix, .slice ah k ch] 37)).cell? ((⟨wr.heap.size, 0, none⟩ : Addr).add j) = some u := cell_tile wr L ix ah k ch
                      have HITS : Hid (its.map Prod.fst = ys) := hits
                      clear hor hall hits hal
                      go_wp2_with (first | (at_builtin; refine wpList_append_own _ rfl (.tmp 170) (.tmp 175) 32 rfl w3.heap.size 37 i0 _ 3 40 Try.underlying32 hi hz0 hz1 hz2 rfl (by decide) _ m' _ rfl hor5 ⟨wr.heap.size, 0, none⟩ 1 1 (flT [((⟨L, ix, hs⟩ : TP), ah, k, ch)]) rfl rfl hcl (flT_one _) (by unfold maxLen; omega) (by omega) (by exact hs5) ?_; intro v6 w6 hv6 hg6 _))
                      rw [← flT_append] at hv6
                      obtain ⟨a6, c6, rfl, ho6⟩ := ownTl_appended hv6 HALL.out hg6 (fun k hk => own_kind hor5 k hk)
                      have B6 : Below w3.heap.size w3 w6 := B5.grown hg6 hs5 (fun k hk => (hor5.lt k hk).1)
                      have HO6 : Hid (OwnTl w3.heap.size w6 a6 (m' + 1) c6 (ys ++ [⟨L, ix, tlF zs (4 ^ L) ix 4⟩])) := by
                        show OwnTl _ _ _ _ _ _
                        rw [List.map_append, HITS.out] at ho6
                        rw [← HP.out, ← HHS.out]
                        exact ho6
                      clear ho6 hv6 hg6 hor5 hcl HALL
                      go_roundw
                      case rel => exact ⟨ix + 1, m' + 1, c6, a6, _, by omega, by go_num, rfl, by omega, HO6, HA2.out.snoc L ix, HL2.out.cat _, HH2.out.snoc, HB2.out.snoc _, B6⟩
                      case measure => simp [intOf]; omega
                    · skip
                      obtain ⟨its, hits, hor, hall⟩ := HO2.out.kept (keepT hb4 hbj)
                      have hal : Below wr.heap.size wr (wr.alloc (.cells #[.int .i64 L, .int .i64 ix, .slice ah k ch] 37)) := (Below.refl _ _).alloc (Nat.le_refl _) _
                      have B5 : Below w3.heap.size w3 (wr.alloc (.cells #[.int .i64 L, .int .i64 ix, .slice ah k ch] 37)) := keepT (keepT B4 hbj) hal
                      have hs5 := B5.size
                      have hor5 := ownsRow_below hor hal
                      have HALL : Hid (∀ p ∈ its ++ [((⟨L, ix, hs⟩ : TP), ah, k, ch)], OwnU w3.heap.size (wr.alloc (.cells #[.int .i64 L, .int .i64 ix, .slice ah k ch] 37)) p.2.1 p.2.2.1 p.2.2.2 p.1.hs ∧ p.2.2.1 ≤ 4) := by
                        intro p hp
                        rcases List.mem_append.1 hp with hp | hp
                        · exact ⟨(hall p hp).1.kept hal, (hall p hp).2⟩
                        · simp only [List.mem_singleton] at hp
                          subst hp
                          exact ⟨((HOH.out.kept hbj).kept hal).mono hqs, hq4⟩
                      have hcl : ∀ j u, (flT [((⟨L, ix, hs⟩ : TP), ah, k, ch)])[j]? = some u → (wr.alloc (.cells #[.int .i64 L, .int .i64 ix, .slice ah k ch] 37)).cell? ((⟨wr.heap.size, 0, none⟩ : Addr).add j) = some u := cell_tile wr L ix ah k ch
                      have HITS : Hid (its.map Prod.fst = ys) := hits
                      clear hor hall hits hal
                      go_wp2_with (first | (at_builtin; refine wpList_append_own _ rfl (.tmp 170) (.tmp 175) 32 rfl w3.heap.size 37 i0 _ 3 40 Try.underlying32 hi hz0 hz1 hz2 rfl (by decide) _ m' _ rfl hor5 ⟨wr.heap.size, 0, none⟩ 1 1 (flT [((⟨L, ix, hs⟩ : TP), ah, k, ch)]) rfl rfl hcl (flT_one _) (by unfold maxLen; omega) (by omega) (by exact hs5) ?_; intro v6 w6 hv6 hg6 _))
                      rw [← flT_append] at hv6
                      obtain ⟨a6, c6, rfl, ho6⟩ := ownTl_appended hv6 HALL.out hg6 (fun k hk => own_kind hor5 k hk)
                      have B6 : Below w3.heap.size w3 w6 := B5.grown hg6 hs5 (fun k hk => (hor5.lt k hk).1)
                      have HO6 : Hid (OwnTl w3.heap.size w6 a6 (m' + 1) c6 (ys ++ [⟨L, ix, tlF zs (4 ^ L) ix 4⟩])) := by
                        show OwnTl _ _ _ _ _ _
                        rw [List.map_append, HITS.out] at ho6
                        rw [← HP.out, ← HHS.out]
                        exact ho6
                      clear ho6 hv6 hg6 hor5 hcl HALL
                      go_roundw
                      case rel => exact ⟨ix + 1, m' + 1, c6, a6, _, by omega, by go_num, rfl, by omega, HO6, HA2.out.snoc L ix, HL2.out.cat _, HH2.out.snoc, HB2.out.snoc _, B6⟩
                      case measure => simp [intOf]; omega
            · have hq0 : ¬ 0 < q := fun h => hfin (hfine.1 h)
              obtain rfl : q = 0 := by omega
              have hfi : ¬ (A : Int) + (P : Int) ≤ (nr : Int) := by omega
              rw [decide_eq_false hq0]
              have HSK : Hid (TlHas zs ys L (ix + 1)) := HH2.out.skip (by rw [HLN.out, ← HP.out, ← HAe.out]; exact hfin)
              have HO5 : Hid (OwnTl w3.heap.size w4 ao' m' cc' ys) := HO2.out.kept hb4
              clear hq0
              go_wp2
              refine wp_loop_rounds 1 ?_
              rw [rounds_succ]
              go_wp2
              go_roundw
              case rel => exact ⟨ix + 1, m', cc', ao', ys, by omega, by go_num, rfl, by omega, HO5, HA2, HL2, HSK, HB2, B4⟩
              case measure => simp [intOf]; omega
          · have hlti : ¬ (A : Int) < (nr : Int) := by omega
            have HLN2 : Hid (TlLow zs ys (L + 1)) := HL2.out.next HH2.out (by rw [HLN.out]; exact hnr2) (.inl (by rw [HLN.out, ← HP.out, ← HAe.out]; omega))
            have hlen : 0 < m' := by
              have h1 := HLN2.out 0 (by omega) 1 0 (by decide) (by rw [HLN.out]; simp; omega)
              have h2 := List.length_pos_of_mem h1
              rw [HO2.out.len] at h2
              exact h2
            obtain ⟨u, hu⟩ := tiled_own zs HZ.out ys HA2.out (fun l hl => HLN2.out l (by omega)) M HB2.out (by rw [HLN.out]; omega) (by rw [HLN.out]; exact hnr2)
            have HTV : Hid (tdV ys (nr : Int) = (root, u)) := by show _ = _; rw [← HLN.out, hu.val, HRO.out]
            have hu1 : ¬ u < 1 := by have := hu.lo; omega
            have hu2 : ¬ M < u := by have := hu.hi; omega
            have HBN : Hid (Bef zs ys u) := hu.bef
            clear hu
            have HOK : Hid (OwnTl w3.heap.size wr ao' m' cc' ys) := HO2
            obtain ⟨its, hits, hor, hall⟩ := HO2.out
            obtain ⟨g, rfl, hg3, hgs⟩ := own_shape hor hlen
            have hal : Below wr.heap.size wr (wr.alloc (.cells #[] 37)) := (Below.refl _ _).alloc (Nat.le_refl _) _
            have B5 : Below w3.heap.size w3 (wr.alloc (.cells #[] 37)) := keepT hbq hal
            have hs5 := B5.size
            have hor0 : (wr.alloc (.cells #[] 37)).ownsRow w3.heap.size 37 3 (.slice (some ⟨wr.heap.size, 0, none⟩) 0 0) 0 [] := World.ownsRow_lit wr #[] 0 hqs (Nat.zero_le _) rfl
            have hnw := own_news (ownsRow_below hor hal)
            have HALL : Hid (∀ p ∈ its, OwnU w3.heap.size (wr.alloc (.cells #[] 37)) p.2.1 p.2.2.1 p.2.2.2 p.1.hs ∧ p.2.2.1 ≤ 4) := fun p hp => ⟨(hall p hp).1.kept hal, (hall p hp).2⟩
            have hln : (flT its).length = m' * 3 := hor.1
            have HITS : Hid (its.map Prod.fst = ys) := hits
            clear hor hall hits hal HO2
            go_wp2_with (first | (at_builtin; refine wpList_append_own _ rfl (.tmp 178) (.tmp 179) 32 rfl w3.heap.size 37 i0 _ 3 40 Try.underlying32 hi hz0 hz1 hz2 rfl (by decide) _ 0 _ rfl hor0 ⟨g, 0, none⟩ m' cc' (flT its) rfl hln hnw (flT_one _) (by unfold maxLen; omega) (by omega) (by exact hs5) ?_; intro v6 w6 hv6 hg6 _))
            have hgx : World.grownBy (wr.alloc (.cells #[] 37)) w6 (Value.ownBlock (.slice (some ⟨wr.heap.size, 0, none⟩) 0 0)) := hg6
            clear hg6
            have hg6 := hgx
            clear hgx
            have B6 : Below w3.heap.size w3 w6 := B5.grown hg6 hs5 (fun k hk => (hor0.lt k hk).1)
            rw [List.nil_append, Nat.zero_add] at hv6
            obtain ⟨a6, c6, rfl, ho6⟩ := ownTl_appended hv6 HALL.out hg6 (fun k hk => own_kind hor0 k hk)
            rw [HITS.out] at ho6
            have HTL : Hid (Tls w6 a6 m' ys) := ho6.tls (by omega)
            have HOK6 : Hid (OwnTl w3.heap.size w6 (some ⟨g, 0, none⟩) m' cc' ys) := by
              show OwnTl _ _ _ _ _ _
              obtain ⟨its2, h1, h2, h3⟩ := HOK.out.kept ((Below.refl _ _).alloc (Nat.le_refl _) (.cells #[] 37))
              refine ⟨its2, h1, ⟨h2.1, ?_⟩, fun p hp => ⟨(h3 p hp).1.grownBy hg6 (fun k hk => own_kind hor0 k hk), (h3 p hp).2⟩⟩
              rcases h2.2 with hv | ⟨g2, cap2, cur2, hv, hb2, hgg, rest⟩
              · exact .inl hv
              · have e : g2 = g := by simp only [Value.slice.injEq, Option.some.injEq, Addr.mk.injEq] at hv; exact hv.1.1.symm
                subst e
                exact .inr ⟨g2, cap2, cur2, hv, hb2, (hg6.block g2 (Array.getElem?_eq_some_iff.1 hgg).1 (fun e => absurd (show g2 = wr.heap.size by simpa [Value.ownBlock] using e) (by omega))).trans hgg, rest⟩
            clear ho6 hv6 hg6 hor0 hnw HALL HOK hln
            go_wp2_with fail
            refine (implTiled_any a6 m' c6 ys (nr : Int) _ HTL.out).mono ?_
            rintro e w7 ⟨rfl, hb7⟩
            rw [HTV.out]
            dsimp only
            have B7 := keepT B6 hb7
            have HO7 : Hid (OwnTl w3.heap.size w7 (some ⟨g, 0, none⟩) m' cc' ys) := HOK6.out.kept hb7
            clear HTL HOK6
            go_wp2
            go_roundw
            case rel => exact ⟨L + 1, 4 * P, m', cc', _, ys, u, by omega, by go_num, by go_num, by omega, by omega, rfl, by omega, by omega, rfl, by omega, by show _ = _; rw [HP.out, Nat.pow_succ, Nat.mul_comm], HO7, HA2, HLN2, HBN, B7⟩
            case measure => simp [intOf]; omega
      · obtain rfl : L = 4 := by omega
        go_wp2_with fail
        refine (lives_any _).mono ?_
        rintro e w5 ⟨rfl, hb5⟩
        go_wp2
        go_ret
        exact ⟨rfl, keepT HB3.out (keepT hbr hb5)⟩
  · by_cases hlong : nr ≤ 200
    · obtain rfl : nr = 0 := by omega
      obtain rfl : ok = true := by have h := HT.out; unfold lrR at h; rw [if_pos (by rw [HLN.out]; omega)] at h; exact (Prod.ext_iff.1 h).2

      have HTD : Hid (tdV [] (((0 : Nat) : Int) : Int) = (0, -1)) := tdV_nil _ (by omega)
      have hbe : Below w3.heap.size w3 (w3.alloc (.cells #[] 37)) := (Below.refl _ _).alloc (Nat.le_refl _) _

      go_wp2_with fail
      refine (implTiled_any (some ⟨w3.heap.size, 0, none⟩) 0 0 [] _ _ (tls_nil _ _)).mono ?_
      rintro e w4 ⟨rfl, hb4⟩
      try rw [HTD.out]
      try dsimp only
      go_wp2_with fail
      refine (lives_any _).mono ?_
      rintro e w5 ⟨rfl, hb5⟩
      go_wp2
      go_ret
      exact ⟨rfl, keepT (keepT (keepT HB3.out hbe) hb4) hb5⟩
    · obtain rfl : ok = false := by have h := HT.out; unfold lrR at h; rw [if_neg (by rw [HLN.out]; exact hlong)] at h; exact (Prod.ext_iff.1 h).2

      have HTD : Hid (tdV [] (nr : Int) = (0, -1)) := tdV_nil _ (by omega)
      have hbe : Below w3.heap.size w3 (w3.alloc (.cells #[] 37)) := (Below.refl _ _).alloc (Nat.le_refl _) _

      go_wp2_with fail
      refine (implTiled_any (some ⟨w3.heap.size, 0, none⟩) 0 0 [] _ _ (tls_nil _ _)).mono ?_
      rintro e w4 ⟨rfl, hb4⟩
      try rw [HTD.out]
      try dsimp only
      go_wp2_with fail
      refine (lives_any _).mono ?_
      rintro e w5 ⟨rfl, hb5⟩
      go_wp2
      go_ret
      exact ⟨rfl, keepT (keepT (keepT HB3.out hbe) hb4) hb5⟩

end Go.Proofs.Ytflioloegppnmaa

