import Derived.Test.YtoncodoimnideaaGreatDoorMB7
import Derived.BigQuiet
namespace Go.Proofs.YtoncodoimnideaaGreatDoor
open Go.RowKit

/-- What the law of bases holds on its way: the general name's box, the base's. -/
structure BH (w W : World) (b5 b6 : Nat) (k : Int) (t : ByteArray) (ad bi : Int) (a : Option Addr) (m c : Nat) (xs : List PT) (k2 : Int) (t2 : ByteArray) (ad2 bi2 : Int) (a2 : Option Addr) (m2 c2 : Nat) (ys : List PT) : Prop where
  below : Below w.heap.size w W
  max : MaxW W
  x5 : W.heap[b5]? = some (.cells #[.int .i64 k, .string t, .int .i64 ad, .int .i64 bi, .slice a m c] 30 (0, 0))
  x6 : W.heap[b6]? = some (.cells #[.int .i64 k2, .string t2, .int .i64 ad2, .int .i64 bi2, .slice a2 m2 c2] 30 (0, 0))
  pts : Pts W a m xs
  sm : SmP m xs
  t : t.size ≤ 100
  pts2 : Pts W a2 m2 ys
  sm2 : SmP m2 ys
  t2 : t2.size ≤ 100
  lo : w.heap.size ≤ b5 ∧ w.heap.size ≤ b6
theorem BH.step {w : World} {b5 b6 : Nat} {k : Int} {t : ByteArray} {ad bi : Int} {a : Option Addr} {m c : Nat} {xs : List PT} {k2 : Int} {t2 : ByteArray} {ad2 bi2 : Int} {a2 : Option Addr} {m2 c2 : Nat} {ys : List PT} {W : World} (s : BH w W b5 b6 k t ad bi a m c xs k2 t2 ad2 bi2 a2 m2 c2 ys) {W' : World} (hb : Below W.heap.size W W') : BH w W' b5 b6 k t ad bi a m c xs k2 t2 ad2 bi2 a2 m2 c2 ys :=
  ⟨s.below.trans (hb.mono s.below.size), s.max.kept hb, (hb.block _ (Array.getElem?_eq_some_iff.1 s.x5).1).trans s.x5, (hb.block _ (Array.getElem?_eq_some_iff.1 s.x6).1).trans s.x6, s.pts.kept hb, s.sm, s.t, s.pts2.kept hb, s.sm2, s.t2, s.lo⟩
/-- And the wide base's box. -/
structure BH9 (w W : World) (b5 b6 b9 : Nat) (k : Int) (t : ByteArray) (ad bi : Int) (a : Option Addr) (m c : Nat) (xs : List PT) (k2 : Int) (t2 : ByteArray) (ad2 bi2 : Int) (a2 : Option Addr) (m2 c2 : Nat) (ys : List PT) (k9 : Int) (t9 : ByteArray) (ad9 bi9 : Int) (a9 : Option Addr) (m9 c9 : Nat) (zs : List PT) : Prop where
  bh : BH w W b5 b6 k t ad bi a m c xs k2 t2 ad2 bi2 a2 m2 c2 ys
  x9 : W.heap[b9]? = some (.cells #[.int .i64 k9, .string t9, .int .i64 ad9, .int .i64 bi9, .slice a9 m9 c9] 30 (0, 0))
  ne : b9 ≠ b5 ∧ b9 ≠ b6 ∧ w.heap.size ≤ b9
  apart : ∀ q, (a = some q ∨ a2 = some q) → q.block < b9
  mx : ∃ v, W.cell? ⟨0, 0, none⟩ = some v ∧ 0 < w.heap.size
  pts9 : Pts W a9 m9 zs
  sm9 : SmP m9 zs
  t9 : t9.size ≤ 1048576
theorem BH9.step {w : World} {b5 b6 : Nat} {k : Int} {t : ByteArray} {ad bi : Int} {a : Option Addr} {m c : Nat} {xs : List PT} {k2 : Int} {t2 : ByteArray} {ad2 bi2 : Int} {a2 : Option Addr} {m2 c2 : Nat} {ys : List PT} {W : World} {b9 : Nat} {k9 : Int} {t9 : ByteArray} {ad9 bi9 : Int} {a9 : Option Addr} {m9 c9 : Nat} {zs : List PT} (s : BH9 w W b5 b6 b9 k t ad bi a m c xs k2 t2 ad2 bi2 a2 m2 c2 ys k9 t9 ad9 bi9 a9 m9 c9 zs) {W' : World} (hb : Below W.heap.size W W') : BH9 w W' b5 b6 b9 k t ad bi a m c xs k2 t2 ad2 bi2 a2 m2 c2 ys k9 t9 ad9 bi9 a9 m9 c9 zs :=
  ⟨s.bh.step hb, (hb.block _ (Array.getElem?_eq_some_iff.1 s.x9).1).trans s.x9, s.ne, s.apart, by
    obtain ⟨v, h1, h2⟩ := s.mx
    exact ⟨v, (hb.cell (p := ⟨0, 0, none⟩) (Nat.lt_of_lt_of_le h2 s.bh.below.size)).trans h1, h2⟩, s.pts9.kept hb, s.sm9, s.t9⟩
theorem Pts.other {W W' : World} {a : Option Addr} {n : Nat} {xs : List PT} (h : Pts W a n xs) (hs : W.heap.size ≤ W'.heap.size) (e : ∀ q, a = some q → W'.heap[q.block]? = W.heap[q.block]?) : Pts W' a n xs := by
  refine ⟨h.len, h.max, fun k hk => ?_⟩
  obtain ⟨b, off, ha, hlt, hc, hn⟩ := h.get k hk
  exact ⟨b, off, ha, Nat.lt_of_lt_of_le hlt hs, hc.of (fun i => World.cell?_of_block (a := ⟨b, i, none⟩) (e ⟨b, off, none⟩ ha)), hn⟩
/-- A cell of the wide base gets another value. -/
theorem BH9.put {w : World} {b5 b6 : Nat} {k : Int} {t : ByteArray} {ad bi : Int} {a : Option Addr} {m c : Nat} {xs : List PT} {k2 : Int} {t2 : ByteArray} {ad2 bi2 : Int} {a2 : Option Addr} {m2 c2 : Nat} {ys : List PT} {W : World} {b9 : Nat} {k9 : Int} {t9 : ByteArray} {ad9 bi9 : Int} {a9 : Option Addr} {m9 c9 : Nat} {zs : List PT} (s : BH9 w W b5 b6 b9 k t ad bi a m c xs k2 t2 ad2 bi2 a2 m2 c2 ys k9 t9 ad9 bi9 a9 m9 c9 zs) (i : Nat) (u : Value) {k' : Int} {t' : ByteArray} {ad' bi' : Int} {a' : Option Addr} {m' c' : Nat} {zs' : List PT} (hx : (W.setCell ⟨b9, i, none⟩ u).heap[b9]? = some (.cells #[.int .i64 k', .string t', .int .i64 ad', .int .i64 bi', .slice a' m' c'] 30 (0, 0))) (hp : Pts (W.setCell ⟨b9, i, none⟩ u) a' m' zs') (hsm : SmP m' zs') (ht : t'.size ≤ 1048576) : BH9 w (W.setCell ⟨b9, i, none⟩ u) b5 b6 b9 k t ad bi a m c xs k2 t2 ad2 bi2 a2 m2 c2 ys k' t' ad' bi' a' m' c' zs' := by
  have e : ∀ l, l ≠ b9 → (W.setCell ⟨b9, i, none⟩ u).heap[l]? = W.heap[l]? := fun l hl => Below.heap_setCell _ _ _ _ (by show l ≠ b9; exact hl)
  have hs : (W.setCell ⟨b9, i, none⟩ u).heap.size = W.heap.size := by simp [World.setCell]
  obtain ⟨n1, n2, n3⟩ := s.ne
  obtain ⟨v, v1, v2⟩ := s.mx
  have hmx : (W.setCell ⟨b9, i, none⟩ u).cell? ⟨0, 0, none⟩ = W.cell? ⟨0, 0, none⟩ := World.cell?_of_block (a := ⟨0, 0, none⟩) (e 0 (Nat.ne_of_lt (Nat.lt_of_lt_of_le v2 n3)))
  refine ⟨⟨⟨s.bh.below.os, s.bh.below.tape, s.bh.below.output, by rw [hs]; exact s.bh.below.size, fun l hl => (e l (by omega)).trans (s.bh.below.block l hl)⟩, ?_, (e _ (Ne.symm n1)).trans s.bh.x5, (e _ (Ne.symm n2)).trans s.bh.x6, s.bh.pts.other (Nat.le_of_eq hs.symm) fun q hq => e _ (by have := s.apart q (.inl hq); omega), s.bh.sm, s.bh.t, s.bh.pts2.other (Nat.le_of_eq hs.symm) fun q hq => e _ (by have := s.apart q (.inr hq); omega), s.bh.sm2, s.bh.t2, s.bh.lo⟩, hx, s.ne, s.apart, ⟨v, hmx.trans v1, v2⟩, hp, hsm, ht⟩
  obtain ⟨q, hq⟩ := s.bh.max
  exact ⟨q, hmx.trans hq⟩

set_option maxRecDepth 10000 in
set_option maxHeartbeats 400000 in
theorem byteAt_bw (a : Option Addr) (n cap : Nat) (bs : List Int) (i k : Nat) (w : World) (h : Row w a n bs) (hk : 0 < k) (hk2 : k ≤ 1000) :
    Calls Tryz.prog 18 #[.slice a n cap, .int .i64 i, .int .i64 k] w fun e w' => ∃ v : Int, e = .returned (.int .i64 v) ∧ 0 ≤ v ∧ v < k ∧ w = w' := by
  have H : Hid (Row w a n bs) := h
  clear h
  by_cases hi : i < n
  · obtain ⟨b, off, rfl, hlb, hc⟩ := H.out.get i hi
    have hb := H.out.byte i
    obtain ⟨x, hx⟩ : ∃ x, x = bs.getD i 0 := ⟨_, rfl⟩
    rw [← hx] at hc hb
    obtain ⟨hb0, hb1⟩ := hb
    have hii : ¬ (n : Int) ≤ (i : Int) := by omega
    have hkk : (k : Int) ≠ 0 := by omega
    have hin : (i : Int) < (n : Int) := by omega
    have h1 : 0 ≤ x % (k : Int) := Int.emod_nonneg _ hkk
    have h2 : x % (k : Int) < k := Int.emod_lt_of_pos _ (by omega)
    clear hx
    go_enter Tryz.func18, Tryz.ntmps18
    go_wp2
    go_ret
    exact ⟨_, rfl, h1, h2, rfl⟩
  · have hii : (n : Int) ≤ (i : Int) := by omega
    go_enter Tryz.func18, Tryz.ntmps18
    go_wp2
    go_ret
    exact ⟨0, rfl, by omega, by omega, rfl⟩

set_option maxRecDepth 100000 in
set_option maxRecDepth 10000 in
set_option maxHeartbeats 16000000 in
theorem lawBases_walk (a0 : Option Addr) (n0 c0 : Nat) (z0 : List Int) (a1 : Option Addr) (n1 c1 : Nat) (z1 : List Int) (w : World) (hM0 : MaxW w) (hr0 : IsRow .u8 w a0 n0 c0 z0) (hr1 : IsRow .u8 w a1 n1 c1 z1) :
    Calls Tryz.prog 4 #[.slice a0 n0 c0, .slice a1 n1 c1] w fun e w' => e = .returned (.bool true) ∧ Below w.heap.size w w' := by
  have hM : MaxW w ∧ 0 < w.heap.size := ⟨hM0, by obtain ⟨v, hv⟩ := hM0; exact World.block_lt_of_cell? w _ hv⟩
  clear hM0
  obtain ⟨hrow0, hmax0⟩ := hr0.row
  obtain ⟨hrow1, hmax1⟩ := hr1.row
  obtain ⟨x0, hx0⟩ : ∃ bs, bs = z0.take n0 := ⟨_, rfl⟩
  obtain ⟨x1, hx1⟩ : ∃ bs, bs = z1.take n1 := ⟨_, rfl⟩
  rw [← hx0] at hrow0
  rw [← hx1] at hrow1
  clear hx0 hx1 hr0 hr1
  unfold maxLen at hmax0 hmax1
  have HR0 : Hid (Row w a0 n0 x0) := hrow0
  have HR1 : Hid (Row w a1 n1 x1) := hrow1
  have HM : Hid (MaxW w ∧ 0 < w.heap.size) := hM
  clear hrow0 hrow1 hM
  by_cases hb0 : 1048576 < (n0 : Int)
  · have hd0 : decide (1048576 < (n0 : Int)) = true := by simp; omega
    go_enter Tryz.func4, Tryz.ntmps4
    go_wp2_with fail
    refine (big_any8 a0 n0 c0 _ (by omega)).mono ?_
    rintro e w' ⟨rfl, rfl⟩
    rw [hd0]
    go_wp2
    go_ret
    exact ⟨rfl, Below.refl _ _⟩
  have hd0 : decide (1048576 < (n0 : Int)) = false := by simp; omega
  by_cases hb1 : 1048576 < (n1 : Int)
  · have hd1 : decide (1048576 < (n1 : Int)) = true := by simp; omega
    go_enter Tryz.func4, Tryz.ntmps4
    go_wp2_with fail
    refine (big_any8 a0 n0 c0 _ (by omega)).mono ?_
    rintro e w' ⟨rfl, rfl⟩
    rw [hd0]
    go_wp2_with fail
    refine (big_any8 a1 n1 c1 _ (by omega)).mono ?_
    rintro e w' ⟨rfl, rfl⟩
    rw [hd1]
    go_wp2
    go_ret
    exact ⟨rfl, Below.refl _ _⟩
  have hd1 : decide (1048576 < (n1 : Int)) = false := by simp; omega
  go_enter Tryz.func4, Tryz.ntmps4
  go_wp2_with fail
  refine (big_any8 a0 n0 c0 _ (by omega)).mono ?_
  rintro e w' ⟨rfl, rfl⟩
  rw [hd0]
  go_wp2_with fail
  refine (big_any8 a1 n1 c1 _ (by omega)).mono ?_
  rintro e w' ⟨rfl, rfl⟩
  rw [hd1]
  clear hd0 hd1
  go_wp2_with fail
  refine (drawWithin_any a0 n0 c0 x0 _ HR0.out (by omega)).mono ?_
  rintro e w2 ⟨⟨k, t, ad, bi⟩, a, m, c, xs, ⟨k2, t2, ad2, bi2⟩, a2, m2, c2, ys, rfl, ⟨ht, hm⟩, ⟨ht2, hm2⟩, ho1, ho2, hb⟩
  replace ht : t.size ≤ 100 := ht
  replace ht2 : t2.size ≤ 100 := ht2
  unfold gnv
  dsimp only
  obtain ⟨w3, hw3⟩ : ∃ w3, w3 = (w2.alloc (.cells #[.int .i64 k, .string t, .int .i64 ad, .int .i64 bi, .slice a m c] 30)).alloc (.cells #[.int .i64 k2, .string t2, .int .i64 ad2, .int .i64 bi2, .slice a2 m2 c2] 30) := ⟨_, rfl⟩
  have hbb : Below w2.heap.size w2 w3 := by rw [hw3]; exact ((Below.refl _ _).alloc (Nat.le_refl _) _).alloc (by simp) _
  have S3 : Hid (BH w w3 w2.heap.size (w2.heap.size + 1) k t ad bi a m c xs k2 t2 ad2 bi2 a2 m2 c2 ys) := by
    have B3 : Below w.heap.size w w3 := hb.trans (hbb.mono hb.size)
    have hz := hb.size
    refine ⟨B3, HM.out.1.kept B3, ?_, ?_, (ho1.pts (by omega)).kept hbb, ho1.smP, ht, (ho2.pts (by omega)).kept hbb, ho2.smP, ht2, by omega, by omega⟩
    · rw [hw3]; exact (((Below.refl _ _).alloc (Nat.le_refl _) _).block w2.heap.size (by simp)).trans (heap_alloc_new w2 _)
    · rw [hw3]; have := heap_alloc_new (w2.alloc (.cells #[.int .i64 k, .string t, .int .i64 ad, .int .i64 bi, .slice a m c] 30)) (.cells #[.int .i64 k2, .string t2, .int .i64 ad2, .int .i64 bi2, .slice a2 m2 c2] 30 (0, 0)); simpa using this
  have HA : Hid (∀ q, (a = some q ∨ a2 = some q) → q.block < w2.heap.size) := fun q hq => by
    rcases hq with hq | hq
    · exact (ho1.blk q hq).2.1
    · exact (ho2.blk q hq).2.1
  have HCP : Hid (m2 ≤ c2) := ho2.cap
  have HGB : Hid ((a2 = none ∧ m2 = 0 ∧ c2 = 0) ∨ ∃ gb, a2 = some ⟨gb, 0, none⟩) := by
    rcases ho2.row.2 with ⟨hv, h0⟩ | ⟨g, c', cur, hv, _⟩
    · simp only [Value.slice.injEq] at hv
      exact .inl ⟨hv.1, h0, hv.2.2⟩
    · simp only [Value.slice.injEq] at hv
      exact .inr ⟨g, hv.1⟩
  have HSV : Hid (∀ x ∈ ys, x.val.size ≤ 1000) := ho2.small
  have HLEN : Hid (ys.length = m2) := ho2.len
  have HW3 : Hid (_ = _) := hw3
  clear hw3 hbb ho1 ho2 hb ht ht2
  go_upto_region 4 with fail
  rw [← HW3.out]
  clear HW3
  obtain ⟨b6, hb6⟩ : ∃ b6, b6 = w2.heap.size + 1 := ⟨_, rfl⟩
  obtain ⟨b5, hb5⟩ : ∃ b5, b5 = w2.heap.size := ⟨_, rfl⟩
  rw [← hb5] at hb6
  rw [← hb5] at S3 HA
  rw [← hb6] at S3
  simp only [← hb5]
  simp only [← hb6]
  have HB56 : Hid (b6 = b5 + 1) := hb6
  clear hb5 hb6
  obtain ⟨q0, q1, q2, q3, q4⟩ := gcells S3.out.x5
  obtain ⟨r0, r1, r2, r3, r4⟩ := gcells S3.out.x6
  go_wp2_with fail
  refine (cWithinI k t ad bi a m c xs k2 t2 ad2 bi2 a2 m2 c2 ys _ S3.out.max S3.out.pts S3.out.sm (by have := S3.out.t; omega) S3.out.pts2 S3.out.sm2 (by have := S3.out.t2; omega)).mono ?_
  rintro e w4 ⟨wi, rfl, HWI, hb⟩
  have S4 : Hid (BH w w4 b5 b6 k t ad bi a m c xs k2 t2 ad2 bi2 a2 m2 c2 ys) := S3.out.step hb
  clear hb S3 q0 q1 q2 q3 q4 r0 r1 r2 r3 r4
  go_upto_region 5 with fail
  go_cut [52] (fun v wx => v = .bool false ∧ Hid (BH w wx b5 b6 k t ad bi a m c xs k2 t2 ad2 bi2 a2 m2 c2 ys))
  case first => as_aux_lemma =>
    obtain ⟨q0, q1, q2, q3, q4⟩ := gcells S4.out.x5
    obtain ⟨r0, r1, r2, r3, r4⟩ := gcells S4.out.x6
    go_wp2_with fail
    refine (cWithinS k t ad bi a m c xs k2 t2 ad2 bi2 a2 m2 c2 ys _ S4.out.pts S4.out.sm (by have := S4.out.t; omega) S4.out.pts2 S4.out.sm2 (by have := S4.out.t2; omega)).mono ?_
    rintro e w5 ⟨wi2, rfl, HW2, hb⟩
    have S5 : Hid (BH w w5 b5 b6 k t ad bi a m c xs k2 t2 ad2 bi2 a2 m2 c2 ys) := S4.out.step hb
    have hwi : wi2 = wi := says_same HW2.out HWI.out
    subst hwi
    clear hb S4 HW2 q0 q1 q2 q3 q4 r0 r1 r2 r3 r4
    have hxx : (wi2 != wi2) = false := by simp
    cases wi2 with
    | false =>
      go_wp2_with fail
      go_meet
      exact ⟨rfl, S5⟩
    | true =>
      have HI : Hid (withinP ⟨k, t, ad, bi⟩ xs ⟨k2, t2, ad2, bi2⟩ ys) := HWI.out.1 rfl
      obtain ⟨q0, q1, q2, q3, q4⟩ := gcells S5.out.x5
      go_wp2_with fail
      refine (cGenI k t ad bi a m c xs _ S5.out.max S5.out.pts S5.out.sm (by have := S5.out.t; omega)).mono ?_
      rintro e w6 ⟨o1, rfl, HQ, hb⟩
      obtain rfl : o1 = true := HQ.out.2 HI.out.1
      have S6 : Hid (BH w w6 b5 b6 k t ad bi a m c xs k2 t2 ad2 bi2 a2 m2 c2 ys) := S5.out.step hb
      clear hb S5 HQ q0 q1 q2 q3 q4
      obtain ⟨q0, q1, q2, q3, q4⟩ := gcells S6.out.x6
      go_wp2_with fail
      refine (cBaseI k2 t2 ad2 bi2 a2 m2 c2 ys _ S6.out.max S6.out.pts2 S6.out.sm2 (by have := S6.out.t2; omega)).mono ?_
      rintro e w7 ⟨o1, rfl, HQ, hb⟩
      obtain rfl : o1 = true := HQ.out.2 HI.out.2.1
      have S7 : Hid (BH w w7 b5 b6 k t ad bi a m c xs k2 t2 ad2 bi2 a2 m2 c2 ys) := S6.out.step hb
      clear hb S6 HQ q0 q1 q2 q3 q4
      have hkk : k = k2 := HI.out.2.2.1
      have hkb : (k != k2) = false := by rw [hkk]; simp
      obtain ⟨q0, q1, q2, q3, q4⟩ := gcells S7.out.x5
      obtain ⟨r0, r1, r2, r3, r4⟩ := gcells S7.out.x6
      clear hkk
      go_wp2_with fail
      go_meet
      exact ⟨by first | rfl | simp, S7⟩
  case rest =>
  obtain ⟨rfl, S5⟩ := hcut
  clear S4
  cases wi with
  | false =>
    go_wp2_with fail
    refine (lives_any _).mono ?_
    rintro e w6 ⟨rfl, hb⟩
    have S6 : Hid (BH w w6 b5 b6 k t ad bi a m c xs k2 t2 ad2 bi2 a2 m2 c2 ys) := S5.out.step hb
    go_wp2
    go_ret
    exact ⟨rfl, S6.out.below⟩
  | true =>
    have HI0 : Hid (withinP ⟨k, t, ad, bi⟩ xs ⟨k2, t2, ad2, bi2⟩ ys) := HWI.out.1 rfl
    clear HWI
    go_wp2_with fail
    refine (byteAt_bw a1 n1 c1 x1 0 33 _ (HR1.out.kept S5.out.below) (by decide) (by decide)).mono ?_
    rintro e w6 ⟨n, rfl, hn0, hn1, rfl⟩
    have hn1' : n ≤ 32 := by omega
    clear hn1
    obtain ⟨wb, hwb⟩ : ∃ wb, wb = wc.alloc (.cells #[.int .i64 k2, .string ⟨#[]⟩, .int .i64 0, .int .i64 0, .slice none 0 0] 30) := ⟨_, rfl⟩
    have hbb : Below wc.heap.size wc wb := by rw [hwb]; exact (Below.refl _ _).alloc (Nat.le_refl _) _
    have S9 : Hid (BH9 w wb b5 b6 wc.heap.size k t ad bi a m c xs k2 t2 ad2 bi2 a2 m2 c2 ys k2 ⟨#[]⟩ 0 0 none 0 0 []) := by
      have h5 := (Array.getElem?_eq_some_iff.1 S5.out.x5).1
      have h6 := (Array.getElem?_eq_some_iff.1 S5.out.x6).1
      have hz := S5.out.below.size
      obtain ⟨v, hv⟩ := (S5.out.max.kept hbb)
      refine ⟨S5.out.step hbb, by rw [hwb]; exact heap_alloc_new wc _, ⟨by omega, by omega, hz⟩, fun q hq => by have := HA.out q hq; omega, ⟨_, hv, HM.out.2⟩, pts_none _, smP_none, by decide⟩
    have HWB : Hid (_ = _) := hwb
    have hH := S5.out.x6
    obtain ⟨q0, q1, q2, q3, q4⟩ := gcells hH
    clear hwb hbb hH
    go_upto_region 11 with fail
    rw [← HWB.out]
    clear HWB q0 q1 q2 q3 q4
    obtain ⟨b9, hb9⟩ : ∃ b9, b9 = wc.heap.size := ⟨_, rfl⟩
    rw [← hb9] at S9
    simp only [← hb9]
    clear hb9 S5
    obtain ⟨hg, hb, hkk, hcase⟩ := HI0.out
    have hkk2 : k = k2 := hkk
    have HG : Hid (genP ⟨k, t, ad, bi⟩ xs) := hg
    have HBS : Hid (baseP ⟨k2, t2, ad2, bi2⟩ ys) := hb
    clear hg hb hkk HI0
    obtain ⟨q0, q1, q2, q3, q4⟩ := gcells S9.out.bh.x6
    have hkinds : (k2 = 1 ∨ k2 = 2) ∨ (k2 = 3 ∧ relA ad ad2 bi2) ∨ (k2 = 4 ∧ underP xs ys) := by
      rcases hcase with ⟨h1, h2⟩ | ⟨h1, h2⟩ | ⟨h1, h2⟩ | ⟨h1, h2⟩
      · exact .inl (.inl (hkk2.symm.trans h1))
      · exact .inl (.inr (hkk2.symm.trans h1))
      · exact .inr (.inl ⟨hkk2.symm.trans h1, h2⟩)
      · exact .inr (.inr ⟨hkk2.symm.trans h1, h2⟩)
    rcases hkinds with h12 | ⟨h1, h2⟩ | ⟨h1, h2⟩
    · as_aux_lemma =>
      -- a host, a mail address
      have HK : Hid ((k2 = 1 ∨ k2 = 2) ∧ k = k2) := ⟨h12, hkk2⟩
      have z3 : (k2 == 3) = false := beq_false_of_ne (by omega)
      have z4 : (k2 == 4) = false := beq_false_of_ne (by omega)
      have HH1 : Hid (k2 = 1 → Hid (hostP t2 false) ∧ Hid (relH t t2)) := fun hk => by
        rcases hcase with ⟨h1, h2⟩ | ⟨h1, h2⟩ | ⟨h1, h2⟩ | ⟨h1, h2⟩
        · refine ⟨?_, h2⟩
          rcases HBS.out with ⟨_, _, h⟩ | ⟨h, _⟩ | ⟨h, _⟩ | ⟨h, _⟩
          · exact h
          · exact absurd (show k2 = 2 from h) (by omega)
          · exact absurd (show k2 = 3 from h) (by omega)
          · exact absurd (show k2 = 4 from h) (by omega)
        · exact absurd (show k = 2 from h1) (by omega)
        · exact absurd (show k = 3 from h1) (by omega)
        · exact absurd (show k = 4 from h1) (by omega)
      have HMM : Hid (k2 = 2 → mbaseP t2 ∧ relM t t2 ∧ mailP t) := fun hk => by
        rcases hcase with ⟨h1, h2⟩ | ⟨h1, h2⟩ | ⟨h1, h2⟩ | ⟨h1, h2⟩
        · exact absurd (show k = 1 from h1) (by omega)
        · refine ⟨?_, h2, ?_⟩
          · rcases HBS.out with ⟨h, _⟩ | ⟨_, _, h⟩ | ⟨h, _⟩ | ⟨h, _⟩
            · exact absurd (show k2 = 1 from h) (by omega)
            · exact h
            · exact absurd (show k2 = 3 from h) (by omega)
            · exact absurd (show k2 = 4 from h) (by omega)
          · rcases HG.out with ⟨h, _⟩ | ⟨_, _, h⟩ | ⟨h, _⟩ | ⟨h, _⟩
            · exact absurd (show k = 1 from h) (by omega)
            · exact h
            · exact absurd (show k = 3 from h) (by omega)
            · exact absurd (show k = 4 from h) (by omega)
        · exact absurd (show k = 3 from h1) (by omega)
        · exact absurd (show k = 4 from h1) (by omega)
      have HP0 : Hid (0 < t2.size) := by
        rcases h12 with h | h
        · exact hostP_pos (HH1.out h).1.out
        · exact mbase_pos (HMM.out h).1
      -- behind a sign no other stands
      have HN : Hid (∀ j, j < t2.size → cAt t2 j = 64 → 0 < (bh t2 64).size ∧ ∀ l, l < (bh t2 64).size → cAt (bh t2 64) l ≠ 64) := fun j hj hc => by
        rcases h12 with h | h
        · exact absurd hc (host_no64 (HH1.out h).1.out j hj)
        · have hm := mail_host (mbase_at (HMM.out h).1 hj hc)
          exact ⟨hostP_pos hm, fun l hl => host_no64 hm l hl⟩
      have ht2 := S9.out.bh.t2
      clear hcase h12 hkk2
      go_wp2_with fail
      go_loopw [10, 11] (fun o i wr => ∃ (s : ByteArray) (j : Nat), o = .string s ∧ i = .int .i64 j ∧ j ≤ s.size ∧ s.size ≤ 100 ∧ 0 < s.size ∧ wb = wr ∧ Hid ((s = t2 ∧ ∀ l, l < j → cAt t2 l ≠ 64) ∨ (has t2 64 ∧ s = bh t2 64))) (fun o i _ => (match o with | .string s => 2 * s.size | _ => 0) - (intOf i).toNat)
      case atStart => exact ⟨t2, 0, rfl, rfl, Nat.zero_le _, ht2, HP0.out, rfl, .inl ⟨rfl, fun l hl => absurd hl (Nat.not_lt_zero l)⟩⟩
      case round =>
        obtain ⟨s, j, rfl, rfl, hj, hs1, hs0, rfl, HC⟩ := hrel
        by_cases hlt : j < s.size
        · have hlti : (j : Int) < (s.size : Int) := by omega
          have hget := cAt_get s j hlt
          by_cases hc : (s[j].toNat : Int) = 64
          · have zc : ((s[j].toNat : Int) == 64) = true := beq_iff_eq.2 hc
            have hc2 : cAt s j = 64 := hget.trans hc
            obtain ⟨y, hy⟩ : ∃ y, y = s.extract (j + 1) s.size := ⟨_, rfl⟩
            have hey : s.extract (j + 1) s.size = y := hy.symm
            have hyz : y.size = s.size - (j + 1) := by rw [hy, ext_sz _ _ _ (Nat.le_refl _)]
            have HY : Hid (has t2 64 ∧ y = bh t2 64 ∧ 0 < y.size) := by
              rcases HC.out with ⟨e, hn⟩ | ⟨e1, e2⟩
              · subst e
                have hb : bh s 64 = y := by rw [hy]; exact bh_split 64 hlt hc2 fun l hl => hn l hl
                exact ⟨⟨j, hlt, hc2⟩, hb.symm, by rw [← hb]; exact (HN.out j hlt hc2).1⟩
              · obtain ⟨l, hl, hlc⟩ := e1
                exact absurd hc2 (by rw [e2]; exact (HN.out l hl hlc).2 j (by rw [← e2]; exact hlt))
            have hj1 : (j : Int) + 1 ≤ (s.size : Int) := by omega
            have hj0 : (0 : Int) ≤ (j : Int) + 1 := by omega
            have hjw : IntKind.i64.wrap ((j : Int) + 1) = (j : Int) + 1 := by rw [IntKind.wrap_i64]; omega
            have hjn : ((j : Int) + 1).toNat = j + 1 := by omega
            clear hc2 hy HC
            go_wp2
            go_roundw
            case rel => exact ⟨y, 0, rfl, by go_num, Nat.zero_le _, by omega, HY.out.2.2, by trivial, .inr ⟨HY.out.1, HY.out.2.1⟩⟩
            case measure => simp [intOf]; omega
          · have zc : ((s[j].toNat : Int) == 64) = false := beq_false_of_ne hc
            have HC2 : Hid ((s = t2 ∧ ∀ l, l < j + 1 → cAt t2 l ≠ 64) ∨ (has t2 64 ∧ s = bh t2 64)) := by
              rcases HC.out with ⟨e, hn⟩ | h
              · refine .inl ⟨e, fun l hl => ?_⟩
                rcases Nat.lt_or_ge l j with h | h
                · exact hn l h
                · obtain rfl : l = j := by omega
                  rw [← e, hget]
                  exact hc
              · exact .inr h
            clear HC hget
            go_wp2
            go_roundw
            case rel => exact ⟨s, j + 1, rfl, by go_num, by omega, hs1, hs0, by trivial, HC2⟩
            case measure => simp [intOf]; omega
        · obtain rfl : j = s.size := by omega
          have HIS : Hid (hostIs t2 s) := by
            rcases HC.out with ⟨e, hn⟩ | h
            · refine .inr ⟨fun ⟨l, hl, hc⟩ => hn l (by rw [e]; exact hl) hc, e⟩
            · exact .inl h
          have HS1 : Hid (k2 = 1 → s = t2) := fun hk => by
            rcases HIS.out with ⟨⟨l, hl, hc⟩, _⟩ | ⟨_, e⟩
            · exact absurd hc (host_no64 (HH1.out hk).1.out l hl)
            · exact e
          have HM2 : Hid (k2 = 2 → Hid (tailP s) ∧ Hid (relM t s ∧ mailP t)) := fun hk => by
            obtain ⟨e1, e2, e3⟩ := HMM.out hk
            obtain ⟨m1, m2⟩ := mail_tail e1 HIS.out
            exact ⟨m1, m2 t e3 e2, e3⟩
          clear HC HIS HMM HN HP0
          go_wp2_with fail
          go_loopw [8, 12, 13] (fun v o i wr => ∃ (x : Int) (q j : Nat), v = .int .i64 x ∧ o = .int .i64 q ∧ i = .int .i64 j ∧ j ≤ s.size ∧ -(j : Int) ≤ x ∧ x ≤ 32 ∧ Hid (q = 0 ∨ (0 < q ∧ q + 1 < s.size ∧ cAt s q = 46)) ∧ wb = wr) (fun _ _ i _ => s.size - (intOf i).toNat)
          case atStart => exact ⟨n, 0, 0, rfl, rfl, rfl, Nat.zero_le _, by omega, hn1', .inl rfl, rfl⟩
          case round =>
            obtain ⟨x9, q, j, rfl, rfl, rfl, hj, hx0, hx1, HQ, rfl⟩ := hrel
            clear HR0 HR1
            have hjw : IntKind.i64.wrap ((j : Int) + 1) = (j : Int) + 1 := by rw [IntKind.wrap_i64]; omega
            have hxw : IntKind.i64.wrap (x9 - 1) = x9 - 1 := by rw [IntKind.wrap_i64]; omega
            by_cases hlt : j + 1 < s.size
            · have hlti : (j : Int) + 1 < (s.size : Int) := by omega
              have hlt0 : (j : Int) < (s.size : Int) := by omega
              have hjs : j < s.size := by omega
              have hget := cAt_get s j hjs
              by_cases hc : (s[j].toNat : Int) = 46 ∧ 0 < j
              · have zc : ((s[j].toNat : Int) == 46) = true := beq_iff_eq.2 hc.1
                have hj0 : (0 : Int) < (j : Int) := by omega
                have HQ2 : Hid (j = 0 ∨ (0 < j ∧ j + 1 < s.size ∧ cAt s j = 46)) := .inr ⟨hc.2, hlt, hget.trans hc.1⟩
                clear hget hc HQ
                by_cases hbr : x9 - 1 ≤ 0
                · obtain ⟨q, hq0⟩ : ∃ q, q = j := ⟨_, rfl⟩
                  go_upto_region 27 with fail
                  have hq : q = 0 ∨ (0 < q ∧ q + 1 < s.size ∧ cAt s q = 46) := by rw [hq0]; exact HQ2.out
                  have hjp : 0 < q := by rw [hq0]; omega
                  subst hq0
                  clear zc hj0 hbr hlti
                  obtain ⟨x, hx⟩ : ∃ x, x = s.extract q s.size := ⟨_, rfl⟩
                  have hqs : q ≤ s.size ∧ q < s.size := by rcases hq with h | h <;> omega
                  have hqi : (q : Int) ≤ (s.size : Int) := by omega
                  have hxz : x.size = s.size - q := by rw [hx, ext_sz _ _ _ (Nat.le_refl _)]
                  have hex : s.extract q s.size = x := hx.symm
                  have hxp : 0 < x.size := by omega
                  have hxi : (0 : Int) < (x.size : Int) := by omega
                  have hl9 : b9 < wb.heap.size := (Array.getElem?_eq_some_iff.1 S9.out.x9).1
                  obtain ⟨r0, r1, r2, r3, r4⟩ := gcells S9.out.x9
                  have f1 : wb.frozen? ⟨b9, 1, none⟩ = false := frozen_of_row wb b9 1 _ 30 S9.out.x9
                  have SA : Hid (BH9 w (wb.setCell ⟨b9, 1, none⟩ (.string x)) b5 b6 b9 k t ad bi a m c xs k2 t2 ad2 bi2 a2 m2 c2 ys k2 x 0 0 none 0 0 []) := S9.out.put (k' := k2) (t' := x) (ad' := 0) (bi' := 0) (a' := none) (m' := 0) (c' := 0) (zs' := []) 1 (.string x) (heap_setCell_same wb b9 1 _ 30 (.string x) S9.out.x9) (pts_none _) smP_none (by omega)
                  have HX : Hid (x = s.extract q s.size) := hx
                  have HFX : Hid ((x[0].toNat : Int) = cAt x 0) := (cAt_get x 0 hxp).symm
                  clear hx
                  go_upto_region 28 with fail
                  obtain ⟨wA, hwA⟩ : ∃ wA, wA = wb.setCell ⟨b9, 1, none⟩ (.string x) := ⟨_, rfl⟩
                  rw [← hwA] at SA
                  rw [← hwA]
                  clear hwA r0 r1 r2 r3 r4 f1 S9 q0 q1 q2 q3 q4 hex hqi
                  obtain ⟨q0, q1, q2, q3, q4⟩ := gcells SA.out.bh.x6
                  obtain ⟨r0, r1, r2, r3, r4⟩ := gcells SA.out.x9
                  rcases HK.out.1 with hk1 | hk2
                  · have z1 : (k2 == 1) = true := beq_iff_eq.2 hk1
                    obtain ⟨HH, HRR⟩ : Hid (hostP t2 false) ∧ Hid (relH t t2) := HH1.out hk1
                    have HS : Hid (s = t2) := HS1.out hk1
                    have HBk : Hid (∀ y, hostP y false → baseP ⟨k2, y, 0, 0⟩ []) := fun y hy => .inl ⟨hk1, ⟨rfl, rfl, rfl⟩, hy⟩
                    have HIk : Hid (∀ y, hostP y false → relH t y → withinP ⟨k, t, ad, bi⟩ xs ⟨k2, y, 0, 0⟩ []) := fun y hy hr => ⟨HG.out, HBk.out y hy, HK.out.2, .inl ⟨HK.out.2.trans hk1, hr⟩⟩
                    clear hk1
                    rcases hq with rfl | ⟨hq0, hq1, hq2⟩
                    · exact absurd hjp (by omega)
                    · have hc : (x[0].toNat : Int) = 46 := by rw [HFX.out, HX.out, ext_cAt s q s.size 0 (by omega)]; exact hq2
                      have zc : ((x[0].toNat : Int) == 46) = true := beq_iff_eq.2 hc
                      obtain ⟨y, hy⟩ : ∃ y, y = x.extract 1 x.size := ⟨_, rfl⟩
                      have hey : x.extract 1 x.size = y := hy.symm
                      have hey2 : x.extract 1 (s.size - q) = y := by rw [← hxz]; exact hey
                      have hyz : y.size ≤ x.size := by rw [hy, ext_sz _ _ _ (Nat.le_refl _)]; omega
                      have hys : y = t2.extract (q + 1) t2.size := by
                        rw [hy, HX.out, ext_sz _ _ _ (Nat.le_refl _), ext_ext s q 1 (s.size - q) (by omega), show q + (s.size - q) = s.size by omega, HS.out]
                      have hw := host_wide (s := t) HH.out HRR.out (t := q) (by rw [← HS.out]; omega) (by rw [← HS.out]; exact hq2)
                      have HB : Hid (baseP ⟨k2, y, 0, 0⟩ []) := by rw [hys]; exact HBk.out _ hw.1
                      have HI : Hid (withinP ⟨k, t, ad, bi⟩ xs ⟨k2, y, 0, 0⟩ []) := by rw [hys]; exact HIk.out _ hw.1 hw.2
                      have h1x : (1 : Int) ≤ (x.size : Int) := by omega
                      have f1 : wA.frozen? ⟨b9, 1, none⟩ = false := frozen_of_row wA b9 1 _ 30 SA.out.x9
                      have hl9A : b9 < wA.heap.size := (Array.getElem?_eq_some_iff.1 SA.out.x9).1
                      have SB : Hid (BH9 w (wA.setCell ⟨b9, 1, none⟩ (.string y)) b5 b6 b9 k t ad bi a m c xs k2 t2 ad2 bi2 a2 m2 c2 ys k2 y 0 0 none 0 0 []) := SA.out.put (k' := k2) (t' := y) (ad' := 0) (bi' := 0) (a' := none) (m' := 0) (c' := 0) (zs' := []) 1 (.string y) (heap_setCell_same wA b9 1 _ 30 (.string y) SA.out.x9) (pts_none _) smP_none (by omega)
                      clear hys hw hc hy HX HS
                      go_upto_region 35 with fail
                      clear q0 q1 q2 q3 q4 r0 r1 r2 r3 r4 f1 SA
                      go_wp2_with fail
                      refine (lives_any _).mono ?_
                      rintro e we1 ⟨rfl, hb⟩
                      have E1 : Hid (BH9 w we1 b5 b6 b9 k t ad bi a m c xs k2 t2 ad2 bi2 a2 m2 c2 ys k2 y 0 0 none 0 0 []) := SB.out.step hb
                      clear hb SB
                      obtain ⟨q0, q1, q2, q3, q4⟩ := gcells E1.out.x9
                      go_wp2_with fail
                      refine (cBaseI k2 y 0 0 none 0 0 [] _ E1.out.bh.max E1.out.pts9 E1.out.sm9 E1.out.t9).mono ?_
                      rintro e we2 ⟨o1, rfl, HQ, hb⟩
                      obtain rfl : o1 = true := HQ.out.2 HB.out
                      have E2 : Hid (BH9 w we2 b5 b6 b9 k t ad bi a m c xs k2 t2 ad2 bi2 a2 m2 c2 ys k2 y 0 0 none 0 0 []) := E1.out.step hb
                      clear hb E1 HQ q0 q1 q2 q3 q4
                      obtain ⟨q0, q1, q2, q3, q4⟩ := gcells E2.out.x9
                      obtain ⟨r0, r1, r2, r3, r4⟩ := gcells E2.out.bh.x5
                      go_wp2_with fail
                      refine (cWithinI k t ad bi a m c xs k2 y 0 0 none 0 0 [] _ E2.out.bh.max E2.out.bh.pts E2.out.bh.sm (by have := E2.out.bh.t; omega) E2.out.pts9 E2.out.sm9 E2.out.t9).mono ?_
                      rintro e we3 ⟨o1, rfl, HQ, hb⟩
                      obtain rfl : o1 = true := HQ.out.2 HI.out
                      have E3 : Hid (BH9 w we3 b5 b6 b9 k t ad bi a m c xs k2 t2 ad2 bi2 a2 m2 c2 ys k2 y 0 0 none 0 0 []) := E2.out.step hb
                      clear hb E2 HQ q0 q1 q2 q3 q4 r0 r1 r2 r3 r4
                      go_wp2
                      go_ret
                      exact ⟨rfl, E3.out.bh.below⟩
                  · have z1 : (k2 == 1) = false := beq_false_of_ne (by omega)
                    obtain ⟨HTL, HRR⟩ : Hid (tailP s) ∧ Hid (relM t s ∧ mailP t) := HM2.out hk2
                    have hxx : tailP x ∧ relM t x := by
                      rcases hq with rfl | ⟨hq0, hq1, hq2⟩
                      · rw [HX.out, ext_whole]; exact ⟨HTL.out, HRR.out.1⟩
                      · rw [HX.out]
                        have := tail_cut HTL.out hq0 hq1 hq2
                        exact ⟨this.1, this.2 t HRR.out.1 (tail_no64 HTL.out) HRR.out.2⟩
                    have HB : Hid (baseP ⟨k2, x, 0, 0⟩ []) := .inr (.inl ⟨hk2, ⟨rfl, rfl, rfl⟩, tail_base hxx.1⟩)
                    have HI : Hid (withinP ⟨k, t, ad, bi⟩ xs ⟨k2, x, 0, 0⟩ []) := ⟨HG.out, HB.out, HK.out.2, .inr (.inl ⟨HK.out.2.trans hk2, hxx.2⟩)⟩
                    clear hxx hk2 HX
                    go_upto_region 35 with fail
                    clear q0 q1 q2 q3 q4 r0 r1 r2 r3 r4
                    go_wp2_with fail
                    refine (lives_any _).mono ?_
                    rintro e we1 ⟨rfl, hb⟩
                    have E1 : Hid (BH9 w we1 b5 b6 b9 k t ad bi a m c xs k2 t2 ad2 bi2 a2 m2 c2 ys k2 x 0 0 none 0 0 []) := SA.out.step hb
                    clear hb SA
                    obtain ⟨q0, q1, q2, q3, q4⟩ := gcells E1.out.x9
                    go_wp2_with fail
                    refine (cBaseI k2 x 0 0 none 0 0 [] _ E1.out.bh.max E1.out.pts9 E1.out.sm9 E1.out.t9).mono ?_
                    rintro e we2 ⟨o1, rfl, HQ, hb⟩
                    obtain rfl : o1 = true := HQ.out.2 HB.out
                    have E2 : Hid (BH9 w we2 b5 b6 b9 k t ad bi a m c xs k2 t2 ad2 bi2 a2 m2 c2 ys k2 x 0 0 none 0 0 []) := E1.out.step hb
                    clear hb E1 HQ q0 q1 q2 q3 q4
                    obtain ⟨q0, q1, q2, q3, q4⟩ := gcells E2.out.x9
                    obtain ⟨r0, r1, r2, r3, r4⟩ := gcells E2.out.bh.x5
                    go_wp2_with fail
                    refine (cWithinI k t ad bi a m c xs k2 x 0 0 none 0 0 [] _ E2.out.bh.max E2.out.bh.pts E2.out.bh.sm (by have := E2.out.bh.t; omega) E2.out.pts9 E2.out.sm9 E2.out.t9).mono ?_
                    rintro e we3 ⟨o1, rfl, HQ, hb⟩
                    obtain rfl : o1 = true := HQ.out.2 HI.out
                    have E3 : Hid (BH9 w we3 b5 b6 b9 k t ad bi a m c xs k2 t2 ad2 bi2 a2 m2 c2 ys k2 x 0 0 none 0 0 []) := E2.out.step hb
                    clear hb E2 HQ q0 q1 q2 q3 q4 r0 r1 r2 r3 r4
                    go_wp2
                    go_ret
                    exact ⟨rfl, E3.out.bh.below⟩
                · go_wp2_with fail
                  go_roundw
                  case rel => exact ⟨x9 - 1, j, j + 1, rfl, rfl, by go_num, by omega, by omega, by omega, HQ2, by trivial⟩
                  case measure => simp [intOf]; omega
              · have hcc : ((s[j].toNat : Int) == 46 && decide ((0 : Int) < (j : Int))) = false := by
                  by_cases h1 : (s[j].toNat : Int) = 46
                  · have : ¬ 0 < j := fun h => hc ⟨h1, h⟩
                    simp; omega
                  · simp [h1]
                clear hget
                by_cases hc1 : (s[j].toNat : Int) = 46
                · have zc : ((s[j].toNat : Int) == 46) = true := beq_iff_eq.2 hc1
                  have hj0 : ¬ (0 : Int) < (j : Int) := fun h => hc ⟨hc1, by omega⟩
                  have hj00 : (j : Int) ≤ 0 := by omega
                  clear hc hcc hc1
                  by_cases hbr : x9 ≤ 0
                  · go_upto_region 27 with fail
                    have hq := HQ.out
                    clear zc hj0 hj00 hbr hlti
                    obtain ⟨x, hx⟩ : ∃ x, x = s.extract q s.size := ⟨_, rfl⟩
                    have hqs : q ≤ s.size ∧ q < s.size := by rcases hq with h | h <;> omega
                    have hqi : (q : Int) ≤ (s.size : Int) := by omega
                    have hxz : x.size = s.size - q := by rw [hx, ext_sz _ _ _ (Nat.le_refl _)]
                    have hex : s.extract q s.size = x := hx.symm
                    have hxp : 0 < x.size := by omega
                    have hxi : (0 : Int) < (x.size : Int) := by omega
                    have hl9 : b9 < wb.heap.size := (Array.getElem?_eq_some_iff.1 S9.out.x9).1
                    obtain ⟨r0, r1, r2, r3, r4⟩ := gcells S9.out.x9
                    have f1 : wb.frozen? ⟨b9, 1, none⟩ = false := frozen_of_row wb b9 1 _ 30 S9.out.x9
                    have SA : Hid (BH9 w (wb.setCell ⟨b9, 1, none⟩ (.string x)) b5 b6 b9 k t ad bi a m c xs k2 t2 ad2 bi2 a2 m2 c2 ys k2 x 0 0 none 0 0 []) := S9.out.put (k' := k2) (t' := x) (ad' := 0) (bi' := 0) (a' := none) (m' := 0) (c' := 0) (zs' := []) 1 (.string x) (heap_setCell_same wb b9 1 _ 30 (.string x) S9.out.x9) (pts_none _) smP_none (by omega)
                    have HX : Hid (x = s.extract q s.size) := hx
                    have HFX : Hid ((x[0].toNat : Int) = cAt x 0) := (cAt_get x 0 hxp).symm
                    clear hx
                    go_upto_region 28 with fail
                    obtain ⟨wA, hwA⟩ : ∃ wA, wA = wb.setCell ⟨b9, 1, none⟩ (.string x) := ⟨_, rfl⟩
                    rw [← hwA] at SA
                    rw [← hwA]
                    clear hwA r0 r1 r2 r3 r4 f1 S9 q0 q1 q2 q3 q4 hex hqi
                    obtain ⟨q0, q1, q2, q3, q4⟩ := gcells SA.out.bh.x6
                    obtain ⟨r0, r1, r2, r3, r4⟩ := gcells SA.out.x9
                    rcases HK.out.1 with hk1 | hk2
                    · have z1 : (k2 == 1) = true := beq_iff_eq.2 hk1
                      obtain ⟨HH, HRR⟩ : Hid (hostP t2 false) ∧ Hid (relH t t2) := HH1.out hk1
                      have HS : Hid (s = t2) := HS1.out hk1
                      have HBk : Hid (∀ y, hostP y false → baseP ⟨k2, y, 0, 0⟩ []) := fun y hy => .inl ⟨hk1, ⟨rfl, rfl, rfl⟩, hy⟩
                      have HIk : Hid (∀ y, hostP y false → relH t y → withinP ⟨k, t, ad, bi⟩ xs ⟨k2, y, 0, 0⟩ []) := fun y hy hr => ⟨HG.out, HBk.out y hy, HK.out.2, .inl ⟨HK.out.2.trans hk1, hr⟩⟩
                      clear hk1
                      rcases hq with rfl | ⟨hq0, hq1, hq2⟩
                      · have hxs : x = t2 := by rw [HX.out, ext_whole, HS.out]
                        have hc : ¬ (x[0].toNat : Int) = 46 := by rw [HFX.out, hxs]; exact host_nodot HH.out
                        have zc : ((x[0].toNat : Int) == 46) = false := beq_false_of_ne hc
                        have HB : Hid (baseP ⟨k2, x, 0, 0⟩ []) := by rw [hxs]; exact HBk.out _ HH.out
                        have HI : Hid (withinP ⟨k, t, ad, bi⟩ xs ⟨k2, x, 0, 0⟩ []) := by rw [hxs]; exact HIk.out _ HH.out HRR.out
                        clear hxs hc HX HS
                        go_upto_region 35 with fail
                        clear q0 q1 q2 q3 q4 r0 r1 r2 r3 r4
                        go_wp2_with fail
                        refine (lives_any _).mono ?_
                        rintro e we1 ⟨rfl, hb⟩
                        have E1 : Hid (BH9 w we1 b5 b6 b9 k t ad bi a m c xs k2 t2 ad2 bi2 a2 m2 c2 ys k2 x 0 0 none 0 0 []) := SA.out.step hb
                        clear hb SA
                        obtain ⟨q0, q1, q2, q3, q4⟩ := gcells E1.out.x9
                        go_wp2_with fail
                        refine (cBaseI k2 x 0 0 none 0 0 [] _ E1.out.bh.max E1.out.pts9 E1.out.sm9 E1.out.t9).mono ?_
                        rintro e we2 ⟨o1, rfl, HQ, hb⟩
                        obtain rfl : o1 = true := HQ.out.2 HB.out
                        have E2 : Hid (BH9 w we2 b5 b6 b9 k t ad bi a m c xs k2 t2 ad2 bi2 a2 m2 c2 ys k2 x 0 0 none 0 0 []) := E1.out.step hb
                        clear hb E1 HQ q0 q1 q2 q3 q4
                        obtain ⟨q0, q1, q2, q3, q4⟩ := gcells E2.out.x9
                        obtain ⟨r0, r1, r2, r3, r4⟩ := gcells E2.out.bh.x5
                        go_wp2_with fail
                        refine (cWithinI k t ad bi a m c xs k2 x 0 0 none 0 0 [] _ E2.out.bh.max E2.out.bh.pts E2.out.bh.sm (by have := E2.out.bh.t; omega) E2.out.pts9 E2.out.sm9 E2.out.t9).mono ?_
                        rintro e we3 ⟨o1, rfl, HQ, hb⟩
                        obtain rfl : o1 = true := HQ.out.2 HI.out
                        have E3 : Hid (BH9 w we3 b5 b6 b9 k t ad bi a m c xs k2 t2 ad2 bi2 a2 m2 c2 ys k2 x 0 0 none 0 0 []) := E2.out.step hb
                        clear hb E2 HQ q0 q1 q2 q3 q4 r0 r1 r2 r3 r4
                        go_wp2
                        go_ret
                        exact ⟨rfl, E3.out.bh.below⟩
                      · have hc : (x[0].toNat : Int) = 46 := by rw [HFX.out, HX.out, ext_cAt s q s.size 0 (by omega)]; exact hq2
                        have zc : ((x[0].toNat : Int) == 46) = true := beq_iff_eq.2 hc
                        obtain ⟨y, hy⟩ : ∃ y, y = x.extract 1 x.size := ⟨_, rfl⟩
                        have hey : x.extract 1 x.size = y := hy.symm
                        have hey2 : x.extract 1 (s.size - q) = y := by rw [← hxz]; exact hey
                        have hyz : y.size ≤ x.size := by rw [hy, ext_sz _ _ _ (Nat.le_refl _)]; omega
                        have hys : y = t2.extract (q + 1) t2.size := by
                          rw [hy, HX.out, ext_sz _ _ _ (Nat.le_refl _), ext_ext s q 1 (s.size - q) (by omega), show q + (s.size - q) = s.size by omega, HS.out]
                        have hw := host_wide (s := t) HH.out HRR.out (t := q) (by rw [← HS.out]; omega) (by rw [← HS.out]; exact hq2)
                        have HB : Hid (baseP ⟨k2, y, 0, 0⟩ []) := by rw [hys]; exact HBk.out _ hw.1
                        have HI : Hid (withinP ⟨k, t, ad, bi⟩ xs ⟨k2, y, 0, 0⟩ []) := by rw [hys]; exact HIk.out _ hw.1 hw.2
                        have h1x : (1 : Int) ≤ (x.size : Int) := by omega
                        have f1 : wA.frozen? ⟨b9, 1, none⟩ = false := frozen_of_row wA b9 1 _ 30 SA.out.x9
                        have hl9A : b9 < wA.heap.size := (Array.getElem?_eq_some_iff.1 SA.out.x9).1
                        have SB : Hid (BH9 w (wA.setCell ⟨b9, 1, none⟩ (.string y)) b5 b6 b9 k t ad bi a m c xs k2 t2 ad2 bi2 a2 m2 c2 ys k2 y 0 0 none 0 0 []) := SA.out.put (k' := k2) (t' := y) (ad' := 0) (bi' := 0) (a' := none) (m' := 0) (c' := 0) (zs' := []) 1 (.string y) (heap_setCell_same wA b9 1 _ 30 (.string y) SA.out.x9) (pts_none _) smP_none (by omega)
                        clear hys hw hc hy HX HS
                        go_upto_region 35 with fail
                        clear q0 q1 q2 q3 q4 r0 r1 r2 r3 r4 f1 SA
                        go_wp2_with fail
                        refine (lives_any _).mono ?_
                        rintro e we1 ⟨rfl, hb⟩
                        have E1 : Hid (BH9 w we1 b5 b6 b9 k t ad bi a m c xs k2 t2 ad2 bi2 a2 m2 c2 ys k2 y 0 0 none 0 0 []) := SB.out.step hb
                        clear hb SB
                        obtain ⟨q0, q1, q2, q3, q4⟩ := gcells E1.out.x9
                        go_wp2_with fail
                        refine (cBaseI k2 y 0 0 none 0 0 [] _ E1.out.bh.max E1.out.pts9 E1.out.sm9 E1.out.t9).mono ?_
                        rintro e we2 ⟨o1, rfl, HQ, hb⟩
                        obtain rfl : o1 = true := HQ.out.2 HB.out
                        have E2 : Hid (BH9 w we2 b5 b6 b9 k t ad bi a m c xs k2 t2 ad2 bi2 a2 m2 c2 ys k2 y 0 0 none 0 0 []) := E1.out.step hb
                        clear hb E1 HQ q0 q1 q2 q3 q4
                        obtain ⟨q0, q1, q2, q3, q4⟩ := gcells E2.out.x9
                        obtain ⟨r0, r1, r2, r3, r4⟩ := gcells E2.out.bh.x5
                        go_wp2_with fail
                        refine (cWithinI k t ad bi a m c xs k2 y 0 0 none 0 0 [] _ E2.out.bh.max E2.out.bh.pts E2.out.bh.sm (by have := E2.out.bh.t; omega) E2.out.pts9 E2.out.sm9 E2.out.t9).mono ?_
                        rintro e we3 ⟨o1, rfl, HQ, hb⟩
                        obtain rfl : o1 = true := HQ.out.2 HI.out
                        have E3 : Hid (BH9 w we3 b5 b6 b9 k t ad bi a m c xs k2 t2 ad2 bi2 a2 m2 c2 ys k2 y 0 0 none 0 0 []) := E2.out.step hb
                        clear hb E2 HQ q0 q1 q2 q3 q4 r0 r1 r2 r3 r4
                        go_wp2
                        go_ret
                        exact ⟨rfl, E3.out.bh.below⟩
                    · have z1 : (k2 == 1) = false := beq_false_of_ne (by omega)
                      obtain ⟨HTL, HRR⟩ : Hid (tailP s) ∧ Hid (relM t s ∧ mailP t) := HM2.out hk2
                      have hxx : tailP x ∧ relM t x := by
                        rcases hq with rfl | ⟨hq0, hq1, hq2⟩
                        · rw [HX.out, ext_whole]; exact ⟨HTL.out, HRR.out.1⟩
                        · rw [HX.out]
                          have := tail_cut HTL.out hq0 hq1 hq2
                          exact ⟨this.1, this.2 t HRR.out.1 (tail_no64 HTL.out) HRR.out.2⟩
                      have HB : Hid (baseP ⟨k2, x, 0, 0⟩ []) := .inr (.inl ⟨hk2, ⟨rfl, rfl, rfl⟩, tail_base hxx.1⟩)
                      have HI : Hid (withinP ⟨k, t, ad, bi⟩ xs ⟨k2, x, 0, 0⟩ []) := ⟨HG.out, HB.out, HK.out.2, .inr (.inl ⟨HK.out.2.trans hk2, hxx.2⟩)⟩
                      clear hxx hk2 HX
                      go_upto_region 35 with fail
                      clear q0 q1 q2 q3 q4 r0 r1 r2 r3 r4
                      go_wp2_with fail
                      refine (lives_any _).mono ?_
                      rintro e we1 ⟨rfl, hb⟩
                      have E1 : Hid (BH9 w we1 b5 b6 b9 k t ad bi a m c xs k2 t2 ad2 bi2 a2 m2 c2 ys k2 x 0 0 none 0 0 []) := SA.out.step hb
                      clear hb SA
                      obtain ⟨q0, q1, q2, q3, q4⟩ := gcells E1.out.x9
                      go_wp2_with fail
                      refine (cBaseI k2 x 0 0 none 0 0 [] _ E1.out.bh.max E1.out.pts9 E1.out.sm9 E1.out.t9).mono ?_
                      rintro e we2 ⟨o1, rfl, HQ, hb⟩
                      obtain rfl : o1 = true := HQ.out.2 HB.out
                      have E2 : Hid (BH9 w we2 b5 b6 b9 k t ad bi a m c xs k2 t2 ad2 bi2 a2 m2 c2 ys k2 x 0 0 none 0 0 []) := E1.out.step hb
                      clear hb E1 HQ q0 q1 q2 q3 q4
                      obtain ⟨q0, q1, q2, q3, q4⟩ := gcells E2.out.x9
                      obtain ⟨r0, r1, r2, r3, r4⟩ := gcells E2.out.bh.x5
                      go_wp2_with fail
                      refine (cWithinI k t ad bi a m c xs k2 x 0 0 none 0 0 [] _ E2.out.bh.max E2.out.bh.pts E2.out.bh.sm (by have := E2.out.bh.t; omega) E2.out.pts9 E2.out.sm9 E2.out.t9).mono ?_
                      rintro e we3 ⟨o1, rfl, HQ, hb⟩
                      obtain rfl : o1 = true := HQ.out.2 HI.out
                      have E3 : Hid (BH9 w we3 b5 b6 b9 k t ad bi a m c xs k2 t2 ad2 bi2 a2 m2 c2 ys k2 x 0 0 none 0 0 []) := E2.out.step hb
                      clear hb E2 HQ q0 q1 q2 q3 q4 r0 r1 r2 r3 r4
                      go_wp2
                      go_ret
                      exact ⟨rfl, E3.out.bh.below⟩
                  · go_wp2_with fail
                    go_roundw
                    case rel => exact ⟨x9, q, j + 1, rfl, rfl, by go_num, by omega, by omega, by omega, HQ, by trivial⟩
                    case measure => simp [intOf]; omega
                · have zc : ((s[j].toNat : Int) == 46) = false := beq_false_of_ne hc1
                  clear hc hcc hc1
                  by_cases hbr : x9 ≤ 0
                  · go_upto_region 27 with fail
                    have hq := HQ.out
                    clear zc hbr hlti
                    obtain ⟨x, hx⟩ : ∃ x, x = s.extract q s.size := ⟨_, rfl⟩
                    have hqs : q ≤ s.size ∧ q < s.size := by rcases hq with h | h <;> omega
                    have hqi : (q : Int) ≤ (s.size : Int) := by omega
                    have hxz : x.size = s.size - q := by rw [hx, ext_sz _ _ _ (Nat.le_refl _)]
                    have hex : s.extract q s.size = x := hx.symm
                    have hxp : 0 < x.size := by omega
                    have hxi : (0 : Int) < (x.size : Int) := by omega
                    have hl9 : b9 < wb.heap.size := (Array.getElem?_eq_some_iff.1 S9.out.x9).1
                    obtain ⟨r0, r1, r2, r3, r4⟩ := gcells S9.out.x9
                    have f1 : wb.frozen? ⟨b9, 1, none⟩ = false := frozen_of_row wb b9 1 _ 30 S9.out.x9
                    have SA : Hid (BH9 w (wb.setCell ⟨b9, 1, none⟩ (.string x)) b5 b6 b9 k t ad bi a m c xs k2 t2 ad2 bi2 a2 m2 c2 ys k2 x 0 0 none 0 0 []) := S9.out.put (k' := k2) (t' := x) (ad' := 0) (bi' := 0) (a' := none) (m' := 0) (c' := 0) (zs' := []) 1 (.string x) (heap_setCell_same wb b9 1 _ 30 (.string x) S9.out.x9) (pts_none _) smP_none (by omega)
                    have HX : Hid (x = s.extract q s.size) := hx
                    have HFX : Hid ((x[0].toNat : Int) = cAt x 0) := (cAt_get x 0 hxp).symm
                    clear hx
                    go_upto_region 28 with fail
                    obtain ⟨wA, hwA⟩ : ∃ wA, wA = wb.setCell ⟨b9, 1, none⟩ (.string x) := ⟨_, rfl⟩
                    rw [← hwA] at SA
                    rw [← hwA]
                    clear hwA r0 r1 r2 r3 r4 f1 S9 q0 q1 q2 q3 q4 hex hqi
                    obtain ⟨q0, q1, q2, q3, q4⟩ := gcells SA.out.bh.x6
                    obtain ⟨r0, r1, r2, r3, r4⟩ := gcells SA.out.x9
                    rcases HK.out.1 with hk1 | hk2
                    · have z1 : (k2 == 1) = true := beq_iff_eq.2 hk1
                      obtain ⟨HH, HRR⟩ : Hid (hostP t2 false) ∧ Hid (relH t t2) := HH1.out hk1
                      have HS : Hid (s = t2) := HS1.out hk1
                      have HBk : Hid (∀ y, hostP y false → baseP ⟨k2, y, 0, 0⟩ []) := fun y hy => .inl ⟨hk1, ⟨rfl, rfl, rfl⟩, hy⟩
                      have HIk : Hid (∀ y, hostP y false → relH t y → withinP ⟨k, t, ad, bi⟩ xs ⟨k2, y, 0, 0⟩ []) := fun y hy hr => ⟨HG.out, HBk.out y hy, HK.out.2, .inl ⟨HK.out.2.trans hk1, hr⟩⟩
                      clear hk1
                      rcases hq with rfl | ⟨hq0, hq1, hq2⟩
                      · have hxs : x = t2 := by rw [HX.out, ext_whole, HS.out]
                        have hc : ¬ (x[0].toNat : Int) = 46 := by rw [HFX.out, hxs]; exact host_nodot HH.out
                        have zc : ((x[0].toNat : Int) == 46) = false := beq_false_of_ne hc
                        have HB : Hid (baseP ⟨k2, x, 0, 0⟩ []) := by rw [hxs]; exact HBk.out _ HH.out
                        have HI : Hid (withinP ⟨k, t, ad, bi⟩ xs ⟨k2, x, 0, 0⟩ []) := by rw [hxs]; exact HIk.out _ HH.out HRR.out
                        clear hxs hc HX HS
                        go_upto_region 35 with fail
                        clear q0 q1 q2 q3 q4 r0 r1 r2 r3 r4
                        go_wp2_with fail
                        refine (lives_any _).mono ?_
                        rintro e we1 ⟨rfl, hb⟩
                        have E1 : Hid (BH9 w we1 b5 b6 b9 k t ad bi a m c xs k2 t2 ad2 bi2 a2 m2 c2 ys k2 x 0 0 none 0 0 []) := SA.out.step hb
                        clear hb SA
                        obtain ⟨q0, q1, q2, q3, q4⟩ := gcells E1.out.x9
                        go_wp2_with fail
                        refine (cBaseI k2 x 0 0 none 0 0 [] _ E1.out.bh.max E1.out.pts9 E1.out.sm9 E1.out.t9).mono ?_
                        rintro e we2 ⟨o1, rfl, HQ, hb⟩
                        obtain rfl : o1 = true := HQ.out.2 HB.out
                        have E2 : Hid (BH9 w we2 b5 b6 b9 k t ad bi a m c xs k2 t2 ad2 bi2 a2 m2 c2 ys k2 x 0 0 none 0 0 []) := E1.out.step hb
                        clear hb E1 HQ q0 q1 q2 q3 q4
                        obtain ⟨q0, q1, q2, q3, q4⟩ := gcells E2.out.x9
                        obtain ⟨r0, r1, r2, r3, r4⟩ := gcells E2.out.bh.x5
                        go_wp2_with fail
                        refine (cWithinI k t ad bi a m c xs k2 x 0 0 none 0 0 [] _ E2.out.bh.max E2.out.bh.pts E2.out.bh.sm (by have := E2.out.bh.t; omega) E2.out.pts9 E2.out.sm9 E2.out.t9).mono ?_
                        rintro e we3 ⟨o1, rfl, HQ, hb⟩
                        obtain rfl : o1 = true := HQ.out.2 HI.out
                        have E3 : Hid (BH9 w we3 b5 b6 b9 k t ad bi a m c xs k2 t2 ad2 bi2 a2 m2 c2 ys k2 x 0 0 none 0 0 []) := E2.out.step hb
                        clear hb E2 HQ q0 q1 q2 q3 q4 r0 r1 r2 r3 r4
                        go_wp2
                        go_ret
                        exact ⟨rfl, E3.out.bh.below⟩
                      · have hc : (x[0].toNat : Int) = 46 := by rw [HFX.out, HX.out, ext_cAt s q s.size 0 (by omega)]; exact hq2
                        have zc : ((x[0].toNat : Int) == 46) = true := beq_iff_eq.2 hc
                        obtain ⟨y, hy⟩ : ∃ y, y = x.extract 1 x.size := ⟨_, rfl⟩
                        have hey : x.extract 1 x.size = y := hy.symm
                        have hey2 : x.extract 1 (s.size - q) = y := by rw [← hxz]; exact hey
                        have hyz : y.size ≤ x.size := by rw [hy, ext_sz _ _ _ (Nat.le_refl _)]; omega
                        have hys : y = t2.extract (q + 1) t2.size := by
                          rw [hy, HX.out, ext_sz _ _ _ (Nat.le_refl _), ext_ext s q 1 (s.size - q) (by omega), show q + (s.size - q) = s.size by omega, HS.out]
                        have hw := host_wide (s := t) HH.out HRR.out (t := q) (by rw [← HS.out]; omega) (by rw [← HS.out]; exact hq2)
                        have HB : Hid (baseP ⟨k2, y, 0, 0⟩ []) := by rw [hys]; exact HBk.out _ hw.1
                        have HI : Hid (withinP ⟨k, t, ad, bi⟩ xs ⟨k2, y, 0, 0⟩ []) := by rw [hys]; exact HIk.out _ hw.1 hw.2
                        have h1x : (1 : Int) ≤ (x.size : Int) := by omega
                        have f1 : wA.frozen? ⟨b9, 1, none⟩ = false := frozen_of_row wA b9 1 _ 30 SA.out.x9
                        have hl9A : b9 < wA.heap.size := (Array.getElem?_eq_some_iff.1 SA.out.x9).1
                        have SB : Hid (BH9 w (wA.setCell ⟨b9, 1, none⟩ (.string y)) b5 b6 b9 k t ad bi a m c xs k2 t2 ad2 bi2 a2 m2 c2 ys k2 y 0 0 none 0 0 []) := SA.out.put (k' := k2) (t' := y) (ad' := 0) (bi' := 0) (a' := none) (m' := 0) (c' := 0) (zs' := []) 1 (.string y) (heap_setCell_same wA b9 1 _ 30 (.string y) SA.out.x9) (pts_none _) smP_none (by omega)
                        clear hys hw hc hy HX HS
                        go_upto_region 35 with fail
                        clear q0 q1 q2 q3 q4 r0 r1 r2 r3 r4 f1 SA
                        go_wp2_with fail
                        refine (lives_any _).mono ?_
                        rintro e we1 ⟨rfl, hb⟩
                        have E1 : Hid (BH9 w we1 b5 b6 b9 k t ad bi a m c xs k2 t2 ad2 bi2 a2 m2 c2 ys k2 y 0 0 none 0 0 []) := SB.out.step hb
                        clear hb SB
                        obtain ⟨q0, q1, q2, q3, q4⟩ := gcells E1.out.x9
                        go_wp2_with fail
                        refine (cBaseI k2 y 0 0 none 0 0 [] _ E1.out.bh.max E1.out.pts9 E1.out.sm9 E1.out.t9).mono ?_
                        rintro e we2 ⟨o1, rfl, HQ, hb⟩
                        obtain rfl : o1 = true := HQ.out.2 HB.out
                        have E2 : Hid (BH9 w we2 b5 b6 b9 k t ad bi a m c xs k2 t2 ad2 bi2 a2 m2 c2 ys k2 y 0 0 none 0 0 []) := E1.out.step hb
                        clear hb E1 HQ q0 q1 q2 q3 q4
                        obtain ⟨q0, q1, q2, q3, q4⟩ := gcells E2.out.x9
                        obtain ⟨r0, r1, r2, r3, r4⟩ := gcells E2.out.bh.x5
                        go_wp2_with fail
                        refine (cWithinI k t ad bi a m c xs k2 y 0 0 none 0 0 [] _ E2.out.bh.max E2.out.bh.pts E2.out.bh.sm (by have := E2.out.bh.t; omega) E2.out.pts9 E2.out.sm9 E2.out.t9).mono ?_
                        rintro e we3 ⟨o1, rfl, HQ, hb⟩
                        obtain rfl : o1 = true := HQ.out.2 HI.out
                        have E3 : Hid (BH9 w we3 b5 b6 b9 k t ad bi a m c xs k2 t2 ad2 bi2 a2 m2 c2 ys k2 y 0 0 none 0 0 []) := E2.out.step hb
                        clear hb E2 HQ q0 q1 q2 q3 q4 r0 r1 r2 r3 r4
                        go_wp2
                        go_ret
                        exact ⟨rfl, E3.out.bh.below⟩
                    · have z1 : (k2 == 1) = false := beq_false_of_ne (by omega)
                      obtain ⟨HTL, HRR⟩ : Hid (tailP s) ∧ Hid (relM t s ∧ mailP t) := HM2.out hk2
                      have hxx : tailP x ∧ relM t x := by
                        rcases hq with rfl | ⟨hq0, hq1, hq2⟩
                        · rw [HX.out, ext_whole]; exact ⟨HTL.out, HRR.out.1⟩
                        · rw [HX.out]
                          have := tail_cut HTL.out hq0 hq1 hq2
                          exact ⟨this.1, this.2 t HRR.out.1 (tail_no64 HTL.out) HRR.out.2⟩
                      have HB : Hid (baseP ⟨k2, x, 0, 0⟩ []) := .inr (.inl ⟨hk2, ⟨rfl, rfl, rfl⟩, tail_base hxx.1⟩)
                      have HI : Hid (withinP ⟨k, t, ad, bi⟩ xs ⟨k2, x, 0, 0⟩ []) := ⟨HG.out, HB.out, HK.out.2, .inr (.inl ⟨HK.out.2.trans hk2, hxx.2⟩)⟩
                      clear hxx hk2 HX
                      go_upto_region 35 with fail
                      clear q0 q1 q2 q3 q4 r0 r1 r2 r3 r4
                      go_wp2_with fail
                      refine (lives_any _).mono ?_
                      rintro e we1 ⟨rfl, hb⟩
                      have E1 : Hid (BH9 w we1 b5 b6 b9 k t ad bi a m c xs k2 t2 ad2 bi2 a2 m2 c2 ys k2 x 0 0 none 0 0 []) := SA.out.step hb
                      clear hb SA
                      obtain ⟨q0, q1, q2, q3, q4⟩ := gcells E1.out.x9
                      go_wp2_with fail
                      refine (cBaseI k2 x 0 0 none 0 0 [] _ E1.out.bh.max E1.out.pts9 E1.out.sm9 E1.out.t9).mono ?_
                      rintro e we2 ⟨o1, rfl, HQ, hb⟩
                      obtain rfl : o1 = true := HQ.out.2 HB.out
                      have E2 : Hid (BH9 w we2 b5 b6 b9 k t ad bi a m c xs k2 t2 ad2 bi2 a2 m2 c2 ys k2 x 0 0 none 0 0 []) := E1.out.step hb
                      clear hb E1 HQ q0 q1 q2 q3 q4
                      obtain ⟨q0, q1, q2, q3, q4⟩ := gcells E2.out.x9
                      obtain ⟨r0, r1, r2, r3, r4⟩ := gcells E2.out.bh.x5
                      go_wp2_with fail
                      refine (cWithinI k t ad bi a m c xs k2 x 0 0 none 0 0 [] _ E2.out.bh.max E2.out.bh.pts E2.out.bh.sm (by have := E2.out.bh.t; omega) E2.out.pts9 E2.out.sm9 E2.out.t9).mono ?_
                      rintro e we3 ⟨o1, rfl, HQ, hb⟩
                      obtain rfl : o1 = true := HQ.out.2 HI.out
                      have E3 : Hid (BH9 w we3 b5 b6 b9 k t ad bi a m c xs k2 t2 ad2 bi2 a2 m2 c2 ys k2 x 0 0 none 0 0 []) := E2.out.step hb
                      clear hb E2 HQ q0 q1 q2 q3 q4 r0 r1 r2 r3 r4
                      go_wp2
                      go_ret
                      exact ⟨rfl, E3.out.bh.below⟩
                  · go_wp2_with fail
                    go_roundw
                    case rel => exact ⟨x9, q, j + 1, rfl, rfl, by go_num, by omega, by omega, by omega, HQ, by trivial⟩
                    case measure => simp [intOf]; omega
            · have hlti : ¬ (j : Int) + 1 < (s.size : Int) := by omega
              go_upto_region 27 with fail
              have hq := HQ.out
              clear hlti
              obtain ⟨x, hx⟩ : ∃ x, x = s.extract q s.size := ⟨_, rfl⟩
              have hqs : q ≤ s.size ∧ q < s.size := by rcases hq with h | h <;> omega
              have hqi : (q : Int) ≤ (s.size : Int) := by omega
              have hxz : x.size = s.size - q := by rw [hx, ext_sz _ _ _ (Nat.le_refl _)]
              have hex : s.extract q s.size = x := hx.symm
              have hxp : 0 < x.size := by omega
              have hxi : (0 : Int) < (x.size : Int) := by omega
              have hl9 : b9 < wb.heap.size := (Array.getElem?_eq_some_iff.1 S9.out.x9).1
              obtain ⟨r0, r1, r2, r3, r4⟩ := gcells S9.out.x9
              have f1 : wb.frozen? ⟨b9, 1, none⟩ = false := frozen_of_row wb b9 1 _ 30 S9.out.x9
              have SA : Hid (BH9 w (wb.setCell ⟨b9, 1, none⟩ (.string x)) b5 b6 b9 k t ad bi a m c xs k2 t2 ad2 bi2 a2 m2 c2 ys k2 x 0 0 none 0 0 []) := S9.out.put (k' := k2) (t' := x) (ad' := 0) (bi' := 0) (a' := none) (m' := 0) (c' := 0) (zs' := []) 1 (.string x) (heap_setCell_same wb b9 1 _ 30 (.string x) S9.out.x9) (pts_none _) smP_none (by omega)
              have HX : Hid (x = s.extract q s.size) := hx
              have HFX : Hid ((x[0].toNat : Int) = cAt x 0) := (cAt_get x 0 hxp).symm
              clear hx
              go_upto_region 28 with fail
              obtain ⟨wA, hwA⟩ : ∃ wA, wA = wb.setCell ⟨b9, 1, none⟩ (.string x) := ⟨_, rfl⟩
              rw [← hwA] at SA
              rw [← hwA]
              clear hwA r0 r1 r2 r3 r4 f1 S9 q0 q1 q2 q3 q4 hex hqi
              obtain ⟨q0, q1, q2, q3, q4⟩ := gcells SA.out.bh.x6
              obtain ⟨r0, r1, r2, r3, r4⟩ := gcells SA.out.x9
              rcases HK.out.1 with hk1 | hk2
              · have z1 : (k2 == 1) = true := beq_iff_eq.2 hk1
                obtain ⟨HH, HRR⟩ : Hid (hostP t2 false) ∧ Hid (relH t t2) := HH1.out hk1
                have HS : Hid (s = t2) := HS1.out hk1
                have HBk : Hid (∀ y, hostP y false → baseP ⟨k2, y, 0, 0⟩ []) := fun y hy => .inl ⟨hk1, ⟨rfl, rfl, rfl⟩, hy⟩
                have HIk : Hid (∀ y, hostP y false → relH t y → withinP ⟨k, t, ad, bi⟩ xs ⟨k2, y, 0, 0⟩ []) := fun y hy hr => ⟨HG.out, HBk.out y hy, HK.out.2, .inl ⟨HK.out.2.trans hk1, hr⟩⟩
                clear hk1
                rcases hq with rfl | ⟨hq0, hq1, hq2⟩
                · have hxs : x = t2 := by rw [HX.out, ext_whole, HS.out]
                  have hc : ¬ (x[0].toNat : Int) = 46 := by rw [HFX.out, hxs]; exact host_nodot HH.out
                  have zc : ((x[0].toNat : Int) == 46) = false := beq_false_of_ne hc
                  have HB : Hid (baseP ⟨k2, x, 0, 0⟩ []) := by rw [hxs]; exact HBk.out _ HH.out
                  have HI : Hid (withinP ⟨k, t, ad, bi⟩ xs ⟨k2, x, 0, 0⟩ []) := by rw [hxs]; exact HIk.out _ HH.out HRR.out
                  clear hxs hc HX HS
                  go_upto_region 35 with fail
                  clear q0 q1 q2 q3 q4 r0 r1 r2 r3 r4
                  go_wp2_with fail
                  refine (lives_any _).mono ?_
                  rintro e we1 ⟨rfl, hb⟩
                  have E1 : Hid (BH9 w we1 b5 b6 b9 k t ad bi a m c xs k2 t2 ad2 bi2 a2 m2 c2 ys k2 x 0 0 none 0 0 []) := SA.out.step hb
                  clear hb SA
                  obtain ⟨q0, q1, q2, q3, q4⟩ := gcells E1.out.x9
                  go_wp2_with fail
                  refine (cBaseI k2 x 0 0 none 0 0 [] _ E1.out.bh.max E1.out.pts9 E1.out.sm9 E1.out.t9).mono ?_
                  rintro e we2 ⟨o1, rfl, HQ, hb⟩
                  obtain rfl : o1 = true := HQ.out.2 HB.out
                  have E2 : Hid (BH9 w we2 b5 b6 b9 k t ad bi a m c xs k2 t2 ad2 bi2 a2 m2 c2 ys k2 x 0 0 none 0 0 []) := E1.out.step hb
                  clear hb E1 HQ q0 q1 q2 q3 q4
                  obtain ⟨q0, q1, q2, q3, q4⟩ := gcells E2.out.x9
                  obtain ⟨r0, r1, r2, r3, r4⟩ := gcells E2.out.bh.x5
                  go_wp2_with fail
                  refine (cWithinI k t ad bi a m c xs k2 x 0 0 none 0 0 [] _ E2.out.bh.max E2.out.bh.pts E2.out.bh.sm (by have := E2.out.bh.t; omega) E2.out.pts9 E2.out.sm9 E2.out.t9).mono ?_
                  rintro e we3 ⟨o1, rfl, HQ, hb⟩
                  obtain rfl : o1 = true := HQ.out.2 HI.out
                  have E3 : Hid (BH9 w we3 b5 b6 b9 k t ad bi a m c xs k2 t2 ad2 bi2 a2 m2 c2 ys k2 x 0 0 none 0 0 []) := E2.out.step hb
                  clear hb E2 HQ q0 q1 q2 q3 q4 r0 r1 r2 r3 r4
                  go_wp2
                  go_ret
                  exact ⟨rfl, E3.out.bh.below⟩
                · have hc : (x[0].toNat : Int) = 46 := by rw [HFX.out, HX.out, ext_cAt s q s.size 0 (by omega)]; exact hq2
                  have zc : ((x[0].toNat : Int) == 46) = true := beq_iff_eq.2 hc
                  obtain ⟨y, hy⟩ : ∃ y, y = x.extract 1 x.size := ⟨_, rfl⟩
                  have hey : x.extract 1 x.size = y := hy.symm
                  have hey2 : x.extract 1 (s.size - q) = y := by rw [← hxz]; exact hey
                  have hyz : y.size ≤ x.size := by rw [hy, ext_sz _ _ _ (Nat.le_refl _)]; omega
                  have hys : y = t2.extract (q + 1) t2.size := by
                    rw [hy, HX.out, ext_sz _ _ _ (Nat.le_refl _), ext_ext s q 1 (s.size - q) (by omega), show q + (s.size - q) = s.size by omega, HS.out]
                  have hw := host_wide (s := t) HH.out HRR.out (t := q) (by rw [← HS.out]; omega) (by rw [← HS.out]; exact hq2)
                  have HB : Hid (baseP ⟨k2, y, 0, 0⟩ []) := by rw [hys]; exact HBk.out _ hw.1
                  have HI : Hid (withinP ⟨k, t, ad, bi⟩ xs ⟨k2, y, 0, 0⟩ []) := by rw [hys]; exact HIk.out _ hw.1 hw.2
                  have h1x : (1 : Int) ≤ (x.size : Int) := by omega
                  have f1 : wA.frozen? ⟨b9, 1, none⟩ = false := frozen_of_row wA b9 1 _ 30 SA.out.x9
                  have hl9A : b9 < wA.heap.size := (Array.getElem?_eq_some_iff.1 SA.out.x9).1
                  have SB : Hid (BH9 w (wA.setCell ⟨b9, 1, none⟩ (.string y)) b5 b6 b9 k t ad bi a m c xs k2 t2 ad2 bi2 a2 m2 c2 ys k2 y 0 0 none 0 0 []) := SA.out.put (k' := k2) (t' := y) (ad' := 0) (bi' := 0) (a' := none) (m' := 0) (c' := 0) (zs' := []) 1 (.string y) (heap_setCell_same wA b9 1 _ 30 (.string y) SA.out.x9) (pts_none _) smP_none (by omega)
                  clear hys hw hc hy HX HS
                  go_upto_region 35 with fail
                  clear q0 q1 q2 q3 q4 r0 r1 r2 r3 r4 f1 SA
                  go_wp2_with fail
                  refine (lives_any _).mono ?_
                  rintro e we1 ⟨rfl, hb⟩
                  have E1 : Hid (BH9 w we1 b5 b6 b9 k t ad bi a m c xs k2 t2 ad2 bi2 a2 m2 c2 ys k2 y 0 0 none 0 0 []) := SB.out.step hb
                  clear hb SB
                  obtain ⟨q0, q1, q2, q3, q4⟩ := gcells E1.out.x9
                  go_wp2_with fail
                  refine (cBaseI k2 y 0 0 none 0 0 [] _ E1.out.bh.max E1.out.pts9 E1.out.sm9 E1.out.t9).mono ?_
                  rintro e we2 ⟨o1, rfl, HQ, hb⟩
                  obtain rfl : o1 = true := HQ.out.2 HB.out
                  have E2 : Hid (BH9 w we2 b5 b6 b9 k t ad bi a m c xs k2 t2 ad2 bi2 a2 m2 c2 ys k2 y 0 0 none 0 0 []) := E1.out.step hb
                  clear hb E1 HQ q0 q1 q2 q3 q4
                  obtain ⟨q0, q1, q2, q3, q4⟩ := gcells E2.out.x9
                  obtain ⟨r0, r1, r2, r3, r4⟩ := gcells E2.out.bh.x5
                  go_wp2_with fail
                  refine (cWithinI k t ad bi a m c xs k2 y 0 0 none 0 0 [] _ E2.out.bh.max E2.out.bh.pts E2.out.bh.sm (by have := E2.out.bh.t; omega) E2.out.pts9 E2.out.sm9 E2.out.t9).mono ?_
                  rintro e we3 ⟨o1, rfl, HQ, hb⟩
                  obtain rfl : o1 = true := HQ.out.2 HI.out
                  have E3 : Hid (BH9 w we3 b5 b6 b9 k t ad bi a m c xs k2 t2 ad2 bi2 a2 m2 c2 ys k2 y 0 0 none 0 0 []) := E2.out.step hb
                  clear hb E2 HQ q0 q1 q2 q3 q4 r0 r1 r2 r3 r4
                  go_wp2
                  go_ret
                  exact ⟨rfl, E3.out.bh.below⟩
              · have z1 : (k2 == 1) = false := beq_false_of_ne (by omega)
                obtain ⟨HTL, HRR⟩ : Hid (tailP s) ∧ Hid (relM t s ∧ mailP t) := HM2.out hk2
                have hxx : tailP x ∧ relM t x := by
                  rcases hq with rfl | ⟨hq0, hq1, hq2⟩
                  · rw [HX.out, ext_whole]; exact ⟨HTL.out, HRR.out.1⟩
                  · rw [HX.out]
                    have := tail_cut HTL.out hq0 hq1 hq2
                    exact ⟨this.1, this.2 t HRR.out.1 (tail_no64 HTL.out) HRR.out.2⟩
                have HB : Hid (baseP ⟨k2, x, 0, 0⟩ []) := .inr (.inl ⟨hk2, ⟨rfl, rfl, rfl⟩, tail_base hxx.1⟩)
                have HI : Hid (withinP ⟨k, t, ad, bi⟩ xs ⟨k2, x, 0, 0⟩ []) := ⟨HG.out, HB.out, HK.out.2, .inr (.inl ⟨HK.out.2.trans hk2, hxx.2⟩)⟩
                clear hxx hk2 HX
                go_upto_region 35 with fail
                clear q0 q1 q2 q3 q4 r0 r1 r2 r3 r4
                go_wp2_with fail
                refine (lives_any _).mono ?_
                rintro e we1 ⟨rfl, hb⟩
                have E1 : Hid (BH9 w we1 b5 b6 b9 k t ad bi a m c xs k2 t2 ad2 bi2 a2 m2 c2 ys k2 x 0 0 none 0 0 []) := SA.out.step hb
                clear hb SA
                obtain ⟨q0, q1, q2, q3, q4⟩ := gcells E1.out.x9
                go_wp2_with fail
                refine (cBaseI k2 x 0 0 none 0 0 [] _ E1.out.bh.max E1.out.pts9 E1.out.sm9 E1.out.t9).mono ?_
                rintro e we2 ⟨o1, rfl, HQ, hb⟩
                obtain rfl : o1 = true := HQ.out.2 HB.out
                have E2 : Hid (BH9 w we2 b5 b6 b9 k t ad bi a m c xs k2 t2 ad2 bi2 a2 m2 c2 ys k2 x 0 0 none 0 0 []) := E1.out.step hb
                clear hb E1 HQ q0 q1 q2 q3 q4
                obtain ⟨q0, q1, q2, q3, q4⟩ := gcells E2.out.x9
                obtain ⟨r0, r1, r2, r3, r4⟩ := gcells E2.out.bh.x5
                go_wp2_with fail
                refine (cWithinI k t ad bi a m c xs k2 x 0 0 none 0 0 [] _ E2.out.bh.max E2.out.bh.pts E2.out.bh.sm (by have := E2.out.bh.t; omega) E2.out.pts9 E2.out.sm9 E2.out.t9).mono ?_
                rintro e we3 ⟨o1, rfl, HQ, hb⟩
                obtain rfl : o1 = true := HQ.out.2 HI.out
                have E3 : Hid (BH9 w we3 b5 b6 b9 k t ad bi a m c xs k2 t2 ad2 bi2 a2 m2 c2 ys k2 x 0 0 none 0 0 []) := E2.out.step hb
                clear hb E2 HQ q0 q1 q2 q3 q4 r0 r1 r2 r3 r4
                go_wp2
                go_ret
                exact ⟨rfl, E3.out.bh.below⟩
    · as_aux_lemma =>
      -- an address
      have hk32 : k2 = 3 := h1
      have HK : Hid (k2 = 3 ∧ k = k2) := ⟨hk32, hkk2⟩
      have z3 : (k2 == 3) = true := beq_iff_eq.2 hk32
      have HR : Hid (relA ad ad2 bi2) := h2
      have HB2 : Hid ((0 ≤ ad2 ∧ ad2 ≤ 4294967295) ∧ (0 ≤ bi2 ∧ bi2 ≤ 32) ∧ ad2 % (2 : Int) ^ (32 - bi2).toNat = 0) := by
        rcases HBS.out with ⟨h, _⟩ | ⟨h, _⟩ | ⟨_, _, h3⟩ | ⟨h, _⟩
        · exact absurd (show k2 = 1 from h) (by omega)
        · exact absurd (show k2 = 2 from h) (by omega)
        · exact h3
        · exact absurd (show k2 = 4 from h) (by omega)
      obtain ⟨⟨d0, d1⟩, ⟨d2, d3⟩, _⟩ := HB2.out
      clear h1 h2 hkk2 hk32
      obtain ⟨r0, r1, r2, r3, r4⟩ := gcells S9.out.x9
      obtain ⟨r, hr0⟩ : ∃ r, r = min bi2 n := ⟨_, rfl⟩
      have hrm : min bi2 n = r := hr0.symm
      have hr : (0 ≤ r ∧ r ≤ 32) ∧ r ≤ bi2 := by omega
      have f3 : wb.frozen? ⟨b9, 3, none⟩ = false := frozen_of_row wb b9 3 _ 30 S9.out.x9
      have hl9 : b9 < wb.heap.size := (Array.getElem?_eq_some_iff.1 S9.out.x9).1
      have HW : Hid (wrap64 (ad2 / (2 : Int) ^ (32 - r).toNat * (2 : Int) ^ (32 - r).toNat) = ad2 / (2 : Int) ^ (32 - r).toNat * (2 : Int) ^ (32 - r).toNat) := by
        show _ = _
        have := (addr_base (n := r) d0 d1).1
        unfold wrap64
        omega
      have HB : Hid (baseP ⟨k2, ⟨#[]⟩, ad2 / (2 : Int) ^ (32 - r).toNat * (2 : Int) ^ (32 - r).toNat, r⟩ []) := .inr (.inr (.inl ⟨HK.out.1, ⟨rfl, rfl⟩, (addr_base (n := r) d0 d1).1, hr.1, (addr_base (n := r) d0 d1).2⟩))
      have HI : Hid (withinP ⟨k, t, ad, bi⟩ xs ⟨k2, ⟨#[]⟩, ad2 / (2 : Int) ^ (32 - r).toNat * (2 : Int) ^ (32 - r).toNat, r⟩ []) := ⟨HG.out, HB.out, HK.out.2, .inr (.inr (.inl ⟨HK.out.2.trans HK.out.1, addr_wide d2 d3 HR.out hr.1.1 hr.2⟩))⟩
      obtain ⟨⟨e20, e21⟩, e22⟩ := hr
      clear HR d2 d3 hr0
      have hwr := HW.out
      have hm0 := HW.out
      go_upto_region 32 with fail
      have SA : Hid (BH9 w (wb.setCell ⟨b9, 3, none⟩ (.int .i64 r)) b5 b6 b9 k t ad bi a m c xs k2 t2 ad2 bi2 a2 m2 c2 ys k2 ⟨#[]⟩ 0 r none 0 0 []) := S9.out.put (k' := k2) (t' := ⟨#[]⟩) (ad' := 0) (bi' := r) (a' := none) (m' := 0) (c' := 0) (zs' := []) 3 (.int .i64 r) (heap_setCell_same wb b9 3 _ 30 (.int .i64 r) S9.out.x9) (pts_none _) smP_none (show (0 : Nat) ≤ 1048576 by omega)
      obtain ⟨wA, hwA⟩ : ∃ wA, wA = wb.setCell ⟨b9, 3, none⟩ (.int .i64 r) := ⟨_, rfl⟩
      rw [← hwA] at SA
      rw [← hwA]
      clear r0 r1 r2 r3 r4 q0 q1 q2 q3 q4 f3 S9 hwA hm0 hrm
      obtain ⟨r0, r1, r2, r3, r4⟩ := gcells SA.out.x9
      obtain ⟨q0, q1, q2, q3, q4⟩ := gcells SA.out.bh.x6
      have f2 : wA.frozen? ⟨b9, 2, none⟩ = false := frozen_of_row _ b9 2 _ 30 SA.out.x9
      have hl92 : b9 < wA.heap.size := (Array.getElem?_eq_some_iff.1 SA.out.x9).1
      obtain ⟨v, hv⟩ : ∃ v, v = ad2 / (2 : Int) ^ (32 - r).toNat * (2 : Int) ^ (32 - r).toNat := ⟨_, rfl⟩
      replace hwr := hwr.trans hv.symm
      rw [← hv] at HB HI
      clear hv HW
      go_upto_region 35 with fail
      have SB : Hid (BH9 w (wA.setCell ⟨b9, 2, none⟩ (.int .i64 v)) b5 b6 b9 k t ad bi a m c xs k2 t2 ad2 bi2 a2 m2 c2 ys k2 ⟨#[]⟩ v r none 0 0 []) := SA.out.put (k' := k2) (t' := ⟨#[]⟩) (ad' := v) (bi' := r) (a' := none) (m' := 0) (c' := 0) (zs' := []) 2 (.int .i64 v) (heap_setCell_same wA b9 2 _ 30 (.int .i64 v) SA.out.x9) (pts_none _) smP_none (show (0 : Nat) ≤ 1048576 by omega)
      clear r0 r1 r2 r3 r4 q0 q1 q2 q3 q4 f2 SA hwr hl92 d0 d1 e20 e21 e22 HB2 hl9
      go_wp2_with fail
      refine (lives_any _).mono ?_
      rintro e we1 ⟨rfl, hb⟩
      have E1 : Hid (BH9 w we1 b5 b6 b9 k t ad bi a m c xs k2 t2 ad2 bi2 a2 m2 c2 ys k2 ⟨#[]⟩ v r none 0 0 []) := SB.out.step hb
      clear hb SB
      obtain ⟨q0, q1, q2, q3, q4⟩ := gcells E1.out.x9
      go_wp2_with fail
      refine (cBaseI k2 ⟨#[]⟩ v r none 0 0 [] _ E1.out.bh.max E1.out.pts9 E1.out.sm9 E1.out.t9).mono ?_
      rintro e we2 ⟨o1, rfl, HQ, hb⟩
      obtain rfl : o1 = true := HQ.out.2 HB.out
      have E2 : Hid (BH9 w we2 b5 b6 b9 k t ad bi a m c xs k2 t2 ad2 bi2 a2 m2 c2 ys k2 ⟨#[]⟩ v r none 0 0 []) := E1.out.step hb
      clear hb E1 HQ q0 q1 q2 q3 q4
      obtain ⟨q0, q1, q2, q3, q4⟩ := gcells E2.out.x9
      obtain ⟨r0, r1, r2, r3, r4⟩ := gcells E2.out.bh.x5
      go_wp2_with fail
      refine (cWithinI k t ad bi a m c xs k2 ⟨#[]⟩ v r none 0 0 [] _ E2.out.bh.max E2.out.bh.pts E2.out.bh.sm (by have := E2.out.bh.t; omega) E2.out.pts9 E2.out.sm9 E2.out.t9).mono ?_
      rintro e we3 ⟨o1, rfl, HQ, hb⟩
      obtain rfl : o1 = true := HQ.out.2 HI.out
      have E3 : Hid (BH9 w we3 b5 b6 b9 k t ad bi a m c xs k2 t2 ad2 bi2 a2 m2 c2 ys k2 ⟨#[]⟩ v r none 0 0 []) := E2.out.step hb
      clear hb E2 HQ q0 q1 q2 q3 q4 r0 r1 r2 r3 r4
      go_wp2
      go_ret
      exact ⟨rfl, E3.out.bh.below⟩
    · as_aux_lemma =>
      -- a name
      have hk4 : k2 = 4 := h1
      have HK : Hid (k2 = 4 ∧ k = k2) := ⟨hk4, hkk2⟩
      have z3 : (k2 == 3) = false := beq_false_of_ne (by omega)
      have z4 : (k2 == 4) = true := beq_iff_eq.2 hk4
      have HR : Hid (underP xs ys) := h2
      have hcp := HCP.out
      clear h1 h2 hkk2 hk4
      have hm2p : (m2 : Int) + 1 ≠ 0 := by omega
      obtain ⟨u, hu⟩ : ∃ u : Nat, n % ((m2 : Int) + 1) = (u : Int) := by
        obtain ⟨u, hu⟩ := Int.eq_ofNat_of_zero_le (Int.emod_nonneg n hm2p)
        exact ⟨u, hu⟩
      have hum : u ≤ m2 := by
        have := Int.emod_lt_of_pos n (show (0 : Int) < (m2 : Int) + 1 by omega)
        omega
      have huc : (u : Int) ≤ (c2 : Int) := by omega
      have hmw : IntKind.i64.wrap ((m2 : Int) + 1) = (m2 : Int) + 1 := by rw [IntKind.wrap_i64]; omega
      have htm : n.tmod ((m2 : Int) + 1) = (u : Int) := by rw [Int.tmod_eq_emod_of_nonneg hn0, hu]
      have hbA : Below wb.heap.size wb (wb.drew.alloc (.cells #[] 80)) := (Below.refl _ _).drew.alloc (Nat.le_refl _) _
      have SD : Hid (BH9 w wb.drew b5 b6 b9 k t ad bi a m c xs k2 t2 ad2 bi2 a2 m2 c2 ys k2 ⟨#[]⟩ 0 0 none 0 0 []) := S9.out.step (Below.refl _ _).drew
      have SE : Hid (BH9 w (wb.drew.alloc (.cells #[] 80)) b5 b6 b9 k t ad bi a m c xs k2 t2 ad2 bi2 a2 m2 c2 ys k2 ⟨#[]⟩ 0 0 none 0 0 []) := S9.out.step hbA
      clear q0 q1 q2 q3 q4 hbA
      have hH1 := S9.out.bh.x6
      obtain ⟨q0, q1, q2, q3, q4⟩ := gcells hH1
      go_upto_region 34 with fail
      clear q0 q1 q2 q3 q4 hH1
      have hH2 := SD.out.bh.x6
      have hH3 := SE.out.bh.x6
      obtain ⟨q0, q1, q2, q3, q4⟩ := gcells hH2
      obtain ⟨r0, r1, r2, r3, r4⟩ := gcells hH3
      clear hH2 hH3
      have hH4 := (S9.out.step ((Below.refl wb.heap.size wb).alloc (Nat.le_refl _) (.cells #[] 80))).bh.x6
      obtain ⟨s0, s1, s2, s3, s4⟩ := gcells hH4
      have hH5 := S9.out.bh.x6
      obtain ⟨x0, x1, x2, x3, x4⟩ := gcells hH5
      clear hH4 hH5
      have HOWN : Hid ((wb.drew.alloc (.cells #[] 80)).ownsRow wb.heap.size 80 2 (.slice (some ⟨wb.heap.size, 0, none⟩) 0 0) 0 []) := World.ownsRow_lit wb.drew #[] 0 (Nat.le_refl _) (Nat.zero_le _) rfl
      have HBA : Hid (wb.heap.size ≤ (wb.drew.alloc (.cells #[] 80)).heap.size) := by show _ ≤ _; simp
      rcases HGB.out with ⟨rfl, rfl, rfl⟩ | ⟨gb, rfl⟩
      · have hu0 : u = 0 := by omega
        subst hu0
        have HB : Hid (baseP ⟨k2, ⟨#[]⟩, 0, 0⟩ []) := .inr (.inr (.inr ⟨HK.out.1, ⟨rfl, rfl, rfl⟩, by decide, fun j hj => absurd hj (Nat.not_lt_zero j)⟩))
        have hnq : n % (0 + 1) = 0 := by omega
        have f4 : wb.frozen? ⟨b9, 4, none⟩ = false := frozen_of_row _ b9 4 _ 30 S9.out.x9
        have hl9 : b9 < wb.heap.size := (Array.getElem?_eq_some_iff.1 S9.out.x9).1
        have HI : Hid (withinP ⟨k, t, ad, bi⟩ xs ⟨k2, ⟨#[]⟩, 0, 0⟩ []) := ⟨HG.out, HB.out, HK.out.2, .inr (.inr (.inr ⟨HK.out.2.trans HK.out.1, HR.out.1, ⟨by decide, fun j hj => absurd hj (Nat.not_lt_zero j)⟩, Nat.zero_le _, fun j hj => absurd hj (Nat.not_lt_zero j)⟩))⟩
        have hw1 : IntKind.i64.wrap 1 = 1 := by decide
        have ht1 : n.tmod 1 = 0 := by rw [Int.tmod_eq_emod_of_nonneg hn0]; omega
        have SG := S9.out.step ((Below.refl wb.heap.size wb).alloc (Nat.le_refl _) (.cells #[] 80))
        have g4 : (wb.alloc (.cells #[] 80)).frozen? ⟨b9, 4, none⟩ = false := frozen_of_row _ b9 4 _ 30 SG.x9
        have g5 : (wb.drew.alloc (.cells #[] 80)).frozen? ⟨b9, 4, none⟩ = false := frozen_of_row _ b9 4 _ 30 SE.out.x9
        have gl : b9 < (wb.alloc (.cells #[] 80)).heap.size := (Array.getElem?_eq_some_iff.1 SG.x9).1
        have hH6 := SG.x9
        obtain ⟨y0, y1, y2, y3, y4⟩ := gcells hH6
        have hH7 := SE.out.x9
        obtain ⟨v0, v1, v2, v3, v4⟩ := gcells hH7
        clear SG hH6 hH7
        have SA0 : Hid (BH9 w (wb.setCell ⟨b9, 4, none⟩ (.slice (some ⟨wb.heap.size, 0, none⟩) 0 0)) b5 b6 b9 k t ad bi a m c xs k2 t2 ad2 bi2 none 0 0 ys k2 ⟨#[]⟩ 0 0 (some ⟨wb.heap.size, 0, none⟩) 0 0 []) := S9.out.put (k' := k2) (t' := ⟨#[]⟩) (ad' := 0) (bi' := 0) (a' := some ⟨wb.heap.size, 0, none⟩) (m' := 0) (c' := 0) (zs' := []) 4 (.slice (some ⟨wb.heap.size, 0, none⟩) 0 0) (heap_setCell_same wb b9 4 _ 30 (.slice (some ⟨wb.heap.size, 0, none⟩) 0 0) S9.out.x9) ⟨rfl, by decide, fun k hk => absurd hk (Nat.not_lt_zero k)⟩ smP_none (show (0 : Nat) ≤ 1048576 by omega)
        have SF0 : Hid (BH9 w ((wb.setCell ⟨b9, 4, none⟩ (.slice (some ⟨wb.heap.size, 0, none⟩) 0 0)).alloc (.cells #[] 80)).drew b5 b6 b9 k t ad bi a m c xs k2 t2 ad2 bi2 none 0 0 ys k2 ⟨#[]⟩ 0 0 (some ⟨wb.heap.size, 0, none⟩) 0 0 []) := (SA0.out.step ((Below.refl _ _).alloc (Nat.le_refl _) (.cells #[] 80))).step (Below.refl _ _).drew
        clear SA0
        go_region_law fail
        all_goals
          clear q0 q1 q2 q3 q4 r0 r1 r2 r3 r4 s0 s1 s2 s3 s4 x0 x1 x2 x3 x4 y0 y1 y2 y3 y4 v0 v1 v2 v3 v4 f4 g4 g5 gl hl9 SD SE HOWN HBA S9
          obtain ⟨wF, hwF⟩ : ∃ wF, wF = ((wb.setCell ⟨b9, 4, none⟩ (.slice (some ⟨wb.heap.size, 0, none⟩) 0 0)).alloc (.cells #[] 80)).drew := ⟨_, rfl⟩
          obtain ⟨aF, haF⟩ : ∃ aF : Option Addr, aF = some ⟨wb.heap.size, 0, none⟩ := ⟨_, rfl⟩
          have SF : Hid (BH9 w wF b5 b6 b9 k t ad bi a m c xs k2 t2 ad2 bi2 none 0 0 ys k2 ⟨#[]⟩ 0 0 aF 0 0 []) := by rw [hwF, haF]; exact SF0
          rw [← hwF]
          clear hwF haF SF0
          go_wp2_with fail
          refine (lives_any _).mono ?_
          rintro e we1 ⟨rfl, hb⟩
          have E1 : Hid (BH9 w we1 b5 b6 b9 k t ad bi a m c xs k2 t2 ad2 bi2 none 0 0 ys k2 ⟨#[]⟩ 0 0 aF 0 0 []) := SF.out.step hb
          clear hb SF
          obtain ⟨q0, q1, q2, q3, q4⟩ := gcells E1.out.x9
          go_wp2_with fail
          refine (cBaseI k2 ⟨#[]⟩ 0 0 aF 0 0 [] _ E1.out.bh.max E1.out.pts9 E1.out.sm9 E1.out.t9).mono ?_
          rintro e we2 ⟨o1, rfl, HQ, hb⟩
          obtain rfl : o1 = true := HQ.out.2 HB.out
          have E2 : Hid (BH9 w we2 b5 b6 b9 k t ad bi a m c xs k2 t2 ad2 bi2 none 0 0 ys k2 ⟨#[]⟩ 0 0 aF 0 0 []) := E1.out.step hb
          clear hb E1 HQ q0 q1 q2 q3 q4
          obtain ⟨q0, q1, q2, q3, q4⟩ := gcells E2.out.x9
          obtain ⟨r0, r1, r2, r3, r4⟩ := gcells E2.out.bh.x5
          go_wp2_with fail
          refine (cWithinI k t ad bi a m c xs k2 ⟨#[]⟩ 0 0 aF 0 0 [] _ E2.out.bh.max E2.out.bh.pts E2.out.bh.sm (by have := E2.out.bh.t; omega) E2.out.pts9 E2.out.sm9 E2.out.t9).mono ?_
          rintro e we3 ⟨o1, rfl, HQ, hb⟩
          obtain rfl : o1 = true := HQ.out.2 HI.out
          have E3 : Hid (BH9 w we3 b5 b6 b9 k t ad bi a m c xs k2 t2 ad2 bi2 none 0 0 ys k2 ⟨#[]⟩ 0 0 aF 0 0 []) := E2.out.step hb
          clear hb E2 HQ q0 q1 q2 q3 q4 r0 r1 r2 r3 r4
          go_wp2
          go_ret
          exact ⟨rfl, E3.out.bh.below⟩
      · have HNEWS : Hid (∀ j v, (ptc (ys.take u))[j]? = some v → (wb.drew.alloc (.cells #[] 80)).cell? ((⟨gb, 0, none⟩ : Addr).add j) = some v) := pts_news SE.out.bh.pts2 u hum
        have HLENU : Hid ((ptc (ys.take u)).length = u * 2) := by show _ = _; rw [ptc_len, List.length_take, HLEN.out]; omega
        have hmb : m2 ≤ 9 := hm2
        have HLX : Hid ((ys.take u).length = u) := by show _ = _; rw [List.length_take, HLEN.out]; omega
        have HXS : Hid (∀ x ∈ ys.take u, x.val.size ≤ 1000) := fun x hx => HSV.out x (List.mem_of_mem_take hx)
        obtain ⟨i0, hi, hz0, hz1, hz2⟩ := info_parts Tryz.infoPart
        have HB : Hid (baseP ⟨k2, ⟨#[]⟩, 0, 0⟩ (ys.take u)) := .inr (.inr (.inr ⟨HK.out.1, ⟨rfl, rfl, rfl⟩, nameP_takeB HR.out.2.1 u⟩))
        have HI : Hid (withinP ⟨k, t, ad, bi⟩ xs ⟨k2, ⟨#[]⟩, 0, 0⟩ (ys.take u)) := ⟨HG.out, HB.out, HK.out.2, .inr (.inr (.inr ⟨HK.out.2.trans HK.out.1, under_takeB HR.out u⟩))⟩
        have HLB : Hid (b9 < wb.heap.size) := (Array.getElem?_eq_some_iff.1 S9.out.x9).1
        go_region_law (refine step_append_ownT rfl (.tmp 138) (.tmp 149) 26 rfl wb.heap.size 80 i0 _ 2 24 Tryz.underlying26 hi hz0 hz1 hz2 rfl (by decide) _ 0 _ (by first | rfl | simp [Act.eval]) HOWN.out ⟨gb, 0, none⟩ u c2 (ptc (ys.take u)) (by first | rfl | simp [Act.eval]) HLENU.out HNEWS.out (ptc_one _) (by unfold maxLen; omega) (by omega) HBA.out ?_; intro v8 w8 hown8 hgrow8; rw [Nat.zero_add, List.nil_append] at hown8; obtain ⟨a8, c8, rfl⟩ := owns_shapeN hown8; have hb8 : Below wb.heap.size wb w8 := ((Below.refl wb.heap.size wb).drew.alloc (Nat.le_refl _) _).grown hgrow8 HBA.out (fun l hl => (HOWN.out.lt l hl).1); have HO8 : Hid (OwnPt wb.heap.size w8 a8 u c8 (ys.take u)) := ⟨hown8, HLX.out, HXS.out⟩; have S8 : Hid (BH9 w w8 b5 b6 b9 k t ad bi a m c xs k2 t2 ad2 bi2 (some ⟨gb, 0, none⟩) m2 c2 ys k2 ⟨#[]⟩ 0 0 none 0 0 []) := S9.out.step hb8; obtain ⟨p0, p1, p2, p3, p4⟩ := gcells S8.out.x9; have f4 : w8.frozen? ⟨b9, 4, none⟩ = false := frozen_of_row _ b9 4 _ 30 S8.out.x9; have hl98 : b9 < w8.heap.size := (Array.getElem?_eq_some_iff.1 S8.out.x9).1; clear hown8 hgrow8 hb8)
        all_goals
          have SF : Hid (BH9 w (w8.setCell ⟨b9, 4, none⟩ (.slice a8 u c8)) b5 b6 b9 k t ad bi a m c xs k2 t2 ad2 bi2 (some ⟨gb, 0, none⟩) m2 c2 ys k2 ⟨#[]⟩ 0 0 a8 u c8 (ys.take u)) := S8.out.put (k' := k2) (t' := ⟨#[]⟩) (ad' := 0) (bi' := 0) (a' := a8) (m' := u) (c' := c8) (zs' := ys.take u) 4 (.slice a8 u c8) (heap_setCell_same w8 b9 4 _ 30 (.slice a8 u c8) S8.out.x9) ((HO8.out.keep fun q hq hqb _ => Below.heap_setCell _ _ _ _ (by have := HLB.out; show q.block ≠ b9; omega)).pts (by omega)) HO8.out.smP (show (0 : Nat) ≤ 1048576 by omega)
          clear q0 q1 q2 q3 q4 r0 r1 r2 r3 r4 s0 s1 s2 s3 s4 x0 x1 x2 x3 x4 HNEWS HLENU HLX HXS hi hz0 hz1 hz2 SD SE HOWN HBA S9 p0 p1 p2 p3 p4 f4 S8 HO8
          go_wp2_with fail
          refine (lives_any _).mono ?_
          rintro e we1 ⟨rfl, hb⟩
          have E1 : Hid (BH9 w we1 b5 b6 b9 k t ad bi a m c xs k2 t2 ad2 bi2 (some ⟨gb, 0, none⟩) m2 c2 ys k2 ⟨#[]⟩ 0 0 a8 u c8 (ys.take u)) := SF.out.step hb
          clear hb SF
          obtain ⟨q0, q1, q2, q3, q4⟩ := gcells E1.out.x9
          go_wp2_with fail
          refine (cBaseI k2 ⟨#[]⟩ 0 0 a8 u c8 (ys.take u) _ E1.out.bh.max E1.out.pts9 E1.out.sm9 E1.out.t9).mono ?_
          rintro e we2 ⟨o1, rfl, HQ, hb⟩
          obtain rfl : o1 = true := HQ.out.2 HB.out
          have E2 : Hid (BH9 w we2 b5 b6 b9 k t ad bi a m c xs k2 t2 ad2 bi2 (some ⟨gb, 0, none⟩) m2 c2 ys k2 ⟨#[]⟩ 0 0 a8 u c8 (ys.take u)) := E1.out.step hb
          clear hb E1 HQ q0 q1 q2 q3 q4
          obtain ⟨q0, q1, q2, q3, q4⟩ := gcells E2.out.x9
          obtain ⟨r0, r1, r2, r3, r4⟩ := gcells E2.out.bh.x5
          go_wp2_with fail
          refine (cWithinI k t ad bi a m c xs k2 ⟨#[]⟩ 0 0 a8 u c8 (ys.take u) _ E2.out.bh.max E2.out.bh.pts E2.out.bh.sm (by have := E2.out.bh.t; omega) E2.out.pts9 E2.out.sm9 E2.out.t9).mono ?_
          rintro e we3 ⟨o1, rfl, HQ, hb⟩
          obtain rfl : o1 = true := HQ.out.2 HI.out
          have E3 : Hid (BH9 w we3 b5 b6 b9 k t ad bi a m c xs k2 t2 ad2 bi2 (some ⟨gb, 0, none⟩) m2 c2 ys k2 ⟨#[]⟩ 0 0 a8 u c8 (ys.take u)) := E2.out.step hb
          clear hb E2 HQ q0 q1 q2 q3 q4 r0 r1 r2 r3 r4
          go_wp2
          go_ret
          exact ⟨rfl, E3.out.bh.below⟩

end Go.Proofs.YtoncodoimnideaaGreatDoor

