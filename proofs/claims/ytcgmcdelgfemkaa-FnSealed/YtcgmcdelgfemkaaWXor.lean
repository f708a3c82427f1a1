import Derived.Test.YtcgmcdelgfemkaaW1W2
import Derived.Test.YtcgmcdelgfemkaaWApp
namespace Go.Proofs.Ytcgmcdelgfemkaa
open Go.RowKit

def xr (xs ys : List Int) (i : Nat) : Int := bits .xor .u8 (xs.getD i 0) (ys.getD (i % ys.length) 0)
def xorTo (xs ys : List Int) (k : Nat) : List Int := (List.range xs.length).map fun i => if i < k then xr xs ys i else xs.getD i 0
def xorL (xs ys : List Int) : List Int := if ys = [] then xs else xorTo xs ys xs.length

theorem xr_byte {xs ys : List Int} (hx : ∀ k, 0 ≤ xs.getD k 0 ∧ xs.getD k 0 ≤ 255) (hy : ∀ k, 0 ≤ ys.getD k 0 ∧ ys.getD k 0 ≤ 255) (i : Nat) : 0 ≤ xr xs ys i ∧ xr xs ys i ≤ 255 := by
  unfold xr
  have h1 := hx i
  have h2 := hy (i % ys.length)
  rw [u8_xor _ _ h1.1 (by omega) h2.1 (by omega)]
  have : (xs.getD i 0).toNat ^^^ (ys.getD (i % ys.length) 0).toNat < 2 ^ 8 := Nat.xor_lt_two_pow (by omega) (by omega)
  omega
theorem xorTo_len (xs ys : List Int) (k : Nat) : (xorTo xs ys k).length = xs.length := by simp [xorTo]
theorem xorTo_zero (xs ys : List Int) : xorTo xs ys 0 = xs := by
  unfold xorTo
  apply List.ext_getElem
  · simp
  · intro i h1 h2; simp [h2]
theorem xorTo_get (xs ys : List Int) (k : Nat) (h : k < xs.length) : (xorTo xs ys k).getD k 0 = xs.getD k 0 := by simp [xorTo, h]
theorem xorTo_set (xs ys : List Int) (k : Nat) : (xorTo xs ys k).set k (xr xs ys k) = xorTo xs ys (k + 1) := by
  unfold xorTo
  apply List.ext_getElem
  · simp
  · intro i h1 h2
    simp at h1 h2
    rw [List.getElem_set]
    by_cases e : k = i
    · subst e; simp
    · rw [if_neg e]
      simp
      by_cases h3 : i < k
      · rw [if_pos h3, if_pos (by omega)]
      · rw [if_neg h3, if_neg (by omega)]

set_option maxRecDepth 10000 in
set_option maxHeartbeats 1000000 in
theorem specXor_any (a b : Option Addr) (n m ca cb : Nat) (xs ys : List Int) (w : World) (hx : Row w a n xs) (hy : Row w b m ys) (hnil : a = none → ca = 0) (hn : n ≤ 1048576) (hm : m ≤ 1048576) :
    Calls Try.prog 61 #[.slice a n ca, .slice b m cb] w fun e w' => ∃ a' cap', e = .returned (.slice a' n cap') ∧ Own w.heap.size w' a' n cap' (xorL xs ys) ∧ Below w.heap.size w w' := by
  obtain ⟨i0, hi, hz0, hz1, hz2⟩ := info_parts Try.info5
  have HX : Hid (Row w a n xs) := hx
  have HY : Hid (Row w b m ys) := hy
  have LX : Hid (xs.length = n) := hx.len
  have LY : Hid (ys.length = m) := hy.len
  have BX := hx.byte
  have BY := hy.byte
  have HN : Hid (a = none → ca = 0) := hnil
  clear hx hy hnil
  have hoe : Own w.heap.size (w.alloc (.cells #[] 5)) (some ⟨w.heap.size, 0, none⟩) 0 0 [] := ⟨World.ownsRow_lit w #[] 0 (Nat.le_refl _) (Nat.zero_le _) rfl, by simp⟩
  have hbe : Below w.heap.size w (w.alloc (.cells #[] 5)) := (Below.refl _ _).alloc (Nat.le_refl _) _
  by_cases hm0 : m = 0
  · subst hm0
    have hres : Hid (xorL xs ys = xs) := by show _ = _; rw [xorL, if_pos (List.eq_nil_of_length_eq_zero LY.out)]
    go_enter Try.func61, Try.ntmps61
    go_wp2_with (at_builtin; refine wpList_append_row _ rfl _ _ 22 rfl w.heap.size i0 Try.underlying22 hi hz0 hz1 hz2 _ _ _ rfl hoe.row a n ca xs rfl (HX.out.kept (by exact (Below.refl _ _).alloc (Nat.le_refl _) _)) HN.out (by omega) (by simp) ?_; intro v1 w1 hown1 hgrow1)
    obtain ⟨a1, cap1, rfl, ho1⟩ := own_appended (xs := []) (ys := xs) hown1 (by simp) BX
    have hb1 : Below w.heap.size w w1 := below_appended hbe (by simp) hoe.row hgrow1
    go_ret
    refine ⟨a1, cap1, ?_, ?_, hb1⟩
    · rw [Nat.zero_add]; rfl
    · rw [hres.out]; rw [Nat.zero_add] at ho1; exact ho1
  · have hm1 : ((m : Int) == 0) = false := by simp; omega
    have hmp : 0 < (m : Int) := by omega
    have hres : Hid (xorL xs ys = xorTo xs ys xs.length) := by
      show _ = _
      rw [xorL, if_neg]
      intro e; apply hm0; rw [← LY.out, e]; rfl
    go_enter Try.func61, Try.ntmps61
    go_wp2_with (at_builtin; refine wpList_append_row _ rfl _ _ 22 rfl w.heap.size i0 Try.underlying22 hi hz0 hz1 hz2 _ _ _ rfl hoe.row a n ca xs rfl (HX.out.kept (by exact (Below.refl _ _).alloc (Nat.le_refl _) _)) HN.out (by omega) (by simp) ?_; intro v1 w1 hown1 hgrow1)
    obtain ⟨a1, cap1, rfl, ho1⟩ := own_appended (xs := []) (ys := xs) hown1 (by simp) BX
    have hb1 : Below w.heap.size w w1 := below_appended hbe (by simp) hoe.row hgrow1
    rw [Nat.zero_add] at ho1
    have e0 : 0 + n = n := Nat.zero_add n
    rw [e0]
    clear hown1 hgrow1 e0 hi hz0 hz1 hz2 hoe hbe
    go_loopw [6] (fun i wr => ∃ k : Nat, k ≤ n ∧ i = .int .i64 k ∧ Own w.heap.size wr a1 n cap1 (xorTo xs ys k) ∧ Below w.heap.size w wr) (fun i _ => n - (intOf i).toNat)
    case atStart => exact ⟨0, Nat.zero_le _, rfl, by rw [xorTo_zero]; exact ho1, hb1⟩
    case round =>
      obtain ⟨k, hk, rfl, hor, hbr⟩ := hrel
      by_cases hlt : k < n
      · obtain ⟨g, rfl⟩ := hor.shape (by omega)
        have hlx : k < xs.length := by have := LX.out; omega
        have hkm : k % m < m := Nat.mod_lt _ (by omega)
        obtain ⟨b2, off2, rfl, hb2, hc2⟩ := HY.out.get (k % m) hkm
        have hr2 : wr.cell? ⟨b2, off2 + k % m, none⟩ = some (.int .u8 (ys.getD (k % m) 0)) := (hbr.cell (p := ⟨b2, off2 + k % m, none⟩) hb2).trans hc2
        clear hc2
        have hfr : wr.frozen? ⟨g, k, none⟩ = false := hor.row.frozenAt k
        have hr1 : wr.cell? ⟨g, k, none⟩ = some (.int .u8 (xs.getD k 0)) := by
          rw [hor.row.cellAt k (by omega), ← xorTo_get xs ys k hlx]
          simp [xorTo_len, hlx]
        have hs := hor.store k (xr xs ys k) (xr_byte BX BY k)
        rw [xorTo_set] at hs
        obtain ⟨x, hx⟩ : ∃ x, x = xs.getD k 0 := ⟨_, rfl⟩
        obtain ⟨y, hy⟩ : ∃ y, y = ys.getD (k % m) 0 := ⟨_, rfl⟩
        have hxr : xr xs ys k = bits .xor .u8 x y := by rw [hx, hy, ← LY.out]; rfl
        rw [hxr] at hs
        have HS : Hid (Own w.heap.size (wr.setCell ⟨g, k, none⟩ (.int .u8 (bits .xor .u8 x y))) (some ⟨g, 0, none⟩) n cap1 (xorTo xs ys (k + 1))) := hs
        have HB : Hid (Below w.heap.size w (wr.setCell ⟨g, k, none⟩ (.int .u8 (bits .xor .u8 x y)))) := hbr.setCell hor.base.1 _
        rw [← hx] at hr1
        rw [← hy] at hr2
        clear hs hx hy hxr hor hbr
        have hlti : (k : Int) < (n : Int) := by omega
        have hmod : (k : Int) % (m : Int) < (m : Int) := by omega
        have hmod0 : 0 ≤ (k : Int) % (m : Int) := by omega
        go_wp2
        go_region
        go_wp2
        go_roundw
        case rel => exact ⟨k + 1, by omega, by go_num, HS.out.drew, HB.out.drew⟩
        case measure => simp [intOf]; omega
      · have hkn : k = n := by omega
        subst hkn
        rw [← LX.out, ← hres.out, LX.out] at hor
        go_wp2
        go_ret
        exact ⟨_, _, rfl, hor, hbr⟩

theorem own_heap {B : Nat} {w : World} {g n : Nat} {bs : List Int} (h : Own B w (some ⟨g, 0, none⟩) n n bs) : w.heap[g]? = some (.cells (bs.map (Value.int .u8)).toArray 5 (0, 0)) := by
  rcases h.row.2 with ⟨h', _⟩ | ⟨g', cap', cur, h', hb, hg, _, _, hsz, ht⟩
  · simp at h'
  · simp only [Value.slice.injEq, Option.some.injEq, Addr.mk.injEq, and_true, true_and] at h'
    obtain ⟨rfl, rfl⟩ := h'
    rw [List.take_of_length_le (by simp; omega)] at ht
    rw [hg, ← ht]
theorem own_of_heap {B : Nat} {w : World} {g n : Nat} {bs : List Int} (hB : B ≤ g) (hn : bs.length = n) (hm : n ≤ maxLen) (h : w.heap[g]? = some (.cells (bs.map (Value.int .u8)).toArray 5 (0, 0))) (hb : ∀ k, 0 ≤ bs.getD k 0 ∧ bs.getD k 0 ≤ 255) : Own B w (some ⟨g, 0, none⟩) n n bs :=
  ⟨⟨by simp [hn], .inr ⟨g, n, _, rfl, hB, h, Nat.le_refl _, hm, by simp [hn], List.take_of_length_le (by simp [hn])⟩⟩, hb⟩
theorem splice_all {α : Type} (L cs : List α) (h : cs.length = L.length) : splice L 0 cs = cs := by simp [splice, h]

theorem copy_src {w : World} {a : Option Addr} {n : Nat} {xs : List Int} {cs : List Value} (h : Row w a n xs) (hc : cs = xs.map (Value.int .u8)) (h0 : 0 < cs.length) : ∃ ad, a = some ad ∧ ∀ j v, cs[j]? = some v → w.cell? (ad.add j) = some v := by
  subst hc
  obtain ⟨b, off, rfl, _, _⟩ := h.get 0 (by rw [← h.len]; simpa using h0)
  exact ⟨_, rfl, row_cells h⟩

set_option maxRecDepth 10000 in
set_option maxHeartbeats 1000000 in
theorem implXor_any (a b : Option Addr) (n m ca cb : Nat) (xs ys : List Int) (w : World) (hx : Row w a n xs) (hy : Row w b m ys) (hn : n ≤ 1048576) (hm : m ≤ 1048576) :
    Calls Try.prog 56 #[.slice a n ca, .slice b m cb] w fun e w' => ∃ a' cap', e = .returned (.slice a' n cap') ∧ Own w.heap.size w' a' n cap' (xorL xs ys) ∧ Below w.heap.size w w' := by
  obtain ⟨i0, hi, hz0, hz1, hz2⟩ := info_parts Try.info5
  have HX : Hid (Row w a n xs) := hx
  have HY : Hid (Row w b m ys) := hy
  have LX : Hid (xs.length = n) := hx.len
  have LY : Hid (ys.length = m) := hy.len
  have BX := hx.byte
  have BY := hy.byte
  clear hx hy
  obtain ⟨cs, hcs⟩ : ∃ cs, cs = xs.map (Value.int .u8) := ⟨_, rfl⟩
  have HC : Hid (cs = xs.map (Value.int .u8)) := hcs
  have hcl : cs.length = n := by rw [hcs, List.length_map, LX.out]
  have HCL : Hid (cs.length = n) := hcl
  clear hcs hcl
  obtain ⟨zs, hzs⟩ : ∃ zs, zs = (List.replicate n (0 : Int)).map (Value.int .u8) := ⟨_, rfl⟩
  have HZ : Hid (zs = (List.replicate n (0 : Int)).map (Value.int .u8)) := hzs
  have HZL : Hid (zs.length = n) := by show _ = _; rw [hzs]; simp
  clear hzs
  have hinfo1 : (Try.prog.info? 5).map (·.size) = some 1 := by rw [hi]; simp [hz1]
  have HI : Hid ((Try.prog.info? 5).map (·.size) = some 1) := hinfo1
  clear hinfo1
  by_cases hm0 : m = 0
  · subst hm0
    have hres : Hid (xorL xs ys = xs) := by show _ = _; rw [xorL, if_pos (List.eq_nil_of_length_eq_zero LY.out)]
    go_enter Try.func56, Try.ntmps56
    go_wp2_with (first | (at_make; refine wpList_make_full _ rfl _ _ 22 rfl w.heap.size 5 i0 (.int .u8 0) 1 Try.underlying22 hi hz0 hz1 _ _ _ _ n rfl rfl rfl rfl (by rw [hz2]; omega) (by unfold maxLen; omega) (by exact Nat.le_refl _) ?_; intro w1 hown hgrow) | (refine wpList_copy_splice rfl (.tmp 10) (.tmp 11) 22 22 rfl 5 Try.underlying22 HI.out (some ⟨w.heap.size, 0, none⟩) a n n n ca rfl rfl w.heap.size 0 zs 5 (by rw [HZ.out]; exact own_heap (own_made hown)) cs (by rw [HCL.out]; simp) (fun h0 => ⟨rfl, copy_src (HX.out.kept ((Below.refl _ _).grown hgrow (Nat.le_refl _) (by simp))) HC.out h0⟩) (by rw [HCL.out, HZL.out]; omega) (by rw [HC.out]; exact ints_oneCell _ _) w.heap.size w ((Below.refl _ _).grown hgrow (Nat.le_refl _) (by simp)) (Nat.le_refl _) ?_; intro w2 HG2 hB2))
    have ho2 : Own w.heap.size w2 (some ⟨w.heap.size, 0, none⟩) n n xs := own_of_heap (Nat.le_refl _) LX.out (by unfold maxLen; omega) (by have := HG2.out; rw [splice_all _ _ (by rw [HCL.out, HZL.out]), HC.out] at this; exact this) BX
    go_ret
    exact ⟨_, _, rfl, by rw [hres.out]; exact ho2, hB2⟩
  · have hm1 : ((m : Int) == 0) = false := by simp; omega
    have hmp : 0 < (m : Int) := by omega
    have hres : Hid (xorL xs ys = xorTo xs ys xs.length) := by
      show _ = _
      rw [xorL, if_neg]
      intro e; apply hm0; rw [← LY.out, e]; rfl
    go_enter Try.func56, Try.ntmps56
    go_wp2_with (first | (at_make; refine wpList_make_full _ rfl _ _ 22 rfl w.heap.size 5 i0 (.int .u8 0) 1 Try.underlying22 hi hz0 hz1 _ _ _ _ n rfl rfl rfl rfl (by rw [hz2]; omega) (by unfold maxLen; omega) (by exact Nat.le_refl _) ?_; intro w1 hown hgrow) | (refine wpList_copy_splice rfl (.tmp 10) (.tmp 11) 22 22 rfl 5 Try.underlying22 HI.out (some ⟨w.heap.size, 0, none⟩) a n n n ca rfl rfl w.heap.size 0 zs 5 (by rw [HZ.out]; exact own_heap (own_made hown)) cs (by rw [HCL.out]; simp) (fun h0 => ⟨rfl, copy_src (HX.out.kept ((Below.refl _ _).grown hgrow (Nat.le_refl _) (by simp))) HC.out h0⟩) (by rw [HCL.out, HZL.out]; omega) (by rw [HC.out]; exact ints_oneCell _ _) w.heap.size w ((Below.refl _ _).grown hgrow (Nat.le_refl _) (by simp)) (Nat.le_refl _) ?_; intro w2 HG2 hB2))
    have ho1 : Own w.heap.size w2 (some ⟨w.heap.size, 0, none⟩) n n xs := own_of_heap (Nat.le_refl _) LX.out (by unfold maxLen; omega) (by have := HG2.out; rw [splice_all _ _ (by rw [HCL.out, HZL.out]), HC.out] at this; exact this) BX
    clear hown hgrow hi hz0 hz1 hz2 HG2
    go_loopw [19] (fun i wr => ∃ k : Nat, k ≤ n ∧ i = .int .i64 k ∧ Own w.heap.size wr (some ⟨w.heap.size, 0, none⟩) n n (xorTo xs ys k) ∧ Below w.heap.size w wr) (fun i _ => n - (intOf i).toNat)
    case atStart => exact ⟨0, Nat.zero_le _, rfl, by rw [xorTo_zero]; exact ho1, hB2⟩
    case round =>
      obtain ⟨k, hk, rfl, hor, hbr⟩ := hrel
      by_cases hlt : k < n
      · have hlx : k < xs.length := by have := LX.out; omega
        have hkm : k % m < m := Nat.mod_lt _ (by omega)
        obtain ⟨b2, off2, rfl, hb2, hc2⟩ := HY.out.get (k % m) hkm
        have hr2 : wr.cell? ⟨b2, off2 + k % m, none⟩ = some (.int .u8 (ys.getD (k % m) 0)) := (hbr.cell (p := ⟨b2, off2 + k % m, none⟩) hb2).trans hc2
        clear hc2
        have hfr : wr.frozen? ⟨w.heap.size, k, none⟩ = false := hor.row.frozenAt k
        have hr1 : wr.cell? ⟨w.heap.size, k, none⟩ = some (.int .u8 (xs.getD k 0)) := by
          rw [hor.row.cellAt k (by omega), ← xorTo_get xs ys k hlx]
          simp [xorTo_len, hlx]
        have hs := hor.store k (xr xs ys k) (xr_byte BX BY k)
        rw [xorTo_set] at hs
        obtain ⟨x, hx⟩ : ∃ x, x = xs.getD k 0 := ⟨_, rfl⟩
        obtain ⟨y, hy⟩ : ∃ y, y = ys.getD (k % m) 0 := ⟨_, rfl⟩
        have hxr : xr xs ys k = bits .xor .u8 x y := by rw [hx, hy, ← LY.out]; rfl
        rw [hxr] at hs
        have HS : Hid (Own w.heap.size (wr.setCell ⟨w.heap.size, k, none⟩ (.int .u8 (bits .xor .u8 x y))) (some ⟨w.heap.size, 0, none⟩) n n (xorTo xs ys (k + 1))) := hs
        have HB : Hid (Below w.heap.size w (wr.setCell ⟨w.heap.size, k, none⟩ (.int .u8 (bits .xor .u8 x y)))) := hbr.setCell (Nat.le_refl _) _
        rw [← hx] at hr1
        rw [← hy] at hr2
        clear hs hx hy hxr hor hbr
        have hlti : (k : Int) < (n : Int) := by omega
        have hmod : (k : Int) % (m : Int) < (m : Int) := by omega
        have hmod0 : 0 ≤ (k : Int) % (m : Int) := by omega
        go_wp2
        go_region
        go_wp2
        go_roundw
        case rel => exact ⟨k + 1, by omega, by go_num, HS.out.drew, HB.out.drew⟩
        case measure => simp [intOf]; omega
      · have hkn : k = n := by omega
        subst hkn
        rw [← LX.out, ← hres.out, LX.out] at hor
        go_wp2
        go_ret
        exact ⟨_, _, rfl, hor, hbr⟩

end Go.Proofs.Ytcgmcdelgfemkaa
