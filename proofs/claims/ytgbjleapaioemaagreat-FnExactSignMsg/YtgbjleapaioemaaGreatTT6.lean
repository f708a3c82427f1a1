import Derived.Test.YtgbjleapaioemaaGreatTT5
namespace Go.Proofs.YtgbjleapaioemaaGreat
open Go.RowKit

def upN (zs : List Int) (i : Nat) : Int := hashD ndW [zs.getD (2 * i) 0, zs.getD (2 * i + 1) 0]
def upL (zs : List Int) : List Int := (List.range (zs.length / 2)).map (upN zs)
theorem upL_len (zs : List Int) : (upL zs).length = zs.length / 2 := by simp [upL]
theorem upL_get (zs : List Int) (i : Nat) (h : i < zs.length / 2) : (upL zs).getD i 0 = upN zs i := by simp [upL, h]
theorem upL_bd (zs : List Int) : ∀ k, U64 ((upL zs).getD k 0) := by
  intro k
  by_cases h : k < zs.length / 2
  · rw [upL_get zs k h]; exact hashD_bd _ _
  · rw [List.getD_eq_getElem?_getD, List.getElem?_eq_none (by rw [upL_len]; omega)]; simp [U64]
theorem rowU_lit2 (w : World) (x y : Int) (hx : U64 x) (hy : U64 y) : RowU (w.alloc (.cells #[.int .u64 x, .int .u64 y] 41)) (some ⟨w.heap.size, 0, none⟩) 2 [x, y] := by
  refine ⟨rfl, fun k hk => ⟨w.heap.size, 0, rfl, by simp, ?_⟩, fun k => ?_⟩
  · rw [Nat.zero_add, cell_of_row _ w.heap.size k _ 41 _ (heap_alloc_new w _)]
    match k, hk with
    | 0, _ => rfl
    | 1, _ => rfl
  · match k with
    | 0 => exact hx
    | 1 => exact hy
    | k + 2 => simp [U64]

set_option maxRecDepth 10000 in
set_option maxHeartbeats 2000000 in
theorem rowAbove_any (a : Option Addr) (n c : Nat) (zs : List Int) (w : World) (h : RowU w a n zs) (hn : n ≤ 1000) :
    Calls Tryz.prog 134 #[.slice a n c] w fun e w' => ∃ ar, e = .returned (.slice ar (n / 2) (n / 2)) ∧ OwnU w.heap.size w' ar (n / 2) (n / 2) (upL zs) ∧ Below w.heap.size w w' := by
  obtain ⟨i0, hi, hz0, hz1, hz2⟩ := info_parts Tryz.infoU
  have H0 : Hid (RowU w a n zs) := h
  have HL : Hid (zs.length = n) := h.len
  clear h
  obtain ⟨m, hm⟩ : ∃ m, m = n / 2 := ⟨_, rfl⟩
  have HM : Hid (m = n / 2) := hm
  have hmi : (n : Int) / 2 = (m : Int) := by omega
  rw [← hm]
  clear hm
  have hm5 : m ≤ 500 := by have := HM.out; omega
  go_enter Tryz.func134, Tryz.ntmps134
  go_wp2_with (first | (at_make; refine wpList_make_full _ rfl _ _ 71 rfl w.heap.size 41 i0 _ 1 Tryz.underlying71 hi hz0 hz1 _ _ _ _ m rfl rfl rfl rfl (by rw [hz2]; omega) (by unfold maxLen; omega) (by exact Nat.le_refl _) ?_; intro w2 hown hgrow))
  have hbl : Below w.heap.size w w2 := (Below.refl _ _).grown hgrow (Nat.le_refl _) (by simp)
  have HST : Hid (OwnU w.heap.size w2 (some ⟨w.heap.size, 0, none⟩) m m (half (upL zs) 0)) := by
    show OwnU _ _ _ _ _ _
    rw [half_zero, upL_len, HL.out, ← HM.out]
    exact ⟨madeU hown, u64_rep m⟩
  clear hgrow hi hz0 hz1 hz2 hown
  go_loopw [11] (fun i wr => ∃ k : Nat, k ≤ m ∧ i = .int .i64 k ∧ Hid (OwnU w.heap.size wr (some ⟨w.heap.size, 0, none⟩) m m (half (upL zs) k)) ∧ Below w.heap.size w wr) (fun i _ => m - (intOf i).toNat)
  case atStart => exact ⟨0, Nat.zero_le _, rfl, HST, hbl⟩
  case round =>
    obtain ⟨k, hk, rfl, HO, hbr⟩ := hrel
    by_cases hlt : k < m
    · have h2n : 2 * k + 1 < n := by have := HM.out; omega
      obtain ⟨b, off, rfl, hlb, hc0⟩ := H0.out.get (2 * k) (by omega)
      obtain ⟨b', off', hb', _, hc1⟩ := H0.out.get (2 * k + 1) h2n
      simp only [Option.some.injEq, Addr.mk.injEq, and_true] at hb'
      obtain ⟨rfl, rfl⟩ := hb'
      obtain ⟨x, hx⟩ : ∃ x, x = zs.getD (2 * k) 0 := ⟨_, rfl⟩
      obtain ⟨y, hy⟩ : ∃ y, y = zs.getD (2 * k + 1) 0 := ⟨_, rfl⟩
      have hxb := H0.out.rng (2 * k)
      have hyb := H0.out.rng (2 * k + 1)
      rw [← hx] at hc0 hxb
      rw [← hy] at hc1 hyb
      have HV : Hid (hashD ndW [x, y] = upN zs k) := by show _ = _; unfold upN; rw [hx, hy]
      have HXD : Hid (∀ w7, Below wr.heap.size wr w7 → w7.cell? ⟨b, off + 2 * k, none⟩ = some (.int .u64 x) ∧ w7.cell? ⟨b, off + (2 * k + 1), none⟩ = some (.int .u64 y)) := fun w7 h7 =>
        have hb7 := keepT hbr h7
        ⟨(hb7.cell (p := ⟨b, off + 2 * k, none⟩) hlb).trans hc0, (hb7.cell (p := ⟨b, off + (2 * k + 1), none⟩) hlb).trans hc1⟩
      have HND : Hid (strL ⟨#[110, 111, 100, 101]⟩ = ndW) := by show _ = _; decide
      have i2 : (k : Int) < (m : Int) := by omega
      have i3 : 2 * (k : Int) < (n : Int) := by omega
      have i4 : 2 * (k : Int) + 1 < (n : Int) := by omega
      have t1 : (2 * (k : Int)).toNat = 2 * k := by omega
      have t2 : (2 * (k : Int) + 1).toNat = 2 * k + 1 := by omega
      have u1 : IntKind.i64.wrap (2 * (k : Int)) = 2 * (k : Int) := by rw [IntKind.wrap_i64]; omega
      have u2 : IntKind.i64.wrap (2 * (k : Int) + 1) = 2 * (k : Int) + 1 := by rw [IntKind.wrap_i64]; omega
      have u3 : 0 ≤ 2 * (k : Int) := by omega
      have u4 : 0 ≤ 2 * (k : Int) + 1 := by omega
      obtain ⟨q0, q1⟩ := HXD.out _ (Below.refl _ _)
      clear hx hy hc0 hc1 HST hbl
      have HST2 : Hid (∀ w7, Below wr.heap.size wr w7 → OwnU w.heap.size w7 (some ⟨w.heap.size, 0, none⟩) m m (half (upL zs) k)) := fun w7 h7 => HO.out.kept h7
      have hal : Below wr.heap.size wr (wr.drew.alloc (.cells #[.int .u64 x, .int .u64 y] 41)) := ((Below.refl _ _).drew).alloc (Nat.le_refl _) _
      go_wp2_with fail
      go_region_with ((go_at_call 135; refine (hashDigests_any _ _ 2 2 [x, y] _ (rowU_lit2 wr.drew x y hxb hyb) (by decide) (by decide)).mono ?_; rintro e w3 ⟨rfl, hb3⟩; rw [HND.out, HV.out]; have hb37 := keepT hal hb3; have hor := HST2.out _ hb37; have f0 : w3.frozen? ⟨w.heap.size, k, none⟩ = false := hor.row.frozenAt _; have hvl : ((half (upL zs) k).map (Value.int .u64)).length = m * 1 := hor.row.1; obtain ⟨y0, hy0⟩ : ∃ y, w3.cell? ⟨w.heap.size, k, none⟩ = some y := ⟨_, (hor.row.cellAt _ (by omega)).trans (List.getElem?_eq_getElem (by omega))⟩))
      all_goals
        have hkl : k < zs.length / 2 := by rw [HL.out, ← HM.out]; exact hlt
        have hs := (hor.row.stored k (.int .u64 (upN zs k))).1
        have e1 := half_set (upL zs) k (by rw [upL_len]; exact hkl)
        rw [upL_get zs k hkl] at e1
        rw [← List.map_set, e1] at hs
        have HN : Hid (OwnU w.heap.size (w3.setCell ⟨w.heap.size, k, none⟩ (.int .u64 (upN zs k))) (some ⟨w.heap.size, 0, none⟩) m m (half (upL zs) (k + 1))) := ⟨hs, u64_half (upL_bd zs) _⟩
        have HBN : Hid (Below w.heap.size w (w3.setCell ⟨w.heap.size, k, none⟩ (.int .u64 (upN zs k)))) := (keepT hbr hb37).setCell (Nat.le_refl _) _
        clear hs hor hb3 hb37 hbr HO hvl HST2 hal
        go_wp2
        go_roundw
        case rel => exact ⟨k + 1, by omega, by go_num, HN, HBN.out⟩
        case measure => simp [intOf]; omega
    · obtain rfl : k = m := by omega
      have HR : Hid (OwnU w.heap.size wr (some ⟨w.heap.size, 0, none⟩) k k (upL zs)) := by
        have := HO.out
        have e := half_all (upL zs)
        rw [upL_len, HL.out, ← HM.out] at e
        rwa [e] at this
      clear HO HST hbl
      go_wp2
      go_ret
      exact ⟨_, rfl, HR.out, hbr⟩

end Go.Proofs.YtgbjleapaioemaaGreat
