import Derived.Test.YtpnaopmpiobemaaB3
namespace Go.Proofs.Ytpnaopmpiobemaa
open Go.RowKit

theorem putI_nat (n : Nat) : putI (n : Int) = putN n := by unfold putI; rw [if_neg (by omega), Int.toNat_natCast]
def cbRest (bss : List (List Int)) : List Int := bss.flatMap fun p => putI p.length ++ packL p
def cbL (bss : List (List Int)) : List Int := putI bss.length ++ cbRest bss
theorem cbRest_next (bss : List (List Int)) (k : Nat) (h : k < bss.length) : cbRest (bss.take (k + 1)) = cbRest (bss.take k) ++ putI (bss.getD k []).length ++ packL (bss.getD k []) := by
  have e : bss.getD k [] = bss[k] := by simp [h]
  unfold cbRest
  rw [e, List.take_succ_eq_append_getElem h, List.flatMap_append]
  simp
def cbP (bss : List (List Int)) : Prop := RowsP bss bss.length ∧ total bss ≤ 160000 ∧ AllB bss bss.length
def cbRes (bss : List (List Int)) (ls : List Int) (ok : Bool) : Prop := (ok = true ∧ cbP bss ∧ ls = cbL bss) ∨ (ok = false ∧ ¬ cbP bss ∧ ls = [])
theorem cbRes_one {bss : List (List Int)} {l1 l2 : List Int} {k1 k2 : Bool} (h : cbRes bss l1 k1) (g : cbRes bss l2 k2) : l1 = l2 ∧ k1 = k2 := by
  rcases h with ⟨a, b, c⟩ | ⟨a, b, c⟩ <;> rcases g with ⟨d, e, f⟩ | ⟨d, e, f⟩
  · exact ⟨c.trans f.symm, a.trans d.symm⟩
  · exact absurd b e
  · exact absurd e b
  · exact ⟨c.trans f.symm, a.trans d.symm⟩
def CbR (bss : List (List Int)) (w : World) (e : Ending) (w' : World) : Prop :=
  ∃ (a : Option Addr) (n cap : Nat) (ls : List Int) (ok : Bool), e = .returned (.tuple #[.slice a n cap, .bool ok]) ∧ Hid (cbRes bss ls ok) ∧ n ≤ 1048576 ∧ Own w.heap.size w' a n cap ls ∧ Below w.heap.size w w'
theorem cbR_f {bss : List (List Int)} {w w' : World} (h : ¬ cbP bss) (hb : Below w.heap.size w w') : CbR bss w (.returned (.tuple #[.slice none 0 0, .bool false])) w' := ⟨none, 0, 0, [], false, rfl, .inr ⟨rfl, h, rfl⟩, by decide, own_none _ _, hb⟩
theorem touch_grown {w w' : World} {r : Option Nat} {lo hi : Nat} (hg : w.grownBy w' r) (hr : ∀ k, r = some k → lo ≤ k ∧ k < hi) : Touch lo hi w w' :=
  ⟨hg.os, hg.tape, hg.output, hg.size, fun k hk ho => hg.block k hk (fun e => by have := hr k e.symm; omega)⟩
theorem packL_len (bs : List Int) : (packL bs).length = (bs.length + 7) / 8 := pkL_len _ _ _

set_option maxRecDepth 10000 in
set_option maxHeartbeats 4000000 in
theorem implCascadeBytes_any (a : Option Addr) (n c : Nat) (bss : List (List Int)) (w : World) (h : Rows2 w a n bss) (hn : n ≤ 1048576) (ht : total bss ≤ 5000000) :
    Calls Try.prog 20 #[.agg #[.slice a n c]] w (CbR bss w) := by
  obtain ⟨i0, hi, hz0, hz1, hz2⟩ := info_parts Try.info5
  have HL : Hid (bss.length = n) := h.len
  have HP : Hid (∀ k, k < n → (bss.getD k []).length ≤ 9223372036854775807) := fun k hk => by have := part_le bss k (by rw [h.len]; exact hk) ht; omega
  have HT : Hid (total bss ≤ 5000000) := ht
  obtain ⟨wb, hwb⟩ : ∃ wb, wb = w.alloc (.cells #[.slice a n c] 25) := ⟨_, rfl⟩
  have hbb : Below w.heap.size w wb := by rw [hwb]; exact (Below.refl _ _).alloc (Nat.le_refl _) _
  have hbx : wb.heap[w.heap.size]? = some (.cells #[.slice a n c] 25) := by rw [hwb]; exact heap_alloc_new w _
  have hsz : w.heap.size < wb.heap.size := (Array.getElem?_eq_some_iff.1 hbx).1
  have kb : wb.cell? ⟨w.heap.size, 0, none⟩ = some (.slice a n c) := (cell_of_row _ _ 0 _ 25 (0, 0) hbx).trans rfl
  have HWB : Hid (_ = _) := hwb
  have H0 : Hid (Rows2 w a n bss) := h
  have hn9 : n ≤ 9223372036854775807 := by omega
  clear hwb hbx h ht
  go_enter Try.func20, Try.ntmps20
  go_upto_region 1 with fail
  rw [← HWB.out]
  clear HWB
  go_wp2_with fail
  refine (rowsOk_any a n c bss _ (H0.out.kept hbb) hn9 HP.out).mono ?_
  rintro e w1 ⟨r, rfl, HR, hb1⟩
  have B1 : Below w.heap.size w w1 := keepT hbb hb1
  have k1 : w1.cell? ⟨w.heap.size, 0, none⟩ = some (.slice a n c) := (hb1.cell (p := ⟨w.heap.size, 0, none⟩) hsz).trans kb
  have s1 : w.heap.size < w1.heap.size := by have := hb1.size; omega
  cases r with
  | false =>
    have HN : Hid (¬ cbP bss) := fun hc => by
      have := HR.out.2 (by have := hc.1; rw [HL.out] at this; exact this)
      cases this
    clear HR
    go_wp2
    go_ret2
    exact cbR_f HN.out B1
  | true =>
    have HRP : Hid (RowsP bss n) := HR.out.1 rfl
    clear HR hb1 kb
    go_wp2_with fail
    refine (bitCount_any a n c bss _ (H0.out.kept B1) hn9 HT.out).mono ?_
    rintro e w2 ⟨rfl, hb2⟩
    have B2 : Below w.heap.size w w2 := keepT B1 hb2
    have k2 : w2.cell? ⟨w.heap.size, 0, none⟩ = some (.slice a n c) := (hb2.cell (p := ⟨w.heap.size, 0, none⟩) s1).trans k1
    have s2 : w.heap.size < w2.heap.size := by have := hb2.size; omega
    obtain ⟨tt, htt⟩ : ∃ tt, tt = total bss := ⟨_, rfl⟩
    have HTT : Hid (tt = total bss) := htt
    rw [← htt]
    have htt1 : tt ≤ 5000000 := by have := HT.out; omega
    clear htt hb2 k1 B1 hbb
    by_cases hc : 160000 < tt
    · have hc' : (160000 : Int) < (tt : Int) := by omega
      have HN : Hid (¬ cbP bss) := fun q => by have := q.2.1; rw [← HTT.out] at this; omega
      go_wp2
      go_ret2
      exact cbR_f HN.out B2
    · have hc' : ¬ ((160000 : Int) < (tt : Int)) := by omega
      have hcd : decide ((160000 : Int) < (tt : Int)) = false := decide_eq_false hc'
      go_wp2_with fail
      refine (everyAll_any a n c bss _ (H0.out.kept B2) hn9 HP.out).mono ?_
      rintro e w3 ⟨r, rfl, HR, hb3⟩
      have B3 : Below w.heap.size w w3 := keepT B2 hb3
      have k3 : w3.cell? ⟨w.heap.size, 0, none⟩ = some (.slice a n c) := (hb3.cell (p := ⟨w.heap.size, 0, none⟩) s2).trans k2
      have s3 : w.heap.size < w3.heap.size := by have := hb3.size; omega
      cases r with
      | false =>
        have HN : Hid (¬ cbP bss) := fun hc => by
          have := HR.out.2 (by have := hc.2.2; rw [HL.out] at this; exact this)
          cases this
        clear HR
        go_wp2
        go_ret2
        exact cbR_f HN.out B3
      | true =>
        have HAB : Hid (AllB bss n) := HR.out.1 rfl
        have HCP : Hid (cbP bss) := ⟨by rw [HL.out]; exact HRP.out, by have := HTT.out; omega, by rw [HL.out]; exact HAB.out⟩
        have h30 : n ≤ 30 := HRP.out.1
        have HTK : Hid (∀ k, total (bss.take k) ≤ 160000) := fun k => Nat.le_trans (total_take bss k) HCP.out.2.1
        clear HR hb3 k2 B2
        go_wp2_with fail
        refine (implPutNum_any n _ (by omega)).mono ?_
        rintro e w4 ⟨a4, c4, rfl, ho4, hb4⟩
        have B4 : Below w.heap.size w w4 := keepT B3 hb4
        have k4 : w4.cell? ⟨w.heap.size, 0, none⟩ = some (.slice a n c) := (hb4.cell (p := ⟨w.heap.size, 0, none⟩) s3).trans k3
        have s4 : w.heap.size < w4.heap.size := by have := hb4.size; omega
        obtain ⟨n4, hn4⟩ : ∃ n4, n4 = (putI (n : Int)).length := ⟨_, rfl⟩
        have hn49 : n4 ≤ 9 := by rw [hn4]; exact putI_len _ (by omega)
        rw [← hn4] at ho4 ⊢
        have HO4 : Hid (Own w.heap.size w4 a4 n4 c4 (putI (n : Int))) := ho4.mono (by omega)
        clear hn4 ho4 hb4 k3 B3 hc hc'
        go_wp2
        go_loopw [4, 28] (fun o i wr => ∃ (k m cc : Nat) (ao : Option Addr), k ≤ n ∧ i = .int .i64 k ∧ o = .slice ao m cc ∧ m ≤ 9 + 9 * k + total (bss.take k) ∧ Own w.heap.size wr ao m cc (putI (n : Int) ++ cbRest (bss.take k)) ∧ Below w.heap.size w wr) (fun _ i _ => n - (intOf i).toNat)
        case atStart => exact ⟨0, n4, c4, a4, Nat.zero_le _, rfl, rfl, by omega, by simpa [cbRest] using HO4.out, B4⟩
        case round =>
          obtain ⟨k, m, cc, ao, hk, rfl, rfl, hmb, hor, hbr⟩ := hrel
          have hws := hbr.size
          by_cases hlt : k < n
          · obtain ⟨b, off, rfl, hb, ak, nk, ck, hc, hrk, hnk⟩ := H0.out.get k hlt
            have hcr : wr.cell? ⟨b, off + k, none⟩ = some (.slice ak nk ck) := (hbr.cell (p := ⟨b, off + k, none⟩) hb).trans hc
            have hbw : b < wr.heap.size := by omega
            have hkl : k < bss.length := by rw [HL.out]; exact hlt
            have hlti : (k : Int) < (n : Int) := by omega
            have htk := HTK.out k
            have htk1 := HTK.out (k + 1)
            rw [total_split bss k hkl, hrk.len] at htk1
            have HSP : Hid (total (bss.take (k + 1)) = total (bss.take k) + nk) := by show _ = _; rw [total_split bss k hkl, hrk.len]
            have hnk1 : 0 < nk := by rw [← hrk.len]; exact HRP.out.2 k hlt
            have HBI : Hid (Bits (bss.getD k [])) := bits_of hrk (by have := HAB.out k hlt; rw [hrk.len] at this; exact this)
            have HNX : Hid (putI (n : Int) ++ cbRest (bss.take (k + 1)) = ((putI (n : Int) ++ cbRest (bss.take k)) ++ putI (nk : Int)) ++ packL (bss.getD k [])) := by show _ = _; rw [cbRest_next bss k hkl, hrk.len]; simp [List.append_assoc]
            have HRK : Hid (Row w ak nk (bss.getD k [])) := hrk
            obtain ⟨T, hT⟩ : ∃ T, T = total (bss.take k) := ⟨_, rfl⟩
            rw [← hT] at htk htk1 hmb
            have HTT2 : Hid (T = total (bss.take k)) := hT
            obtain ⟨ls, hls⟩ : ∃ ls, ls = putI (n : Int) ++ cbRest (bss.take k) := ⟨_, rfl⟩
            have HLS : Hid (ls = putI (n : Int) ++ cbRest (bss.take k)) := hls
            rw [← hls] at hor
            have HOR : Hid (Own w.heap.size wr ao m cc ls) := hor
            clear hc hrk hnk hT hls hor
            obtain ⟨wx, hwx⟩ : ∃ wx, wx = wr.alloc (.cells #[.slice ak nk ck] 54) := ⟨_, rfl⟩
            have hbx : Below wr.heap.size wr wx := by rw [hwx]; exact (Below.refl _ _).alloc (Nat.le_refl _) _
            have hxx : wx.heap[wr.heap.size]? = some (.cells #[.slice ak nk ck] 54) := by rw [hwx]; exact heap_alloc_new wr _
            have sx : wr.heap.size < wx.heap.size := (Array.getElem?_eq_some_iff.1 hxx).1
            have HWX : Hid (_ = _) := hwx
            have kx : wx.cell? ⟨wr.heap.size, 0, none⟩ = some (.slice ak nk ck) := (cell_of_row _ _ 0 _ 54 (0, 0) hxx).trans rfl
            clear hwx
            go_upto_region 7 with fail
            rw [← HWX.out]
            clear HWX
            go_wp2_with fail
            refine (implPutNum_any nk _ (by omega)).mono ?_
            rintro e w5 ⟨a5, c5, rfl, ho5, hb5⟩
            obtain ⟨n5, hn5⟩ : ∃ n5, n5 = (putI (nk : Int)).length := ⟨_, rfl⟩
            have hn59 : n5 ≤ 9 := by rw [hn5]; exact putI_len _ (by omega)
            rw [← hn5] at ho5 ⊢
            have B5 : Below wr.heap.size wr w5 := keepT hbx hb5
            have hor5 : Own w.heap.size w5 ao m cc ls := HOR.out.kept B5
            have hx5 : w5.heap[wr.heap.size]? = some (.cells #[.slice ak nk ck] 54) := (hb5.block _ sx).trans hxx
            have s5 : w.heap.size ≤ w5.heap.size := by have := B5.size; omega
            have HLO5 : Hid (∀ j, (Value.slice ao m cc).ownBlock = some j → w.heap.size ≤ j ∧ j < wr.heap.size) := fun j hj => HOR.out.row.lt j hj
            have HBY : Hid (∀ j, 0 ≤ ls.getD j 0 ∧ ls.getD j 0 ≤ 255) := HOR.out.byte
            have hs5 : wr.heap.size < w5.heap.size := by have := hb5.size; omega
            have BW5 : Below w.heap.size w w5 := hbr.trans (B5.mono hws)
            clear hn5 kx hxx
            go_wp2_with (at_builtin; refine wpList_append_row _ rfl _ _ 41 rfl w.heap.size i0 Try.underlying41 hi hz0 hz1 hz2 _ _ _ rfl hor5.row a5 n5 c5 (putI (nk : Int)) rfl ho5.toRow ho5.nil (by omega) s5 ?_; intro v6 w6 hv6 hg6; obtain ⟨a6, c6, rfl, ho6⟩ := own_appended (xs := ls) (ys := putI (nk : Int)) hv6 HBY.out ho5.byte; have T6 : Touch w.heap.size wr.heap.size w5 w6 := touch_grown hg6 HLO5.out; have x6 := (T6.block _ hs5 (.inr (Nat.le_refl _))).trans hx5; have s6 : wr.heap.size < w6.heap.size := (Array.getElem?_eq_some_iff.1 x6).1; have k6 : w6.cell? ⟨wr.heap.size, 0, none⟩ = some (.slice ak nk ck) := (cell_of_row _ _ 0 _ 54 (0, 0) x6).trans rfl; have B6 : Below w.heap.size w w6 := BW5.trans (T6.below (Nat.le_refl _) s5); have HO6 : Hid (Own w.heap.size w6 a6 (m + n5) c6 (ls ++ putI (nk : Int))) := ho6; clear hv6 hg6 ho6 T6 x6; (first | go_at_call 45 | skip))
            refine (eights_any ak nk ck (bss.getD k []) _ (HRK.out.kept B6) HBI.out (by omega)).mono ?_
            rintro e w7 ⟨a7, c7, rfl, ho7, hb7⟩
            obtain ⟨n7, hn7⟩ : ∃ n7, n7 = (nk + 7) / 8 := ⟨_, rfl⟩
            have hn79 : n7 ≤ nk := by omega
            rw [← hn7] at ho7 ⊢
            clear hn7 k6
            have hor7 : Own w.heap.size w7 a6 (m + n5) c6 (ls ++ putI (nk : Int)) := HO6.out.kept hb7
            have B7 : Below w.heap.size w w7 := keepT B6 hb7
            have s7 : w.heap.size ≤ w7.heap.size := B7.size
            have HBY7 : Hid (∀ j, 0 ≤ (ls ++ putI (nk : Int)).getD j 0 ∧ (ls ++ putI (nk : Int)).getD j 0 ≤ 255) := hor7.byte
            go_wp2_with (at_builtin; refine wpList_append_row _ rfl _ _ 41 rfl w.heap.size i0 Try.underlying41 hi hz0 hz1 hz2 _ _ _ rfl hor7.row a7 n7 c7 (packL (bss.getD k [])) rfl ho7.toRow ho7.nil (by omega) s7 ?_; intro v8 w8 hv8 hg8; obtain ⟨a8, c8, rfl, ho8⟩ := own_appended (xs := ls ++ putI (nk : Int)) (ys := packL (bss.getD k [])) hv8 HBY7.out ho7.byte; have T8 : Touch w.heap.size w7.heap.size w7 w8 := touch_grown hg8 (fun j hj => hor7.row.lt j hj); have B8 : Below w.heap.size w w8 := B7.trans (T8.below (Nat.le_refl _) s7); have HO8 : Hid (Own w.heap.size w8 a8 (m + n5 + n7) c8 (ls ++ putI (nk : Int) ++ packL (bss.getD k []))) := ho8; clear hv8 hg8 ho8 T8)
            go_roundw
            case rel =>
              refine ⟨k + 1, m + n5 + n7, c8, a8, by omega, by go_num, rfl, by rw [HSP.out, ← HTT2.out]; omega, ?_, B8⟩
              rw [HNX.out, ← HLS.out]; exact HO8.out
            case measure => simp [intOf]; omega
          · obtain rfl : k = n := by omega
            have HLN : Hid (putI (k : Int) ++ cbRest (bss.take k) = cbL bss) := by show _ = _; rw [List.take_of_length_le (by rw [HL.out]; exact Nat.le_refl _)]; unfold cbL; rw [HL.out]
            have htk := HTK.out k
            rw [HLN.out] at hor
            clear hi hz0 hz1 hz2
            go_wp2
            go_ret2
            exact ⟨ao, m, cc, cbL bss, true, rfl, .inl ⟨rfl, HCP.out, rfl⟩, by omega, hor, hbr⟩

end Go.Proofs.Ytpnaopmpiobemaa
