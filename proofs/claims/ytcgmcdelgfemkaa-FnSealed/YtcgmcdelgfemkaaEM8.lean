import Derived.Test.YtcgmcdelgfemkaaEM7
import Derived.Deep.RegionWith
namespace Go.Proofs.Ytcgmcdelgfemkaa
open Go.RowKit

set_option maxRecDepth 10000 in
set_option maxHeartbeats 4000000 in
theorem eachWrap_any (a : Option Addr) (n c : Nat) (ps : List (Int × Int × Int)) (gk ge : Nat) (k eph : Int) (w : World) (h : RowPu w a n ps) (hn : n ≤ 20) (hg : AllG ps n) (hi64 : ∀ j, j < n → (ps.getD j (0, 0, 0)).2.2 ≤ 9223372036854775807) (he : secP eph) (hk1 : gk < w.heap.size) (hk2 : ge < w.heap.size) (ck : w.cell? ⟨gk, 0, none⟩ = some (.int .u64 k)) (ce : w.cell? ⟨ge, 0, none⟩ = some (.int .i64 eph)) :
    Calls Try.prog 43 #[.slice a n c, .func (Fn.func 44) #[] #[.pointer (some ⟨gk, 0, none⟩), .pointer (some ⟨ge, 0, none⟩)]] w fun e w' => ∃ a' c', e = .returned (.slice a' n c') ∧ OwnWr w.heap.size w' a' n c' (ps.map (wrapP k eph)) ∧ Below w.heap.size w w' := by
  obtain ⟨i0, hi, hz0, hz1, hz2⟩ := info_parts Try.infoWr
  have H0 : Hid (RowPu w a n ps) := h
  have HLN : Hid (ps.length = n) := h.len
  have HG : Hid (AllG ps n) := hg
  have HM : Hid (∀ j, j < n → (ps.getD j (0, 0, 0)).2.2 ≤ 9223372036854775807) := hi64
  have HE : Hid (secP eph) := he
  have HCK : Hid (w.cell? ⟨gk, 0, none⟩ = some (.int .u64 k)) := ck
  have HCE : Hid (w.cell? ⟨ge, 0, none⟩ = some (.int .i64 eph)) := ce
  clear h hg he ck ce hi64
  obtain ⟨ws, hws⟩ : ∃ ws, ws = ps.map (wrapP k eph) := ⟨_, rfl⟩
  have HWS : Hid (ps.map (wrapP k eph) = ws) := hws.symm
  have HWL : Hid (ws.length = n) := by show _ = _; rw [hws, List.length_map]; exact HLN.out
  have HWG : Hid (∀ j, j < n → ws.getD j (0, 0) = wrapP k eph (ps.getD j (0, 0, 0))) := fun j hj => by rw [hws]; simp [HLN.out, hj]
  clear hws
  go_enter Try.func43, Try.ntmps43
  go_wp2
  go_loopw [5, 10] (fun o i wr => ∃ (j cc : Nat) (ao : Option Addr), j ≤ n ∧ i = .int .i64 j ∧ o = .slice ao j cc ∧ OwnWr w.heap.size wr ao j cc (ws.take j) ∧ Below w.heap.size w wr) (fun _ i _ => n - (intOf i).toNat)
  case atStart => exact ⟨0, 0, none, Nat.zero_le _, rfl, rfl, ownWr_none _ _, Below.refl _ _⟩
  case round =>
    obtain ⟨j, cc, ao, hj, rfl, rfl, hor, hbr⟩ := hrel
    have hwz := hbr.size
    by_cases hlt : j < n
    · obtain ⟨b, off, rfl, hb, x0, x1, x2⟩ := (H0.out.kept hbr).get j hlt
      have hgj := HG.out j hlt
      have hmj := HM.out j hlt
      obtain ⟨p, hp⟩ : ∃ p, p = ps.getD j (0, 0, 0) := ⟨_, rfl⟩
      rw [← hp] at x0 x1 x2 hgj hmj
      have HQ : Hid (ws.getD j (0, 0) = wrapP k eph p) := by show _ = _; rw [HWG.out j hlt, hp]
      have HGP : Hid (grpK p) := hgj
      have h1le : p.1 ≤ 9223372036854775807 := by rw [hgj.1]; decide
      clear hp hgj
      have hlti : (j : Int) < (n : Int) := by omega
      have hbz : Below wr.heap.size wr (wr.alloc (.cells #[.int .i64 p.1, .int .u64 p.2.1, .int .i64 p.2.2] 48)) := (Below.refl _ _).alloc (Nat.le_refl _) _
      have BZ : Below w.heap.size w (wr.alloc (.cells #[.int .i64 p.1, .int .u64 p.2.1, .int .i64 p.2.2] 48)) := keepT hbr hbz
      go_wp2_with fail
      refine (sealClosure_any p gk ge k eph _ HGP.out h1le hmj HE.out (Nat.lt_of_lt_of_le hk1 BZ.size) (Nat.lt_of_lt_of_le hk2 BZ.size) ((BZ.cell (p := ⟨gk, 0, none⟩) hk1).trans HCK.out) ((BZ.cell (p := ⟨ge, 0, none⟩) hk2).trans HCE.out)).mono ?_
      rintro e w2 ⟨rfl, hb2⟩
      have hor2 := (hor.kept hbz).kept hb2
      have B2 := keepT BZ hb2
      have hqb := wrapP_bd k eph p
      obtain ⟨q, hq⟩ : ∃ q, q = wrapP k eph p := ⟨_, rfl⟩
      rw [← hq] at HQ hqb ⊢
      clear hq hor hb2 hbz x0 x1 x2
      obtain ⟨q1, q2⟩ := q
      have b3 : Below w2.heap.size w2 (w2.alloc (.cells #[.int .u64 q1, .int .u64 q2] 53)) := (Below.refl _ _).alloc (Nat.le_refl _) _
      have hor3 := hor2.kept b3
      have B3 := keepT B2 b3
      have hcl := cell_oneWr w2 (q1, q2)
      have hs3 := B3.size
      have HT : Hid (ws.take (j + 1) = ws.take j ++ [(q1, q2)]) := by
        show _ = _
        have hl : j < ws.length := by rw [HWL.out]; exact hlt
        have e2 : ws.getD j (0, 0) = ws[j] := by simp [hl]
        rw [List.take_succ_eq_append_getElem hl, ← e2, HQ.out]
      go_wp2_with (first | (at_builtin; refine wpList_append_own _ rfl (.tmp 14) (.tmp 18) 42 rfl w.heap.size 53 i0 _ 2 16 Try.underlying42 hi hz0 hz1 hz2 rfl (by decide) _ j _ rfl hor3.row ⟨w2.heap.size, 0, none⟩ 1 1 (flWr [(q1, q2)]) rfl rfl hcl (flWr_one _) (by unfold maxLen; omega) (by omega) (by exact hs3) ?_; intro v4 w4 hv4 hg4 _))
      obtain ⟨a5, c5, rfl, ho5⟩ := ownWr_appended hor3.rng (UWr.one hqb) hv4
      rw [← HT.out] at ho5
      have B5 : Below w.heap.size w w4 := B3.grown hg4 hs3 (fun kx hx => (hor3.row.lt kx hx).1)
      go_roundw
      case rel => exact ⟨j + 1, c5, a5, by omega, by go_num, rfl, ho5, B5⟩
      case measure => simp [intOf]; omega
    · obtain rfl : j = n := by omega
      have hfin : OwnWr w.heap.size wr ao j cc ws := by
        have h := hor
        rwa [List.take_of_length_le (by rw [HWL.out]; exact Nat.le_refl _)] at h
      have FIN : Hid (OwnWr w.heap.size wr ao j cc ws) := hfin
      clear hor hfin
      go_wp2
      go_ret
      exact ⟨ao, cc, rfl, by rw [HWS.out]; exact FIN.out, hbr⟩

end Go.Proofs.Ytcgmcdelgfemkaa
