import Derived.Test.YtglmaoigjnoklaaF4
namespace Go.Proofs.Ytglmaoigjnoklaa
open Go.RowKit

/-- A row of n spans. -/
structure SpRow (w : World) (g n : Nat) (L : Nat → Sp) : Prop where
  heap : ∃ cs, w.heap[g]? = some (.cells cs 45 (0, 0)) ∧ cs.size = n * 3 ∧ ∀ i, i < n → cs[i * 3]? = some (.int .i64 (L i).f) ∧ cs[i * 3 + 1]? = some (.int .i64 (L i).m) ∧ cs[i * 3 + 2]? = some (.bool (L i).k)
theorem SpRow.lt {w : World} {g n : Nat} {L : Nat → Sp} (h : SpRow w g n L) : g < w.heap.size := by
  obtain ⟨cs, hh, _⟩ := h.heap
  exact (Array.getElem?_eq_some_iff.1 hh).1
theorem SpRow.cell {w : World} {g n : Nat} {L : Nat → Sp} (h : SpRow w g n L) (i : Nat) (hi : i < n) : w.cell? ⟨g, i * 3, none⟩ = some (.int .i64 (L i).f) ∧ w.cell? ⟨g, i * 3 + 1, none⟩ = some (.int .i64 (L i).m) ∧ w.cell? ⟨g, i * 3 + 2, none⟩ = some (.bool (L i).k) := by
  obtain ⟨cs, hh, _, hc⟩ := h.heap
  have := hc i hi
  exact ⟨(cell_of_row _ g _ _ _ (0, 0) hh).trans this.1, (cell_of_row _ g _ _ _ (0, 0) hh).trans this.2.1, (cell_of_row _ g _ _ _ (0, 0) hh).trans this.2.2⟩
theorem SpRow.frozen {w : World} {g n : Nat} {L : Nat → Sp} (h : SpRow w g n L) (i : Nat) : w.frozen? ⟨g, i, none⟩ = false := by
  obtain ⟨cs, hh, _, _⟩ := h.heap
  exact frozen_of_row w g i _ _ hh
theorem SpRow.same {w w' : World} {g n : Nat} {L : Nat → Sp} (h : SpRow w g n L) (hb : w'.heap[g]? = w.heap[g]?) : SpRow w' g n L := by
  obtain ⟨cs, hh, hs, hc⟩ := h.heap
  exact ⟨cs, hb.trans hh, hs, hc⟩
theorem SpRow.kept {w w' : World} {g n : Nat} {L : Nat → Sp} (h : SpRow w g n L) (hb : Below w.heap.size w w') : SpRow w' g n L := h.same (hb.block _ h.lt)

theorem pick_next (L : Nat → Sp) (ks : List Int) (s : Sp) (k p : Nat) (hk : k < ks.length) (hp : (p : Int) = ks.getD k 0) : (ks.drop k).foldl (pickStep L) s = (ks.drop (k + 1)).foldl (pickStep L) ⟨min s.f (L p).f, max s.m (L p).m, s.k || (L p).k⟩ := by
  rw [List.drop_eq_getElem_cons hk, List.foldl_cons]
  have e : ks[k].toNat = p := by
    have : ks.getD k 0 = ks[k] := by simp [hk]
    rw [this] at hp
    rw [← hp, Int.toNat_natCast]
  unfold pickStep
  rw [e]

set_option maxHeartbeats 4000000 in
theorem pickSpan_any (x : ST) (a : Option Addr) (nk ck g n cg : Nat) (L : Nat → Sp) (w : World) (hr : Row64 w a nk x.kids) (hnk : nk ≤ 9223372036854775807) (h1 : 1 ≤ nk) (hg : SpRow w g n L) (hin : ∀ k, k < nk → 0 ≤ x.kids.getD k 0 ∧ x.kids.getD k 0 < n) :
    Calls Try.prog 42 #[stv x a nk ck, .slice (some ⟨g, 0, none⟩) n cg] w fun e w' => e = .returned (spv (pickSp L x.kids)) ∧ Below w.heap.size w w' := by
  have HR : Hid (Row64 w a nk x.kids) := hr
  have HL : Hid (x.kids.length = nk) := hr.len
  have HG : Hid (SpRow w g n L) := hg
  have hgl := hg.lt
  have HI : Hid (_) := hin
  obtain ⟨W0, hW0⟩ : ∃ W0, W0 = ((w.alloc (.cells #[.int .i64 x.kind, .int .i64 x.lo, .int .i64 x.hi, .bool x.ext, .bool x.opt, .slice a nk ck] 37)).alloc (.cells #[.int .i64 0, .int .i64 0, .bool false] 45)) := ⟨_, rfl⟩
  have hB0 : Below w.heap.size w W0 := by rw [hW0]; exact bA2 _ _ _
  have hS0 : W0.heap.size = w.heap.size + 1 + 1 := by rw [hW0]; simp
  have b0 := hA1 w (.cells #[.int .i64 x.kind, .int .i64 x.lo, .int .i64 x.hi, .bool x.ext, .bool x.opt, .slice a nk ck] 37) (.cells #[.int .i64 0, .int .i64 0, .bool false] 45)
  have BS : BoxS 37 w.heap.size W0 x a nk ck := ⟨by rw [hW0]; exact b0.1⟩
  have X1 : Box3 W0 (w.heap.size + 1) ⟨0, 0, false⟩ := ⟨by rw [hW0]; exact b0.2⟩
  obtain ⟨c0, c1, c2, c3, c4, c5⟩ := BS.cells
  have hi0 := hin 0 (by omega)
  obtain ⟨b, off, rfl, hlb, hc0⟩ := hr.get 0 (by omega)
  obtain ⟨p, hp⟩ : ∃ p : Nat, (p : Int) = x.kids.getD 0 0 := ⟨(x.kids.getD 0 0).toNat, by omega⟩
  rw [← hp] at hc0 hi0
  have hcr : W0.cell? ⟨b, off, none⟩ = some (.int .i64 p) := (hB0.cell (p := ⟨b, off + 0, none⟩) hlb).trans hc0
  have hpn : p < n := by omega
  obtain ⟨y0, y1, y2⟩ := (hg.kept hB0).cell p hpn
  have q1 : (p : Int) < (n : Int) := by omega
  have q2 : (0 : Int) < (nk : Int) := by omega
  have q3 : (0 : Int) ≤ (p : Int) := by omega
  have EP : Hid (pickSp L x.kids = x.kids.foldl (pickStep L) (L p)) := by show _ = _; unfold pickSp; rw [← hp, Int.toNat_natCast]
  clear b0 hr hg hin hc0 hp hi0
  unfold stv
  go_enter Try.func42, Try.ntmps42
  go_upto_region 1 with fail
  rw [← hW0]
  clear hW0
  go_wp2
  have hb2 : Below W0.heap.size W0 (W0.alloc (.cells #[.int .i64 (L p).f, .int .i64 (L p).m, .bool (L p).k] 45)) := (Below.refl _ _).alloc (Nat.le_refl _) _
  have X2 := box3_new W0 (L p)
  rw [hS0] at X2
  have F0 : Hid (_ ∧ _ ∧ _) := ⟨X2, X1.kept hb2, hB0.trans (hb2.mono hB0.size)⟩
  have HNE : Hid (∀ j, g ≠ w.heap.size + 1 + j) := fun j => by omega
  clear X1 X2 hb2 hB0 BS c0 c1 c2 c3 c4 c5 y0 y1 y2 hcr q1 q2 q3 hpn hlb
  go_loopw [18] (fun i wr => ∃ (k : Nat) (s : Sp), k ≤ nk ∧ i = .int .i64 k ∧ Box3 wr (w.heap.size + 1 + 1) s ∧ Hid (x.kids.foldl (pickStep L) (L p) = (x.kids.drop k).foldl (pickStep L) s) ∧ Box3 wr (w.heap.size + 1) ⟨0, 0, false⟩ ∧ Below w.heap.size w wr) (fun i _ => nk - (intOf i).toNat)
  case atStart => exact ⟨0, L p, Nat.zero_le _, rfl, F0.out.1, (by show _ = _; rw [List.drop_zero]), F0.out.2.1, F0.out.2.2⟩
  case round =>
    obtain ⟨k, s, hk, rfl, X, HM, X1, hbr⟩ := hrel
    by_cases hkn : k < nk
    · obtain ⟨b2, off2, hab, hl2, hc2⟩ := HR.out.get k hkn
      simp only [Option.some.injEq, Addr.mk.injEq, and_true] at hab
      obtain ⟨rfl, rfl⟩ := hab
      have hcr := (hbr.cell (p := ⟨b, off + k, none⟩) hl2).trans hc2
      have hin := HI.out k hkn
      obtain ⟨r, hr⟩ : ∃ r : Nat, (r : Int) = x.kids.getD k 0 := ⟨(x.kids.getD k 0).toNat, by omega⟩
      rw [← hr] at hcr hin
      have hrn : r < n := by omega
      have HM2 : Hid (x.kids.foldl (pickStep L) (L p) = (x.kids.drop (k + 1)).foldl (pickStep L) ⟨min s.f (L r).f, max s.m (L r).m, s.k || (L r).k⟩) := by
        show _ = _
        rw [HM.out]
        exact pick_next L x.kids s k r (by rw [HL.out]; exact hkn) hr
      have YY := (HG.out.same (hbr.block g hgl)).cell r hrn
      have HK : Hid (∀ wx : World, wx.heap[g]? = wr.heap[g]? → wx.cell? ⟨g, r * 3, none⟩ = some (.int .i64 (L r).f) ∧ wx.cell? ⟨g, r * 3 + 1, none⟩ = some (.int .i64 (L r).m) ∧ wx.cell? ⟨g, r * 3 + 2, none⟩ = some (.bool (L r).k)) := fun wx hwx => ((HG.out.same (hbr.block g hgl)).same hwx).cell r hrn
      obtain ⟨q, hq⟩ : ∃ q, q = L r := ⟨_, rfl⟩
      rw [← hq] at HM2 YY HK
      have p1 : (r : Int) < (n : Int) := by omega
      have p2 : (k : Int) < (nk : Int) := by omega
      have p3 : (0 : Int) ≤ (r : Int) := by omega
      obtain ⟨x0, x1, x2⟩ := X.hold
      obtain ⟨y0, y1, y2⟩ := YY
      have f0 := X.fr 0
      have f1 := X.fr 1
      have f2 := X.fr 2
      have FX : Hid (_ ∧ _ ∧ _ ∧ True) := ⟨X, X1, hbr, trivial⟩
      clear hc2 hr hq hin HM X X1
      obtain ⟨sf, sm, sk⟩ := s
      dsimp only at x0 x1 x2 HM2
      have hmn : (if q.f < sf then q.f else sf) = min sf q.f := by split <;> omega
      have hmx : (if sm < q.m then q.m else sm) = max sm q.m := by split <;> omega
      obtain ⟨mn, hmn2⟩ : ∃ mn, mn = min sf q.f := ⟨_, rfl⟩
      obtain ⟨mx, hmx2⟩ : ∃ mx, mx = max sm q.m := ⟨_, rfl⟩
      rw [← hmn2] at hmn HM2
      rw [← hmx2] at hmx HM2
      have HMN : Hid (_) := hmn
      have HMX : Hid (_) := hmx
      clear hmn hmx hmn2 hmx2
      go_wp2_with fail
      go_region_with (fail)
      all_goals (
        rw [HMN.out]
        obtain ⟨Wa, hWa⟩ : ∃ W, W = (wr.setCell ⟨w.heap.size + 1 + 1, 0, none⟩ (.int .i64 mn)).drew := ⟨_, rfl⟩
        rw [← hWa]
        have FA : Hid (Box3 Wa (w.heap.size + 1 + 1) ⟨mn, sm, sk⟩ ∧ Box3 Wa (w.heap.size + 1) ⟨0, 0, false⟩ ∧ Below w.heap.size w Wa ∧ Wa.heap[g]? = wr.heap[g]?) := by
          rw [hWa]
          exact ⟨(FX.out.1.set0 _).same rfl, FX.out.2.1.same (heap_setCell_other _ _ _ _ (by simp)), (FX.out.2.2.1.setCell (by simp; omega) _).drew, (heap_setCell_other _ _ _ _ (by simp; omega)).trans rfl⟩
        clear hWa x0 x1 x2 f0 f1 f2 y0 y1 y2
        obtain ⟨x0, x1, x2⟩ := FA.out.1.hold
        have f0 := FA.out.1.fr 0
        have f1 := FA.out.1.fr 1
        have f2 := FA.out.1.fr 2
        obtain ⟨y0, y1, y2⟩ := HK.out _ FA.out.2.2.2
        go_wp2_with fail
        go_region_with (fail)
        all_goals (
          rw [HMX.out]
          obtain ⟨Wb, hWb⟩ : ∃ W, W = (Wa.setCell ⟨w.heap.size + 1 + 1, 1, none⟩ (.int .i64 mx)).drew := ⟨_, rfl⟩
          rw [← hWb]
          have FB : Hid (Box3 Wb (w.heap.size + 1 + 1) ⟨mn, mx, sk⟩ ∧ Box3 Wb (w.heap.size + 1) ⟨0, 0, false⟩ ∧ Below w.heap.size w Wb ∧ Wb.heap[g]? = wr.heap[g]?) := by
            rw [hWb]
            exact ⟨(FA.out.1.set1 _).same rfl, FA.out.2.1.same (heap_setCell_other _ _ _ _ (by simp)), (FA.out.2.2.1.setCell (by simp; omega) _).drew, (heap_setCell_other _ _ _ _ (by simp; omega)).trans FA.out.2.2.2⟩
          clear hWb x0 x1 x2 f0 f1 f2 y0 y1 y2
          obtain ⟨x0, x1, x2⟩ := FB.out.1.hold
          have f0 := FB.out.1.fr 0
          have f1 := FB.out.1.fr 1
          have f2 := FB.out.1.fr 2
          obtain ⟨y0, y1, y2⟩ := HK.out _ FB.out.2.2.2
          cases sk with
          | true =>
            rw [Bool.true_or] at HM2
            have FC : Hid (Box3 (Wb.setCell ⟨w.heap.size + 1 + 1, 2, none⟩ (.bool true)) (w.heap.size + 1 + 1) ⟨mn, mx, true⟩ ∧ Box3 (Wb.setCell ⟨w.heap.size + 1 + 1, 2, none⟩ (.bool true)) (w.heap.size + 1) ⟨0, 0, false⟩ ∧ Below w.heap.size w (Wb.setCell ⟨w.heap.size + 1 + 1, 2, none⟩ (.bool true))) := ⟨FB.out.1.set2 _, FB.out.2.1.same (heap_setCell_other _ _ _ _ (by simp)), FB.out.2.2.1.setCell (by simp; omega) _⟩
            go_wp2
            go_roundw
            case rel => first | exact ⟨k + 1, by omega, by go_num, _, FC.out.1, HM2, FC.out.2.1, FC.out.2.2⟩ | exact ⟨k + 1, _, by omega, by go_num, FC.out.1, HM2, FC.out.2.1, FC.out.2.2⟩
            case measure => simp [intOf]; omega
          | false =>
            rw [Bool.false_or] at HM2
            have FC : Hid (Box3 (Wb.setCell ⟨w.heap.size + 1 + 1, 2, none⟩ (.bool q.k)) (w.heap.size + 1 + 1) ⟨mn, mx, q.k⟩ ∧ Box3 (Wb.setCell ⟨w.heap.size + 1 + 1, 2, none⟩ (.bool q.k)) (w.heap.size + 1) ⟨0, 0, false⟩ ∧ Below w.heap.size w (Wb.setCell ⟨w.heap.size + 1 + 1, 2, none⟩ (.bool q.k))) := ⟨FB.out.1.set2 _, FB.out.2.1.same (heap_setCell_other _ _ _ _ (by simp)), FB.out.2.2.1.setCell (by simp; omega) _⟩
            go_wp2
            go_roundw
            case rel => first | exact ⟨k + 1, by omega, by go_num, _, FC.out.1, HM2, FC.out.2.1, FC.out.2.2⟩ | exact ⟨k + 1, _, by omega, by go_num, FC.out.1, HM2, FC.out.2.1, FC.out.2.2⟩
            case measure => simp [intOf]; omega))
    · obtain rfl : nk = k := by omega
      have HE : Hid (pickSp L x.kids = s) := by show _ = _; rw [EP.out, HM.out, List.drop_eq_nil_of_le (by rw [HL.out]; exact Nat.le_refl _)]; rfl
      obtain ⟨x0, x1, x2⟩ := X.hold
      obtain ⟨z0, z1, z2⟩ := X1.hold
      have f0 := X1.fr 0
      have f1 := X1.fr 1
      have f2 := X1.fr 2
      have F : Hid (_ ∧ _) := ⟨X1.set3 s, below_set3 hbr (w.heap.size + 1) (by omega) s⟩
      clear HM X X1
      go_wp2
      try simp only [Exit.inBlock, Exit.then]
      exact bodyPost_ret (results_sp rfl _ (w.heap.size + 1) rfl _ s F.out.1) rfl ⟨by rw [HE.out]; try rfl, F.out.2⟩

end Go.Proofs.Ytglmaoigjnoklaa
