import Derived.Test.YtjechndhgkkpeaaDD1
import Derived.Test.YtjechndhgkkpeaaDD2
import Derived.Test.YtjechndhgkkpeaaWL1
namespace Go.Proofs.Ytjechndhgkkpeaa
open Go.RowKit

set_option maxHeartbeats 400000 in
theorem big_any5 (a : Option Addr) (n cap : Nat) (w : World) (hn : n ≤ 9223372036854775807) :
    Calls Try.prog 5 #[.slice a n cap] w fun r w' => r = .returned (.bool (decide (1048576 < n))) ∧ w' = w := by
  have e : decide (1048576 < n) = decide ((1048576 : Int) < (n : Int)) := by simp; omega
  rw [e]
  go_enter Try.func5, Try.ntmps5
  go_wp2
  go_ret
  exact ⟨rfl, rfl⟩

set_option maxHeartbeats 400000 in
theorem byteAt_m (a : Option Addr) (n cap : Nat) (bs : List Int) (i : Nat) (m : Int) (w : World) (h : Row w a n bs) (hm : 0 < m) (hm2 : m ≤ 1000000000) :
    Calls Try.prog 10 #[.slice a n cap, .int .i64 (i : Int), .int .i64 m] w fun e w' => ∃ v : Int, e = .returned (.int .i64 v) ∧ 0 ≤ v ∧ v < m ∧ w = w' := by
  have H : Hid (Row w a n bs) := h
  clear h
  by_cases hlt : i < n
  · obtain ⟨b, off, rfl, hb, hc⟩ := H.out.get i hlt
    obtain ⟨x, hx⟩ : ∃ x, x = bs.getD i 0 := ⟨_, rfl⟩
    have hxb := H.out.byte i
    rw [← hx] at hc hxb
    obtain ⟨hx0, hx1⟩ := hxb
    clear hx
    have hlti : (i : Int) < (n : Int) := by omega
    go_enter Try.func10, Try.ntmps10
    go_wp2
    go_ret
    exact ⟨x % m, rfl, Int.emod_nonneg _ (by omega), Int.emod_lt_of_pos _ hm, rfl⟩
  · have hge : (n : Int) ≤ (i : Int) := by omega
    go_enter Try.func10, Try.ntmps10
    go_wp2
    go_ret
    exact ⟨0, rfl, by decide, hm, rfl⟩

theorem keepD {w w1 w2 : World} (h : Below w.heap.size w w1) (k : Below w1.heap.size w1 w2) : Below w.heap.size w w2 := h.trans (k.mono h.size)
theorem sh_cells {B : Nat} {w : World} {g n cap : Nat} {ps : List (Int × Int)} (h : OwnSh B w (some ⟨g, 0, none⟩) n cap ps) (k : Nat) (hk : k < n) : w.cell? ⟨g, k * 2, none⟩ = some (.int .i64 (ps.getD k (0, 0)).1) ∧ w.cell? ⟨g, k * 2 + 1, none⟩ = some (.int .i64 (ps.getD k (0, 0)).2) := by
  obtain ⟨b, off, ha, _, h1, h2⟩ := h.toShs.get k hk
  simp only [Option.some.injEq, Addr.mk.injEq, and_true] at ha
  obtain ⟨rfl, rfl⟩ := ha
  rw [Nat.zero_add] at h1 h2
  exact ⟨h1, h2⟩
theorem OwnSh.base' {B : Nat} {w : World} {g n cap : Nat} {ps : List (Int × Int)} (h : OwnSh B w (some ⟨g, 0, none⟩) n cap ps) : B ≤ g ∧ g < w.heap.size := by
  rcases h.row.2 with ⟨hv, _⟩ | ⟨g', cap', cur, hv, hb, hg, _⟩
  · cases hv
  · simp only [Value.slice.injEq, Option.some.injEq, Addr.mk.injEq, and_true] at hv
    obtain ⟨rfl, _⟩ := hv
    exact ⟨hb, (Array.getElem?_eq_some_iff.1 hg).1⟩
theorem cell_share (w : World) (p : Int × Int) : ∀ j u, ([.int .i64 p.1, .int .i64 p.2] : List Value)[j]? = some u → (w.alloc (.cells #[.int .i64 p.1, .int .i64 p.2] 33)).cell? ((⟨w.heap.size, 0, none⟩ : Addr).add j) = some u := by
  intro j u hj
  rw [Addr.add_lit, Nat.zero_add, cell_of_row _ w.heap.size j _ 33 _ (heap_alloc_new w _), ← hj]
  simp
theorem OwnSh.store1 {B : Nat} {w : World} {g n cap : Nat} {ps : List (Int × Int)} (h : OwnSh B w (some ⟨g, 0, none⟩) n cap ps) (k : Nat) (hk : k < n) (v : Int) :
    OwnSh B (w.setCell ⟨g, k * 2 + 1, none⟩ (.int .i64 v)) (some ⟨g, 0, none⟩) n cap (ps.set k ((ps.getD k (0, 0)).1, v)) := by
  have hk' : k < ps.length := by rw [h.len]; exact hk
  have h1 := (h.row.stored (k * 2 + 1) (.int .i64 v)).1
  have e : (flat ps).set (k * 2) (.int .i64 (ps.getD k (0, 0)).1) = flat ps := by
    have hg := (flat_get ps k hk').1
    apply List.ext_getElem?
    intro m
    rw [List.getElem?_set]
    by_cases e : k * 2 = m
    · rw [if_pos e, ← e, if_pos (by rw [flat_len]; omega), hg]
    · rw [if_neg e]
  rw [← e, flat_set ps k ((ps.getD k (0, 0)).1, v) hk'] at h1
  exact ⟨h1, h.max⟩
theorem flat_one (ps : List (Int × Int)) : ∀ u ∈ flat ps, u.oneCell' = true := by
  intro u hu
  simp only [flat, List.mem_flatMap, List.mem_cons, List.not_mem_nil, or_false] at hu
  obtain ⟨p, _, rfl | rfl⟩ := hu <;> rfl
theorem flat_cells {B : Nat} {w : World} {g n cap : Nat} {ps : List (Int × Int)} (h : OwnSh B w (some ⟨g, 0, none⟩) n cap ps) : ∀ j u, (flat ps)[j]? = some u → w.cell? ((⟨g, 0, none⟩ : Addr).add j) = some u := by
  intro j u hj
  have hl : j < (flat ps).length := (List.getElem?_eq_some_iff.1 hj).1
  rw [flat_len, h.len] at hl
  rw [Addr.add_lit, Nat.zero_add, World.ownsRow.cellAt h.row j hl]
  exact hj
theorem shs_low {B : Nat} {w w' : World} {a : Option Addr} {n : Nat} {ps : List (Int × Int)} (h : Shs w a n ps) (hu : ∀ b off, a = some ⟨b, off, none⟩ → 0 < n → b < B) (hb : Below B w w') : Shs w' a n ps := by
  refine ⟨h.len, h.max, fun k hk => ?_⟩
  obtain ⟨b, off, ha, hlt, h1, h2⟩ := h.get k hk
  have hbB := hu b off ha (by omega)
  exact ⟨b, off, ha, Nat.lt_of_lt_of_le hlt hb.size, (hb.cell (p := ⟨b, off + k * 2, none⟩) hbB).trans h1, (hb.cell (p := ⟨b, off + k * 2 + 1, none⟩) hbB).trans h2⟩

set_option maxRecDepth 10000 in
set_option maxHeartbeats 16000000 in
theorem lawDealt_walk (a : Option Addr) (n c : Nat) (bs : List Int) (a' : Option Addr) (n' c' : Nat) (bs' : List Int) (w : World) (hr : Row w a n bs) (hmax : n ≤ 9223372036854775807) (hr' : Row w a' n' bs') (hmax' : n' ≤ 9223372036854775807) :
    Calls Try.prog 3 #[.slice a n c, .slice a' n' c'] w fun e w' => e = .returned (.bool true) ∧ Below w.heap.size w w' := by
  obtain ⟨i0, hi, hz0, hz1, hz2⟩ := info_parts Try.infoShare
  have H0 : Hid (Row w a n bs) := hr
  have H1 : Hid (∀ W, Below w.heap.size w W → Row W a' n' bs') := fun W hW => hr'.kept hW
  clear hr hr'
  go_enter Try.func3, Try.ntmps3
  go_wp2_with fail
  refine (big_any5 a n c _ hmax).mono ?_
  rintro e w1 ⟨rfl, hw1⟩
  have hw2 := hw1.symm
  subst hw2
  clear hw1
  by_cases hbig : 1048576 < n
  · rw [decide_eq_true hbig]
    go_wp2
    go_ret
    exact ⟨rfl, Below.refl _ _⟩
  rw [decide_eq_false hbig]
  have hn : n ≤ 1048576 := by omega
  clear hmax hbig
  go_wp2_with fail
  refine (big_any5 a' n' c' _ hmax').mono ?_
  rintro e w1 ⟨rfl, hw1⟩
  have hw2 := hw1.symm
  subst hw2
  clear hw1
  by_cases hbig : 1048576 < n'
  · rw [decide_eq_true hbig]
    go_wp2
    go_ret
    exact ⟨rfl, Below.refl _ _⟩
  rw [decide_eq_false hbig]
  have hn' : n' ≤ 1048576 := by omega
  clear hmax' hbig
  go_wp2_with fail
  refine (drawDeal_any a n c bs _ H0.out (by omega)).mono ?_
  rintro e w1 ⟨s, k, am, nm, cm, ms, rfl, hsb, hkb, hnm, hom, hb1⟩
  have HOM : Hid (∀ W, Below w1.heap.size w1 W → Row64 W am nm ms) := fun W hW => (hom.kept hW).toRow
  have hml := hom.len
  clear hom H0
  go_wp2_with fail
  refine (implDeal_any s am nm cm ms k _ (HOM.out _ (Below.refl _ _)) (by omega)).mono ?_
  rintro e w2 ⟨al, N, cl, rfl, hol, hN20, hb2⟩
  have HOL2 : Hid (OwnSh w1.heap.size w2 al N cl (dealR s ms k)) := hol
  clear hol
  go_wp2_with fail
  refine (specDeal_any s am nm cm ms k _ (HOM.out _ hb2) (by omega)).mono ?_
  rintro e w3 ⟨aS, nS, cS, rfl, _, _, hb3⟩
  have HOL3 : Hid (OwnSh w1.heap.size w3 al N cl (dealR s ms k)) := HOL2.out.kept hb3
  have h13 := keepD hb2 hb3
  have hB3 := keepD hb1 h13
  clear HOL2 HOM
  by_cases hd : dealP s ms k
  · rw [decide_eq_true hd]
    have hNk : (N : Int) = k := by
      have h1 := HOL3.out.len
      unfold dealR at h1
      rw [if_pos hd, dealL_len] at h1
      have := hd.2.2.2
      omega
    have HSH0 : Hid (SharesP s ms (dealR s ms k)) := by
      show SharesP _ _ _
      unfold dealR
      rw [if_pos hd]
      exact shares_dealt s ms _ (by omega)
    have hs : expP s := hd.1
    have hN1 : 1 ≤ N := by have := hd.2.2.2; omega
    clear hd
    have zN : ((N : Int) != k) = false := by simp [hNk]
    have HNK : Hid ((N : Int) = k) := hNk
    have HML : Hid (ms.length = nm) := hml
    clear hNk hml hkb hsb
    obtain ⟨g, hal, hBg, hgl⟩ := HOL3.out.shape (by omega)
    subst hal
    obtain ⟨gE, hgE⟩ : ∃ gE, gE = w3.heap.size := ⟨_, rfl⟩
    obtain ⟨w4, hw4⟩ : ∃ w4, w4 = w3.alloc (.cells #[] 33) := ⟨_, rfl⟩
    have hb4 : Below w3.heap.size w3 w4 := by rw [hw4]; exact (Below.refl _ _).alloc (Nat.le_refl _) _
    have HE4 : Hid (w4.heap[gE]? = some (.cells #[] 33 (0, 0))) := by show _ = _; rw [hw4, hgE]; exact heap_alloc_new w3 _
    have HOL4 : Hid (OwnSh w1.heap.size w4 (some ⟨g, 0, none⟩) N cl (dealR s ms k)) := HOL3.out.kept hb4
    have hB4 := keepD hB3 hb4
    have hwg : w.heap.size ≤ g := Nat.le_trans hb1.size hBg
    have hgE' : g < gE := by omega
    have HGE : Hid (gE = w3.heap.size) := hgE
    have HW4 : Hid (_ = _) := hw4
    clear hw4 hgE HOL3
    go_upto_region 13 with fail
    rw [← HW4.out, ← HGE.out]
    clear HW4
    go_wp2
    go_loopw [13] (fun i wr => ∃ (j : Nat) (ps : List (Int × Int)), j ≤ N ∧ i = .int .i64 j ∧ OwnSh w1.heap.size wr (some ⟨g, 0, none⟩) N cl ps ∧ SharesP s ms ps ∧ wr.heap[gE]? = some (.cells #[] 33 (0, 0)) ∧ Below w.heap.size w wr) (fun i _ => N - (intOf i).toNat)
    case atStart => exact ⟨0, _, Nat.zero_le _, rfl, HOL4.out, HSH0.out, HE4.out, hB4⟩
    case round =>
      obtain ⟨j, ps, hj, rfl, hor, hsh, hge, hbr⟩ := hrel
      have HLP : Hid (ps.length = N) := hor.len
      by_cases hlt : j < N
      · have hlti : (j : Int) < (N : Int) := by omega
        have HOR : Hid (_) := hor
        have HSH : Hid (_) := hsh
        have HGR : Hid (_ = _) := hge
        clear hor hsh hge
        go_wp2_with fail
        refine (byteAt_m a' n' c' bs' j (N : Int) _ (H1.out _ hbr) (by omega) (by omega)).mono ?_
        rintro e wx ⟨v, rfl, hv0, hv1, hwx⟩
        subst hwx
        obtain ⟨q, rfl⟩ := Int.eq_ofNat_of_zero_le hv0
        have hq : q < N := by omega
        have hqi : (q : Int) < (N : Int) := by omega
        obtain ⟨px, hpx⟩ : ∃ p, p = ps.getD q (0, 0) := ⟨_, rfl⟩
        obtain ⟨py, hpy⟩ : ∃ p, p = ps.getD j (0, 0) := ⟨_, rfl⟩
        have HPM : Hid (((ps.set q py).set j px).Perm ps) := by rw [hpx, hpy]; exact swapped ps j q (by rw [HLP.out]; exact hlt) (by rw [HLP.out]; exact hq)
        have hgetq := sh_cells HOR.out q hq
        have hgetj := sh_cells HOR.out j hlt
        rw [← hpx] at hgetq
        rw [← hpy] at hgetj
        obtain ⟨x0, x1⟩ := hgetq
        obtain ⟨y0, y1⟩ := hgetj
        obtain ⟨wa, hwa⟩ : ∃ wa, wa = wr.alloc (.cells #[.int .i64 px.1, .int .i64 px.2] 33) := ⟨_, rfl⟩
        have hba : Below wr.heap.size wr wa := by rw [hwa]; exact (Below.refl _ _).alloc (Nat.le_refl _) _
        have HBa : Hid (wa.heap[wr.heap.size]? = some (.cells #[.int .i64 px.1, .int .i64 px.2] 33)) := by show _ = _; rw [hwa]; exact heap_alloc_new wr _
        have HORa : Hid (OwnSh w1.heap.size wa (some ⟨g, 0, none⟩) N cl ps) := HOR.out.kept hba
        have hgr : g < wr.heap.size := (HOR.out.base').2
        have hgEr : gE < wr.heap.size := (Array.getElem?_eq_some_iff.1 HGR.out).1
        have HGa : Hid (wa.heap[gE]? = some (.cells #[] 33 (0, 0))) := (hba.block _ hgEr).trans HGR.out
        have hBa := keepD hbr hba
        have HWa : Hid (_ = _) := hwa
        have HPY : Hid (py = ps.getD j (0, 0)) := hpy
        clear hwa hpx hpy
        go_upto_region 18 with fail
        rw [← HWa.out]
        clear HWa x0 x1 y0 y1
        have hgetj := sh_cells HORa.out j hlt
        have hgetq := sh_cells HORa.out q hq
        obtain ⟨x0, x1⟩ := hgetq
        obtain ⟨y0, y1⟩ := hgetj
        rw [← HPY.out] at y0 y1
        have f0 : wa.frozen? ⟨g, q * 2, none⟩ = false := HORa.out.row.frozenAt _
        have f1 : wa.frozen? ⟨g, q * 2 + 1, none⟩ = false := HORa.out.row.frozenAt _
        obtain ⟨wb, hwb⟩ : ∃ wb, wb = (wa.setCell ⟨g, q * 2, none⟩ (.int .i64 py.1)).setCell ⟨g, q * 2 + 1, none⟩ (.int .i64 py.2) := ⟨_, rfl⟩
        have HORb : Hid (OwnSh w1.heap.size wb (some ⟨g, 0, none⟩) N cl (ps.set q py)) := by show OwnSh _ _ _ _ _ _; rw [hwb]; exact HORa.out.store q hq py
        have HBb : Hid (wb.heap[wr.heap.size]? = some (.cells #[.int .i64 px.1, .int .i64 px.2] 33)) := by show _ = _; rw [hwb]; exact (Below.heap_setCell _ _ _ _ (by simp; omega)).trans ((Below.heap_setCell _ _ _ _ (by simp; omega)).trans HBa.out)
        have HGb : Hid (wb.heap[gE]? = some (.cells #[] 33 (0, 0))) := by show _ = _; rw [hwb]; exact (Below.heap_setCell _ _ _ _ (by simp; omega)).trans ((Below.heap_setCell _ _ _ _ (by simp; omega)).trans HGa.out)
        have hBb : Below w.heap.size w wb := by rw [hwb]; exact (hBa.setCell hwg _).setCell hwg _
        have HWb : Hid (_ = _) := hwb
        clear hwb
        go_upto_region 19 with fail
        rw [← HWb.out]
        clear HWb x0 x1 y0 y1 f0 f1
        have hgetj := sh_cells HORb.out j hlt
        obtain ⟨y0, y1⟩ := hgetj
        have x0 : wb.cell? ⟨wr.heap.size, 0, none⟩ = some (.int .i64 px.1) := (cell_of_row _ _ 0 _ 33 (0, 0) HBb.out).trans rfl
        have x1 : wb.cell? ⟨wr.heap.size, 1, none⟩ = some (.int .i64 px.2) := (cell_of_row _ _ 1 _ 33 (0, 0) HBb.out).trans rfl
        have f0 : wb.frozen? ⟨g, j * 2, none⟩ = false := HORb.out.row.frozenAt _
        have f1 : wb.frozen? ⟨g, j * 2 + 1, none⟩ = false := HORb.out.row.frozenAt _
        obtain ⟨wc, hwc⟩ : ∃ wc, wc = (wb.setCell ⟨g, j * 2, none⟩ (.int .i64 px.1)).setCell ⟨g, j * 2 + 1, none⟩ (.int .i64 px.2) := ⟨_, rfl⟩
        have HORc : Hid (OwnSh w1.heap.size wc (some ⟨g, 0, none⟩) N cl ((ps.set q py).set j px)) := by show OwnSh _ _ _ _ _ _; rw [hwc]; exact HORb.out.store j hlt px
        have HGc : Hid (wc.heap[gE]? = some (.cells #[] 33 (0, 0))) := by show _ = _; rw [hwc]; exact (Below.heap_setCell _ _ _ _ (by simp; omega)).trans ((Below.heap_setCell _ _ _ _ (by simp; omega)).trans HGb.out)
        have hBc : Below w.heap.size w wc := by rw [hwc]; exact (hBb.setCell hwg _).setCell hwg _
        have HWc : Hid (_ = _) := hwc
        clear hwc
        go_upto_region 15 with fail
        rw [← HWc.out]
        clear HWc x0 x1 y0 y1 f0 f1
        go_wp2
        go_roundw
        case rel => exact ⟨j + 1, _, by omega, by go_num, HORc.out, HSH.out.perm HPM.out, HGc.out, hBc⟩
        case measure => simp [intOf]; omega
      · obtain rfl : j = N := by omega
        have hnl : ¬ ((j : Int) < (j : Int)) := by omega
        have HSH : Hid (_) := hsh
        have HLM : Hid (Shs wr (some ⟨g, 0, none⟩) j ps) := hor.toShs
        have hO0 : OwnSh gE wr (some ⟨gE, 0, none⟩) 0 0 (ps.take 0) := ⟨⟨rfl, .inr ⟨gE, 0, #[], rfl, Nat.le_refl _, hge, Nat.le_refl _, by unfold maxLen; omega, rfl, rfl⟩⟩, by omega⟩
        have HO0 : Hid (_) := hO0
        have hgEr : gE < wr.heap.size := (Array.getElem?_eq_some_iff.1 hge).1
        clear hor hsh hge hO0 HSH0 HE4 HOL4
        obtain ⟨wM, rfl⟩ : ∃ wM, wM = wr := ⟨_, rfl⟩
        have hgg : ∀ b off, (some ⟨g, 0, none⟩ : Option Addr) = some ⟨b, off, none⟩ → 0 < j → b < gE := fun b off e _ => by cases e; exact hgE'
        go_wp2
        go_loopw [12, 16] (fun o i wr => ∃ (q cf : Nat) (af : Option Addr), q ≤ j ∧ q ≤ nm + 1 ∧ i = .int .i64 q ∧ o = .slice af q cf ∧ OwnSh gE wr af q cf (ps.take q) ∧ Below gE wM wr) (fun _ i _ => j - (intOf i).toNat)
        case atStart => exact ⟨0, 0, _, Nat.zero_le _, Nat.zero_le _, rfl, rfl, HO0.out, Below.refl _ _⟩
        case round =>
          obtain ⟨q, cf, af, hqj, hqm, rfl, rfl, hof, hbf⟩ := hrel
          have hszf := hbf.size
          have HLr : Hid (Shs wr (some ⟨g, 0, none⟩) j ps) := shs_low HLM.out hgg hbf
          by_cases hgo : q < j ∧ q ≤ nm
          · obtain ⟨hq1, hq2⟩ := hgo
            have hi1 : (q : Int) < (j : Int) := by omega
            have hi2 : (q : Int) ≤ (nm : Int) := by omega
            obtain ⟨b, off, hbe, _, c0, c1⟩ := HLr.out.get q hq1
            simp only [Option.some.injEq, Addr.mk.injEq, and_true] at hbe
            obtain ⟨rfl, rfl⟩ := hbe
            rw [Nat.zero_add] at c0 c1
            obtain ⟨p, hp⟩ : ∃ p, p = ps.getD q (0, 0) := ⟨_, rfl⟩
            rw [← hp] at c0 c1
            have HNX : Hid (flat (ps.take q) ++ [.int .i64 p.1, .int .i64 p.2] = flat (ps.take (q + 1))) := by
              show _ = _
              rw [hp, List.take_succ_eq_append_getElem (by rw [HLP.out]; exact hq1), flat_append]
              simp [flat, show q < ps.length by rw [HLP.out]; exact hq1]
            have HOF : Hid (_) := hof
            have hal : Below wr.heap.size wr (wr.alloc (.cells #[.int .i64 p.1, .int .i64 p.2] 33)) := (Below.refl _ _).alloc (Nat.le_refl _) _
            have hofa := HOF.out.kept hal
            have hcl := cell_share wr p
            clear hp hof
            go_wp2_with (first | (at_builtin; refine wpList_append_own _ rfl _ _ 27 rfl gE 33 i0 _ 2 16 Try.underlying27 hi hz0 hz1 hz2 rfl (by decide) _ q _ rfl hofa.row ⟨wr.heap.size, 0, none⟩ 1 1 [.int .i64 p.1, .int .i64 p.2] rfl rfl hcl (ints_oneCell .i64 [p.1, p.2]) (by unfold maxLen; omega) (by omega) (by simp; omega) ?_; intro v4 w4x hv4 hg4 _))
            rw [HNX.out] at hv4
            obtain ⟨a4, c4, rfl, ho4⟩ := own_sh_appended (by omega) hv4
            have hb4x : Below gE wM w4x := (hbf.trans (hal.mono (by omega))).grown hg4 (by simp; omega) (fun k hk => (hofa.row.lt k hk).1)
            clear hv4 hg4 c0 c1 hofa
            go_roundw
            case rel => exact ⟨q + 1, c4, a4, by omega, by omega, by go_num, rfl, ho4, hb4x⟩
            case measure => simp [intOf]; omega
          · have HLr2 := HLr
            by_cases hc1 : q < j
            · have d1 : (q : Int) < (j : Int) := by omega
              have hqe : q = nm + 1 := by omega
              have d2 : ¬ ((q : Int) ≤ (nm : Int)) := by omega
              clear hgo HLr2
              obtain ⟨gf, haf, hgEf, hgfl⟩ := hof.shape (by omega)
              subst haf
              have HFL : Hid ((ps.take q).length = q) := by show _ = _; rw [List.length_take, HLP.out]; omega
              have HRB : Hid (restR (ps.take q) = (s, true)) := (HSH.out.take q).back hs (by rw [HFL.out, HML.out]; omega) (by rw [HFL.out]; omega)
              have HRL : Hid (restR ps = (s, true)) := HSH.out.back hs (by rw [HLP.out, HML.out]; omega) (by rw [HLP.out]; omega)
              have HTN : Hid (∀ (i : Nat) (b : Int), i < q → 0 ≤ b → b < 200 → ∃ c, restR ((ps.take q).set i (((ps.take q).getD i (0, 0)).1, (((ps.take q).getD i (0, 0)).2 + 1 + b) % 500000003)) = (c, true) ∧ c ≠ s) := fun i b hi' hb0 hb1 => turned_other (HSH.out.take q) hs (by rw [HFL.out, HML.out]; omega) (by rw [HFL.out]; omega) i (by rw [HFL.out]; exact hi') b hb0 hb1
              have HVB : Hid (∀ i, i < q → expP ((ps.take q).getD i (0, 0)).2) := fun i hi' => by
                have hm := getD_memD (ps.take q) (0, 0) i (by rw [HFL.out]; exact hi')
                rw [(HSH.out.take q).val _ hm]
                exact valN_bd _ _ _
              obtain ⟨fs, hfs⟩ : ∃ fs, fs = ps.take q := ⟨_, rfl⟩
              clear hqe
              rw [← hfs] at HFL HRB HTN HVB hof
              clear hfs
              have HOF : Hid (OwnSh gE wr (some ⟨gf, 0, none⟩) q cf fs) := hof
              clear hof
              have hoe := own_sh_empty wr
              have hal : Below wr.heap.size wr (wr.alloc (.cells #[] 33)) := (Below.refl _ _).alloc (Nat.le_refl _) _
              have hofa := HOF.out.kept hal
              have hcl := flat_cells hofa
              have hfl2 : (flat fs).length = q * 2 := by rw [flat_len, HFL.out]
              have hBr : Below w.heap.size w wr := hbr.trans (hbf.mono (by omega))
              go_wp2_with (first | (at_builtin; refine wpList_append_own _ rfl _ _ 27 rfl wr.heap.size 33 i0 _ 2 16 Try.underlying27 hi hz0 hz1 hz2 rfl (by decide) _ 0 _ rfl hoe.row ⟨gf, 0, none⟩ q cf (flat fs) rfl hfl2 hcl (flat_one fs) (by unfold maxLen; omega) (by omega) (by simp) ?_; intro v4 w4x hv4 hg4 _))
              rw [Nat.zero_add, flat_nil, List.nil_append] at hv4
              have hb4x : Below wr.heap.size wr w4x := hal.grown hg4 (by simp) (fun k hk => (hoe.row.lt k hk).1)
              obtain ⟨a4, c4, rfl, ho4⟩ := own_sh_appended (by omega) hv4
              clear hv4 hg4 hoe hofa hcl hfl2 hal
              refine (implRestore_any a4 q c4 fs _ ho4.toShs (by omega)).mono ?_
              rintro e w5 ⟨rfl, hb5⟩
              rw [HRB.out, pair]
              have h5 := keepD hb4x hb5
              clear ho4
              go_wp2_with fail
              refine (implRestore_any (some ⟨g, 0, none⟩) j cl ps _ (HLr.out.kept h5) (by omega)).mono ?_
              rintro e w6 ⟨rfl, hb6⟩
              rw [HRL.out, pair]
              have h6 := keepD h5 hb6
              have zs : (s != s) = false := by simp
              go_wp2_with fail
              refine (byteAt_m a' n' c' bs' 30 (q : Int) _ (H1.out _ (keepD hBr h6)) (by omega) (by omega)).mono ?_
              rintro e wx ⟨v, rfl, hv0, hv1, hwx⟩
              subst hwx
              obtain ⟨i, rfl⟩ := Int.eq_ofNat_of_zero_le hv0
              have hiq : i < q := by omega
              have hii : (i : Int) < (q : Int) := by omega
              have HO6 : Hid (OwnSh gE w6 (some ⟨gf, 0, none⟩) q cf fs) := HOF.out.kept h6
              have HOd : Hid (OwnSh gE w6.drew (some ⟨gf, 0, none⟩) q cf fs) := HO6.out.kept ((Below.refl _ _).drew)
              have hd6 : Below w.heap.size w w6.drew := (keepD hBr h6).drew
              obtain ⟨x0, x1⟩ := sh_cells HO6.out i hiq
              obtain ⟨y0, y1⟩ := sh_cells HOd.out i hiq
              have f1 : w6.frozen? ⟨gf, i * 2 + 1, none⟩ = false := HO6.out.row.frozenAt _
              have f2 : w6.drew.frozen? ⟨gf, i * 2 + 1, none⟩ = false := HOd.out.row.frozenAt _
              have hve := HVB.out i hiq
              obtain ⟨p, hp⟩ : ∃ p, p = fs.getD i (0, 0) := ⟨_, rfl⟩
              have HP : Hid (p = fs.getD i (0, 0)) := hp
              rw [← hp] at x0 x1 y0 y1 hve
              obtain ⟨hve0, hve1⟩ := hve
              clear hp
              have HBR : Hid (Row w6.drew a' n' bs') := H1.out _ hd6
              go_upto_region 31 with fail
              go_region_with ((go_at_call 10; refine (byteAt_m a' n' c' bs' 31 200 _ HBR.out (by decide) (by decide)).mono ?_; rintro e wj ⟨b, rfl, hb0, hb1, hwj⟩; subst hwj))
              all_goals
                clear x0 x1 y0 y1 f1 f2
                obtain ⟨cc, hcc, hne⟩ := HTN.out i b hiq hb0 hb1
                rw [← HP.out] at hcc
                have HC : Hid (_ = _) := hcc
                clear hcc
                have ev : (IntKind.i64.wrap (IntKind.i64.wrap (p.2 + 1) + b)).tmod 500000003 = (p.2 + 1 + b) % 500000003 := by
                  have e1 : IntKind.i64.wrap (p.2 + 1) = p.2 + 1 := by rw [IntKind.wrap_i64]; omega
                  have e2 : IntKind.i64.wrap (p.2 + 1 + b) = p.2 + 1 + b := by rw [IntKind.wrap_i64]; omega
                  rw [e1, e2, Int.tmod_eq_emod_of_nonneg (by omega)]
                rw [ev]
                clear ev
                have HOZ : Hid (OwnSh gE (w6.setCell ⟨gf, i * 2 + 1, none⟩ (.int .i64 ((p.2 + 1 + b) % 500000003))).drew (some ⟨gf, 0, none⟩) q cf (fs.set i (p.1, (p.2 + 1 + b) % 500000003))) := by
                  have h1 := HO6.out.store1 i hiq ((p.2 + 1 + b) % 500000003)
                  rw [← HP.out] at h1
                  exact h1.kept ((Below.refl _ _).drew)
                have hBZ : Below w.heap.size w (w6.setCell ⟨gf, i * 2 + 1, none⟩ (.int .i64 ((p.2 + 1 + b) % 500000003))).drew := ((keepD hBr h6).setCell (by show w.heap.size ≤ gf; have := hb4.size; have := hB4.size; omega) _).drew
                obtain ⟨wZ, hwZ⟩ : ∃ wZ, wZ = (w6.setCell ⟨gf, i * 2 + 1, none⟩ (.int .i64 ((p.2 + 1 + b) % 500000003))).drew := ⟨_, rfl⟩
                rw [← hwZ] at HOZ hBZ
                have HWZ : Hid (_ = _) := hwZ
                clear hwZ
                go_upto_region 32 with fail
                rw [← HWZ.out]
                clear HWZ
                go_wp2_with fail
                refine (implRestore_any (some ⟨gf, 0, none⟩) q cf _ _ HOZ.out.toShs (by omega)).mono ?_
                rintro e w7 ⟨rfl, hb7⟩
                rw [HC.out, pair]
                have zc : (cc != s) = true := by simp [hne]
                clear hne
                go_wp2_with fail
                refine (lives_any _).mono ?_
                rintro e wL ⟨rfl, hbL⟩
                go_wp2
                go_ret
                exact ⟨rfl, keepD (keepD hBZ hb7) hbL⟩
            · have d1 : ¬ ((q : Int) < (j : Int)) := by omega
              by_cases hfew : q ≤ nm
              · have d2 : (q : Int) ≤ (nm : Int) := by omega
                go_wp2_with fail
                refine (lives_any _).mono ?_
                rintro e wL ⟨rfl, hbL⟩
                go_wp2
                go_ret
                exact ⟨rfl, keepD (hbr.trans (hbf.mono (by omega))) hbL⟩
              · have hqe : q = nm + 1 := by omega
                have d2 : ¬ ((q : Int) ≤ (nm : Int)) := by omega
                clear hgo HLr2
                obtain ⟨gf, haf, hgEf, hgfl⟩ := hof.shape (by omega)
                subst haf
                have HFL : Hid ((ps.take q).length = q) := by show _ = _; rw [List.length_take, HLP.out]; omega
                have HRB : Hid (restR (ps.take q) = (s, true)) := (HSH.out.take q).back hs (by rw [HFL.out, HML.out]; omega) (by rw [HFL.out]; omega)
                have HRL : Hid (restR ps = (s, true)) := HSH.out.back hs (by rw [HLP.out, HML.out]; omega) (by rw [HLP.out]; omega)
                have HTN : Hid (∀ (i : Nat) (b : Int), i < q → 0 ≤ b → b < 200 → ∃ c, restR ((ps.take q).set i (((ps.take q).getD i (0, 0)).1, (((ps.take q).getD i (0, 0)).2 + 1 + b) % 500000003)) = (c, true) ∧ c ≠ s) := fun i b hi' hb0 hb1 => turned_other (HSH.out.take q) hs (by rw [HFL.out, HML.out]; omega) (by rw [HFL.out]; omega) i (by rw [HFL.out]; exact hi') b hb0 hb1
                have HVB : Hid (∀ i, i < q → expP ((ps.take q).getD i (0, 0)).2) := fun i hi' => by
                  have hm := getD_memD (ps.take q) (0, 0) i (by rw [HFL.out]; exact hi')
                  rw [(HSH.out.take q).val _ hm]
                  exact valN_bd _ _ _
                obtain ⟨fs, hfs⟩ : ∃ fs, fs = ps.take q := ⟨_, rfl⟩
                clear hqe
                rw [← hfs] at HFL HRB HTN HVB hof
                clear hfs
                have HOF : Hid (OwnSh gE wr (some ⟨gf, 0, none⟩) q cf fs) := hof
                clear hof
                have hoe := own_sh_empty wr
                have hal : Below wr.heap.size wr (wr.alloc (.cells #[] 33)) := (Below.refl _ _).alloc (Nat.le_refl _) _
                have hofa := HOF.out.kept hal
                have hcl := flat_cells hofa
                have hfl2 : (flat fs).length = q * 2 := by rw [flat_len, HFL.out]
                have hBr : Below w.heap.size w wr := hbr.trans (hbf.mono (by omega))
                go_wp2_with (first | (at_builtin; refine wpList_append_own _ rfl _ _ 27 rfl wr.heap.size 33 i0 _ 2 16 Try.underlying27 hi hz0 hz1 hz2 rfl (by decide) _ 0 _ rfl hoe.row ⟨gf, 0, none⟩ q cf (flat fs) rfl hfl2 hcl (flat_one fs) (by unfold maxLen; omega) (by omega) (by simp) ?_; intro v4 w4x hv4 hg4 _))
                rw [Nat.zero_add, flat_nil, List.nil_append] at hv4
                have hb4x : Below wr.heap.size wr w4x := hal.grown hg4 (by simp) (fun k hk => (hoe.row.lt k hk).1)
                obtain ⟨a4, c4, rfl, ho4⟩ := own_sh_appended (by omega) hv4
                clear hv4 hg4 hoe hofa hcl hfl2 hal
                refine (implRestore_any a4 q c4 fs _ ho4.toShs (by omega)).mono ?_
                rintro e w5 ⟨rfl, hb5⟩
                rw [HRB.out, pair]
                have h5 := keepD hb4x hb5
                clear ho4
                go_wp2_with fail
                refine (implRestore_any (some ⟨g, 0, none⟩) j cl ps _ (HLr.out.kept h5) (by omega)).mono ?_
                rintro e w6 ⟨rfl, hb6⟩
                rw [HRL.out, pair]
                have h6 := keepD h5 hb6
                have zs : (s != s) = false := by simp
                go_wp2_with fail
                refine (byteAt_m a' n' c' bs' 30 (q : Int) _ (H1.out _ (keepD hBr h6)) (by omega) (by omega)).mono ?_
                rintro e wx ⟨v, rfl, hv0, hv1, hwx⟩
                subst hwx
                obtain ⟨i, rfl⟩ := Int.eq_ofNat_of_zero_le hv0
                have hiq : i < q := by omega
                have hii : (i : Int) < (q : Int) := by omega
                have HO6 : Hid (OwnSh gE w6 (some ⟨gf, 0, none⟩) q cf fs) := HOF.out.kept h6
                have HOd : Hid (OwnSh gE w6.drew (some ⟨gf, 0, none⟩) q cf fs) := HO6.out.kept ((Below.refl _ _).drew)
                have hd6 : Below w.heap.size w w6.drew := (keepD hBr h6).drew
                obtain ⟨x0, x1⟩ := sh_cells HO6.out i hiq
                obtain ⟨y0, y1⟩ := sh_cells HOd.out i hiq
                have f1 : w6.frozen? ⟨gf, i * 2 + 1, none⟩ = false := HO6.out.row.frozenAt _
                have f2 : w6.drew.frozen? ⟨gf, i * 2 + 1, none⟩ = false := HOd.out.row.frozenAt _
                have hve := HVB.out i hiq
                obtain ⟨p, hp⟩ : ∃ p, p = fs.getD i (0, 0) := ⟨_, rfl⟩
                have HP : Hid (p = fs.getD i (0, 0)) := hp
                rw [← hp] at x0 x1 y0 y1 hve
                obtain ⟨hve0, hve1⟩ := hve
                clear hp
                have HBR : Hid (Row w6.drew a' n' bs') := H1.out _ hd6
                go_upto_region 31 with fail
                go_region_with ((go_at_call 10; refine (byteAt_m a' n' c' bs' 31 200 _ HBR.out (by decide) (by decide)).mono ?_; rintro e wj ⟨b, rfl, hb0, hb1, hwj⟩; subst hwj))
                all_goals
                  clear x0 x1 y0 y1 f1 f2
                  obtain ⟨cc, hcc, hne⟩ := HTN.out i b hiq hb0 hb1
                  rw [← HP.out] at hcc
                  have HC : Hid (_ = _) := hcc
                  clear hcc
                  have ev : (IntKind.i64.wrap (IntKind.i64.wrap (p.2 + 1) + b)).tmod 500000003 = (p.2 + 1 + b) % 500000003 := by
                    have e1 : IntKind.i64.wrap (p.2 + 1) = p.2 + 1 := by rw [IntKind.wrap_i64]; omega
                    have e2 : IntKind.i64.wrap (p.2 + 1 + b) = p.2 + 1 + b := by rw [IntKind.wrap_i64]; omega
                    rw [e1, e2, Int.tmod_eq_emod_of_nonneg (by omega)]
                  rw [ev]
                  clear ev
                  have HOZ : Hid (OwnSh gE (w6.setCell ⟨gf, i * 2 + 1, none⟩ (.int .i64 ((p.2 + 1 + b) % 500000003))).drew (some ⟨gf, 0, none⟩) q cf (fs.set i (p.1, (p.2 + 1 + b) % 500000003))) := by
                    have h1 := HO6.out.store1 i hiq ((p.2 + 1 + b) % 500000003)
                    rw [← HP.out] at h1
                    exact h1.kept ((Below.refl _ _).drew)
                  have hBZ : Below w.heap.size w (w6.setCell ⟨gf, i * 2 + 1, none⟩ (.int .i64 ((p.2 + 1 + b) % 500000003))).drew := ((keepD hBr h6).setCell (by show w.heap.size ≤ gf; have := hb4.size; have := hB4.size; omega) _).drew
                  obtain ⟨wZ, hwZ⟩ : ∃ wZ, wZ = (w6.setCell ⟨gf, i * 2 + 1, none⟩ (.int .i64 ((p.2 + 1 + b) % 500000003))).drew := ⟨_, rfl⟩
                  rw [← hwZ] at HOZ hBZ
                  have HWZ : Hid (_ = _) := hwZ
                  clear hwZ
                  go_upto_region 32 with fail
                  rw [← HWZ.out]
                  clear HWZ
                  go_wp2_with fail
                  refine (implRestore_any (some ⟨gf, 0, none⟩) q cf _ _ HOZ.out.toShs (by omega)).mono ?_
                  rintro e w7 ⟨rfl, hb7⟩
                  rw [HC.out, pair]
                  have zc : (cc != s) = true := by simp [hne]
                  clear hne
                  go_wp2_with fail
                  refine (lives_any _).mono ?_
                  rintro e wL ⟨rfl, hbL⟩
                  go_wp2
                  go_ret
                  exact ⟨rfl, keepD (keepD hBZ hb7) hbL⟩
  · rw [decide_eq_false hd]
    have hN0 : N = 0 := by
      have h1 := HOL3.out.len
      unfold dealR at h1
      rw [if_neg hd] at h1
      simpa using h1.symm
    subst hN0
    go_wp2_with fail
    refine (lives_any _).mono ?_
    rintro e w4 ⟨rfl, hb4⟩
    go_wp2
    go_ret
    exact ⟨rfl, keepD hB3 hb4⟩

end Go.Proofs.Ytjechndhgkkpeaa
