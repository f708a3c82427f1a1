import Derived.Test.YtjkkokjojaknkaaDoorLX2
import Derived.Test.YtjkkokjojaknkaaDoorDI4
import Derived.Deep.DeepCutAuto
import Derived.Great.BuildSlice
namespace Go.Proofs.YtjkkokjojaknkaaDoor
open Go.RowKit

theorem RdP.rd {w : World} {g : Nat} {a : Option Addr} {n cap : Nat} {bs : List Int} {p : Nat} (h : RdP w g a n cap bs p) : Rd w g a n cap bs := ⟨⟨p, h.le, h.blk⟩, h.row, h.sep, h.len⟩
theorem Rd.at' {w : World} {g : Nat} {a : Option Addr} {n cap : Nat} {bs : List Int} (h : Rd w g a n cap bs) : ∃ p, RdP w g a n cap bs p := by
  obtain ⟨p, h1, h2⟩ := h.blk
  exact ⟨p, h1, h2, h.row, h.sep, h.len⟩
theorem RdQ.post {w w' : World} {g : Nat} {a : Option Addr} {n cap : Nat} {bs : List Int} {p : Nat} (h : RdQ w g a n cap bs p w') : RdPost w g a n cap bs w' := ⟨h.1.rd, h.2⟩
set_option maxRecDepth 10000 in
set_option maxHeartbeats 1000000 in
theorem below_big (g : Nat) (a : Option Addr) (n cap : Nat) (bs : List Int) (m : Int) (w : World) (h : Rd w g a n cap bs) (hm : m ≤ 100000000) :
    Calls Tryd.prog 35 #[.pointer (some ⟨g, 0, none⟩), .int .i64 m] w fun e w' => ∃ v : Nat, e = .returned (.int .i64 (v : Int)) ∧ ((v : Int) < m ∨ v = 0) ∧ RdPost w g a n cap bs w' := by
  have H : Hid (Rd w g a n cap bs) := h
  clear h
  by_cases h1 : m ≤ 1
  · go_enter Tryd.func35, Tryd.ntmps35
    go_wp2
    go_ret
    exact ⟨0, rfl, .inr rfl, H.out, Touch.same _ _ _⟩
  · by_cases h2 : m ≤ 256
    · go_enter Tryd.func35, Tryd.ntmps35
      go_wp2_with fail
      refine (next_any g a n cap bs _ H.out).mono ?_
      rintro e w1 ⟨v, rfl, hv0, hv1, hr1, ht1⟩
      go_wp2
      go_ret
      have h3 := Int.emod_nonneg v (show m ≠ 0 by omega)
      have h4 := Int.emod_lt_of_pos v (show 0 < m by omega)
      exact ⟨(v % m).toNat, by rw [Int.toNat_of_nonneg h3]; rfl, .inl (by rw [Int.toNat_of_nonneg h3]; exact h4), hr1, ht1⟩
    · go_enter Tryd.func35, Tryd.ntmps35
      go_wp2_with fail
      refine (next_any g a n cap bs _ H.out).mono ?_
      rintro e w1 ⟨v, rfl, hv0, hv1, hr1, ht1⟩
      go_wp2_with fail
      refine (next_any g a n cap bs _ hr1).mono ?_
      rintro e w2 ⟨v2, rfl, hv20, hv21, hr2, ht2⟩
      go_wp2
      go_ret
      have h3 := Int.emod_nonneg (v * 256 + v2) (show m ≠ 0 by omega)
      have h4 := Int.emod_lt_of_pos (v * 256 + v2) (show 0 < m by omega)
      exact ⟨((v * 256 + v2) % m).toNat, by rw [Int.toNat_of_nonneg h3]; rfl, .inl (by rw [Int.toNat_of_nonneg h3]; exact h4), hr2, ht1.trans ht2⟩

theorem laxW_all (g : Nat) (a : Option Addr) (n cap : Nat) (bs : List Int) (d : Nat) : LaxW g a n cap bs d := by
  induction d with
  | zero => intro x ab nb cb ak nk ck lo M top w _ _ _ _ _ _ _ _ h; exact h.elim
  | succ d ih => exact laxW_next g a n cap bs d ih

/-- The drawn item in its box. -/
structure DLB (w W : World) (g : Nat) (a : Option Addr) (n cap : Nat) (bs : List Int) (G : Nat) (y : It) (ab : Option Addr) (nb cb : Nat) (ak : Option Addr) (nk ck lo M top : Nat) : Prop where
  rd : RdPost w g a n cap bs W
  gw : g < w.heap.size
  wG : w.heap.size ≤ G
  box : W.heap[G]? = some (.cells #[.int .i64 y.cls, .int .i64 y.tag, .bool y.cons, .slice ab nb cb, .slice ak nk ck] 26 (0, 0))
  wl : w.heap.size ≤ lo
  lM : lo ≤ M
  Mt : M ≤ top
  tW : top ≤ W.heap.size
  ob : OwnB lo M W ab nb cb y.body
  ok : OwnKids 13 M top W ak nk y.kids
  tm : Tame 13 y
  wt : nb + wtS 13 y.kids ≤ 45000
theorem DLB.lt {w W : World} {g : Nat} {a : Option Addr} {n cap : Nat} {bs : List Int} {G : Nat} {y : It} {ab : Option Addr} {nb cb : Nat} {ak : Option Addr} {nk ck lo M top : Nat} (h : DLB w W g a n cap bs G y ab nb cb ak nk ck lo M top) : G < W.heap.size := (Array.getElem?_eq_some_iff.1 h.box).1
theorem DLB.on {w W W' : World} {g : Nat} {a : Option Addr} {n cap : Nat} {bs : List Int} {G : Nat} {y : It} {ab : Option Addr} {nb cb : Nat} {ak : Option Addr} {nk ck lo M top : Nat} (h : DLB w W g a n cap bs G y ab nb cb ak nk ck lo M top) (hb : Below W.heap.size W W') : DLB w W' g a n cap bs G y ab nb cb ak nk ck lo M top :=
  ⟨h.rd.belowX hb, h.gw, h.wG, (hb.block G h.lt).trans h.box, h.wl, h.lM, h.Mt, Nat.le_trans h.tW hb.size, h.ob.kept hb, h.ok.kept hb, h.tm, h.wt⟩
theorem DLB.drawn {w W W' : World} {g : Nat} {a : Option Addr} {n cap : Nat} {bs : List Int} {G : Nat} {y : It} {ab : Option Addr} {nb cb : Nat} {ak : Option Addr} {nk ck lo M top : Nat} (h : DLB w W g a n cap bs G y ab nb cb ak nk ck lo M top) (hr : RdPost W g a n cap bs W') : DLB w W' g a n cap bs G y ab nb cb ak nk ck lo M top := by
  have h1 := h.gw
  have h2 := h.wG
  have h3 := h.wl
  have h4 := h.lM
  exact ⟨h.rd.step hr, h.gw, h.wG, (hr.2.block G h.lt (.inr (by omega))).trans h.box, h.wl, h.lM, h.Mt, Nat.le_trans h.tW hr.2.size, h.ob.touch (.inr (by omega)) hr.2, ownKids_moves 13 _ _ _ _ _ _ _ _ _ h.ok (.inr (by omega)) hr.2, h.tm, h.wt⟩
/-- Bytes that are drawn: no more than so many, our own. -/
def BysQ (w : World) (g : Nat) (a : Option Addr) (n cap : Nat) (bs : List Int) (e : Ending) (w' : World) : Prop :=
  ∃ a' k c' l, e = .returned (.slice a' k c') ∧ k ≤ 2000100 ∧ Row w' a' k l ∧ (a' = none → c' = 0) ∧ k ≤ c' ∧ RdPost w g a n cap bs w'
theorem spcCells (w : World) (v : Nat) (h : v < 9) : ∃ z : Int, 0 ≤ z ∧ z ≤ 255 ∧ (w.alloc (.cells #[.int .u8 0, .int .u8 31, .int .u8 63, .int .u8 127, .int .u8 128, .int .u8 129, .int .u8 132, .int .u8 133, .int .u8 255] 5)).cell? ⟨w.heap.size, v, none⟩ = some (.int .u8 z) := by
  have hc : ∀ z, #[Value.int .u8 0, .int .u8 31, .int .u8 63, .int .u8 127, .int .u8 128, .int .u8 129, .int .u8 132, .int .u8 133, .int .u8 255][v]? = some (.int .u8 z) → (w.alloc (.cells #[.int .u8 0, .int .u8 31, .int .u8 63, .int .u8 127, .int .u8 128, .int .u8 129, .int .u8 132, .int .u8 133, .int .u8 255] 5)).cell? ⟨w.heap.size, v, none⟩ = some (.int .u8 z) := fun z hz => (cell_of_row _ _ v _ 5 (0, 0) (heap_alloc_new w _)).trans hz
  match v, h with
  | 0, _ => exact ⟨0, by decide, by decide, hc _ rfl⟩
  | 1, _ => exact ⟨31, by decide, by decide, hc _ rfl⟩
  | 2, _ => exact ⟨63, by decide, by decide, hc _ rfl⟩
  | 3, _ => exact ⟨127, by decide, by decide, hc _ rfl⟩
  | 4, _ => exact ⟨128, by decide, by decide, hc _ rfl⟩
  | 5, _ => exact ⟨129, by decide, by decide, hc _ rfl⟩
  | 6, _ => exact ⟨132, by decide, by decide, hc _ rfl⟩
  | 7, _ => exact ⟨133, by decide, by decide, hc _ rfl⟩
  | 8, _ => exact ⟨255, by decide, by decide, hc _ rfl⟩

set_option maxRecDepth 10000 in
set_option maxHeartbeats 20000000 in
theorem drawBytes_any (g : Nat) (a : Option Addr) (n cap : Nat) (bs : List Int) (w : World) (h : Rd w g a n cap bs) :
    Calls Tryd.prog 43 #[.pointer (some ⟨g, 0, none⟩)] w fun e w' => BysQ w g a n cap bs e w' := by
  obtain ⟨p, hp⟩ := h.at'
  have hgw : g < w.heap.size := h.lt
  obtain ⟨i0, hi, hz0, hz1, hz2⟩ := info_parts Tryd.info5
  have HD := drawAll g a n cap bs 4 (Nat.le_refl _) p w hp
  rw [show (5 - ((4 : Nat) : Int)) = 1 by decide] at HD
  have hdw := drw_wt bs 4 p
  have hdt := drw_tame bs 4 13 p
  obtain ⟨y, hy⟩ : ∃ y, y = drw bs 4 p := ⟨_, rfl⟩
  rw [← hy] at HD hdw hdt
  have HWB : wB 4 ≤ 40000 := by decide
  clear hy hp h
  go_enter Tryd.func43, Tryd.ntmps43
  go_wp2_with fail
  refine HD.mono ?_
  rintro e w2 ⟨hq2, ab, nb, cb, ak, nk, ck, M, rfl, m1, m2, ob, nk3, vs, hka⟩
  have hal : Below w2.heap.size w2 (w2.alloc (.cells #[.int .i64 y.1.cls, .int .i64 y.1.tag, .bool y.1.cons, .slice ab nb cb, .slice ak nk ck] 26)) := (Below.refl _ _).alloc (Nat.le_refl _) _
  have hlb := ob.own.length
  have D1 : DLB w (w2.alloc (.cells #[.int .i64 y.1.cls, .int .i64 y.1.tag, .bool y.1.cons, .slice ab nb cb, .slice ak nk ck] 26)) g a n cap bs w2.heap.size y.1 ab nb cb ak nk ck w.heap.size M w2.heap.size :=
    ⟨hq2.post.belowX hal, hgw, hq2.2.size, heap_alloc_new w2 _, Nat.le_refl _, m1, m2, hal.size, ob.kept hal, (KidsH.kids hka.toH (by omega)).kept hal, hdt, by have := hdw.1; have := hdw.2 13; omega⟩
  clear hq2 m1 m2 ob nk3 hka hal hlb HD hdw hdt HWB
  unfold itv
  go_upto_region 2 with fail
  obtain ⟨W3, hW3⟩ : ∃ W, W = w2.alloc (.cells #[.int .i64 y.1.cls, .int .i64 y.1.tag, .bool y.1.cons, .slice ab nb cb, .slice ak nk ck] 26) := ⟨_, rfl⟩
  rw [← hW3] at D1 ⊢
  obtain ⟨G, hG⟩ : ∃ G, G = w2.heap.size := ⟨_, rfl⟩
  rw [← hG] at D1 ⊢
  have HD1 : Hid (_) := D1
  clear hW3 hG D1
  go_wp2_with fail
  refine (once_any g a n cap bs 12 _ HD1.out.rd.1 (by decide) (by decide)).mono ?_
  rintro e w4 ⟨v4, rfl, hr4⟩
  have HD4 : Hid (_) := HD1.out.drawn hr4
  clear hr4 HD1
  go_upto_if 8 with fail
  go_cut [3] (fun pG wx => ∃ (y : It) (ab : Option Addr) (nb cb : Nat) (ak : Option Addr) (nk ck lo M top : Nat), pG = .pointer (some ⟨G, 0, none⟩) ∧ Hid (DLB w wx g a n cap bs G y ab nb cb ak nk ck lo M top))
  case first =>
    cases v4 with
    | false =>
      go_wp2_with fail
      go_meet
      exact ⟨_, _, _, _, _, _, _, _, _, _, rfl, HD4⟩
    | true =>
      go_wp2_with fail
      refine (below_big g a n cap bs 3 _ HD4.out.rd.1 (by decide)).mono ?_
      rintro e w5 ⟨v, rfl, hv, hr5⟩
      have hv3 : v < 3 := by omega
      have HD5 : Hid (_) := HD4.out.drawn hr5
      clear hr5 HD4 hv
      have DP := l2Deep_any (11 + v) (2 - v) (by omega) (by omega) w5
      rw [show 11 + v - 1 = 10 + v by omega, Int.natCast_add] at DP
      have hdw := deepI_wt (10 + v)
      have hdt := deepI_tame (10 + v) 13
      obtain ⟨z, hz⟩ : ∃ z, z = deepI (10 + v) := ⟨_, rfl⟩
      rw [← hz] at DP hdw hdt
      clear hz
      go_wp2_with fail
      refine DP.mono ?_
      rintro e w6 ⟨⟨ab6, nb6, cb6, ak6, nk6, ck6, M6, rfl, m16, m26, ob6, nk36, vs6, hka6⟩, hb6⟩
      have HD6 : Hid (_) := HD5.out.on hb6
      have hlt5 := HD5.out.lt
      have HM6 : Hid (_ ∧ _) := ⟨ob6, KidsH.kids hka6.toH (by omega)⟩
      have hlb := ob6.own.length
      clear ob6 hka6 hb6 DP
      unfold itv
      go_wp2_with (refine wpList_store_rowTo rfl 26 _ _ rfl rfl G #[.int .i64 z.cls, .int .i64 z.tag, .bool z.cons, .slice ab6 nb6 cb6, .slice ak6 nk6 ck6] rfl rfl 26 _ HD6.out.box infoSizeIt rfl (by simp [Value.oneCell']) ?_)
      go_meet
      have e7 := setRow_heap w6 G _ #[.int .i64 z.cls, .int .i64 z.tag, .bool z.cons, .slice ab6 nb6 cb6, .slice ak6 nk6 ck6] 26 (0, 0) HD6.out.box
      have t7 : Touch G (G + 1) w6 (w6.setRow G #[.int .i64 z.cls, .int .i64 z.tag, .bool z.cons, .slice ab6 nb6 cb6, .slice ak6 nk6 ck6]) := touch_setRow16 _ _ _
      have h6 := HD6.out
      have g1 := h6.gw
      have g2 := h6.wG
      have hse : (w6.setRow G #[.int .i64 z.cls, .int .i64 z.tag, .bool z.cons, .slice ab6 nb6 cb6, .slice ak6 nk6 ck6]).heap.size = w6.heap.size := by simp
      exact ⟨z, ab6, nb6, cb6, ak6, nk6, ck6, w5.heap.size, M6, w6.heap.size, rfl, h6.rd.grown t7 (by omega) (by omega), g1, g2, e7, by omega, m16, m26, by rw [hse]; exact Nat.le_refl _, HM6.out.1.touch (.inr (by omega)) t7, ownKids_moves 13 _ _ _ _ _ _ _ _ _ HM6.out.2 (.inr (by omega)) t7, hdt, by have := hdw.1; have := hdw.2 13; omega⟩
  case rest =>
  obtain ⟨z, ab8, nb8, cb8, ak8, nk8, ck8, lo8, M8, top8, rfl, HD8⟩ := hcut
  clear HD4
  go_wp2_with (refine wpList_load_row rfl 26 _ rfl G rfl 26 #[.int .i64 z.cls, .int .i64 z.tag, .bool z.cons, .slice ab8 nb8 cb8, .slice ak8 nk8 ck8] (0, 0) _ HD8.out.box Tryd.underlying26 rfl infoSizeIt ?_)
  refine (bytesW_all 13 z ab8 nb8 cb8 ak8 nk8 ck8 _ HD8.out.tm (by have := HD8.out.wt; omega) HD8.out.ob.own.toRow HD8.out.ob.own.nil HD8.out.ok.kids).mono ?_
  rintro e w9 ⟨a9, k9, c9, l9, rfl, hk9, ho9, hb9⟩
  have HD9 : Hid (_) := HD8.out.on hb9
  have hk92 : k9 ≤ 2000000 := by have := HD8.out.wt; omega
  have HO9 : Hid (Own w.heap.size w9 a9 k9 c9 l9) := ho9.mono HD8.out.rd.2.size
  clear hb9 hk9 ho9 HD8
  go_wp2_with fail
  refine (once_any g a n cap bs 2 _ HD9.out.rd.1 (by decide) (by decide)).mono ?_
  rintro e wA ⟨vA, rfl, hrA⟩
  have HDA : Hid (_) := HD9.out.drawn hrA
  have HOA : Hid (Own w.heap.size wA a9 k9 c9 l9) := HO9.out.touched hrA.2 (by omega)
  clear hrA HD9 HO9
  go_upto_if 16 with fail
  go_cut [4] (fun b wx => ∃ (a4 : Option Addr) (k4 c4 : Nat) (l4 : List Int), b = .slice a4 k4 c4 ∧ k4 ≤ 2000000 ∧ Hid (Own w.heap.size wx a4 k4 c4 l4) ∧ Hid (RdPost w g a n cap bs wx))
  case first =>
    cases vA with
    | false =>
      go_wp2_with fail
      go_meet
      exact ⟨_, _, _, _, rfl, hk92, HOA, HDA.out.rd⟩
    | true =>
      have h1 := HDA.out.gw
      have h2 := HDA.out.wl
      go_wp2_with (refine wpList_load_row rfl 26 _ rfl G rfl 26 #[.int .i64 z.cls, .int .i64 z.tag, .bool z.cons, .slice ab8 nb8 cb8, .slice ak8 nk8 ck8] (0, 0) _ HDA.out.box Tryd.underlying26 rfl infoSizeIt ?_)
      refine (laxW_all g a n cap bs 13 z ab8 nb8 cb8 ak8 nk8 ck8 lo8 M8 top8 _ HDA.out.rd.1 (by omega) HDA.out.lM HDA.out.Mt HDA.out.tW HDA.out.tm (by have := HDA.out.wt; omega) HDA.out.ob HDA.out.ok).mono ?_
      rintro e wB ⟨aB, kB, cB, lB, rfl, hkB, hoB, hrB⟩
      have HF : Hid (_ ∧ _) := ⟨hoB.mono HDA.out.rd.2.size, HDA.out.rd.step hrB⟩
      have hkB2 : kB ≤ 2000000 := by have := HDA.out.wt; omega
      clear hkB hoB hrB
      go_wp2_with fail
      go_meet
      exact ⟨aB, kB, cB, lB, rfl, hkB2, HF.out.1, HF.out.2⟩
  case rest =>
  obtain ⟨a4, k4, c4, l4, rfl, hk4, HOC, HRC⟩ := hcut
  clear HDA HOA hk92
  go_upto_region 7 with fail
  go_cut [26] (fun c wx => ∃ b : Bool, c = .bool b ∧ Hid (b = true → 0 < k4) ∧ Hid (RdPost w g a n cap bs wx) ∧ Hid (Own w.heap.size wx a4 k4 c4 l4))
  case first =>
    go_wp2_with fail
    refine (once_any g a n cap bs 3 _ HRC.out.1 (by decide) (by decide)).mono ?_
    rintro e wD ⟨vD, rfl, hrD⟩
    have HRD : Hid (RdPost w g a n cap bs wD) := HRC.out.step hrD
    have HOD : Hid (Own w.heap.size wD a4 k4 c4 l4) := HOC.out.touched hrD.2 (by omega)
    clear hrD HRC HOC
    cases vD with
    | false =>
      go_wp2_with fail
      go_meet
      exact ⟨false, rfl, (fun h => by cases h), HRD, HOD⟩
    | true =>
      by_cases hk : 0 < k4
      · have hki : 0 < (k4 : Int) := by omega
        go_wp2_with fail
        go_meet
        exact ⟨true, rfl, (fun _ => hk), HRD, HOD⟩
      · have hki : ¬ 0 < (k4 : Int) := by omega
        go_wp2_with fail
        go_meet
        exact ⟨false, rfl, (fun h => by cases h), HRD, HOD⟩
  case rest =>
  obtain ⟨b, rfl, hb, HRD, HOD⟩ := hcut
  have hb1 := hb.out
  clear hb HRC HOC
  cases b with
  | false =>
    go_wp2
    go_ret
    exact ⟨a4, k4, c4, l4, rfl, by omega, HOD.out.toRow, HOD.out.nil, own_capX HOD.out, HRD.out⟩
  | true =>
  have hk0 := hb1 rfl
  clear hb1
  obtain ⟨g4, rfl⟩ : ∃ g4, a4 = some ⟨g4, 0, none⟩ := HOD.out.shape hk0
  have hkc := own_capX HOD.out
  go_wp2_with fail
  refine (below_big g a n cap bs 4 _ HRD.out.1 (by decide)).mono ?_
  rintro e wE ⟨vE, rfl, hvE, hrE⟩
  have HRE : Hid (RdPost w g a n cap bs wE) := HRD.out.step hrE
  have HOE : Hid (Own w.heap.size wE (some ⟨g4, 0, none⟩) k4 c4 l4) := HOD.out.touched hrE.2 (by omega)
  have hvE4 : vE < 4 := by omega
  clear hrE HRD HOD hvE
  have hcs : vE = 0 ∨ vE = 1 ∨ vE = 2 ∨ vE = 3 := by omega
  rcases hcs with rfl | rfl | rfl | rfl
  · go_wp2_with fail
    refine (below_big g a n cap bs (k4 : Int) _ HRE.out.1 (by omega)).mono ?_
    rintro e wF ⟨vF, rfl, hvF, hrF⟩
    have HRF : Hid (RdPost w g a n cap bs wF) := HRE.out.step hrF
    have HOF : Hid (Own w.heap.size wF (some ⟨g4, 0, none⟩) k4 c4 l4) := HOE.out.touched hrF.2 (by omega)
    have hvk : vF ≤ k4 := by omega
    have hvc : vF ≤ c4 := by omega
    clear hrF HRE HOE
    go_wp2
    go_ret
    exact ⟨some ⟨g4, 0, none⟩, vF, c4, l4.take vF, rfl, by omega, HOF.out.toRow.take vF hvk, (by intro h; cases h), hvc, HRF.out⟩
  · go_wp2_with fail
    refine (below_big g a n cap bs (k4 : Int) _ HRE.out.1 (by omega)).mono ?_
    rintro e wF ⟨vF, rfl, hvF, hrF⟩
    have HRF : Hid (RdPost w g a n cap bs wF) := HRE.out.step hrF
    have HOF : Hid (Own w.heap.size wF (some ⟨g4, 0, none⟩) k4 c4 l4) := HOE.out.touched hrF.2 (by omega)
    have hvk : (vF : Int) < (k4 : Int) := by omega
    clear hrF HRE HOE
    go_wp2_with fail
    refine (next_any g a n cap bs _ HRF.out.1).mono ?_
    rintro e wG ⟨v, rfl, hv0, hv1, hrG1, hrG2⟩
    have HRG : Hid (RdPost w g a n cap bs wG) := RdPost.step HRF.out ⟨hrG1, hrG2⟩
    have HOG : Hid (Own w.heap.size wG (some ⟨g4, 0, none⟩) k4 c4 l4) := HOF.out.touched hrG2 (by omega)
    have hwv : IntKind.u8.wrap v = v := by rw [IntKind.wrap_u8]; omega
    have hcg : wG.cell? ⟨g4, vF, none⟩ = some (.int .u8 (l4.getD vF 0)) := by
      obtain ⟨b, off, ha, _, hc⟩ := HOG.out.toRow.get vF (by omega)
      cases ha
      simpa using hc
    have hfr : wG.frozen? ⟨g4, vF, none⟩ = false := HOG.out.row.frozenAt vF
    clear hrG1 hrG2 HRF HOF
    go_wp2
    go_ret
    have hst := HOG.out.store vF v ⟨hv0, hv1⟩
    exact ⟨some ⟨g4, 0, none⟩, k4, c4, _, rfl, by omega, hst.toRow, hst.nil, own_capX hst, HRG.out.grown (touch_set wG g4 vF _ (Nat.le_refl _) (Nat.lt_succ_self _)) (by have := HOG.out.base.1; omega) HOG.out.base.1⟩
  · go_wp2_with fail
    refine (bytes_any g a n cap bs 3 _ HRE.out.1 (by decide) (by decide)).mono ?_
    rintro e wF ⟨aF, kF, cF, lF, rfl, hkF, hoF, hrF⟩
    have HRF : Hid (RdPost w g a n cap bs wF) := HRE.out.step hrF
    have HOF : Hid (Own w.heap.size wF (some ⟨g4, 0, none⟩) k4 c4 l4) := HOE.out.touched hrF.2 (by omega)
    have HB : Hid (_) := hoF
    clear hrF HRE HOE hoF
    go_wp2_with (at_builtin; refine wpList_append_row _ rfl (.tmp 61) (.tmp 63) 22 rfl w.heap.size i0 Tryd.underlying22 hi hz0 hz1 hz2 _ _ _ rfl HOF.out.row aF kF cF lF rfl HB.out.toRow HB.out.nil (by omega) HRF.out.2.size ?_; intro vq wq hv hg; obtain ⟨aq, cq, rfl, ho⟩ := own_appended hv HOF.out.byte HB.out.byte; have HFI : Hid (_ ∧ _) := ⟨ho, HRF.out.grown (touch_grown hg (fun l hl => HOF.out.row.lt l hl)) hgw (Nat.le_refl _)⟩; clear hv hg ho)
    go_ret
    exact ⟨aq, k4 + kF, cq, _, rfl, by omega, HFI.out.1.toRow, HFI.out.1.nil, own_capX HFI.out.1, HFI.out.2⟩
  · go_wp2_with fail
    refine (below_big g a n cap bs (k4 : Int) _ HRE.out.1 (by omega)).mono ?_
    rintro e wF ⟨vF, rfl, hvF, hrF⟩
    have HRF : Hid (RdPost w g a n cap bs wF) := HRE.out.step hrF
    have HOF : Hid (Own w.heap.size wF (some ⟨g4, 0, none⟩) k4 c4 l4) := HOE.out.touched hrF.2 (by omega)
    have hvk : (vF : Int) < (k4 : Int) := by omega
    clear hrF HRE HOE
    have hal : Below wF.heap.size wF (wF.alloc (.cells #[.int .u8 0, .int .u8 31, .int .u8 63, .int .u8 127, .int .u8 128, .int .u8 129, .int .u8 132, .int .u8 133, .int .u8 255] 5)) := (Below.refl _ _).alloc (Nat.le_refl _) _
    have HRG : Hid (RdPost w g a n cap bs _) := HRF.out.belowX hal
    have HOG : Hid (_) := HOF.out.kept hal
    have hgl : g < wF.heap.size := HRF.out.1.lt
    have hszT : (wF.alloc (.cells #[.int .u8 0, .int .u8 31, .int .u8 63, .int .u8 127, .int .u8 128, .int .u8 129, .int .u8 132, .int .u8 133, .int .u8 255] 5)).heap.size = wF.heap.size + 1 := by simp
    go_wp2_with fail
    refine (below_big g a n cap bs 9 _ HRG.out.1 (by decide)).mono ?_
    rintro e wH ⟨vH, rfl, hvH, hrH⟩
    have hvH9 : (vH : Int) < 9 := by omega
    obtain ⟨zz, hz0', hz1', hcz⟩ := spcCells wF vH (by omega)
    have cH : wH.cell? ⟨wF.heap.size, vH, none⟩ = some (.int .u8 zz) := (World.cell?_of_block (a := ⟨wF.heap.size, vH, none⟩) (hrH.2.block wF.heap.size (by omega) (.inr (by omega)))).trans hcz
    have HRH : Hid (RdPost w g a n cap bs wH) := HRG.out.step hrH
    have HOH : Hid (Own w.heap.size wH (some ⟨g4, 0, none⟩) k4 c4 l4) := HOG.out.touched hrH.2 (by omega)
    have hcg : wH.cell? ⟨g4, vF, none⟩ = some (.int .u8 (l4.getD vF 0)) := by
      obtain ⟨b, off, ha, _, hc⟩ := HOH.out.toRow.get vF (by omega)
      cases ha
      simpa using hc
    have hfr : wH.frozen? ⟨g4, vF, none⟩ = false := HOH.out.row.frozenAt vF
    clear hrH hcz hal HRF HOF HRG HOG
    go_wp2
    go_ret
    have hst := HOH.out.store vF zz ⟨hz0', hz1'⟩
    exact ⟨some ⟨g4, 0, none⟩, k4, c4, _, rfl, by omega, hst.toRow, hst.nil, own_capX hst, HRH.out.grown (touch_set wH g4 vF _ (Nat.le_refl _) (Nat.lt_succ_self _)) (by have := HOH.out.base.1; omega) HOH.out.base.1⟩

end Go.Proofs.YtjkkokjojaknkaaDoor
