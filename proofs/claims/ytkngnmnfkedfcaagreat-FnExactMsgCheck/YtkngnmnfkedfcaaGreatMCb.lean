import Derived.Test.YtkngnmnfkedfcaaGreatMCa
import Derived.Test.YtkngnmnfkedfcaaGreatTV2
import Derived.Test.YtkngnmnfkedfcaaGreatWI64
import Derived.Deep.RegionLaw
import Derived.Test.YtkngnmnfkedfcaaGreatTT5
import Derived.Test.YtkngnmnfkedfcaaGreatMTRs
import Derived.ProofKit
import Derived.Deep.Slices
import Derived.ChangeArms
import Derived.ChangeSlices
import Derived.WalkKit
set_option linter.unusedVariables false
namespace Go.Proofs.YtkngnmnfkedfcaaGreat
open Go.RowKit Go.Sort

structure OwnI (B : Nat) (w : World) (a : Option Addr) (n cap : Nat) (zs : List Int) : Prop where
  row : w.ownsRow B 2 1 (.slice a n cap) n (zs.map (Value.int .i64))
theorem OwnI.len {B : Nat} {w : World} {a : Option Addr} {n cap : Nat} {zs : List Int} (h : OwnI B w a n cap zs) : zs.length = n := by simpa using h.row.1
theorem OwnI.kept {B : Nat} {w w' : World} {a : Option Addr} {n cap : Nat} {zs : List Int} (h : OwnI B w a n cap zs) (hb : Below w.heap.size w w') : OwnI B w' a n cap zs := ⟨ownsRow_below h.row hb⟩
theorem OwnI.toRow {B : Nat} {w : World} {a : Option Addr} {n cap : Nat} {zs : List Int} (h : OwnI B w a n cap zs) : Row64 w a n zs := by
  refine ⟨h.len, fun k hk => ?_⟩
  rcases h.row.2 with ⟨_, h0⟩ | ⟨g, cap', cur, hv, hb, hg, _⟩
  · omega
  · simp only [Value.slice.injEq] at hv
    obtain ⟨rfl, _, _⟩ := hv
    refine ⟨g, 0, rfl, (Array.getElem?_eq_some_iff.1 hg).1, ?_⟩
    rw [Nat.zero_add, World.ownsRow.cellAt h.row k (by omega)]
    have hl := h.len
    simp [show k < zs.length by omega]
theorem ownI_appended {B : Nat} {w : World} {v : Value} {m : Nat} {zs : List Int} (h : w.ownsRow B 2 1 v m (zs.map (Value.int .i64))) : ∃ a cap, v = .slice a m cap ∧ OwnI B w a m cap zs := by
  rcases h.2 with ⟨rfl, rfl⟩ | ⟨g, cap, cur, rfl, _⟩
  · exact ⟨_, _, rfl, ⟨h⟩⟩
  · exact ⟨_, _, rfl, ⟨h⟩⟩
theorem box_grown {w w' : World} {g t B e s m0 : Nat} {cs : Array Value} {fr : Nat × Nat} {v : Value} {vs : List Value} (h : w.heap[g]? = some (.cells cs t fr)) (hg : w.grownBy w' v.ownBlock) (ho : w.ownsRow B e s v m0 vs) (hne : t ≠ e) : w'.heap[g]? = some (.cells cs t fr) := by
  refine (hg.block g (Array.getElem?_eq_some_iff.1 h).1 (fun e2 => ?_)).trans h
  rcases ho.2 with ⟨rfl, _⟩ | ⟨g', cap, cur, rfl, hb, hgg, _⟩
  · simp [Value.ownBlock] at e2
  · simp [Value.ownBlock] at e2
    subst e2
    rw [h] at hgg
    simp only [Option.some.injEq, Obj.cells.injEq] at hgg
    exact hne hgg.2.1
theorem ownI_none (B : Nat) (w : World) : OwnI B w none 0 0 [] := ⟨World.ownsRow_nil _ _ _ _⟩
theorem ownI_empty {B : Nat} (w : World) (h : B ≤ w.heap.size) : OwnI B (w.alloc (.cells #[] 2)) (some ⟨w.heap.size, 0, none⟩) 0 0 [] := ⟨World.ownsRow_lit w #[] 0 h (Nat.zero_le _) rfl⟩
theorem OwnI.mono {B B' : Nat} {w : World} {a : Option Addr} {n cap : Nat} {zs : List Int} (h : OwnI B w a n cap zs) (hB : B' ≤ B) : OwnI B' w a n cap zs := ⟨⟨h.row.1, by rcases h.row.2 with h | ⟨g, cap, cur, hv, hb, r⟩; exact .inl h; exact .inr ⟨g, cap, cur, hv, by omega, r⟩⟩⟩
theorem Tryz.info2M : (Tryz.prog.info? 2).map (fun i => (i.zero, i.size, i.bytes)) = some (some (.int .i64 0), 1, 8) := by kernel_rfl
/-- What is said of those that sign over a signer. -/
def ovC (sg : List Int) (ov : List ItT) (ks : List Pu3) (now : Int) (m : Nat) : List Int := (List.range m).map fun j => stC 9 sg (ov.getD j default) ks now
theorem ovC_len (sg : List Int) (ov : List ItT) (ks : List Pu3) (now : Int) (m : Nat) : (ovC sg ov ks now m).length = m := by simp [ovC]
theorem ovC_next (sg : List Int) (ov : List ItT) (ks : List Pu3) (now : Int) (m : Nat) : ovC sg ov ks now (m + 1) = ovC sg ov ks now m ++ [stC 9 sg (ov.getD m default) ks now] := by unfold ovC; rw [List.range_succ, List.map_append]; rfl
def mcE (ct : List Int) (x : ItT) (ks : List Pu3) (now : Int) : List Int := stC 8 ct x ks now :: ovC x.sg x.over ks now x.over.length
def mcL (ct : List Int) (xs : List ItT) (ks : List Pu3) (now : Int) (k : Nat) : List Int := ((List.range k).map fun i => mcE ct (xs.getD i default) ks now).flatten
theorem mcL_next (ct : List Int) (xs : List ItT) (ks : List Pu3) (now : Int) (k : Nat) : mcL ct xs ks now (k + 1) = mcL ct xs ks now k ++ mcE ct (xs.getD k default) ks now := by unfold mcL; rw [List.range_succ, List.map_append, List.flatten_append]; simp
open Classical in
noncomputable def mcV (ct : List Int) (nn : Nat) (xs : List ItT) (n n0 : Nat) (ks : List Pu3) (now : Int) : List Int × Bool := if msgP nn xs ∧ n0 ≤ 20 then (mcL ct xs ks now n, true) else ([], false)
theorem mcL_len (ct : List Int) (xs : List ItT) (ks : List Pu3) (now : Int) (h : ∀ k, k < xs.length → (xs.getD k default).over.length ≤ 6) : ∀ k, k ≤ xs.length → (mcL ct xs ks now k).length ≤ 7 * k
  | 0, _ => Nat.zero_le _
  | k + 1, hk => by
    have h1 := mcL_len ct xs ks now h k (by omega)
    have h2 := h k (by omega)
    rw [mcL_next, List.length_append]
    unfold mcE
    rw [List.length_cons, ovC_len]
    omega
theorem mcV_len (ct : List Int) (nn : Nat) (xs : List ItT) (n n0 : Nat) (ks : List Pu3) (now : Int) (hn : xs.length = n) : (mcV ct nn xs n n0 ks now).1.length ≤ 42 := by
  unfold mcV
  split
  · rename_i h
    have h6 := h.1.2.1
    have := mcL_len ct xs ks now (fun k hk => (h.1.2.2 k hk).2.2.1) n (by omega)
    show (mcL ct xs ks now n).length ≤ 42
    omega
  · exact Nat.zero_le _
theorem timP_bd {t : Int} (h : timP t) : -9223372036854775808 ≤ t ∧ t ≤ 9223372036854775807 := by unfold timP at h; omega

set_option maxRecDepth 10000 in
set_option maxHeartbeats 8000000 in
theorem implMsgCheck_any (D : Nat) (am : Option Addr) (nn cm : Nat) (ws : List Int) (a : Option Addr) (n c : Nat) (xs : List ItT) (A0 : Option Addr) (n0 d0 : Nat) (ks : List Pu3) (now : Int) (w : World) (hr : Row w am nn ws) (hc : am = none → cm = 0) (hnn : nn ≤ 9223372036854775807) (hk : KidsT D w a n xs) (hp : RowPu w A0 n0 ks) (hB : PuB ks n0) (hn0 : n0 ≤ 9223372036854775807) :
    Calls Tryz.prog 9 #[.agg #[.slice am nn cm, .slice a n c], .slice A0 n0 d0, .int .i64 now] w fun e w' => ∃ a' c', e = .returned (.tuple #[.slice a' (mcV ws nn xs n n0 ks now).1.length c', .bool (mcV ws nn xs n n0 ks now).2]) ∧ OwnI w.heap.size w' a' (mcV ws nn xs n n0 ks now).1.length c' (mcV ws nn xs n n0 ks now).1 ∧ Below w.heap.size w w' := by
  obtain ⟨i0, hi, hz0, hz1, hz2⟩ := info_parts Tryz.info2M
  obtain ⟨D, rfl⟩ : ∃ D', D = D' + 1 := by
    cases D with
    | zero => exact hk.elim
    | succ D => exact ⟨D, rfl⟩
  obtain ⟨V, hV⟩ : ∃ V, V = mcV ws nn xs n n0 ks now := ⟨_, rfl⟩
  rw [← hV]
  have HBAD : Hid (¬ (msgP nn xs ∧ n0 ≤ 20) → V = ([], false)) := fun h => by rw [hV]; unfold mcV; exact if_neg h
  have HGOOD : Hid (msgP nn xs ∧ n0 ≤ 20 → V = (mcL ws xs ks now n, true)) := fun h => by rw [hV]; unfold mcV; exact if_pos h
  obtain ⟨wb, hwb⟩ : ∃ wb, wb = w.alloc (.cells #[.slice am nn cm, .slice a n c] 34) := ⟨_, rfl⟩
  have hbb : Below w.heap.size w wb := by rw [hwb]; exact (Below.refl _ _).alloc (Nat.le_refl _) _
  have HBK : Hid (wb.heap[w.heap.size]? = some (.cells #[.slice am nn cm, .slice a n c] 34 (0, 0))) := by show _ = _; rw [hwb]; exact heap_alloc_new w _
  have hsb := hbb.size
  have HR : Hid (∀ W, Below wb.heap.size wb W → Row W am nn ws ∧ KidsT (D + 1) W a n xs ∧ RowPu W A0 n0 ks) := fun W hW => ⟨hr.kept (keepT hbb hW), hk.kept (keepT hbb hW), hp.kept (keepT hbb hW)⟩
  have HPB : Hid (PuB ks n0) := hB
  have HLX : Hid (xs.length = n) := hk.1
  have hn := hk.2.1
  have HW : Hid (_ = _) := hwb
  clear hwb hr hk hp hB hV
  obtain ⟨c0, c1⟩ := cells2m HBK.out
  go_enter Tryz.func9, Tryz.ntmps9
  go_upto_region 1 with fail
  rw [← HW.out]
  clear HW
  go_wp2_with fail
  refine (isRight_any (D + 1) am nn cm a n c xs _ hnn (HR.out _ (Below.refl _ _)).2.1).mono ?_
  rintro e w2 ⟨ok, rfl, HOK, hb2⟩
  have hB2 := keepT hbb hb2
  clear c0 c1
  cases ok with
  | false =>
    have HV : Hid (V = ([], false)) := HBAD.out (fun h => by have := HOK.out.2 h.1; cases this)
    go_wp2
    go_ret2
    exact ⟨none, 0, by rw [HV.out]; rfl, by rw [HV.out]; exact ownI_none _ _, hB2⟩
  | true =>
  by_cases h20 : n0 ≤ 20
  case neg =>
    have q20 : (20 : Int) < (n0 : Int) := by omega
    have HV : Hid (V = ([], false)) := HBAD.out (fun h => h20 h.2)
    go_wp2
    go_ret2
    exact ⟨none, 0, by rw [HV.out]; rfl, by rw [HV.out]; exact ownI_none _ _, hB2⟩
  have q20 : ¬ (20 : Int) < (n0 : Int) := by omega
  have HM : Hid (msgP nn xs) := HOK.out.1 rfl
  have HV : Hid (V = (mcL ws xs ks now n, true)) := HGOOD.out ⟨HM.out, h20⟩
  have h4 : nn ≤ 4000 := HM.out.1
  have h6 : n ≤ 6 := by have := HM.out.2.1; rw [HLX.out] at this; exact this
  clear HOK
  have HC : Hid (∀ W, Below wb.heap.size wb W → W.cell? ⟨w.heap.size, 0, none⟩ = some (.slice am nn cm) ∧ W.cell? ⟨w.heap.size, 1, none⟩ = some (.slice a n c)) := fun W hW => cells2m (below_kept HBK.out hW)
  obtain ⟨c0, c1⟩ := HC.out _ hb2
  go_wp2
  clear c0 c1 q20
  go_loopw [8, 24] (fun l i wr => ∃ (k : Nat) (A : Option Addr) (cA : Nat) (zs : List Int), k ≤ n ∧ l = .slice A zs.length cA ∧ i = .int .i64 k ∧ Hid (OwnI wb.heap.size wr A zs.length cA zs) ∧ Hid (zs = mcL ws xs ks now k) ∧ Below wb.heap.size wb wr) (fun _ i _ => n - (intOf i).toNat)
  case atStart => exact ⟨0, none, 0, [], Nat.zero_le _, rfl, rfl, ownI_none _ _, rfl, hb2⟩
  case round =>
    obtain ⟨k, A, cA, zs, hkn, rfl, rfl, HO, HZ, hbr⟩ := hrel
    have hws := hbr.size
    obtain ⟨c0, c1⟩ := HC.out _ hbr
    by_cases hlt : k < n
    · obtain ⟨b, off, hA, hlb, ab, nb, cb, ak, nk, ck, e0, e1, e2, e3, hrow, hnil, hnb, hu, hov⟩ := (HR.out wb (Below.refl _ _)).2.1.2.2 k hlt
      have hel : elP 1 (xs.getD k default) := (HM.out.2.2 k (by rw [HLX.out]; exact hlt))
      have hzl : zs.length ≤ 7 * k := by rw [HZ.out]; exact mcL_len ws xs ks now (fun k hk => (HM.out.2.2 k hk).2.2.1) k (by rw [HLX.out]; exact hkn)
      obtain ⟨y, hy⟩ : ∃ y, y = xs.getD k default := ⟨_, rfl⟩
      rw [← hy] at hel e0 e1 hrow hov
      have HNX : Hid (mcL ws xs ks now (k + 1) = zs ++ mcE ws y ks now) := by show _ = _; rw [mcL_next, ← HZ.out, hy]
      have HE : Hid (elP 1 y) := hel
      have hnb5 : nb ≤ 500 := by have := hel.2.1; rw [hrow.len] at this; exact this
      have hcb : nb ≤ cb := hnil.2
      have hnil1 : ab = none → cb = 0 := hnil.1
      have HOL : Hid (y.over.length = nk) := hov.len.1
      have hnk6 : nk ≤ 6 := by have := hel.2.2.1; rw [HOL.out] at this; exact this
      have HEL : Hid (∀ W, Below wb.heap.size wb W → (W.cell? ⟨b, off + k * 4, none⟩ = some (.int .u64 y.ky) ∧ W.cell? ⟨b, off + k * 4 + 1, none⟩ = some (.int .i64 y.at2) ∧ W.cell? ⟨b, off + k * 4 + 2, none⟩ = some (.slice ab nb cb) ∧ W.cell? ⟨b, off + k * 4 + 3, none⟩ = some (.slice ak nk ck)) ∧ Row W ab nb y.sg ∧ KidsT D W ak nk y.over) := fun W hW => ⟨⟨(hW.cell (p := ⟨b, _, none⟩) hlb).trans e0, (hW.cell (p := ⟨b, _, none⟩) hlb).trans e1, (hW.cell (p := ⟨b, _, none⟩) hlb).trans e2, (hW.cell (p := ⟨b, _, none⟩) hlb).trans e3⟩, hrow.kept hW, hov.kept hW⟩
      subst hA
      clear hy e0 e1 e2 e3 hrow hov hel hnil hu
      have hkni : (k : Int) < (n : Int) := by omega
      have hbw : b < wr.heap.size := by omega
      obtain ⟨⟨x0, x1, x2, x3⟩, _⟩ := HEL.out _ hbr
      obtain ⟨wy, hwy⟩ : ∃ wy, wy = wr.alloc (.cells #[.int .u64 y.ky, .int .i64 y.at2, .slice ab nb cb, .slice ak nk ck] 50) := ⟨_, rfl⟩
      have hby : Below wr.heap.size wr wy := by rw [hwy]; exact (Below.refl _ _).alloc (Nat.le_refl _) _
      obtain ⟨gy, hgy⟩ : ∃ gy, gy = wr.heap.size := ⟨_, rfl⟩
      have HYB : Hid (wy.heap[gy]? = some (.cells #[.int .u64 y.ky, .int .i64 y.at2, .slice ab nb cb, .slice ak nk ck] 50 (0, 0))) := by show _ = _; rw [hwy, hgy]; exact heap_alloc_new _ _
      have hBy : Below wb.heap.size wb wy := keepT hbr hby
      have HOy : Hid (OwnI wb.heap.size wy A zs.length cA zs) := HO.out.kept hby
      have HWY : Hid (_ = _) := hwy
      have HGY : Hid (_ = _) := hgy
      clear hwy hgy HO
      go_upto_region 7 with fail
      rw [← HWY.out, ← HGY.out]
      clear HWY HGY c0 c1 x0 x1 x2 x3
      obtain ⟨y0, y1, y2, y3⟩ := cells4g HYB.out
      obtain ⟨c0, c1⟩ := HC.out _ hBy
      go_wp2_with fail
      refine (signerCode_any 8 am nn cm ws y ab nb cb ak nk ck (A0) n0 d0 ks now _ (HR.out _ hBy).1 hc h4 (by decide) (by decide) (HEL.out _ hBy).2.1 (by omega) hcb (timP_bd HE.out.1) (HR.out _ hBy).2.2 HPB.out hn0).mono ?_
      obtain ⟨c8, hc8⟩ : ∃ c8, c8 = stC 8 ws y ks now := ⟨_, rfl⟩
      rw [← hc8]
      have HC8 : Hid (_ = _) := hc8
      clear hc8
      rintro e w5 ⟨rfl, hb5⟩
      have hB5 := keepT hBy hb5
      have HOA : Hid (OwnI wb.heap.size w5 A zs.length cA zs) := HOy.out.kept hb5
      have HY5 : Hid (_) := below_kept HYB.out hb5
      have hs5 := hB5.size
      clear c0 c1 y0 y1 y2 y3 HYB HOy
      go_upto_region 8 with (at_builtin; go_loud ((refine wpList_append_own _ rfl _ _ 29 rfl wb.heap.size 2 i0 (.int .i64 0) 1 8 Tryz.underlying29 hi hz0 hz1 hz2 rfl (by decide) _ (zs.length) _ rfl (HOA.out.kept ((Below.refl _ _).alloc (Nat.le_refl _) _)).row ⟨w5.heap.size, 0, none⟩ 1 1 ([c8].map (Value.int .i64)) rfl rfl (cell_one64 _ _) (ints_oneCell .i64 [c8]) (by unfold maxLen; omega) (by omega) (by simp; omega) ?_); intro v' w6 hown' hgrow' _))
      rw [← List.map_append] at hown'
      obtain ⟨A6, c6, rfl, ho6⟩ := ownI_appended hown'
      have hal : Below w5.heap.size w5 (w5.alloc (.cells #[.int .i64 c8] 2)) := (Below.refl _ _).alloc (Nat.le_refl _) _
      have HRW : Hid (World.ownsRow (w5.alloc (.cells #[.int .i64 c8] 2)) wb.heap.size 2 1 (.slice A zs.length cA) zs.length (zs.map (Value.int .i64))) := (HOA.out.kept hal).row
      have HY6 : Hid (w6.heap[gy]? = some (.cells #[.int .u64 y.ky, .int .i64 y.at2, .slice ab nb cb, .slice ak nk ck] 50 (0, 0))) := box_grown (below_kept HY5.out hal) hgrow' HRW.out (by decide)
      have hB6 : Below wb.heap.size wb w6 := (hB5.alloc hB5.size _).grown hgrow' (by simp; omega) (fun j hj => (HRW.out.lt j hj).1)
      have HI0 : Hid (OwnI wb.heap.size w6 A6 (zs.length + 1 + 0) c6 (zs ++ [c8] ++ ovC y.sg y.over ks now 0)) := by show OwnI _ _ _ _ _ _; simpa [ovC] using ho6
      clear hown' hgrow' ho6 hal HRW HOA HY5
      obtain ⟨y0, y1, y2, y3⟩ := cells4g HY6.out
      go_wp2
      clear y0 y1 y2 y3
      go_loopw [8, 40] (fun l i wr => ∃ (m : Nat) (A : Option Addr) (cA : Nat), m ≤ nk ∧ l = .slice A (zs.length + 1 + m) cA ∧ i = .int .i64 m ∧ Hid (OwnI wb.heap.size wr A (zs.length + 1 + m) cA (zs ++ [c8] ++ ovC y.sg y.over ks now m)) ∧ Hid (wr.heap[gy]? = some (.cells #[.int .u64 y.ky, .int .i64 y.at2, .slice ab nb cb, .slice ak nk ck] 50 (0, 0))) ∧ Below wb.heap.size wb wr) (fun _ i _ => nk - (intOf i).toNat)
      case atStart => exact ⟨0, A6, c6, Nat.zero_le _, rfl, rfl, HI0, HY6, hB6⟩
      case round =>
        obtain ⟨m, A2, cA2, hmk, rfl, rfl, HO2, HYR, hbr2⟩ := hrel
        have hws2 := hbr2.size
        obtain ⟨y0, y1, y2, y3⟩ := cells4g HYR.out
        by_cases hlm : m < nk
        · obtain ⟨D2, hD2⟩ : ∃ D2, D = D2 + 1 := by
            cases D with
            | zero => exact ((HEL.out _ hbr2).2.2).elim
            | succ D => exact ⟨D, rfl⟩
          have hov := (HEL.out wb (Below.refl _ _)).2.2
          rw [hD2] at hov
          obtain ⟨b2, off2, hA2, hlb2, ab2, nb2, cb2, ak2, nk2, ck2, e0, e1, e2, e3, hrow, hnil, hnb2, hu, _⟩ := hov.2.2 m hlm
          have hel := HE.out.2.2.2 m (by rw [HOL.out]; exact hlm)
          obtain ⟨z, hz⟩ : ∃ z, z = y.over.getD m default := ⟨_, rfl⟩
          rw [← hz] at hel e0 e1 hrow
          have HNZ : Hid (zs ++ [c8] ++ ovC y.sg y.over ks now (m + 1) = zs ++ [c8] ++ ovC y.sg y.over ks now m ++ [stC 9 y.sg z ks now]) := by show _ = _; rw [ovC_next, hz]; simp only [List.append_assoc]
          have HE2 : Hid (timP z.at2) := hel.1
          have hnb6 : nb2 ≤ 500 := by have := hel.2.1; rw [hrow.len] at this; exact this
          have hcb2 : nb2 ≤ cb2 := hnil.2
          have HEL2 : Hid (∀ W, Below wb.heap.size wb W → (W.cell? ⟨b2, off2 + m * 4, none⟩ = some (.int .u64 z.ky) ∧ W.cell? ⟨b2, off2 + m * 4 + 1, none⟩ = some (.int .i64 z.at2) ∧ W.cell? ⟨b2, off2 + m * 4 + 2, none⟩ = some (.slice ab2 nb2 cb2) ∧ W.cell? ⟨b2, off2 + m * 4 + 3, none⟩ = some (.slice ak2 nk2 ck2)) ∧ Row W ab2 nb2 z.sg) := fun W hW => ⟨⟨(hW.cell (p := ⟨b2, _, none⟩) hlb2).trans e0, (hW.cell (p := ⟨b2, _, none⟩) hlb2).trans e1, (hW.cell (p := ⟨b2, _, none⟩) hlb2).trans e2, (hW.cell (p := ⟨b2, _, none⟩) hlb2).trans e3⟩, hrow.kept hW⟩
          subst hA2
          clear hz e0 e1 e2 e3 hrow hov hel hnil hu hD2
          have hmki : (m : Int) < (nk : Int) := by omega
          have hbw2 : b2 < wr.heap.size := by omega
          obtain ⟨c9, hc9⟩ : ∃ c9, c9 = stC 9 y.sg z ks now := ⟨_, rfl⟩
          rw [← hc9] at HNZ
          have HC9 : Hid (∀ W, Below wb.heap.size wb W → Calls Tryz.prog 25 #[.agg #[.int .u64 z.ky, .int .i64 z.at2, .slice ab2 nb2 cb2, .slice ak2 nk2 ck2], .int .i64 9, .slice ab nb cb, .slice A0 n0 d0, .int .i64 now] W fun e w' => e = .returned (.int .i64 c9) ∧ Below W.heap.size W w') := fun W hW => by
            have h9 := signerCode_any 9 ab nb cb y.sg z ab2 nb2 cb2 ak2 nk2 ck2 A0 n0 d0 ks now W (HEL.out _ hW).2.1 hnil1 (by omega) (by decide) (by decide) (HEL2.out _ hW).2 (by omega) hcb2 (timP_bd HE2.out) (HR.out _ hW).2.2 HPB.out hn0
            rw [← hc9] at h9
            exact h9
          clear hc9
          obtain ⟨⟨x0, x1, x2, x3⟩, _⟩ := HEL2.out _ hbr2
          obtain ⟨wz, hwz⟩ : ∃ wz, wz = wr.alloc (.cells #[.int .u64 z.ky, .int .i64 z.at2, .slice ab2 nb2 cb2, .slice ak2 nk2 ck2] 50) := ⟨_, rfl⟩
          have hbz : Below wr.heap.size wr wz := by rw [hwz]; exact (Below.refl _ _).alloc (Nat.le_refl _) _
          have HZB : Hid (wz.heap[wr.heap.size]? = some (.cells #[.int .u64 z.ky, .int .i64 z.at2, .slice ab2 nb2 cb2, .slice ak2 nk2 ck2] 50 (0, 0))) := by show _ = _; rw [hwz]; exact heap_alloc_new _ _
          have hBz : Below wb.heap.size wb wz := keepT hbr2 hbz
          have HOz : Hid (OwnI wb.heap.size wz A2 (zs.length + 1 + m) cA2 (zs ++ [c8] ++ ovC y.sg y.over ks now m)) := HO2.out.kept hbz
          have HYz : Hid (_) := below_kept HYR.out hbz
          have HWZ : Hid (_ = _) := hwz
          clear hwz HO2 y0 y1 y2 y3
          go_upto_region 11 with fail
          rw [← HWZ.out]
          clear HWZ x0 x1 x2 x3
          obtain ⟨z0, z1, z2, z3⟩ := cells4g HZB.out
          obtain ⟨y0, y1, y2, y3⟩ := cells4g HYz.out
          go_wp2_with fail
          refine (HC9.out _ hBz).mono ?_
          rintro e w7 ⟨rfl, hb7⟩
          have hB7 := keepT hBz hb7
          have hs7 := hB7.size
          have HOB : Hid (OwnI wb.heap.size w7 A2 (zs.length + 1 + m) cA2 (zs ++ [c8] ++ ovC y.sg y.over ks now m)) := HOz.out.kept hb7
          have HY7 : Hid (_) := below_kept HYz.out hb7
          clear z0 z1 z2 z3 y0 y1 y2 y3 HOz HYz HZB
          go_wp2_with (at_builtin; refine wpList_append_own _ rfl _ _ 29 rfl wb.heap.size 2 i0 (.int .i64 0) 1 8 Tryz.underlying29 hi hz0 hz1 hz2 rfl (by decide) _ (zs.length + 1 + m) _ rfl (HOB.out.kept ((Below.refl _ _).alloc (Nat.le_refl _) _)).row ⟨w7.heap.size, 0, none⟩ 1 1 ([c9].map (Value.int .i64)) rfl rfl (cell_one64 _ _) (ints_oneCell .i64 [c9]) (by unfold maxLen; omega) (by omega) (by simp; omega) ?_; intro v' w8 hown' hgrow' _)
          rw [← List.map_append] at hown'
          obtain ⟨A8, c8', rfl, ho8⟩ := ownI_appended hown'
          have hal : Below w7.heap.size w7 (w7.alloc (.cells #[.int .i64 c9] 2)) := (Below.refl _ _).alloc (Nat.le_refl _) _
          have HRW : Hid (World.ownsRow (w7.alloc (.cells #[.int .i64 c9] 2)) wb.heap.size 2 1 (.slice A2 (zs.length + 1 + m) cA2) (zs.length + 1 + m) ((zs ++ [c8] ++ ovC y.sg y.over ks now m).map (Value.int .i64))) := (HOB.out.kept hal).row
          have HY8 : Hid (w8.heap[gy]? = some (.cells #[.int .u64 y.ky, .int .i64 y.at2, .slice ab nb cb, .slice (some ⟨b2, off2, none⟩) nk ck] 50 (0, 0))) := box_grown (below_kept HY7.out hal) hgrow' HRW.out (by decide)
          have hB8 : Below wb.heap.size wb w8 := (hB7.alloc hB7.size _).grown hgrow' (by simp; omega) (fun j hj => (HRW.out.lt j hj).1)
          have HI8 : Hid (OwnI wb.heap.size w8 A8 (zs.length + 1 + (m + 1)) c8' (zs ++ [c8] ++ ovC y.sg y.over ks now (m + 1))) := by show OwnI _ _ _ _ _ _; rw [HNZ.out]; exact ho8
          clear hown' hgrow' ho8 hal HRW HOB HY7
          go_wp2
          go_roundw
          case rel => exact ⟨m + 1, A8, c8', by omega, rfl, by go_num, HI8, HY8, hB8⟩
          case measure => simp [intOf]; omega
        · obtain rfl : m = nk := by omega
          have HNZ : Hid (OwnI wb.heap.size wr A2 (mcL ws xs ks now (k + 1)).length cA2 (mcL ws xs ks now (k + 1))) := by
            have h1 : mcL ws xs ks now (k + 1) = zs ++ [c8] ++ ovC y.sg y.over ks now m := by rw [HNX.out]; unfold mcE; rw [HOL.out, ← HC8.out]; simp
            have h2 : (zs ++ [c8] ++ ovC y.sg y.over ks now m).length = zs.length + 1 + m := by simp [ovC_len]; omega
            show OwnI _ _ _ _ _ _
            rw [h1, h2]
            exact HO2.out
          have hl2 : (mcL ws xs ks now (k + 1)).length = zs.length + 1 + m := by rw [HNX.out]; unfold mcE; rw [HOL.out]; simp [ovC_len]; omega
          have HL2 : Hid (_ = _) := hl2
          clear hl2 HO2
          go_wp2
          go_roundw
          case rel => exact ⟨k + 1, A2, cA2, mcL ws xs ks now (k + 1), by omega, by rw [HL2.out], by go_num, HNZ, rfl, hbr2⟩
          case measure => simp [intOf]; omega
    · obtain rfl : k = n := by omega
      have HV2 : Hid (V = (zs, true)) := by show _ = _; rw [HV.out, ← HZ.out]
      go_wp2
      go_ret2
      exact ⟨A, cA, by rw [HV2.out]; rfl, by rw [HV2.out]; exact HO.out.mono hsb, keepT hbb hbr⟩

end Go.Proofs.YtkngnmnfkedfcaaGreat

set_option linter.unusedVariables false
namespace Go.Proofs.YtkngnmnfkedfcaaGreat
open Go.RowKit Go.Sort

set_option maxRecDepth 10000 in
set_option maxHeartbeats 8000000 in
theorem specMsgCheck_any (D : Nat) (am : Option Addr) (nn cm : Nat) (ws : List Int) (a : Option Addr) (n c : Nat) (xs : List ItT) (A0 : Option Addr) (n0 d0 : Nat) (ks : List Pu3) (now : Int) (w : World) (hr : Row w am nn ws) (hc : am = none → cm = 0) (hnn : nn ≤ 9223372036854775807) (hk : KidsT D w a n xs) (hp : RowPu w A0 n0 ks) (hB : PuB ks n0) (hn0 : n0 ≤ 9223372036854775807) :
    Calls Tryz.prog 6 #[.agg #[.slice am nn cm, .slice a n c], .slice A0 n0 d0, .int .i64 now] w fun e w' => ∃ a' c', e = .returned (.tuple #[.slice a' (mcV ws nn xs n n0 ks now).1.length c', .bool (mcV ws nn xs n n0 ks now).2]) ∧ OwnI w.heap.size w' a' (mcV ws nn xs n n0 ks now).1.length c' (mcV ws nn xs n n0 ks now).1 ∧ Below w.heap.size w w' := by
  obtain ⟨i0, hi, hz0, hz1, hz2⟩ := info_parts Tryz.info2M
  obtain ⟨D, rfl⟩ : ∃ D', D = D' + 1 := by
    cases D with
    | zero => exact hk.elim
    | succ D => exact ⟨D, rfl⟩
  obtain ⟨V, hV⟩ : ∃ V, V = mcV ws nn xs n n0 ks now := ⟨_, rfl⟩
  rw [← hV]
  have HBAD : Hid (¬ (msgP nn xs ∧ n0 ≤ 20) → V = ([], false)) := fun h => by rw [hV]; unfold mcV; exact if_neg h
  have HGOOD : Hid (msgP nn xs ∧ n0 ≤ 20 → V = (mcL ws xs ks now n, true)) := fun h => by rw [hV]; unfold mcV; exact if_pos h
  obtain ⟨wb, hwb⟩ : ∃ wb, wb = w.alloc (.cells #[.slice am nn cm, .slice a n c] 34) := ⟨_, rfl⟩
  have hbb : Below w.heap.size w wb := by rw [hwb]; exact (Below.refl _ _).alloc (Nat.le_refl _) _
  have HBK : Hid (wb.heap[w.heap.size]? = some (.cells #[.slice am nn cm, .slice a n c] 34 (0, 0))) := by show _ = _; rw [hwb]; exact heap_alloc_new w _
  have hsb := hbb.size
  have HR : Hid (∀ W, Below wb.heap.size wb W → Row W am nn ws ∧ KidsT (D + 1) W a n xs ∧ RowPu W A0 n0 ks) := fun W hW => ⟨hr.kept (keepT hbb hW), hk.kept (keepT hbb hW), hp.kept (keepT hbb hW)⟩
  have HPB : Hid (PuB ks n0) := hB
  have HLX : Hid (xs.length = n) := hk.1
  have hn := hk.2.1
  have HW : Hid (_ = _) := hwb
  clear hwb hr hk hp hB hV
  obtain ⟨c0, c1⟩ := cells2m HBK.out
  go_enter Tryz.func6, Tryz.ntmps6
  go_upto_region 1 with fail
  rw [← HW.out]
  clear HW
  obtain ⟨wc, hwc⟩ : ∃ wc, wc = wb.alloc (.cells #[] 2) := ⟨_, rfl⟩
  have hbc : Below wb.heap.size wb wc := by rw [hwc]; exact (Below.refl _ _).alloc (Nat.le_refl _) _
  have HOE : Hid (OwnI wb.heap.size wc (some ⟨wb.heap.size, 0, none⟩) 0 0 []) := by show OwnI _ _ _ _ _ _; rw [hwc]; exact ownI_empty wb (Nat.le_refl _)
  have HW : Hid (_ = _) := hwc
  clear hwc c0 c1
  obtain ⟨c0, c1⟩ := cells2m (below_kept HBK.out hbc)
  go_upto_region 2 with fail
  rw [← HW.out]
  clear HW
  go_wp2_with fail
  refine (l17Ok_any (D + 1) am nn cm a n c xs _ hnn (HR.out _ hbc).2.1).mono ?_
  rintro e w2 ⟨ok, rfl, HOK, hbc2⟩
  have hb2 := keepT hbc hbc2
  have hB2 := keepT hbb hb2
  have HO2 : Hid (OwnI wb.heap.size w2 (some ⟨wb.heap.size, 0, none⟩) 0 0 []) := HOE.out.kept hbc2
  clear c0 c1 HOE
  cases ok with
  | false =>
    have HV : Hid (V = ([], false)) := HBAD.out (fun h => by have := HOK.out.2 h.1; cases this)
    go_wp2
    go_ret2
    exact ⟨some ⟨wb.heap.size, 0, none⟩, 0, by rw [HV.out]; rfl, by rw [HV.out]; exact HO2.out.mono hsb, hB2⟩
  | true =>
  by_cases h20 : n0 ≤ 20
  case neg =>
    have q20 : (20 : Int) < (n0 : Int) := by omega
    have HV : Hid (V = ([], false)) := HBAD.out (fun h => h20 h.2)
    go_wp2
    go_ret2
    exact ⟨some ⟨wb.heap.size, 0, none⟩, 0, by rw [HV.out]; rfl, by rw [HV.out]; exact HO2.out.mono hsb, hB2⟩
  have q20 : ¬ (20 : Int) < (n0 : Int) := by omega
  have HM : Hid (msgP nn xs) := HOK.out.1 rfl
  have HV : Hid (V = (mcL ws xs ks now n, true)) := HGOOD.out ⟨HM.out, h20⟩
  have h4 : nn ≤ 4000 := HM.out.1
  have h6 : n ≤ 6 := by have := HM.out.2.1; rw [HLX.out] at this; exact this
  clear HOK
  have HC : Hid (∀ W, Below wb.heap.size wb W → W.cell? ⟨w.heap.size, 0, none⟩ = some (.slice am nn cm) ∧ W.cell? ⟨w.heap.size, 1, none⟩ = some (.slice a n c)) := fun W hW => cells2m (below_kept HBK.out hW)
  go_wp2
  clear q20
  go_loopw [8, 9] (fun l i wr => ∃ (k : Nat) (A : Option Addr) (cA : Nat) (zs : List Int), k ≤ n ∧ l = .slice A zs.length cA ∧ i = .int .i64 k ∧ Hid (OwnI wb.heap.size wr A zs.length cA zs) ∧ Hid (zs = mcL ws xs ks now k) ∧ Below wb.heap.size wb wr) (fun _ i _ => n - (intOf i).toNat)
  case atStart => exact ⟨0, _, 0, [], Nat.zero_le _, rfl, rfl, HO2, rfl, hb2⟩
  case round =>
    obtain ⟨k, A, cA, zs, hkn, rfl, rfl, HO, HZ, hbr⟩ := hrel
    have hws := hbr.size
    obtain ⟨c0, c1⟩ := HC.out _ hbr
    by_cases hlt : k < n
    · obtain ⟨b, off, hA, hlb, ab, nb, cb, ak, nk, ck, e0, e1, e2, e3, hrow, hnil, hnb, hu, hov⟩ := (HR.out wb (Below.refl _ _)).2.1.2.2 k hlt
      have hel : elP 1 (xs.getD k default) := (HM.out.2.2 k (by rw [HLX.out]; exact hlt))
      have hzl : zs.length ≤ 7 * k := by rw [HZ.out]; exact mcL_len ws xs ks now (fun k hk => (HM.out.2.2 k hk).2.2.1) k (by rw [HLX.out]; exact hkn)
      obtain ⟨y, hy⟩ : ∃ y, y = xs.getD k default := ⟨_, rfl⟩
      rw [← hy] at hel e0 e1 hrow hov
      have HNX : Hid (mcL ws xs ks now (k + 1) = zs ++ mcE ws y ks now) := by show _ = _; rw [mcL_next, ← HZ.out, hy]
      have HE : Hid (elP 1 y) := hel
      have hnb5 : nb ≤ 500 := by have := hel.2.1; rw [hrow.len] at this; exact this
      have hcb : nb ≤ cb := hnil.2
      have hnil1 : ab = none → cb = 0 := hnil.1
      have HOL : Hid (y.over.length = nk) := hov.len.1
      have hnk6 : nk ≤ 6 := by have := hel.2.2.1; rw [HOL.out] at this; exact this
      have HEL : Hid (∀ W, Below wb.heap.size wb W → (W.cell? ⟨b, off + k * 4, none⟩ = some (.int .u64 y.ky) ∧ W.cell? ⟨b, off + k * 4 + 1, none⟩ = some (.int .i64 y.at2) ∧ W.cell? ⟨b, off + k * 4 + 2, none⟩ = some (.slice ab nb cb) ∧ W.cell? ⟨b, off + k * 4 + 3, none⟩ = some (.slice ak nk ck)) ∧ Row W ab nb y.sg ∧ KidsT D W ak nk y.over) := fun W hW => ⟨⟨(hW.cell (p := ⟨b, _, none⟩) hlb).trans e0, (hW.cell (p := ⟨b, _, none⟩) hlb).trans e1, (hW.cell (p := ⟨b, _, none⟩) hlb).trans e2, (hW.cell (p := ⟨b, _, none⟩) hlb).trans e3⟩, hrow.kept hW, hov.kept hW⟩
      subst hA
      clear hy e0 e1 e2 e3 hrow hov hel hnil hu
      have hkni : (k : Int) < (n : Int) := by omega
      have hbw : b < wr.heap.size := by omega
      obtain ⟨⟨x0, x1, x2, x3⟩, _⟩ := HEL.out _ hbr
      obtain ⟨wy, hwy⟩ : ∃ wy, wy = wr.alloc (.cells #[.int .u64 y.ky, .int .i64 y.at2, .slice ab nb cb, .slice ak nk ck] 50) := ⟨_, rfl⟩
      have hby : Below wr.heap.size wr wy := by rw [hwy]; exact (Below.refl _ _).alloc (Nat.le_refl _) _
      obtain ⟨gy, hgy⟩ : ∃ gy, gy = wr.heap.size := ⟨_, rfl⟩
      have HYB : Hid (wy.heap[gy]? = some (.cells #[.int .u64 y.ky, .int .i64 y.at2, .slice ab nb cb, .slice ak nk ck] 50 (0, 0))) := by show _ = _; rw [hwy, hgy]; exact heap_alloc_new _ _
      have hBy : Below wb.heap.size wb wy := keepT hbr hby
      have HOy : Hid (OwnI wb.heap.size wy A zs.length cA zs) := HO.out.kept hby
      have HWY : Hid (_ = _) := hwy
      have HGY : Hid (_ = _) := hgy
      clear hwy hgy HO
      go_upto_region 8 with fail
      rw [← HWY.out, ← HGY.out]
      clear HWY HGY c0 c1 x0 x1 x2 x3
      obtain ⟨y0, y1, y2, y3⟩ := cells4g HYB.out
      obtain ⟨c0, c1⟩ := HC.out _ hBy
      go_wp2_with fail
      refine (l17State_any 8 am nn cm ws y ab nb cb ak nk ck (A0) n0 d0 ks now _ (HR.out _ hBy).1 hc h4 (by decide) (by decide) (HEL.out _ hBy).2.1 (by omega) hcb (timP_bd HE.out.1) (HR.out _ hBy).2.2 HPB.out hn0).mono ?_
      obtain ⟨c8, hc8⟩ : ∃ c8, c8 = stC 8 ws y ks now := ⟨_, rfl⟩
      rw [← hc8]
      have HC8 : Hid (_ = _) := hc8
      clear hc8
      rintro e w5 ⟨rfl, hb5⟩
      have hB5 := keepT hBy hb5
      have HOA : Hid (OwnI wb.heap.size w5 A zs.length cA zs) := HOy.out.kept hb5
      have HY5 : Hid (_) := below_kept HYB.out hb5
      have hs5 := hB5.size
      clear c0 c1 y0 y1 y2 y3 HYB HOy
      go_upto_region 9 with (at_builtin; go_loud ((refine wpList_append_own _ rfl _ _ 29 rfl wb.heap.size 2 i0 (.int .i64 0) 1 8 Tryz.underlying29 hi hz0 hz1 hz2 rfl (by decide) _ (zs.length) _ rfl (HOA.out.kept ((Below.refl _ _).alloc (Nat.le_refl _) _)).row ⟨w5.heap.size, 0, none⟩ 1 1 ([c8].map (Value.int .i64)) rfl rfl (cell_one64 _ _) (ints_oneCell .i64 [c8]) (by unfold maxLen; omega) (by omega) (by simp; omega) ?_); intro v' w6 hown' hgrow' _))
      rw [← List.map_append] at hown'
      obtain ⟨A6, c6, rfl, ho6⟩ := ownI_appended hown'
      have hal : Below w5.heap.size w5 (w5.alloc (.cells #[.int .i64 c8] 2)) := (Below.refl _ _).alloc (Nat.le_refl _) _
      have HRW : Hid (World.ownsRow (w5.alloc (.cells #[.int .i64 c8] 2)) wb.heap.size 2 1 (.slice A zs.length cA) zs.length (zs.map (Value.int .i64))) := (HOA.out.kept hal).row
      have HY6 : Hid (w6.heap[gy]? = some (.cells #[.int .u64 y.ky, .int .i64 y.at2, .slice ab nb cb, .slice ak nk ck] 50 (0, 0))) := box_grown (below_kept HY5.out hal) hgrow' HRW.out (by decide)
      have hB6 : Below wb.heap.size wb w6 := (hB5.alloc hB5.size _).grown hgrow' (by simp; omega) (fun j hj => (HRW.out.lt j hj).1)
      have HI0 : Hid (OwnI wb.heap.size w6 A6 (zs.length + 1 + 0) c6 (zs ++ [c8] ++ ovC y.sg y.over ks now 0)) := by show OwnI _ _ _ _ _ _; simpa [ovC] using ho6
      clear hown' hgrow' ho6 hal HRW HOA HY5
      obtain ⟨y0, y1, y2, y3⟩ := cells4g HY6.out
      go_wp2
      clear y0 y1 y2 y3
      go_loopw [8, 11] (fun l i wr => ∃ (m : Nat) (A : Option Addr) (cA : Nat), m ≤ nk ∧ l = .slice A (zs.length + 1 + m) cA ∧ i = .int .i64 m ∧ Hid (OwnI wb.heap.size wr A (zs.length + 1 + m) cA (zs ++ [c8] ++ ovC y.sg y.over ks now m)) ∧ Hid (wr.heap[gy]? = some (.cells #[.int .u64 y.ky, .int .i64 y.at2, .slice ab nb cb, .slice ak nk ck] 50 (0, 0))) ∧ Below wb.heap.size wb wr) (fun _ i _ => nk - (intOf i).toNat)
      case atStart => exact ⟨0, A6, c6, Nat.zero_le _, rfl, rfl, HI0, HY6, hB6⟩
      case round =>
        obtain ⟨m, A2, cA2, hmk, rfl, rfl, HO2, HYR, hbr2⟩ := hrel
        have hws2 := hbr2.size
        obtain ⟨y0, y1, y2, y3⟩ := cells4g HYR.out
        by_cases hlm : m < nk
        · obtain ⟨D2, hD2⟩ : ∃ D2, D = D2 + 1 := by
            cases D with
            | zero => exact ((HEL.out _ hbr2).2.2).elim
            | succ D => exact ⟨D, rfl⟩
          have hov := (HEL.out wb (Below.refl _ _)).2.2
          rw [hD2] at hov
          obtain ⟨b2, off2, hA2, hlb2, ab2, nb2, cb2, ak2, nk2, ck2, e0, e1, e2, e3, hrow, hnil, hnb2, hu, _⟩ := hov.2.2 m hlm
          have hel := HE.out.2.2.2 m (by rw [HOL.out]; exact hlm)
          obtain ⟨z, hz⟩ : ∃ z, z = y.over.getD m default := ⟨_, rfl⟩
          rw [← hz] at hel e0 e1 hrow
          have HNZ : Hid (zs ++ [c8] ++ ovC y.sg y.over ks now (m + 1) = zs ++ [c8] ++ ovC y.sg y.over ks now m ++ [stC 9 y.sg z ks now]) := by show _ = _; rw [ovC_next, hz]; simp only [List.append_assoc]
          have HE2 : Hid (timP z.at2) := hel.1
          have hnb6 : nb2 ≤ 500 := by have := hel.2.1; rw [hrow.len] at this; exact this
          have hcb2 : nb2 ≤ cb2 := hnil.2
          have HEL2 : Hid (∀ W, Below wb.heap.size wb W → (W.cell? ⟨b2, off2 + m * 4, none⟩ = some (.int .u64 z.ky) ∧ W.cell? ⟨b2, off2 + m * 4 + 1, none⟩ = some (.int .i64 z.at2) ∧ W.cell? ⟨b2, off2 + m * 4 + 2, none⟩ = some (.slice ab2 nb2 cb2) ∧ W.cell? ⟨b2, off2 + m * 4 + 3, none⟩ = some (.slice ak2 nk2 ck2)) ∧ Row W ab2 nb2 z.sg) := fun W hW => ⟨⟨(hW.cell (p := ⟨b2, _, none⟩) hlb2).trans e0, (hW.cell (p := ⟨b2, _, none⟩) hlb2).trans e1, (hW.cell (p := ⟨b2, _, none⟩) hlb2).trans e2, (hW.cell (p := ⟨b2, _, none⟩) hlb2).trans e3⟩, hrow.kept hW⟩
          subst hA2
          clear hz e0 e1 e2 e3 hrow hov hel hnil hu hD2
          have hmki : (m : Int) < (nk : Int) := by omega
          have hbw2 : b2 < wr.heap.size := by omega
          obtain ⟨c9, hc9⟩ : ∃ c9, c9 = stC 9 y.sg z ks now := ⟨_, rfl⟩
          rw [← hc9] at HNZ
          have HC9 : Hid (∀ W, Below wb.heap.size wb W → Calls Tryz.prog 20 #[.int .i64 9, .slice ab nb cb, .agg #[.int .u64 z.ky, .int .i64 z.at2, .slice ab2 nb2 cb2, .slice ak2 nk2 ck2], .slice A0 n0 d0, .int .i64 now] W fun e w' => e = .returned (.int .i64 c9) ∧ Below W.heap.size W w') := fun W hW => by
            have h9 := l17State_any 9 ab nb cb y.sg z ab2 nb2 cb2 ak2 nk2 ck2 A0 n0 d0 ks now W (HEL.out _ hW).2.1 hnil1 (by omega) (by decide) (by decide) (HEL2.out _ hW).2 (by omega) hcb2 (timP_bd HE2.out) (HR.out _ hW).2.2 HPB.out hn0
            rw [← hc9] at h9
            exact h9
          clear hc9
          have hdr : Below wr.heap.size wr wr.drew := (Below.refl _ _).drew
          have hBd : Below wb.heap.size wb wr.drew := keepT hbr2 hdr
          obtain ⟨⟨x0, x1, x2, x3⟩, _⟩ := HEL2.out _ hBd
          have HOd : Hid (OwnI wb.heap.size wr.drew A2 (zs.length + 1 + m) cA2 (zs ++ [c8] ++ ovC y.sg y.over ks now m)) := HO2.out.kept hdr
          have HYd : Hid (_) := below_kept HYR.out hdr
          clear HO2 y0 y1 y2 y3
          obtain ⟨y0, y1, y2, y3⟩ := cells4g HYd.out
          obtain ⟨y0', y1', y2', y3'⟩ := cells4g HYR.out
          go_upto_region 12 with fail
          go_region_law (first
            | (go_simp; go_at_call 20; refine (HC9.out _ hBd).mono ?_; rintro e w7 ⟨rfl, hb7⟩; have hB7 := keepT hBd hb7; have hs7 := hB7.size; have HOB : Hid (OwnI wb.heap.size w7 A2 (zs.length + 1 + m) cA2 (zs ++ [c8] ++ ovC y.sg y.over ks now m)) := HOd.out.kept hb7; have HY7 : Hid (w7.heap[gy]? = some (.cells #[.int .u64 y.ky, .int .i64 y.at2, .slice ab nb cb, .slice (some ⟨b2, off2, none⟩) nk ck] 50 (0, 0))) := below_kept HYd.out hb7)
            | ((refine step_append_ownT rfl _ _ 29 rfl wb.heap.size 2 i0 (.int .i64 0) 1 8 Tryz.underlying29 hi hz0 hz1 hz2 rfl (by decide) _ (zs.length + 1 + m) _ rfl (by exact (HOB.out.kept ((Below.refl _ _).alloc (Nat.le_refl _) _)).row) ⟨w7.heap.size, 0, none⟩ 1 1 ([c9].map (Value.int .i64)) rfl rfl (by exact cell_one64 _ _) (ints_oneCell .i64 [c9]) (by unfold maxLen; omega) (by omega) (by simp; omega) ?_); intro v' w8 hown' hgrow'))
          all_goals (
            rw [← List.map_append] at hown'
            obtain ⟨A8, c8', rfl, ho8⟩ := ownI_appended hown'
            have hal : Below w7.heap.size w7 (w7.alloc (.cells #[.int .i64 c9] 2)) := (Below.refl _ _).alloc (Nat.le_refl _) _
            have HRW : Hid (World.ownsRow (w7.alloc (.cells #[.int .i64 c9] 2)) wb.heap.size 2 1 (.slice A2 (zs.length + 1 + m) cA2) (zs.length + 1 + m) ((zs ++ [c8] ++ ovC y.sg y.over ks now m).map (Value.int .i64))) := (HOB.out.kept hal).row
            have HY8 : Hid (w8.heap[gy]? = some (.cells #[.int .u64 y.ky, .int .i64 y.at2, .slice ab nb cb, .slice (some ⟨b2, off2, none⟩) nk ck] 50 (0, 0))) := box_grown (below_kept HY7.out hal) hgrow' HRW.out (by decide)
            have hB8 : Below wb.heap.size wb w8 := (hB7.alloc hB7.size _).grown hgrow' (by simp; omega) (fun j hj => (HRW.out.lt j hj).1)
            have HI8 : Hid (OwnI wb.heap.size w8 A8 (zs.length + 1 + (m + 1)) c8' (zs ++ [c8] ++ ovC y.sg y.over ks now (m + 1))) := by show OwnI _ _ _ _ _ _; rw [HNZ.out]; exact ho8
            clear hown' hgrow' ho8 hal HRW HOB HY7
            go_wp2
            go_roundw
            case rel => exact ⟨m + 1, A8, c8', by omega, rfl, by go_num, HI8, HY8, hB8⟩
            case measure => simp [intOf]; omega)
        · obtain rfl : m = nk := by omega
          have HNZ : Hid (OwnI wb.heap.size wr A2 (mcL ws xs ks now (k + 1)).length cA2 (mcL ws xs ks now (k + 1))) := by
            have h1 : mcL ws xs ks now (k + 1) = zs ++ [c8] ++ ovC y.sg y.over ks now m := by rw [HNX.out]; unfold mcE; rw [HOL.out, ← HC8.out]; simp
            have h2 : (zs ++ [c8] ++ ovC y.sg y.over ks now m).length = zs.length + 1 + m := by simp [ovC_len]; omega
            show OwnI _ _ _ _ _ _
            rw [h1, h2]
            exact HO2.out
          have hl2 : (mcL ws xs ks now (k + 1)).length = zs.length + 1 + m := by rw [HNX.out]; unfold mcE; rw [HOL.out]; simp [ovC_len]; omega
          have HL2 : Hid (_ = _) := hl2
          clear hl2 HO2
          go_wp2
          go_roundw
          case rel => exact ⟨k + 1, A2, cA2, mcL ws xs ks now (k + 1), by omega, by rw [HL2.out], by go_num, HNZ, rfl, hbr2⟩
          case measure => simp [intOf]; omega
    · obtain rfl : k = n := by omega
      have HV2 : Hid (V = (zs, true)) := by show _ = _; rw [HV.out, ← HZ.out]
      go_wp2
      go_ret2
      exact ⟨A, cA, by rw [HV2.out]; rfl, by rw [HV2.out]; exact HO.out.mono hsb, keepT hbb hbr⟩

end Go.Proofs.YtkngnmnfkedfcaaGreat

set_option linter.unusedVariables false
namespace Go.Proofs.YtkngnmnfkedfcaaGreat
open Go.RowKit Go.Sort

theorem touch_kept {W W' : World} {lo hi g : Nat} {o : Obj} (ht : Touch lo hi W W') (h : W.heap[g]? = some o) (ho : g < lo ∨ hi ≤ g) : W'.heap[g]? = some o := (ht.block g (Array.getElem?_eq_some_iff.1 h).1 ho).trans h

set_option maxRecDepth 10000 in
set_option maxHeartbeats 2000000 in
theorem szMsg_any (D : Nat) (a1 : Option Addr) (n1 c1 : Nat) (a2 : Option Addr) (n2 c2 : Nat) (xs : List ItT) (lf : Int) (w : World) (hf0 : 0 ≤ lf) (hf1 : lf ≤ 1048576) (hn : n1 ≤ 9223372036854775807) (hk : KidsT D w a2 n2 xs) :
    Calls Tryz.prog 4 #[.agg #[.slice a1 n1 c1, .slice a2 n2 c2], .int .i64 lf] w fun e w' => ∃ r, e = .returned (.int .i64 r) ∧ (r < 0 ∨ (0 ≤ r ∧ r ≤ 1048576 ∧ n1 ≤ 1048576 ∧ wtST D xs ≤ 1048576)) ∧ Below w.heap.size w w' := by
  obtain ⟨w1, hw1⟩ : ∃ w1, w1 = w.alloc (.cells #[.slice a1 n1 c1, .slice a2 n2 c2] 25) := ⟨_, rfl⟩
  have hbb : Below w.heap.size w w1 := by rw [hw1]; exact (Below.refl _ _).alloc (Nat.le_refl _) _
  have HN : Hid (w1.heap[w.heap.size]? = some (.cells #[.slice a1 n1 c1, .slice a2 n2 c2] 25 (0, 0))) := by show _ = _; rw [hw1]; exact heap_alloc_new w _
  have HK : Hid (KidsT D w1 a2 n2 xs) := hk.kept hbb
  have HW : Hid (_ = _) := hw1
  obtain ⟨x0, x1⟩ := cells2m HN.out
  clear hw1 hk
  go_enter Tryz.func4, Tryz.ntmps4
  go_upto_region 1 with fail
  rw [← HW.out]
  clear HW
  go_wp2_with fail
  refine (szByteS_anyT a1 n1 c1 lf _ hn hf0 hf1).mono ?_
  rintro e w2 ⟨rfl, hw2⟩
  subst hw2
  by_cases h1 : (n1 : Int) ≤ lf
  case neg =>
    have e1 : szRT n1 lf = -1 := by rw [szRT, if_neg h1]
    rw [e1]
    clear e1
    go_wp2
    go_ret
    exact ⟨_, rfl, .inl (by decide), hbb⟩
  have e1 : szRT n1 lf = lf - n1 := by rw [szRT, if_pos h1]
  rw [e1]
  clear e1
  obtain ⟨l, hl⟩ : ∃ l : Int, l = lf - (n1 : Int) := ⟨_, rfl⟩
  rw [← hl]
  have hl0 : ¬ l < 0 := by omega
  have hlp : 0 ≤ l := by omega
  have hl1 : l ≤ 1048576 := by omega
  have hn1 : n1 ≤ 1048576 := by omega
  clear hl h1 hf0 hf1
  go_wp2_with fail
  refine (szS_allT D a2 n2 c2 xs l _ HK.out hlp hl1).mono ?_
  rintro e w3 ⟨rfl, hb3⟩
  have hB := keepT hbb hb3
  clear x0 x1
  obtain ⟨W, hWd⟩ : ∃ W : Nat, W = wtST D xs := ⟨_, rfl⟩
  rw [← hWd]
  have HWd : Hid (_ = _) := hWd
  clear hWd HK
  by_cases h2 : ((W : Nat) : Int) ≤ l
  case neg =>
    have e1 : szRT W l = -1 := by rw [szRT, if_neg h2]
    rw [e1]
    clear e1
    go_wp2
    go_ret
    exact ⟨_, rfl, .inl (by decide), hB⟩
  have e1 : szRT W l = l - (W : Nat) := by rw [szRT, if_pos h2]
  rw [e1]
  clear e1
  obtain ⟨r, hr⟩ : ∃ r : Int, r = l - ((W : Nat) : Int) := ⟨_, rfl⟩
  rw [← hr]
  have hr0 : ¬ r < 0 := by omega
  have HR : Hid (0 ≤ r ∧ r ≤ 1048576 ∧ n1 ≤ 1048576 ∧ W ≤ 1048576) := ⟨by omega, by omega, by omega, by omega⟩
  clear hr h2
  go_wp2
  go_ret
  exact ⟨r, rfl, .inr (by rw [← HWd.out]; exact HR.out), hB⟩

theorem results_msg {fn : Func} {t : Tmp} (h : fn.results = #[.cell t 34]) (tmps : Array Value) (g : Nat) (ht : tmps.getD t undef = .pointer (some ⟨g, 0, none⟩)) (w : World) (c1 : Array Value)
    (b1 : w.heap[g]? = some (.cells c1 34 (0, 0))) (s1 : c1.size = 2) : (results fn tmps).run Tryz.prog w = .ok (.agg c1) w := by
  have i1 : (Tryz.prog.info? 34).map (·.size) = some c1.size := by rw [s1]; kernel_rfl
  have ht' : tmps[t]?.getD undef = .pointer (some ⟨g, 0, none⟩) := by rw [← ht]; simp
  simp [results, h, ht', asAddr, run_loadVar_row w g _ _ c1 (0, 0) _ b1 Tryz.underlying34 rfl i1]

set_option maxRecDepth 10000 in
set_option maxHeartbeats 4000000 in
theorem toMsg_any (D : Nat) (a1 : Option Addr) (n1 c1 : Nat) (ws : List Int) (a2 : Option Addr) (n2 c2 : Nat) (xs : List ItT) (w : World) (hr : Row w a1 n1 ws) (hn : n1 ≤ 1048576) (hk : KidsT D w a2 n2 xs) (hw : wtST D xs ≤ 1048576) :
    Calls Tryz.prog 7 #[.agg #[.slice a1 n1 c1, .slice a2 n2 c2]] w fun e w' => ∃ b1 b2 M, e = .returned (.agg #[.slice b1 n1 n1, .slice b2 n2 n2]) ∧ (w.heap.size ≤ M ∧ M ≤ w'.heap.size ∧ OwnBT w.heap.size M w' b1 n1 n1 ws ∧ OwnKidsT D M w'.heap.size w' b2 n2 xs) ∧ Below w.heap.size w w' := by
  obtain ⟨W0, hW0⟩ : ∃ W0, W0 = ((w.alloc (.cells #[.slice a1 n1 c1, .slice a2 n2 c2] 25)).alloc (.cells #[.slice none 0 0, .slice none 0 0] 34)).alloc (.cells #[.slice none 0 0, .slice none 0 0] 34) := ⟨_, rfl⟩
  have hB0 : Below w.heap.size w W0 := by rw [hW0]; exact (((Below.refl _ _).alloc (Nat.le_refl _) _).alloc (by simp) _).alloc (by simp; omega) _
  have hS0 : W0.heap.size = w.heap.size + 3 := by rw [hW0]; simp
  obtain ⟨b0, b1, b2⟩ := three_blocksT w (.cells #[.slice a1 n1 c1, .slice a2 n2 c2] 25) (.cells #[.slice none 0 0, .slice none 0 0] 34) (.cells #[.slice none 0 0, .slice none 0 0] 34)
  rw [← hW0] at b0 b1 b2
  have HR : Hid (Row W0 a1 n1 ws) := hr.kept hB0
  have HK : Hid (KidsT D w a2 n2 xs) := hk
  have HB : Hid (W0.heap[w.heap.size]? = some (.cells #[.slice a1 n1 c1, .slice a2 n2 c2] 25 (0, 0)) ∧ W0.heap[w.heap.size + 1]? = some (.cells #[.slice none 0 0, .slice none 0 0] 34 (0, 0)) ∧ W0.heap[w.heap.size + 2]? = some (.cells #[.slice none 0 0, .slice none 0 0] 34 (0, 0))) := ⟨b0, b1, b2⟩
  have HW : Hid (_ = _) := hW0
  obtain ⟨x0, x1⟩ := cells2m b0
  clear hW0 b0 b1 b2 hr hk
  go_enter Tryz.func7, Tryz.ntmps7
  go_upto_region 2 with fail
  rw [← HW.out]
  clear HW
  go_wp2_with fail
  refine (toByteS_any a1 n1 c1 ws _ HR.out hn).mono ?_
  rintro e w1 ⟨e1, rfl, ho1, hb1⟩
  have hs1 := hb1.size
  have HB1 : Hid (w1.heap[w.heap.size]? = some (.cells #[.slice a1 n1 c1, .slice a2 n2 c2] 25 (0, 0)) ∧ w1.heap[w.heap.size + 1]? = some (.cells #[.slice none 0 0, .slice none 0 0] 34 (0, 0)) ∧ w1.heap[w.heap.size + 1 + 1]? = some (.cells #[.slice none 0 0, .slice none 0 0] 34 (0, 0))) := ⟨below_kept HB.out.1 hb1, below_kept HB.out.2.1 hb1, below_kept HB.out.2.2 hb1⟩
  clear x0 x1
  obtain ⟨x0, x1⟩ := cells2m HB1.out.1
  obtain ⟨y0, y1⟩ := cells2m HB1.out.2.2
  have f0 := frozen_of_row w1 _ 0 _ _ HB1.out.2.2
  obtain ⟨W1, hW1⟩ : ∃ W1, W1 = w1.setCell ⟨w.heap.size + 1 + 1, 0, none⟩ (.slice e1 n1 n1) := ⟨_, rfl⟩
  have t1 : Touch (w.heap.size + 1) (w.heap.size + 3) w1 W1 := by rw [hW1]; exact touch_setT w1 _ 0 _ (by omega) (by omega)
  have hsz : W1.heap.size = w1.heap.size := by rw [hW1]; simp
  have HB2 : Hid (W1.heap[w.heap.size]? = some (.cells #[.slice a1 n1 c1, .slice a2 n2 c2] 25 (0, 0)) ∧ W1.heap[w.heap.size + 1]? = some (.cells #[.slice none 0 0, .slice none 0 0] 34 (0, 0)) ∧ W1.heap[w.heap.size + 1 + 1]? = some (.cells #[.slice e1 n1 n1, .slice none 0 0] 34 (0, 0))) := by
    refine ⟨touch_kept t1 HB1.out.1 (by omega), ?_, ?_⟩
    · rw [hW1]; exact (heap_setCell_other w1 ⟨w.heap.size + 1 + 1, 0, none⟩ (w.heap.size + 1) _ (by simp)).trans HB1.out.2.1
    · rw [hW1]; exact heap_setCell_same w1 _ 0 _ _ _ HB1.out.2.2
  have hB1 : Below w.heap.size w w1 := keepT hB0 hb1
  have hBW : Below w.heap.size w W1 := hB1.trans (t1.below (by omega) (by omega))
  have HOB1 : Hid (OwnBT W0.heap.size w1.heap.size W1 e1 n1 n1 ws) := (ho1.ownBT).touch (.inr (by omega)) t1
  have HW : Hid (_ = _) := hW1
  clear hW1 ho1
  go_upto_region 3 with fail
  rw [← HW.out]
  clear HW x0 x1 y0 y1 f0
  obtain ⟨x0, x1⟩ := cells2m HB2.out.1
  go_wp2_with fail
  refine (toS_allT D a2 n2 c2 xs _ (HK.out.kept hBW) hw).mono ?_
  rintro e w2 ⟨e2, rfl, ho2, hb2⟩
  have hs2 := hb2.size
  have HB3 : Hid (w2.heap[w.heap.size + 1]? = some (.cells #[.slice none 0 0, .slice none 0 0] 34 (0, 0)) ∧ w2.heap[w.heap.size + 1 + 1]? = some (.cells #[.slice e1 n1 n1, .slice none 0 0] 34 (0, 0))) := ⟨below_kept HB2.out.2.1 hb2, below_kept HB2.out.2.2 hb2⟩
  clear x0 x1
  obtain ⟨y0, y1⟩ := cells2m HB3.out.2
  have f1 := frozen_of_row w2 _ 1 _ _ HB3.out.2
  obtain ⟨z0, z1⟩ := cells2m HB3.out.1
  have g0 := frozen_of_row w2 _ 0 _ _ HB3.out.1
  have g1 := frozen_of_row w2 _ 1 _ _ HB3.out.1
  obtain ⟨W2, hW2⟩ : ∃ W2, W2 = ((w2.setCell ⟨w.heap.size + 1 + 1, 1, none⟩ (.slice e2 n2 n2)).setCell ⟨w.heap.size + 1, 0, none⟩ (.slice e1 n1 n1)).setCell ⟨w.heap.size + 1, 1, none⟩ (.slice e2 n2 n2) := ⟨_, rfl⟩
  have t2 : Touch (w.heap.size + 1) (w.heap.size + 3) w2 W2 := by rw [hW2]; exact ((touch_setT _ _ _ _ (by omega) (by omega)).trans (touch_setT _ _ _ _ (by omega) (by omega))).trans (touch_setT _ _ _ _ (by omega) (by omega))
  have hsz2 : W2.heap.size = w2.heap.size := by rw [hW2]; simp
  have HB4 : Hid (W2.heap[w.heap.size + 1]? = some (.cells #[.slice e1 n1 n1, .slice e2 n2 n2] 34 (0, 0))) := by
    show _ = _
    rw [hW2]
    have q0 := (heap_setCell_other w2 ⟨w.heap.size + 1 + 1, 1, none⟩ (w.heap.size + 1) (.slice e2 n2 n2) (by simp)).trans HB3.out.1
    exact heap_setCell_same _ _ 1 _ _ _ (heap_setCell_same _ _ 0 _ _ _ q0)
  have HO1 : Hid (OwnBT W0.heap.size w1.heap.size W2 e1 n1 n1 ws) := ((HOB1.out.kept hb2).touch (.inr (by omega)) t2)
  have HO2 : Hid (OwnKidsT D w1.heap.size W2.heap.size W2 e2 n2 xs) := by
    show OwnKidsT _ _ _ _ _ _ _
    rw [hsz2, ← hsz]
    exact ownKids_movesT D _ _ _ _ _ _ _ _ _ ho2 (.inr (by omega)) t2
  have hB2 : Below w.heap.size w W2 := (keepT hBW hb2).trans (t2.below (by omega) (by omega))
  have hs3 : w1.heap.size ≤ W2.heap.size := by omega
  have HW : Hid (_ = _) := hW2
  clear hW2 ho2
  go_wp2
  rw [← HW.out]
  try simp only [Exit.inBlock, Exit.then]
  exact bodyPost_ret (results_msg rfl _ (w.heap.size + 1) rfl _ _ HB4.out rfl) rfl ⟨e1, e2, w1.heap.size, rfl, ⟨by omega, hs3, HO1.out.mono (by omega) (Nat.le_refl _), HO2.out⟩, hB2⟩

set_option maxRecDepth 10000 in
set_option maxHeartbeats 2000000 in
theorem eqMsg_same (D : Nat) (a1 : Option Addr) (n1 c1 : Nat) (a2 : Option Addr) (n2 c2 : Nat) (b1 : Option Addr) (d1 : Nat) (b2 : Option Addr) (d2 : Nat) (ct : List Int) (gs : List ItT) (w : World) (h1 : Row w a1 n1 ct) (h2 : Row w b1 n1 ct) (hn : n1 ≤ maxLen) (g1 : KidsT D w a2 n2 gs) (g2 : KidsT D w b2 n2 gs) :
    Calls Tryz.prog 11 #[.agg #[.slice a1 n1 c1, .slice a2 n2 c2], .agg #[.slice b1 n1 d1, .slice b2 n2 d2]] w fun e w' => e = .returned (.bool true) ∧ Below w.heap.size w w' := by
  obtain ⟨w1, hw1⟩ : ∃ w1, w1 = (w.alloc (.cells #[.slice a1 n1 c1, .slice a2 n2 c2] 34)).alloc (.cells #[.slice b1 n1 d1, .slice b2 n2 d2] 34) := ⟨_, rfl⟩
  have hn2 := two_blocks w (.cells #[.slice a1 n1 c1, .slice a2 n2 c2] 34) (.cells #[.slice b1 n1 d1, .slice b2 n2 d2] 34)
  have hbb : Below w.heap.size w w1 := by rw [hw1]; exact two_below _ _ _
  rw [← hw1] at hn2
  have HA : Hid (Row w1 a1 n1 ct ∧ Row w1 b1 n1 ct) := ⟨h1.kept hbb, h2.kept hbb⟩
  have HG : Hid (KidsT D w1 a2 n2 gs ∧ KidsT D w1 b2 n2 gs) := ⟨g1.kept hbb, g2.kept hbb⟩
  have HN : Hid (w1.heap[w.heap.size]? = some (.cells #[.slice a1 n1 c1, .slice a2 n2 c2] 34 (0, 0)) ∧ w1.heap[w.heap.size + 1]? = some (.cells #[.slice b1 n1 d1, .slice b2 n2 d2] 34 (0, 0))) := hn2
  have HW : Hid (_ = _) := hw1
  obtain ⟨x0, x1⟩ := cells2m HN.out.1
  obtain ⟨y0, y1⟩ := cells2m HN.out.2
  clear hw1 hn2 h1 h2 g1 g2
  go_enter Tryz.func11, Tryz.ntmps11
  go_upto_region 1 with fail
  rw [← HW.out]
  clear HW
  go_wp2_with fail
  refine (eqByteS_any a1 b1 n1 n1 c1 d1 ct ct _ HA.out.1 HA.out.2 hn hn).mono ?_
  rintro e w2 ⟨rfl, hb2⟩
  rw [decide_eq_true (rfl : ct = ct)]
  clear x0 x1 y0 y1
  obtain ⟨x0, x1⟩ := cells2m (below_kept HN.out.1 hb2)
  obtain ⟨y0, y1⟩ := cells2m (below_kept HN.out.2 hb2)
  go_wp2_with fail
  refine (eqS_allT D a2 b2 n2 c2 d2 gs _ (HG.out.1.kept hb2) (HG.out.2.kept hb2)).mono ?_
  rintro e w3 ⟨rfl, hb3⟩
  clear x0 x1 y0 y1
  go_wp2
  go_ret
  exact ⟨rfl, keepT hbb (keepT hb2 hb3)⟩


set_option maxRecDepth 10000 in
set_option maxHeartbeats 2000000 in
theorem markMsg_any (D lo M hi : Nat) (a1 : Option Addr) (n1 c1 : Nat) (ws : List Int) (a2 : Option Addr) (n2 c2 : Nat) (xs : List ItT) (w : World) (h1 : lo ≤ M) (h2 : M ≤ hi) (hh : hi ≤ w.heap.size) (ho : OwnBT lo M w a1 n1 c1 ws) (hk : OwnKidsT D M hi w a2 n2 xs) (hn : n1 ≤ 1048576) (hw : wtST D xs ≤ 1048576) :
    Calls Tryz.prog 13 #[.agg #[.slice a1 n1 c1, .slice a2 n2 c2], .int .i64 1] w fun e w' => ∃ k : Nat, e = .returned (.int .i64 (k : Int)) ∧ k ≤ 5000000 ∧ Touch lo hi w w' := by
  obtain ⟨w1, hw1⟩ : ∃ w1, w1 = w.alloc (.cells #[.slice a1 n1 c1, .slice a2 n2 c2] 34) := ⟨_, rfl⟩
  have hbb : Below w.heap.size w w1 := by rw [hw1]; exact (Below.refl _ _).alloc (Nat.le_refl _) _
  have HN : Hid (w1.heap[w.heap.size]? = some (.cells #[.slice a1 n1 c1, .slice a2 n2 c2] 34 (0, 0))) := by show _ = _; rw [hw1]; exact heap_alloc_new w _
  have HO : Hid (OwnBT lo M w1 a1 n1 c1 ws) := ho.kept hbb
  have HK : Hid (OwnKidsT D M hi w1 a2 n2 xs) := hk.kept hbb
  have HW : Hid (_ = _) := hw1
  obtain ⟨x0, x1⟩ := cells2m HN.out
  clear hw1 ho hk
  go_enter Tryz.func13, Tryz.ntmps13
  go_upto_region 1 with fail
  rw [← HW.out]
  clear HW
  go_wp2_with fail
  refine (markByteS_int lo a1 n1 c1 1 ws _ HO.out.own (by omega) (by decide) (by decide)).mono ?_
  rintro e w2 ⟨rfl, _, hg2⟩
  have t2 : Touch lo M w1 w2 := HO.out.wrote hg2
  have HN2 : Hid (_) := touch_kept t2 HN.out (.inr (by omega))
  have HK2 : Hid (OwnKidsT D M hi w2 a2 n2 xs) := ownKids_movesT D _ _ _ _ _ _ _ _ _ HK.out (.inr (Nat.le_refl _)) t2
  clear x0 x1
  obtain ⟨x0, x1⟩ := cells2m HN2.out
  go_wp2_with fail
  refine (markS_allT D M hi a2 n2 c2 xs (1 + n1) ((1 : Int) + (n1 : Int)) _ (by omega) HK2.out (by omega)).mono ?_
  rintro e w3 ⟨rfl, _, t3⟩
  have hle := mkS_leT D xs (1 + n1)
  obtain ⟨K, hK⟩ : ∃ K : Nat, K = (mkST D xs (1 + n1)).2 := ⟨_, rfl⟩
  rw [← hK] at hle
  have HT : Hid (Touch lo hi w w3) := ((Touch.of_below hbb).trans (t2.mono (Nat.le_refl _) h2)).trans (t3.mono h1 (Nat.le_refl _))
  have HKB : Hid (K ≤ 5000000) := by show _ ≤ _; omega
  rw [← hK]
  clear x0 x1 hK hle t2 t3
  go_wp2
  go_ret
  exact ⟨K, rfl, HKB.out, HT.out⟩

end Go.Proofs.YtkngnmnfkedfcaaGreat

namespace Go.Proofs.YtkngnmnfkedfcaaGreat
open Go.RowKit

def mk64 (k n : Nat) : List Int := (List.range n).map fun i => ((k + i : Nat) : Int)
theorem mk64_len (k n : Nat) : (mk64 k n).length = n := by simp [mk64]
theorem mk64_get (k n j : Nat) (h : j < n) : (mk64 k n).getD j 0 = ((k + j : Nat) : Int) := by simp [mk64, h]
theorem mk64_set (k j : Nat) (zs : List Int) (h : j < zs.length) : (mk64 k j ++ zs.drop j).set j ((k + j : Nat) : Int) = mk64 k (j + 1) ++ zs.drop (j + 1) := by
  rw [List.drop_eq_getElem_cons h, List.set_append_right _ _ (by rw [mk64_len]; exact Nat.le_refl _), mk64_len, Nat.sub_self, List.set_cons_zero]
  unfold mk64
  rw [List.range_succ, List.map_append, List.append_assoc]
  rfl

set_option maxRecDepth 10000 in
set_option maxHeartbeats 1000000 in
theorem markInt64S_own (lo hi : Nat) (a : Option Addr) (n cap k : Nat) (zs : List Int) (w : World) (h : Own64 lo hi w a n cap zs) (hn : n ≤ 1000000000) (hk : k ≤ 1000000000) :
    Calls Tryz.prog 15 #[.slice a n cap, .int .i64 k] w fun e w' => e = .returned (.int .i64 (k + n : Nat)) ∧ Own64 lo hi w' a n cap (mk64 k n) ∧ Touch lo hi w w' := by
  have HLT : Hid (_) := h.lt
  have HRW : Hid (_) := h.row
  have HZ : Hid (zs.length = n) := h.toRow.len
  clear h
  go_enter Tryz.func15, Tryz.ntmps15
  go_wp2
  go_loopw [1, 5] (fun kk i wr => ∃ j : Nat, j ≤ n ∧ i = .int .i64 j ∧ kk = .int .i64 (k + j : Nat) ∧ wr.ownsRow lo 2 1 (.slice a n cap) n ((mk64 k j ++ zs.drop j).map (Value.int .i64)) ∧ Touch lo hi w wr) (fun _ i _ => n - (intOf i).toNat)
  case atStart => exact ⟨0, Nat.zero_le _, rfl, rfl, HRW.out, Touch.of_below (Below.refl _ _)⟩
  case round =>
    obtain ⟨j, hj, rfl, rfl, hor, htr⟩ := hrel
    by_cases hlt : j < n
    · obtain ⟨g, rfl⟩ : ∃ g, a = some ⟨g, 0, none⟩ := by
        rcases hor.2 with ⟨_, h0⟩ | ⟨g, cap', cur, hv, _⟩
        · omega
        · simp only [Value.slice.injEq] at hv
          exact ⟨g, hv.1⟩
      have hfr : wr.frozen? ⟨g, j, none⟩ = false := hor.frozenAt j
      have hvl := hor.1
      obtain ⟨y, hy⟩ : ∃ y, wr.cell? ⟨g, j, none⟩ = some y := ⟨_, (hor.cellAt j (by omega)).trans (List.getElem?_eq_getElem (by omega))⟩
      have hs := (hor.stored j (.int .i64 ((k : Int) + (j : Int)))).1
      have e1 : ((mk64 k j ++ zs.drop j).map (Value.int .i64)).set j (.int .i64 ((k : Int) + (j : Int))) = (mk64 k (j + 1) ++ zs.drop (j + 1)).map (Value.int .i64) := by
        rw [← mk64_set k j zs (by rw [HZ.out]; exact hlt), List.map_set, Int.natCast_add]
      rw [e1] at hs
      have hlg := (hor.lt g rfl).1
      have hg2 := HLT.out _ rfl
      have ht2 : Touch lo hi w (wr.setCell ⟨g, j, none⟩ (.int .i64 ((k : Int) + (j : Int)))) := htr.trans ⟨rfl, rfl, rfl, by simp, fun i _ hi' => heap_setCell_other wr ⟨g, j, none⟩ i _ (by simp at hg2; simp; omega)⟩
      have FIN : Hid (_ ∧ _) := ⟨hs, ht2⟩
      clear hor htr hs ht2 e1 hvl
      go_wp2
      go_roundw
      case rel => exact ⟨j + 1, by omega, by go_num, by go_num, FIN.out.1, FIN.out.2⟩
      case measure => simp [intOf]; omega
    · have hjn : j = n := by omega
      subst hjn
      have HO : Hid (wr.ownsRow lo 2 1 (.slice a j cap) j ((mk64 k j).map (Value.int .i64))) := by
        show World.ownsRow _ _ _ _ _ _ _
        rw [List.drop_eq_nil_of_le (by rw [HZ.out]; exact Nat.le_refl _), List.append_nil] at hor
        exact hor
      clear hor
      go_wp2
      go_ret
      exact ⟨rfl, ⟨HO.out, HLT.out⟩, htr⟩

set_option maxRecDepth 10000 in
set_option maxHeartbeats 400000 in
theorem heldInt64S_any (a : Option Addr) (n cap k : Nat) (w : World) (h : Row64 w a n (mk64 k n)) (hn : n ≤ 1000000000) (hk : k ≤ 1000000000) :
    Calls Tryz.prog 16 #[.slice a n cap, .int .i64 k] w fun e w' => e = .returned (.int .i64 (k + n : Nat)) ∧ w' = w := by
  have H0 : Hid (Row64 w a n (mk64 k n)) := h
  clear h
  go_enter Tryz.func16, Tryz.ntmps16
  go_wp2
  go_loop [1, 5] (fun kk i => ∃ j : Nat, j ≤ n ∧ i = .int .i64 j ∧ kk = .int .i64 (k + j : Nat)) (fun _ i => n - (intOf i).toNat)
  case atStart => exact ⟨0, Nat.zero_le _, rfl, rfl⟩
  case round =>
    obtain ⟨j, hj, rfl, rfl⟩ := hrel
    by_cases hlt : j < n
    · obtain ⟨b, off, rfl, hb, hc⟩ := H0.out.get j hlt
      rw [mk64_get k n j hlt, Int.natCast_add] at hc
      go_wp2
      go_round
      case rel => exact ⟨j + 1, by omega, by go_num, by go_num⟩
      case measure => simp [intOf]; omega
    · have hjn : j = n := by omega
      subst hjn
      go_wp2
      go_ret
      exact ⟨rfl, rfl⟩

end Go.Proofs.YtkngnmnfkedfcaaGreat

set_option linter.unusedVariables false
namespace Go.Proofs.YtkngnmnfkedfcaaGreat
open Go.RowKit Go.Sort

theorem ownsRow_touchIn {B e k n lo hi p q : Nat} {w w' : World} {v : Value} {xs : List Value} (h : w.ownsRow B e k v n xs) (hI : ∀ j, v.ownBlock = some j → p ≤ j ∧ j < q) (hd : q ≤ lo ∨ hi ≤ p) (ht : Touch lo hi w w') : w'.ownsRow B e k v n xs := by
  refine ⟨h.1, ?_⟩
  rcases h.2 with h0 | ⟨g', cap, cur, hv, hb, hh, rest⟩
  · exact .inl h0
  · have h1 := hI g' (by rw [hv]; rfl)
    exact .inr ⟨g', cap, cur, hv, hb, (ht.block g' (Array.getElem?_eq_some_iff.1 hh).1 (by omega)).trans hh, rest⟩

set_option maxRecDepth 10000 in
set_option maxHeartbeats 8000000 in
theorem lawMsgCheck_walk (D : Nat) (am : Option Addr) (nn cm : Nat) (ws : List Int) (a : Option Addr) (n c : Nat) (xs : List ItT) (A0 : Option Addr) (n0 d0 : Nat) (ks : List Pu3) (now : Int) (w : World) (hr : Row w am nn ws) (hnn : nn ≤ 9223372036854775807) (hk : KidsT D w a n xs) (hp : RowPu w A0 n0 ks) (hB : PuB ks n0) (hn0 : n0 ≤ 9223372036854775807) :
    Calls Tryz.prog 3 #[.agg #[.slice am nn cm, .slice a n c], .slice A0 n0 d0, .int .i64 now] w fun e w' => e = .returned (.bool true) ∧ Below w.heap.size w w' := by
  obtain ⟨w1, hw1⟩ : ∃ w1, w1 = w.alloc (.cells #[.slice am nn cm, .slice a n c] 25) := ⟨_, rfl⟩
  have hb0 : Below w.heap.size w w1 := by rw [hw1]; exact (Below.refl _ _).alloc (Nat.le_refl _) _
  have HB1 : Hid (w1.heap[w.heap.size]? = some (.cells #[.slice am nn cm, .slice a n c] 25 (0, 0))) := by show _ = _; rw [hw1]; exact heap_alloc_new w _
  have hk0 : w.heap.size < w1.heap.size := by rw [hw1]; simp
  have HMB : Hid (∀ W, Below w1.heap.size w1 W → W.cell? ⟨w.heap.size, 0, none⟩ = some (.slice am nn cm) ∧ W.cell? ⟨w.heap.size, 1, none⟩ = some (.slice a n c)) := fun W hW => cells2m (below_kept HB1.out hW)
  have HRM : Hid (∀ W, Below w1.heap.size w1 W → Row W am nn ws ∧ KidsT D W a n xs ∧ RowPu W A0 n0 ks) := fun W hW => ⟨hr.kept (keepT hb0 hW), hk.kept (keepT hb0 hW), hp.kept (keepT hb0 hW)⟩
  have HPB : Hid (PuB ks n0) := hB
  have hlen := hk.len
  have HW : Hid (_ = _) := hw1
  clear hw1 hr hk hp hB HB1
  obtain ⟨x0, x1⟩ := HMB.out _ (Below.refl _ _)
  go_enter Tryz.func3, Tryz.ntmps3
  go_upto_region 2 with fail
  rw [← HW.out]
  clear HW
  go_wp2_with fail
  refine (szMsg_any D am nn cm a n c xs _ _ (by decide) (by decide) hnn (HRM.out _ (Below.refl _ _)).2.1).mono ?_
  rintro e w2 ⟨r, rfl, hrr, hb2⟩
  clear x0 x1
  by_cases hneg : r < 0
  · go_wp2
    go_ret
    exact ⟨rfl, keepT hb0 hb2⟩
  obtain ⟨hr0, hr1, hnd, hwt⟩ := hrr.resolve_left hneg
  clear hrr
  by_cases hbn : r < (n0 : Int)
  · have hz : (if r < (n0 : Int) then (-1 : Int) else r - n0) = -1 := if_pos hbn
    go_wp2_with fail
    refine (szPuS_any A0 n0 d0 _ _ hn0 hr0 hr1).mono ?_
    rintro e w3 ⟨rfl, hw3⟩
    have hw3 := hw3.symm
    subst hw3
    rw [hz]
    go_wp2
    go_ret
    exact ⟨rfl, keepT hb0 hb2⟩
  have hz : (if r < (n0 : Int) then (-1 : Int) else r - n0) = r - n0 := if_neg hbn
  have hn1 : n0 ≤ 1048576 := by omega
  obtain ⟨V, hV⟩ : ∃ V, V = mcV ws nn xs n n0 ks now := ⟨_, rfl⟩
  have hVl : V.1.length ≤ 42 := by rw [hV]; exact mcV_len ws nn xs n n0 ks now hlen.1
  have HSP : Hid (∀ (W : World) (b1 b2 b3 : Option Addr), Row W b1 nn ws → (b1 = none → nn = 0) → KidsT D W b2 n xs → RowPu W b3 n0 ks → Calls Tryz.prog 6 #[.agg #[.slice b1 nn nn, .slice b2 n n], .slice b3 n0 n0, .int .i64 now] W fun e w' => ∃ u uc, e = .returned (.tuple #[.slice u V.1.length uc, .bool V.2]) ∧ OwnI W.heap.size w' u V.1.length uc V.1 ∧ Below W.heap.size W w') := by
    intro W b1 b2 b3 h1 h2 h3 h4
    have h5 := specMsgCheck_any D b1 nn nn ws b2 n n xs b3 n0 n0 ks now W h1 h2 hnn h3 h4 HPB.out hn0
    rw [← hV] at h5
    exact h5
  have HIM : Hid (∀ (W : World) (b1 b2 b3 : Option Addr), Row W b1 nn ws → (b1 = none → nn = 0) → KidsT D W b2 n xs → RowPu W b3 n0 ks → Calls Tryz.prog 9 #[.agg #[.slice b1 nn nn, .slice b2 n n], .slice b3 n0 n0, .int .i64 now] W fun e w' => ∃ u uc, e = .returned (.tuple #[.slice u V.1.length uc, .bool V.2]) ∧ OwnI W.heap.size w' u V.1.length uc V.1 ∧ Below W.heap.size W w') := by
    intro W b1 b2 b3 h1 h2 h3 h4
    have h5 := implMsgCheck_any D b1 nn nn ws b2 n n xs b3 n0 n0 ks now W h1 h2 hnn h3 h4 HPB.out hn0
    rw [← hV] at h5
    exact h5
  clear hV
  have t0 : (V.2 != V.2) = false := by simp
  have hc2 := hb2
  go_wp2_with fail
  refine (szPuS_any A0 n0 d0 _ _ hn0 hr0 hr1).mono ?_
  rintro e w3 ⟨rfl, hw3⟩
  have hw3 := hw3.symm
  subst hw3
  rw [hz]
  obtain ⟨lf, hlf⟩ : ∃ lf : Int, lf = r - (n0 : Int) := ⟨_, rfl⟩
  have hl0 : ¬ (lf < 0) := by omega
  rw [← hlf]
  clear hlf hz hbn hneg hr0 hr1
  obtain ⟨x0, x1⟩ := HMB.out _ hc2
  go_wp2_with fail
  refine (toMsg_any D am nn cm ws a n c xs _ (HRM.out _ hc2).1 hnd (HRM.out _ hc2).2.1 hwt).mono ?_
  rintro e wa ⟨t1, t2, MA, rfl, hoa, hbwa⟩
  clear x0 x1
  have hca := keepT hc2 hbwa
  go_wp2_with fail
  refine (toPuS_any A0 n0 d0 ks _ (HRM.out _ hca).2.2 hn1).mono ?_
  rintro e wb ⟨t3, rfl, hob, hbwb⟩
  have hcb := keepT hca hbwb
  go_wp2_with fail
  refine (HSP.out _ t1 t2 t3 (hoa.2.2.1.own.toRow.kept hbwb) hoa.2.2.1.own.nil ((hoa.2.2.2.over).kept hbwb) hob.toRow).mono ?_
  rintro e wA ⟨u, uc, rfl, hou, hbA⟩
  have hcA := keepT hcb hbA
  have HSA : Hid (OwnI wb.heap.size wA u V.1.length uc V.1) := hou
  have HUI : Hid (∀ j, (Value.slice u V.1.length uc).ownBlock = some j → wb.heap.size ≤ j ∧ j < wA.heap.size) := fun j hj => ⟨(hou.row.lt j hj).1, (hou.row.lt j hj).2⟩
  have hsA := hbA.size
  have hswA := hcA.size
  clear hoa hob hou hbwa hbwb hbA
  obtain ⟨x0, x1⟩ := HMB.out _ hcA
  go_wp2_with fail
  refine (toMsg_any D am nn cm ws a n c xs _ (HRM.out _ hcA).1 hnd (HRM.out _ hcA).2.1 hwt).mono ?_
  rintro e w3 ⟨p1, p2, M, rfl, hox, hbw3⟩
  clear x0 x1
  obtain ⟨w4, hw4⟩ : ∃ w4, w4 = w3.alloc (.cells #[.slice p1 nn nn, .slice p2 n n] 34) := ⟨_, rfl⟩
  have hb4 : Below w3.heap.size w3 w4 := by rw [hw4]; exact (Below.refl _ _).alloc (Nat.le_refl _) _
  have HBX4 : Hid (w4.heap[w3.heap.size]? = some (.cells #[.slice p1 nn nn, .slice p2 n n] 34 (0, 0))) := by show _ = _; rw [hw4]; exact heap_alloc_new w3 _
  have hl4 : w3.heap.size < w4.heap.size := (Array.getElem?_eq_some_iff.1 HBX4.out).1
  have hb34 := keepT hbw3 hb4
  have hc4 := keepT hcA hb34
  have HS4 : Hid (_) := HSA.out.kept hb34
  have HX4 : Hid (wA.heap.size ≤ M ∧ M ≤ w3.heap.size ∧ OwnBT wA.heap.size M w4 p1 nn nn ws ∧ OwnKidsT D M w3.heap.size w4 p2 n xs) := ⟨hox.1, hox.2.1, hox.2.2.1.kept hb4, hox.2.2.2.kept hb4⟩
  have hs3 := hbw3.size
  have HW : Hid (_ = _) := hw4
  clear hw4 hox hb4 hb34 hbw3 HSA
  go_upto_region 10 with fail
  rw [← HW.out]
  clear HW
  go_wp2_with fail
  refine (toPuS_any A0 n0 d0 ks _ (HRM.out _ hc4).2.2 hn1).mono ?_
  rintro e w5 ⟨ay, rfl, hoy, hbw5⟩
  have hc5 := keepT hc4 hbw5
  have HY5 : Hid (OwnPu w4.heap.size w5 ay n0 n0 ks) := hoy
  have HYI : Hid (In ay n0 w4.heap.size w5.heap.size) := hoy.in_
  have HBX5 : Hid (_) := below_kept HBX4.out hbw5
  have HS5 : Hid (_) := HS4.out.kept hbw5
  have HX5 : Hid (wA.heap.size ≤ M ∧ M ≤ w3.heap.size ∧ OwnBT wA.heap.size M w5 p1 nn nn ws ∧ OwnKidsT D M w3.heap.size w5 p2 n xs) := ⟨HX4.out.1, HX4.out.2.1, HX4.out.2.2.1.kept hbw5, HX4.out.2.2.2.kept hbw5⟩
  have hs5 := hbw5.size
  clear hoy hbw5 HS4 HX4 HBX4
  obtain ⟨x0, x1⟩ := cells2m HBX5.out
  go_wp2_with fail
  refine (HIM.out _ p1 p2 ay HX5.out.2.2.1.own.toRow HX5.out.2.2.1.own.nil HX5.out.2.2.2.over HY5.out.toRow).mono ?_
  rintro e w6 ⟨gi, gc, rfl, hoi, hb6⟩
  clear x0 x1
  have hc6 := keepT hc5 hb6
  have HI6 : Hid (OwnI w5.heap.size w6 gi V.1.length gc V.1) := hoi
  have HII : Hid (∀ j, (Value.slice gi V.1.length gc).ownBlock = some j → w5.heap.size ≤ j ∧ j < w6.heap.size) := fun j hj => ⟨(hoi.row.lt j hj).1, (hoi.row.lt j hj).2⟩
  have HS6 : Hid (_) := HS5.out.kept hb6
  have HY6 : Hid (_) := HY5.out.kept hb6
  have HBX6 : Hid (_) := below_kept HBX5.out hb6
  have HX6 : Hid (wA.heap.size ≤ M ∧ M ≤ w3.heap.size ∧ OwnBT wA.heap.size M w6 p1 nn nn ws ∧ OwnKidsT D M w3.heap.size w6 p2 n xs) := ⟨HX5.out.1, HX5.out.2.1, HX5.out.2.2.1.kept hb6, HX5.out.2.2.2.kept hb6⟩
  have hs6 := hb6.size
  clear hoi hb6 HS5 HX5 HBX5 HY5
  go_wp2_with fail
  refine (eqInt64S_same gi u V.1.length gc uc V.1 _ HI6.out.toRow HS6.out.toRow (by omega)).mono ?_
  rintro e w7 ⟨rfl, hw7⟩
  have hc7 := keepT hc6 hw7
  have HI7 : Hid (_) := HI6.out.kept hw7
  have HS7 : Hid (_) := HS6.out.kept hw7
  have HY7 : Hid (_) := HY6.out.kept hw7
  have HBX7 : Hid (w7.heap[w3.heap.size]? = some (.cells #[.slice p1 nn nn, .slice p2 n n] 34 (0, 0))) := below_kept HBX6.out hw7
  have HX7 : Hid (wA.heap.size ≤ M ∧ M ≤ w3.heap.size ∧ OwnBT wA.heap.size M w7 p1 nn nn ws ∧ OwnKidsT D M w3.heap.size w7 p2 n xs) := ⟨HX6.out.1, HX6.out.2.1, HX6.out.2.2.1.kept hw7, HX6.out.2.2.2.kept hw7⟩
  have hs7 := hw7.size
  clear hw7 HI6 HS6 HY6 HBX6 HX6
  have HCZ : Hid (∀ W, Below w7.heap.size w7 W → W.cell? ⟨w3.heap.size, 0, none⟩ = some (.slice p1 nn nn) ∧ W.cell? ⟨w3.heap.size, 1, none⟩ = some (.slice p2 n n) ∧ W.cell? ⟨w.heap.size, 0, none⟩ = some (.slice am nn cm) ∧ W.cell? ⟨w.heap.size, 1, none⟩ = some (.slice a n c)) := fun W hW => ⟨(cells2m (below_kept HBX7.out hW)).1, (cells2m (below_kept HBX7.out hW)).2, (HMB.out _ (keepT hc7 hW)).1, (HMB.out _ (keepT hc7 hW)).2⟩
  go_upto_region 14 with fail
  have hcz : Below w7.heap.size w7 w7.drew := (Below.refl _ _).drew
  have SS0 := HCZ.out _ hcz
  go_region_held3 (fun W => W.cell? ⟨w3.heap.size, 0, none⟩ = some (.slice p1 nn nn) ∧ W.cell? ⟨w3.heap.size, 1, none⟩ = some (.slice p2 n n) ∧ W.cell? ⟨w.heap.size, 0, none⟩ = some (.slice am nn cm) ∧ W.cell? ⟨w.heap.size, 1, none⟩ = some (.slice a n c)) (first | assumption | exact SS0 | exact SS2 | exact SS4)
    (first
      | (go_at_call 7; ((with_reducible refine (toMsg_any D am nn cm ws a n c xs w7.drew (HRM.out _ (keepT hc7 hcz)).1 hnd (HRM.out _ (keepT hc7 hcz)).2.1 hwt).mono ?_); rintro e w8 ⟨r1, r2, M8, rfl, ho8, hb8⟩; have B8 : Below w7.heap.size w7 w8 := keepT hcz hb8; have SS2 := HCZ.out _ B8))
      | (go_at_call 11; ((with_reducible refine (eqMsg_same D p1 nn nn p2 n n r1 nn r2 n ws xs w8 (HX7.out.2.2.1.kept B8).own.toRow ho8.2.2.1.own.toRow (by unfold maxLen; omega) (HX7.out.2.2.2.kept B8).over ho8.2.2.2.over).mono ?_); rintro e w9 ⟨rfl, hb9⟩; have B9 : Below w7.heap.size w7 w9 := keepT B8 hb9; have SS4 := HCZ.out _ B9)))
  all_goals (
    clear SS0 SS2 SS4
    have hc9 := keepT hc7 B9
    have HI9 : Hid (_) := HI7.out.kept B9
    have HS9 : Hid (_) := HS7.out.kept B9
    have HY9 : Hid (_) := HY7.out.kept B9
    have HBX9 : Hid (w9.heap[w3.heap.size]? = some (.cells #[.slice p1 nn nn, .slice p2 n n] 34 (0, 0))) := below_kept HBX7.out B9
    have HX9 : Hid (wA.heap.size ≤ M ∧ M ≤ w3.heap.size ∧ OwnBT wA.heap.size M w9 p1 nn nn ws ∧ OwnKidsT D M w3.heap.size w9 p2 n xs) := ⟨HX7.out.1, HX7.out.2.1, HX7.out.2.2.1.kept B9, HX7.out.2.2.2.kept B9⟩
    have hs9 := B9.size
    clear ho8 HI7 HS7 HY7 HBX7 HX7
    go_wp2_with fail
    refine (toPuS_any A0 n0 d0 ks _ (HRM.out _ hc9).2.2 hn1).mono ?_
    rintro e wC ⟨az, rfl, hoz, hbwC⟩
    go_wp2_with fail
    refine (eqPuS_same ay az n0 n0 n0 ks _ (HY9.out.kept hbwC).toRow hoz.toRow (by omega)).mono ?_
    rintro e wD ⟨rfl, hbD⟩
    clear hoz
    have h9D := keepT hbwC hbD
    have hcD := keepT hc9 h9D
    have HID : Hid (_) := HI9.out.kept h9D
    have HSD : Hid (_) := HS9.out.kept h9D
    have HYD : Hid (_) := HY9.out.kept h9D
    have HBXD : Hid (wD.heap[w3.heap.size]? = some (.cells #[.slice p1 nn nn, .slice p2 n n] 34 (0, 0))) := below_kept HBX9.out h9D
    have HXD : Hid (wA.heap.size ≤ M ∧ M ≤ w3.heap.size ∧ OwnBT wA.heap.size M wD p1 nn nn ws ∧ OwnKidsT D M w3.heap.size wD p2 n xs) := ⟨HX9.out.1, HX9.out.2.1, HX9.out.2.2.1.kept h9D, HX9.out.2.2.2.kept h9D⟩
    have hsD := h9D.size
    clear hbwC hbD h9D HI9 HS9 HY9 HBX9 HX9
    obtain ⟨x0, x1⟩ := cells2m HBXD.out
    go_wp2_with fail
    refine (markMsg_any D wA.heap.size M w3.heap.size p1 nn nn ws p2 n n xs _ HXD.out.1 HXD.out.2.1 (by omega) HXD.out.2.2.1 HXD.out.2.2.2 hnd hwt).mono ?_
    rintro e wG ⟨kk, rfl, hkb, htG⟩
    clear x0 x1
    have hcG : Below w1.heap.size w1 wG := hcD.trans (htG.below (by omega) (by have := hcD.size; omega))
    have HIG : Hid (OwnI w5.heap.size wG gi V.1.length gc V.1) := ⟨ownsRow_touchIn HID.out.row HII.out (.inr (by omega)) htG⟩
    have HSG : Hid (OwnI wb.heap.size wG u V.1.length uc V.1) := ⟨ownsRow_touchIn HSD.out.row HUI.out (.inl (by omega)) htG⟩
    have HYG : Hid (OwnPu w4.heap.size wG ay n0 n0 ks) := ⟨ownsRow_touchIn (p := w4.heap.size) (q := wD.heap.size) HYD.out.row (fun j hj => ⟨(HYD.out.row.lt j hj).1, (HYD.out.row.lt j hj).2⟩) (.inr (by omega)) htG, HYD.out.rng⟩
    have hsG := htG.size
    clear htG HID HSD HYD HBXD HXD
    go_wp2_with fail
    refine (markPuS_any w4.heap.size ay n0 n0 kk ks _ HYG.out (by omega) (by omega)).mono ?_
    rintro e wH ⟨rfl, _, htH0⟩
    have htH := htH0 _ _ HYI.out
    have hcH : Below w1.heap.size w1 wH := hcG.trans (htH.below (by omega) (by have := hcG.size; omega))
    have HIH : Hid (OwnI w5.heap.size wH gi V.1.length gc V.1) := ⟨ownsRow_touchIn HIG.out.row HII.out (.inr (by omega)) htH⟩
    have HSH : Hid (OwnI wb.heap.size wH u V.1.length uc V.1) := ⟨ownsRow_touchIn HSG.out.row HUI.out (.inl (by omega)) htH⟩
    have hsH := htH.size
    clear htH htH0 HIG HSG HYG
    obtain ⟨k2, hk2⟩ : ∃ k2 : Int, k2 = ((kk + 3 * n0 : Nat) : Int) := ⟨_, rfl⟩
    have kz : ¬ (k2 < 0) := by omega
    rw [← hk2]
    clear hk2
    go_wp2_with fail
    refine (eqInt64S_same gi u V.1.length gc uc V.1 _ HIH.out.toRow HSH.out.toRow (by omega)).mono ?_
    rintro e wI ⟨rfl, hwI⟩
    have hcI := keepT hcH hwI
    have HIJ : Hid (_) := HIH.out.kept hwI
    have HSI : Hid (_) := HSH.out.kept hwI
    have hsI := hwI.size
    clear hwI HIH HSH
    obtain ⟨MM, hMM⟩ : ∃ MM : Nat, MM = 1 + V.1.length := ⟨_, rfl⟩
    have HHE : Hid (∀ W : World, Row64 W gi V.1.length (mk64 1 V.1.length) → Calls Tryz.prog 16 #[.slice gi V.1.length gc, .int .i64 1] W fun e w' => e = .returned (.int .i64 ((MM : Nat) : Int)) ∧ w' = W) := fun W hW => by
      rw [hMM]
      exact heldInt64S_any gi V.1.length gc 1 W hW (by omega) (by omega)
    have HMA : Hid (∀ W : World, Own64 w5.heap.size w6.heap.size W gi V.1.length gc V.1 → Calls Tryz.prog 15 #[.slice gi V.1.length gc, .int .i64 1] W fun e w' => e = .returned (.int .i64 ((MM : Nat) : Int)) ∧ Own64 w5.heap.size w6.heap.size w' gi V.1.length gc (mk64 1 V.1.length) ∧ Touch w5.heap.size w6.heap.size W w') := fun W hW => by
      rw [hMM]
      exact markInt64S_own w5.heap.size w6.heap.size gi V.1.length gc 1 V.1 W hW (by omega) (by omega)
    clear hMM
    have tq : (((MM : Nat) : Int) != ((MM : Nat) : Int)) = false := by simp
    have tz : ¬ (((MM : Nat) : Int) < 0) := by omega
    go_wp2_with fail
    refine (HMA.out _ ⟨HIJ.out.row, fun x hx => by subst hx; exact (HII.out x.block rfl).2⟩).mono ?_
    rintro e wK ⟨rfl, hoK, htK⟩
    have hcK : Below w1.heap.size w1 wK := hcI.trans (htK.below (by omega) (by have := hcI.size; omega))
    have HSK : Hid (OwnI wb.heap.size wK u V.1.length uc V.1) := ⟨ownsRow_touchIn HSI.out.row HUI.out (.inl (by omega)) htK⟩
    have HOK : Hid (_) := hoK
    clear hoK htK HIJ HSI
    go_wp2_with fail
    refine (HHE.out _ HOK.out.toRow).mono ?_
    rintro e wM ⟨rfl, hwM⟩
    have hwM := hwM.symm
    subst hwM
    obtain ⟨x0, x1⟩ := HMB.out _ hcK
    go_wp2_with fail
    refine (toMsg_any D am nn cm ws a n c xs _ (HRM.out _ hcK).1 hnd (HRM.out _ hcK).2.1 hwt).mono ?_
    rintro e wa2 ⟨t1, t2, MA, rfl, hoa, hbwa2⟩
    clear x0 x1
    have hca2 := keepT hcK hbwa2
    go_wp2_with fail
    refine (toPuS_any A0 n0 d0 ks _ (HRM.out _ hca2).2.2 hn1).mono ?_
    rintro e wb2 ⟨t3, rfl, hob, hbwb2⟩
    go_wp2_with fail
    refine (HIM.out _ t1 t2 t3 (hoa.2.2.1.own.toRow.kept hbwb2) hoa.2.2.1.own.nil ((hoa.2.2.2.over).kept hbwb2) hob.toRow).mono ?_
    rintro e wQ ⟨qi, qc, rfl, hoq, hbQ⟩
    have hbKQ := keepT (keepT hbwa2 hbwb2) hbQ
    have hcQ := keepT hcK hbKQ
    have HSQ : Hid (_) := HSK.out.kept hbKQ
    have HOQ : Hid (_) := HOK.out.kept hbKQ
    have HQQ : Hid (_) := hoq
    clear hoa hob hoq hbwa2 hbwb2 hbQ hbKQ HSK HOK
    go_wp2_with fail
    refine (eqInt64S_same qi u V.1.length qc uc V.1 _ HQQ.out.toRow HSQ.out.toRow (by omega)).mono ?_
    rintro e wR ⟨rfl, hwR⟩
    go_wp2_with fail
    refine (HHE.out _ (HOQ.out.kept hwR).toRow).mono ?_
    rintro e wT ⟨rfl, hwT⟩
    have hwT := hwT.symm
    subst hwT
    go_wp2
    go_ret
    exact ⟨rfl, keepT hb0 (keepT hcQ hwR)⟩)

end Go.Proofs.YtkngnmnfkedfcaaGreat

namespace Go.Proofs.YtkngnmnfkedfcaaGreat
open Go.ChangeShapes Go.WideShapes Go.ChangeAt Go.RowKit

theorem KidsT.more {d : Nat} : ∀ {w : World} {a : Option Addr} {n : Nat} {xs : List ItT}, KidsT d w a n xs → KidsT (d + 1) w a n xs := by
  induction d with
  | zero => intro _ _ _ _ h; exact h.elim
  | succ d ih =>
    intro w a n xs h
    refine ⟨h.1, h.2.1, fun k hk => ?_⟩
    obtain ⟨b, off, ha, hlt, ab, nb, cb, ak, nk, ck, c0, c1, c3, c4, hr, hn, hm, hu, hk⟩ := h.2.2 k hk
    exact ⟨b, off, ha, hlt, ab, nb, cb, ak, nk, ck, c0, c1, c3, c4, hr, hn, hm, hu, ih hk⟩
theorem KidsT.le {d d' : Nat} (hd : d ≤ d') {w : World} {a : Option Addr} {n : Nat} {xs : List ItT} (h : KidsT d w a n xs) : KidsT d' w a n xs := by
  induction hd with
  | refl => exact h
  | step _ ih => exact ih.more

theorem open_rowSg {H : Type} {enc : TypeId × Value → H} {W : World} {fuel : Nat} {cs : List Value} {x : DataW H × List MemPlace} (h : DataW.trod enc Tryz.prog W 0 (fun _ => true) true fuel 22 cs = some x) :
    ∃ a n cap bs, cs = [.slice a n cap] ∧ Row W a n bs ∧ ((a = none → cap = 0) ∧ n ≤ cap) ∧ n ≤ 9223372036854775807 := by
  rcases open_ints Tryz.underlying22 Tryz.underlying5 (by kernel_rfl) h with ⟨rfl, _⟩ | ⟨a, len, cap, zs, rfl, _, hl, hm, hz, _, hc, hw⟩
  · have hr : IsRow .u8 W none 0 0 [] := .inl ⟨rfl, rfl, rfl, rfl⟩
    exact ⟨none, 0, 0, _, rfl, hr.row.1, ⟨fun _ => rfl, by omega⟩, by decide⟩
  · have hr : IsRow .u8 W (some a) len cap zs := .inr ⟨a, rfl, hl, hm, by simpa using hz, hc, hw⟩
    exact ⟨some a, len, cap, _, rfl, hr.row.1, ⟨hr.nil, hr.cap.1⟩, by have := hr.cap; omega⟩

/-- What an item's argument reads as. -/
def OpensSg (W : World) (d : Nat) (y : ItT) (cs : List Value) : Prop := ∃ ab nb cb ak nk ck, cs = [.int .u64 y.ky, .int .i64 y.at2, .slice ab nb cb, .slice ak nk ck] ∧ Row W ab nb y.sg ∧ ((ab = none → cb = 0) ∧ nb ≤ cb) ∧ nb ≤ 9223372036854775807 ∧ U64 y.ky ∧ KidsT d W ak nk y.over

def OpensSgS (W : World) (d : Nat) (cs : List Value) : Prop := ∃ a n cap xs, cs = [.slice a n cap] ∧ KidsT d W a n xs

set_option maxRecDepth 20000 in
theorem open_sg_of {H : Type} {enc : TypeId × Value → H} {W : World} {fuel : Nat} (ih : ∀ m, m < fuel → ∀ cs x, DataW.trod enc Tryz.prog W 0 (fun _ => true) true m 23 cs = some x → OpensSgS W (m + 1) cs)
    {cs : List Value} {x : DataW H × List MemPlace} (h : DataW.trod enc Tryz.prog W 0 (fun _ => true) true fuel 66 cs = some x) : ∃ y, OpensSg W fuel y cs := by
  obtain ⟨xs, m, rfl, _, hl, hxl, hf⟩ := DataW.trod_struct Tryz.underlying66 h
  have hl5 : cs.length = 4 := hl.trans (by kernel_rfl)
  have hx5 : xs.length = 4 := hxl
  obtain ⟨c0, c1, c3, c4, rfl⟩ : ∃ c0 c1 c3 c4, cs = [c0, c1, c3, c4] := by
    match cs, hl5 with
    | [c0, c1, c3, c4], _ => exact ⟨c0, c1, c3, c4, rfl⟩
  obtain ⟨x0, x1, x3, x4, rfl⟩ : ∃ c0 c1 c3 c4, xs = [c0, c1, c3, c4] := by
    match xs, hx5 with
    | [c0, c1, c3, c4], _ => exact ⟨c0, c1, c3, c4, rfl⟩
  have e0 : Tryz.prog.cellsOf 48 = 1 := by kernel_rfl
  have e1 : Tryz.prog.cellsOf 2 = 1 := by kernel_rfl
  have e3 : Tryz.prog.cellsOf 22 = 1 := by kernel_rfl
  have e4 : Tryz.prog.cellsOf 23 = 1 := by kernel_rfl
  have f0 : DataW.trod enc Tryz.prog W 0 (fun _ => true) true m 48 ((([c0, c1, c3, c4] : List Value).drop 0).take (Tryz.prog.cellsOf 48)) = some x0 := hf 0 _ rfl
  rw [e0] at f0
  have f1 : DataW.trod enc Tryz.prog W 0 (fun _ => true) true m 2 ((([c0, c1, c3, c4] : List Value).drop 1).take (Tryz.prog.cellsOf 2)) = some x1 := hf 1 _ rfl
  rw [e1] at f1
  have f2 : DataW.trod enc Tryz.prog W 0 (fun _ => true) true m 22 ((([c0, c1, c3, c4] : List Value).drop 2).take (Tryz.prog.cellsOf 22)) = some x3 := hf 2 _ rfl
  rw [e3] at f2
  have f3 : DataW.trod enc Tryz.prog W 0 (fun _ => true) true m 23 ((([c0, c1, c3, c4] : List Value).drop 3).take (Tryz.prog.cellsOf 23)) = some x4 := hf 3 _ rfl
  rw [e4] at f3
  obtain ⟨n0, h0, _, u0⟩ := DataW.trod_int Tryz.underlying48 f0
  obtain ⟨n1, h1, _, _⟩ := DataW.trod_int Tryz.underlying2 f1
  obtain ⟨ab, nb, cb, bs, h3, hr, hn, hb⟩ := open_rowSg f2
  obtain ⟨ak, nk, ck, ks, h4, hk⟩ := ih m (by omega) _ _ f3
  simp at h0 h1 h3 h4
  subst h0 h1 h3 h4
  exact ⟨.mk n0 n1 bs ks, ab, nb, cb, ak, nk, ck, rfl, hr, hn, hb, bounds_u64 u0, hk⟩

set_option maxRecDepth 20000 in
theorem open_over {H : Type} {enc : TypeId × Value → H} {W : World} (fuel : Nat) : ∀ cs x, DataW.trod (H := H) enc Tryz.prog W 0 (fun _ => true) true fuel 23 cs = some x → OpensSgS W (fuel + 1) cs := by
  induction fuel using Nat.strongRecOn with
  | _ fuel ih =>
    intro cs x h
    rcases DataW.trod_slice Tryz.underlying23 h with ⟨rfl, _⟩ | ⟨a, len, cap, elems, rest, n, rfl, rfl, _, _, hl, hm, hlen, hel, _, _⟩
    · exact ⟨none, 0, 0, [], rfl, ⟨rfl, by omega, fun k hk => absurd hk (by omega)⟩⟩
    · have ec : Tryz.prog.cellsOf 66 = 4 := by kernel_rfl
      rw [ec] at hel
      have each : ∀ i, i < len → ∃ y : ItT, ∃ cs', W.cells? 0 (a.add (i * 4)) 4 = some cs' ∧ OpensSg W n y cs' := by
        intro i hi
        have he := hel i hi
        rw [List.getElem?_eq_getElem (by omega)] at he
        cases hc : W.cells? 0 (a.add (i * 4)) 4 with
        | none => rw [hc] at he; cases he
        | some cs' =>
          rw [hc] at he
          obtain ⟨y, hy⟩ := open_sg_of (fuel := n) (fun m hm => ih m (by omega)) he
          exact ⟨y, cs', rfl, hy⟩
      obtain ⟨y, hy⟩ := Go.Deep.choose_lt each
      have hm' : len ≤ 9223372036854775807 := by unfold maxLen at hm; omega
      refine ⟨some a, len, cap, (List.range len).map y, rfl, ⟨by simp, hm', fun k hk => ?_⟩⟩
      obtain ⟨cs', hcs, ab, nb, cb, ak, nk, ck, rfl, hr, hnn, hnb, hu, hkk⟩ := hy k hk
      obtain ⟨_, _, hcell⟩ := World.cells?_some hcs
      obtain ⟨b, off, spot⟩ := a
      have hs : spot = none := by
        obtain ⟨cs0, hcs0, _⟩ := hy 0 (by omega)
        obtain ⟨_, hl0, hcell0⟩ := World.cells?_some hcs0
        have h00 := hcell0 0 (by omega)
        rw [List.getElem?_eq_getElem (by omega)] at h00
        simpa [Addr.add] using World.cell?_spot h00
      subst hs
      have ey : ((List.range len).map y).getD k default = y k := by simp [hk]
      rw [ey]
      have cc : ∀ j, j < 4 → W.cell? ⟨b, off + k * 4 + j, none⟩ = [Value.int .u64 (y k).ky, .int .i64 (y k).at2, .slice ab nb cb, .slice ak nk ck][j]? := by
        intro j hj
        have := hcell j hj
        rw [Addr.add_lit, Addr.add_lit] at this
        exact this
      exact ⟨b, off, rfl, World.block_lt_of_cell? W _ (cc 0 (by omega)), ab, nb, cb, ak, nk, ck, cc 0 (by omega), cc 1 (by omega), cc 2 (by omega), cc 3 (by omega), hr, hnn, hnb, hu, hkk.more⟩

theorem open_sg {H : Type} {enc : TypeId × Value → H} {W : World} {fuel : Nat} {cs : List Value} {x : DataW H × List MemPlace} (h : DataW.trod enc Tryz.prog W 0 (fun _ => true) true fuel 66 cs = some x) : ∃ y, OpensSg W fuel y cs :=
  open_sg_of (fun m _ => open_over m) h

/-- What a Msg's argument reads as. -/
def OpensMsg (W : World) (am : Option Addr) (nn : Nat) (ws : List Int) (D : Nat) (a : Option Addr) (n : Nat) (xs : List ItT) : Prop := Row W am nn ws ∧ nn ≤ 9223372036854775807 ∧ KidsT D W a n xs

set_option maxRecDepth 20000 in
theorem open_msg {H : Type} {enc : TypeId × Value → H} {W : World} {fuel : Nat} {cs : List Value} {x : DataW H × List MemPlace} (h : DataW.trod enc Tryz.prog W 0 (fun _ => true) true fuel 25 cs = some x) :
    ∃ am nn cm ws D a n c xs, cs = [.slice am nn cm, .slice a n c] ∧ OpensMsg W am nn ws D a n xs := by
  obtain ⟨xs, m, rfl, _, hl, hxl, hf⟩ := DataW.trod_struct Tryz.underlying25 h
  have hl5 : cs.length = 2 := hl.trans (by kernel_rfl)
  have hx5 : xs.length = 2 := hxl
  obtain ⟨c0, c1, rfl⟩ : ∃ c0 c1, cs = [c0, c1] := by
    match cs, hl5 with
    | [c0, c1], _ => exact ⟨c0, c1, rfl⟩
  obtain ⟨x0, x1, rfl⟩ : ∃ c0 c1, xs = [c0, c1] := by
    match xs, hx5 with
    | [c0, c1], _ => exact ⟨c0, c1, rfl⟩
  have e3 : Tryz.prog.cellsOf 22 = 1 := by kernel_rfl
  have e4 : Tryz.prog.cellsOf 23 = 1 := by kernel_rfl
  have f0 : DataW.trod enc Tryz.prog W 0 (fun _ => true) true m 22 ((([c0, c1] : List Value).drop 0).take (Tryz.prog.cellsOf 22)) = some x0 := hf 0 _ rfl
  rw [e3] at f0
  have f1 : DataW.trod enc Tryz.prog W 0 (fun _ => true) true m 23 ((([c0, c1] : List Value).drop 1).take (Tryz.prog.cellsOf 23)) = some x1 := hf 1 _ rfl
  rw [e4] at f1
  obtain ⟨am, nn, cm, ws, h3, hr, hn, hb⟩ := open_rowSg f0
  obtain ⟨a, n, c, ks, h4, hk⟩ := open_over m _ _ f1
  simp at h3 h4
  subst h3 h4
  exact ⟨am, nn, cm, ws, m + 1, a, n, c, ks, rfl, hr, hb, hk⟩

end Go.Proofs.YtkngnmnfkedfcaaGreat

namespace Go.Proofs.YtkngnmnfkedfcaaGreat
open Go.ChangeShapes Go.WideShapes Go.ChangeAt Go.RowKit

set_option maxRecDepth 20000 in
theorem open_Pu {H : Type} {enc : TypeId × Value → H} {W : World} {fuel : Nat} {cs : List Value} {x : DataW H × List MemPlace} (h : DataW.trod enc Tryz.prog W 0 (fun _ => true) true fuel 57 cs = some x) : ∃ y : Int × Int × Int, cs = [.int .i64 y.1, .int .u64 y.2.1, .int .i64 y.2.2] ∧ (Lit.int .i64 y.1).wf = true ∧ (Lit.int .u64 y.2.1).wf = true ∧ (Lit.int .i64 y.2.2).wf = true := by
  obtain ⟨xs, m, rfl, _, hl, hxl, hf⟩ := DataW.trod_struct Tryz.underlying57 h
  have hl2 : cs.length = 3 := hl.trans (by kernel_rfl)
  have hx2 : xs.length = 3 := hxl
  obtain ⟨c0, c1, c2, rfl⟩ : ∃ c0 c1 c2, cs = [c0, c1, c2] := by
    match cs, hl2 with
    | [c0, c1, c2], _ => exact ⟨c0, c1, c2, rfl⟩
  obtain ⟨x0, x1, x2, rfl⟩ : ∃ c0 c1 c2, xs = [c0, c1, c2] := by
    match xs, hx2 with
    | [c0, c1, c2], _ => exact ⟨c0, c1, c2, rfl⟩
  have e_i64 : Tryz.prog.cellsOf 2 = 1 := by kernel_rfl
  have e_u64 : Tryz.prog.cellsOf 48 = 1 := by kernel_rfl
  have f0 : DataW.trod enc Tryz.prog W 0 (fun _ => true) true m 2 ((([c0, c1, c2] : List Value).drop 0).take (Tryz.prog.cellsOf 2)) = some x0 := hf 0 _ rfl
  rw [e_i64] at f0
  obtain ⟨n0, g0, _, u0⟩ := DataW.trod_int Tryz.underlying2 f0
  have f1 : DataW.trod enc Tryz.prog W 0 (fun _ => true) true m 48 ((([c0, c1, c2] : List Value).drop 1).take (Tryz.prog.cellsOf 48)) = some x1 := hf 1 _ rfl
  rw [e_u64] at f1
  obtain ⟨n1, g1, _, u1⟩ := DataW.trod_int Tryz.underlying48 f1
  have f2 : DataW.trod enc Tryz.prog W 0 (fun _ => true) true m 2 ((([c0, c1, c2] : List Value).drop 2).take (Tryz.prog.cellsOf 2)) = some x2 := hf 2 _ rfl
  rw [e_i64] at f2
  obtain ⟨n2, g2, _, u2⟩ := DataW.trod_int Tryz.underlying2 f2
  simp at g0 g1 g2
  subst g0 g1 g2
  exact ⟨(n0, n1, n2), rfl, u0, u1, u2⟩

set_option maxRecDepth 20000 in
theorem open_Pus {H : Type} {enc : TypeId × Value → H} {W : World} {fuel : Nat} {cs : List Value} {x : DataW H × List MemPlace} (h : DataW.trod enc Tryz.prog W 0 (fun _ => true) true fuel 26 cs = some x) : ∃ a n c xs, cs = [.slice a n c] ∧ RowPu W a n xs ∧ n ≤ 9223372036854775807 ∧ ∀ j, j < n → (xs.getD j (0, 0, 0)).1 ≤ 9223372036854775807 ∧ (xs.getD j (0, 0, 0)).2.2 ≤ 9223372036854775807 := by
  rcases DataW.trod_slice Tryz.underlying26 h with ⟨rfl, _⟩ | ⟨a, len, cap, elems, rest, n, rfl, rfl, _, _, hl, hm, hlen, hel, _, _⟩
  · exact ⟨none, 0, 0, [], rfl, ⟨rfl, fun k hk => absurd hk (by omega), UPu.nil⟩, by decide, fun j hj => absurd hj (Nat.not_lt_zero _)⟩
  · have ec : Tryz.prog.cellsOf 57 = 3 := by kernel_rfl
    rw [ec] at hel
    have each : ∀ i, i < len → ∃ y : Int × Int × Int, ∃ cs', W.cells? 0 (a.add (i * 3)) 3 = some cs' ∧ cs' = [.int .i64 y.1, .int .u64 y.2.1, .int .i64 y.2.2] ∧ (Lit.int .i64 y.1).wf = true ∧ (Lit.int .u64 y.2.1).wf = true ∧ (Lit.int .i64 y.2.2).wf = true := by
      intro i hi
      have he := hel i hi
      rw [List.getElem?_eq_getElem (by omega)] at he
      cases hc : W.cells? 0 (a.add (i * 3)) 3 with
      | none => rw [hc] at he; cases he
      | some cs' =>
        rw [hc] at he
        obtain ⟨y, hy⟩ := open_Pu he
        exact ⟨y, cs', rfl, hy⟩
    obtain ⟨y, hy⟩ := Go.Deep.choose_lt each
    have hm' : len ≤ 9223372036854775807 := by unfold maxLen at hm; omega
    have ey : ∀ k, k < len → ((List.range len).map y).getD k (0, 0, 0) = y k := fun k hk => by simp [hk]
    refine ⟨some a, len, cap, (List.range len).map y, rfl, ⟨by simp, fun k hk => ?_, fun k => ?_⟩, hm', fun k hk => ?_⟩
    · obtain ⟨cs', hcs, rfl, _⟩ := hy k hk
      obtain ⟨_, _, hcell⟩ := World.cells?_some hcs
      obtain ⟨b, off, spot⟩ := a
      have hs : spot = none := by
        obtain ⟨cs0, hcs0, _⟩ := hy 0 (by omega)
        obtain ⟨_, hl0, hcell0⟩ := World.cells?_some hcs0
        have h00 := hcell0 0 (by omega)
        rw [List.getElem?_eq_getElem (by omega)] at h00
        simpa [Addr.add] using World.cell?_spot h00
      subst hs
      rw [ey k hk]
      have cc : ∀ j, j < 3 → W.cell? ⟨b, off + k * 3 + j, none⟩ = [Value.int .i64 (y k).1, .int .u64 (y k).2.1, .int .i64 (y k).2.2][j]? := by
        intro j hj
        have := hcell j hj
        rw [Addr.add_lit, Addr.add_lit] at this
        exact this
      exact ⟨b, off, rfl, World.block_lt_of_cell? W _ (cc 0 (by omega)), cc 0 (by omega), cc 1 (by omega), cc 2 (by omega)⟩
    · by_cases hk : k < len
      · rw [ey k hk]
        obtain ⟨_, _, _, w0, w1, w2⟩ := hy k hk
        exact bounds_u64 w1
      · have e2 : ((List.range len).map y).getD k (0, 0, 0) = (0, 0, 0) := by simp [hk]
        rw [e2]; simp [U64]
    · rw [ey k hk]
      obtain ⟨_, _, _, w0, w1, w2⟩ := hy k hk
      exact ⟨(bounds_i64 w0).2, (bounds_i64 w2).2⟩

end Go.Proofs.YtkngnmnfkedfcaaGreat

