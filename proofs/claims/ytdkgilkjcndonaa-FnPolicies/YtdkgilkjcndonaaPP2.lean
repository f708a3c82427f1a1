import Derived.Test.YtdkgilkjcndonaaPP1
import Derived.Test.YtdkgilkjcndonaaPK3
import Derived.Deep.DeepCutAuto
namespace Go.Proofs.Ytdkgilkjcndonaa
open Go.RowKit

theorem ppR_f {xs : List PC} {q : List Int} {need noMap noAny : Bool} {w w' : World} {a : Option Addr} {n c : Nat} (h : ¬ ppP xs q need noMap noAny) (ho : OwnL w.heap.size w' a n c []) (hb : Below w.heap.size w w') : PpR xs q need noMap noAny w (.returned (.tuple #[.slice a n c, .bool false])) w' :=
  ⟨a, n, c, [], false, rfl, .inr ⟨rfl, h, rfl⟩, ho, by have := ho.len; simp at this; omega, hb⟩

theorem Arr.grown {g B : Nat} {w w' : World} {N : List Int} {a : Option Addr} {n c : Nat} {zs : List Int} (h : Arr g w N) (ho : OwnL B w a n c zs) (hg : w.grownBy w' (Value.slice a n c).ownBlock) : Arr g w' N := by
  refine h.of_block (hg.block g h.lt ?_)
  intro e
  obtain ⟨cur, hc, _⟩ := h.get
  rcases ho.row.2 with ⟨hv, _⟩ | ⟨g', cap', cur', hv, _, hg', _⟩
  · rw [hv] at e; cases e
  · rw [hv] at e
    simp only [Value.ownBlock, Option.some.injEq] at e
    subst e
    rw [hc] at hg'
    simp only [Option.some.injEq, Obj.cells.injEq] at hg'
    exact absurd hg'.2.1 (by decide)

set_option maxRecDepth 20000 in
set_option maxHeartbeats 8000000 in
theorem specPathPolicies_any (ap : Option Addr) (np cp : Nat) (xs : List PC) (aq : Option Addr) (nq cq : Nat) (q : List Int) (need noMap noAny : Bool) (w : World) (h : Pcs w ap np xs) (hq : Row64 w aq nq q) :
    Calls Try.prog 16 #[.slice ap np cp, .slice aq nq cq, .bool need, .bool noMap, .bool noAny] w (PpR xs q need noMap noAny w) := by
  obtain ⟨i0, ih, hz0, hz1, hz2⟩ := info_parts Try.info2P
  have H0 : Hid (Pcs w ap np xs) := h
  have HL : Hid (xs.length = np) := h.len
  have HQ : Hid (Row64 w aq nq q) := hq
  have HQL : Hid (q.length = nq) := hq.len
  clear h hq
  have HB0 : Hid (Below w.heap.size w (w.alloc (.cells #[] 2))) := (Below.refl _ _).alloc (Nat.le_refl _) _
  have HE0 : Hid ((w.alloc (.cells #[] 2)).heap[w.heap.size]? = some (.cells #[] 2 (0, 0))) := heap_alloc_new w _
  go_enter Try.func16, Try.ntmps16
  go_wp2_with fail
  refine (l12PathOk_any ap np cp xs _ (H0.out.kept HB0.out)).mono ?_
  rintro e w1 ⟨b1, rfl, HBP, hb1⟩
  have HB1 : Hid (Below w.heap.size w w1) := HB0.out.trans (hb1.mono HB0.out.size)
  have HE1 : Hid (w1.heap[w.heap.size]? = some (.cells #[] 2 (0, 0))) := (hb1.block _ (by simp)).trans HE0.out
  clear hb1 HB0 HE0
  cases b1 with
  | false =>
    have HN : Hid (¬ ppP xs q need noMap noAny) := fun e => absurd (HBP.out.2 e.1) (by decide)
    clear HBP
    go_wp2
    go_ret2
    exact ppR_f HN.out (ownL_empty_at HE1.out (Nat.le_refl _)) HB1.out
  | true =>
    have HP : Hid (pathP xs) := HBP.out.1 rfl
    clear HBP
    by_cases hq1 : (nq : Int) < 1
    · have HN : Hid (¬ ppP xs q need noMap noAny) := fun e => by have := e.2.1.1.1; rw [HQL.out] at this; omega
      go_wp2
      go_ret2
      exact ppR_f HN.out (ownL_empty_at HE1.out (Nat.le_refl _)) HB1.out
    by_cases hq2 : 20 < (nq : Int)
    · have HN : Hid (¬ ppP xs q need noMap noAny) := fun e => by have := e.2.1.1.2; rw [HQL.out] at this; omega
      go_wp2
      go_ret2
      exact ppR_f HN.out (ownL_empty_at HE1.out (Nat.le_refl _)) HB1.out
    have hn20 : nq ≤ 20 := by omega
    have hn1 : 1 ≤ nq := by omega
    have hp8 : np ≤ 8 := by rw [← HL.out]; exact HP.out.1.2
    have hp1 : 1 ≤ np := by rw [← HL.out]; exact HP.out.1.1
    obtain ⟨K, hK⟩ : ∃ K, K = madeCells #[Value.bool false] 1001 := ⟨_, rfl⟩
    have hmk : ∀ W : World, (Instr.makeSlice 69 (.int .i64 1001) (.int .i64 1001)).run Try.prog W = .ok (.slice (some ⟨W.heap.size, 0, none⟩) 1001 1001) (W.alloc (.cells K 4)) := fun W => by rw [hK]; exact mk_bools W
    obtain ⟨g, hg⟩ : ∃ g, g = w1.heap.size := ⟨_, rfl⟩
    obtain ⟨w2, hw2⟩ : ∃ w2, w2 = w1.alloc (.cells K 4) := ⟨_, rfl⟩
    have HA2 : Hid (Arr g w2 []) := by show Arr _ _ _; rw [hg, hw2, hK]; exact arr_made w1
    have hgw : w.heap.size < g := by rw [hg]; exact (Array.getElem?_eq_some_iff.1 HE1.out).1
    have HB12 : Hid (Below w1.heap.size w1 w2) := by show Below _ _ _; rw [hw2]; exact (Below.refl _ _).alloc (Nat.le_refl _) _
    have HB2 : Hid (Below w.heap.size w w2) := HB1.out.trans (HB12.out.mono HB1.out.size)
    have HE2 : Hid (∀ W, Touch g (g + 1) w2 W → OwnL w.heap.size W (some ⟨w.heap.size, 0, none⟩) 0 0 [] ∧ Below w.heap.size w W) := fun W ht => by
      have l2 : w.heap.size < w2.heap.size := Nat.lt_trans hgw HA2.out.lt
      refine ⟨ownL_empty_at ((ht.block _ l2 (.inl hgw)).trans ((HB12.out.block _ (by rw [← hg]; exact hgw)).trans HE1.out)) (Nat.le_refl _), HB2.out.trans (ht.below (Nat.le_of_lt hgw) (Nat.le_of_lt l2))⟩
    have HW2 : Hid (_ = _) := hw2
    have HG : Hid (_ = _) := hg
    clear hw2 hg hK HE1 HB1 HB12 HB2
    go_upto_region 5 with fail
    rw [← HW2.out, ← HG.out]
    clear HW2 HG hmk
    go_wp2
    go_loopw [14] (fun i wr => ∃ k : Nat, k ≤ nq ∧ i = .int .i64 k ∧ Hid (∀ j, j < k → 0 ≤ q.getD j 0 ∧ q.getD j 0 ≤ 1000) ∧ Hid (Arr g wr (q.take k)) ∧ Hid (Touch g (g + 1) w2 wr)) (fun i _ => nq - (intOf i).toNat)
    case atStart => exact ⟨0, Nat.zero_le _, rfl, (fun j hj => absurd hj (Nat.not_lt_zero _)), HA2, touch_refl _⟩
    case round =>
      obtain ⟨k, hk, rfl, HAK, HAR, HT⟩ := hrel
      by_cases hlt : k < nq
      · obtain ⟨HO, HBW⟩ := HE2.out _ HT.out
        obtain ⟨b, off, rfl, hlb, hc⟩ := (HQ.out.kept HBW).get k hlt
        obtain ⟨v, hv⟩ : ∃ v, v = q.getD k 0 := ⟨_, rfl⟩
        rw [← hv] at hc
        have HV : Hid (v = q.getD k 0) := hv
        have hlti : (k : Int) < (nq : Int) := by omega
        clear hv
        by_cases hr : 0 ≤ v ∧ v ≤ 1000
        · obtain ⟨m, rfl⟩ : ∃ m : Nat, v = (m : Int) := ⟨v.toNat, by omega⟩
          have hm : m < 1001 := by omega
          have hcm := HAR.out.cell m hm
          have hfm := HAR.out.frozen m
          have HBW' : Hid (Below w.heap.size w wr) := HBW
          have HO' : Hid (_) := HO
          clear HO HBW
          have HAN : Hid (Arr g (wr.setCell ⟨g, m, none⟩ (.bool true)) (q.take (k + 1))) := by
            show Arr _ _ _
            rw [take_next64 q k (by rw [HQL.out]; exact hlt), ← HV.out]
            exact HAR.out.store m
          have HTN : Hid (Touch g (g + 1) w2 (wr.setCell ⟨g, m, none⟩ (.bool true))) := HT.out.trans (touch_setP _ _ _)
          have HKN : Hid (∀ j, j < k + 1 → 0 ≤ q.getD j 0 ∧ q.getD j 0 ≤ 1000) := fun j hj => by
            by_cases e : j < k
            · exact HAK.out j e
            · obtain rfl : j = k := by omega
              rw [← HV.out]; exact hr
          clear HT HAR HAK
          go_wp2_with fail
          refine (l1In_t _ 0 1000 _ hr).mono ?_
          rintro e w3 ⟨rfl, hw3⟩; have hw4 := hw3.symm; subst hw4
          clear hr
          go_wp2
          go_roundw
          case rel => exact ⟨k + 1, by omega, by go_num, HKN, HAN, HTN⟩
          case measure => simp [intOf]; omega
        · have HN : Hid (¬ ppP xs q need noMap noAny) := fun e => hr (by rw [HV.out]; exact e.2.1.2 k (by rw [HQL.out]; exact hlt))
          have HBW' : Hid (Below w.heap.size w wr) := HBW
          have HO' : Hid (OwnL w.heap.size wr (some ⟨w.heap.size, 0, none⟩) 0 0 []) := HO
          clear HO HBW
          go_wp2_with fail
          refine (l1In_f _ 0 1000 _ hr).mono ?_
          rintro e w3 ⟨rfl, hw3⟩; have hw4 := hw3.symm; subst hw4
          go_wp2
          go_ret2
          exact ppR_f HN.out HO'.out HBW'.out
      · obtain rfl : k = nq := by omega
        have hge : ¬ ((k : Int) < (k : Int)) := by omega
        have HASK : Hid (askP q) := by
          refine ⟨by rw [HQL.out]; exact ⟨hn1, hn20⟩, fun j hj => HAK.out j (by rw [← HQL.out]; exact hj)⟩
        have HTK : Hid (q.take k = namesL q xs 0) := by show _ = _; rw [names_zero, List.take_of_length_le (by rw [HQL.out]; exact Nat.le_refl _)]
        rw [HTK.out] at HAR
        have HHZ : Hid (∀ (x : Int) (W : World), Below w.heap.size w W → Calls Try.prog 45 #[.slice aq k cq, .int .i64 x] W fun e w' => e = .returned (.bool (decide (x ∈ q))) ∧ w' = W) := fun x W hW => l1HasNum_any aq k cq q x W (HQ.out.kept hW) (by omega)
        have HQ20 : Hid (q.length ≤ 20) := by show _ ≤ _; rw [HQL.out]; exact hn20
        have bn := ctr0_bounds need np hp8
        obtain ⟨q0, hq0⟩ : ∃ q0, q0 = ctr0 need np := ⟨_, rfl⟩
        have HF : Hid (∀ W, Calls Try.prog 43 #[.bool need, .int .i64 np] W fun e w' => e = .returned (.int .i64 q0) ∧ w' = W) := fun W => by rw [hq0]; exact l12First_any need np W hp8
        rw [← hq0] at bn
        have HQ0 : Hid (q0 = ctr0 need np) := hq0
        have HCN : Hid (∀ i, 0 ≤ ctr PC.need q0 xs i ∧ ctr PC.need q0 xs i ≤ 9) := fun i => ctr_bounds _ xs bn.1 bn.2 i
        clear hq0 HTK HAK HA2 bn
        go_wp2_with fail
        refine (HF.out _).mono ?_
        rintro e w3 ⟨rfl, hw3⟩; have hw4 := hw3.symm; subst hw4
        clear HF
        go_wp2
        have HR2 : Hid (Touch g (g + 1) w2 wr) := HT.out
        obtain ⟨wa, hwa⟩ : ∃ wa, wa = wr := ⟨_, rfl⟩
        rw [← hwa] at HAR HR2 ⊢
        clear hwa HT
        go_loopw [15, 16] (fun nd i wr => ∃ (k : Nat) (c : Int), k ≤ np ∧ nd = .int .i64 c ∧ i = .int .i64 k ∧ 0 ≤ c ∧ c ≤ 9 ∧ Hid ((k < np → c = ctr PC.need q0 xs k) ∧ (k = np → (c = 0 ↔ ctr PC.need q0 xs np = 0))) ∧ Hid (Arr g wr (namesL q xs k)) ∧ Hid (Touch g (g + 1) w2 wr)) (fun _ i _ => np - (intOf i).toNat)
        case atStart => exact ⟨0, q0, Nat.zero_le _, rfl, rfl, (HCN.out 0).1, (HCN.out 0).2, ⟨fun _ => rfl, fun e => by omega⟩, HAR, HR2⟩
        case round =>
          obtain ⟨k, c, hk, rfl, rfl, hc0, hc9, HC, HAR, HT⟩ := hrel
          clear HR2
          by_cases hlt : k < np
          · obtain ⟨b, off, a1, n1, d1, a2, n2, d2, rfl, hlb, hcc, hpc⟩ := (H0.out.kept (HE2.out _ HT.out).2).get k hlt
            obtain ⟨y, hy⟩ : ∃ y, y = xs.getD k default := ⟨_, rfl⟩
            rw [← hy] at hcc hpc
            have HY : Hid (y = xs.getD k default) := hy
            obtain ⟨c0, c1, c2, c3, c4, c5⟩ := hcc
            have hlti : (k : Int) < (np : Int) := by omega
            obtain ⟨w5, hw5⟩ : ∃ w5, w5 = wr.alloc (.cells #[.slice a1 n1 d1, .slice a2 n2 d2, .bool y.self, .int .i64 y.need, .int .i64 y.nomap, .int .i64 y.noany] 41) := ⟨_, rfl⟩
            have hh5 : w5.heap[wr.heap.size]? = some (.cells #[.slice a1 n1 d1, .slice a2 n2 d2, .bool y.self, .int .i64 y.need, .int .i64 y.nomap, .int .i64 y.noany] 41 (0, 0)) := by rw [hw5]; exact heap_alloc_new _ _
            have HK5 : Hid (Below wr.heap.size wr w5) := by show Below _ _ _; rw [hw5]; exact (Below.refl _ _).alloc (Nat.le_refl _) _
            have hgr : g < wr.heap.size := HAR.out.lt
            have HX : Hid (∀ W, Touch g (g + 1) w5 W → (W.cell? ⟨wr.heap.size, 0, none⟩ = some (.slice a1 n1 d1) ∧ W.cell? ⟨wr.heap.size, 1, none⟩ = some (.slice a2 n2 d2) ∧ W.cell? ⟨wr.heap.size, 2, none⟩ = some (.bool y.self) ∧ W.cell? ⟨wr.heap.size, 3, none⟩ = some (.int .i64 y.need)) ∧ wr.heap.size < W.heap.size) := fun W hW => by
              have l5 := (Array.getElem?_eq_some_iff.1 hh5).1
              have hh := (hW.block _ l5 (.inr hgr)).trans hh5
              exact ⟨⟨(cell_of_row _ _ 0 _ 41 (0, 0) hh).trans rfl, (cell_of_row _ _ 1 _ 41 (0, 0) hh).trans rfl, (cell_of_row _ _ 2 _ 41 (0, 0) hh).trans rfl, (cell_of_row _ _ 3 _ 41 (0, 0) hh).trans rfl⟩, (Array.getElem?_eq_some_iff.1 hh).1⟩
            have HPC : Hid (PcAt wr a1 n1 d1 a2 n2 y) := hpc
            have HTW : Hid (∀ W, Touch g (g + 1) w5 W → Touch g (g + 1) w2 W ∧ PcAt W a1 n1 d1 a2 n2 y) := fun W hW => by
              have t2 : Touch g (g + 1) w2 W := (HT.out.trans (Touch.of_below HK5.out)).trans hW
              refine ⟨t2, ?_⟩
              obtain ⟨b', off', a1', n1', d1', a2', n2', d2', e', hl', hc', hp'⟩ := H0.out.get k hlt
              have hb' := (HE2.out _ HT.out).2
              have hcr := hc'.of (fun i => hb'.cell (p := ⟨b', i, none⟩) hl')
              simp only [Option.some.injEq, Addr.mk.injEq, and_true] at e'
              obtain ⟨rfl, rfl⟩ := e'
              have z0 := hcr.c0.symm.trans c0
              have z1 := hcr.c1.symm.trans c1
              simp only [Option.some.injEq, Value.slice.injEq] at z0 z1
              obtain ⟨rfl, rfl, rfl⟩ := z0
              obtain ⟨rfl, rfl, rfl⟩ := z1
              rw [HY.out]
              exact hp'.kept (HE2.out _ t2).2
            have HA5 : Hid (Arr g w5 (namesL q xs k ++ y.pols.take 0)) := by
              show Arr _ _ _
              rw [List.take_zero, List.append_nil]
              exact HAR.out.kept HK5.out
            have HCP : Hid (certP y) := by show certP y; rw [hy]; exact HP.out.2 k (by rw [HL.out]; exact hlt)
            have HNL : Hid (y.pols.length = n1 ∧ y.maps.length = n2) := ⟨hpc.pol.len, hpc.mp.len⟩
            have hn16 : n1 ≤ 6 := by rw [← hpc.pol.len]; exact HCP.out.1.1
            have hn26 : n2 ≤ 6 := by rw [← hpc.mp.len]; exact HCP.out.1.2
            have HW5 : Hid (_ = _) := hw5
            clear hy hh5 hw5 hpc
            go_upto_region 16 with fail
            rw [← HW5.out]
            clear HW5 c0 c1 c2 c3 c4 c5 HK5
            obtain ⟨gc, hgc⟩ : ∃ gc, gc = wr.heap.size := ⟨_, rfl⟩
            rw [← hgc] at HX hgr ⊢
            clear hgc HPC HT HAR
            go_wp2
            go_loopw [18] (fun t wr => ∃ s : Nat, s ≤ n1 ∧ t = .int .i64 s ∧ Hid (Arr g wr (namesL q xs k ++ y.pols.take s)) ∧ Hid (Touch g (g + 1) w5 wr)) (fun t _ => n1 - (intOf t).toNat)
            case atStart => exact ⟨0, Nat.zero_le _, rfl, HA5, touch_refl _⟩
            case round =>
              obtain ⟨s, hs, rfl, HAR, HT⟩ := hrel
              clear HA5
              obtain ⟨⟨x0, x1, x2, x3⟩, lx⟩ := HX.out _ HT.out
              by_cases hsl : s < n1
              · obtain ⟨bo, oo, rfl, hbo, hv⟩ := (HTW.out _ HT.out).2.pol.get s hsl
                have hr := HCP.out.2.2.1 s (by rw [HNL.out.1]; exact hsl)
                have HTK : Hid (y.pols.take (s + 1) = y.pols.take s ++ [y.pols.getD s 0]) := take_next64 y.pols s (by rw [HNL.out.1]; exact hsl)
                obtain ⟨v, hvv⟩ : ∃ v, v = y.pols.getD s 0 := ⟨_, rfl⟩
                rw [← hvv] at hv hr HTK
                obtain ⟨m, rfl⟩ : ∃ m : Nat, v = (m : Int) := ⟨v.toNat, by omega⟩
                have hm : m < 1001 := by omega
                have hcm := HAR.out.cell m hm
                have hfm := HAR.out.frozen m
                have hsi : (s : Int) < (n1 : Int) := by omega
                have HAN : Hid (Arr g (wr.setCell ⟨g, m, none⟩ (.bool true)) (namesL q xs k ++ y.pols.take (s + 1))) := by
                  show Arr _ _ _
                  rw [HTK.out, ← List.append_assoc]
                  exact HAR.out.store m
                have HTN : Hid (Touch g (g + 1) w5 (wr.setCell ⟨g, m, none⟩ (.bool true))) := HT.out.trans (touch_setP _ _ _)
                clear HT HAR hvv hr HTK
                go_wp2
                go_roundw
                case rel => exact ⟨s + 1, by omega, by go_num, HAN, HTN⟩
                case measure => simp [intOf]; omega
              · obtain rfl : s = n1 := by omega
                have hge : ¬ ((s : Int) < (s : Int)) := by omega
                have HA6 : Hid (Arr g wr (namesL q xs k ++ y.pols ++ (y.maps.take 0).flatMap two)) := by
                  have h := HAR.out
                  rw [List.take_of_length_le (by rw [HNL.out.1]; exact Nat.le_refl _)] at h
                  show Arr _ _ _
                  simpa using h
                have HT6 : Hid (Touch g (g + 1) w5 wr) := HT.out
                clear HAR HT
                go_wp2
                obtain ⟨wb, hwb⟩ : ∃ wb, wb = wr := ⟨_, rfl⟩
                rw [← hwb] at HA6 HT6 ⊢
                clear hwb x0 x1 x2 x3 lx
                go_loopw [19] (fun t wr => ∃ s : Nat, s ≤ n2 ∧ t = .int .i64 s ∧ Hid (Arr g wr (namesL q xs k ++ y.pols ++ (y.maps.take s).flatMap two)) ∧ Hid (Touch g (g + 1) w5 wr)) (fun t _ => n2 - (intOf t).toNat)
                case atStart => exact ⟨0, Nat.zero_le _, rfl, HA6, HT6⟩
                case round =>
                  obtain ⟨r, hr, rfl, HAR, HT⟩ := hrel
                  clear HA6 HT6
                  obtain ⟨⟨x0, x1, x2, x3⟩, lx⟩ := HX.out _ HT.out
                  by_cases hrl : r < n2
                  · obtain ⟨bo, oo, rfl, hbo, hv, hu⟩ := (HTW.out _ HT.out).2.mp.get r hrl
                    have hrr := HCP.out.2.2.2.2 r (by rw [HNL.out.2]; exact hrl)
                    have HTK : Hid ((y.maps.take (r + 1)).flatMap two = (y.maps.take r).flatMap two ++ [(y.maps.getD r (0, 0)).1] ++ [(y.maps.getD r (0, 0)).2]) := maps_next y.maps r (by rw [HNL.out.2]; exact hrl)
                    obtain ⟨v, hvv⟩ : ∃ v, v = (y.maps.getD r (0, 0)).1 := ⟨_, rfl⟩
                    obtain ⟨u, huu⟩ : ∃ u, u = (y.maps.getD r (0, 0)).2 := ⟨_, rfl⟩
                    rw [← hvv] at hv hrr HTK
                    rw [← huu] at hu hrr HTK
                    obtain ⟨m, rfl⟩ : ∃ m : Nat, v = (m : Int) := ⟨v.toNat, by omega⟩
                    obtain ⟨m', rfl⟩ : ∃ m' : Nat, u = (m' : Int) := ⟨u.toNat, by omega⟩
                    have hm : m < 1001 := by omega
                    have hm' : m' < 1001 := by omega
                    have hcm := HAR.out.cell m hm
                    have hfm := HAR.out.frozen m
                    have hri : (r : Int) < (n2 : Int) := by omega
                    have HA1 : Hid (Arr g (wr.setCell ⟨g, m, none⟩ (.bool true)) (namesL q xs k ++ y.pols ++ (y.maps.take r).flatMap two ++ [(m : Int)])) := HAR.out.store m
                    have HT1 : Hid (Touch g (g + 1) w5 (wr.setCell ⟨g, m, none⟩ (.bool true))) := HT.out.trans (touch_setP _ _ _)
                    clear HT HAR hvv huu hrr
                    go_upto_region 24 with fail
                    obtain ⟨w6, hw6⟩ : ∃ w6, w6 = wr.setCell ⟨g, m, none⟩ (.bool true) := ⟨_, rfl⟩
                    rw [← hw6] at HA1 HT1 ⊢
                    clear hw6 x0 x1 x2 x3 lx hcm hfm hv hu hbo
                    obtain ⟨⟨x0, x1, x2, x3⟩, lx⟩ := HX.out _ HT1.out
                    obtain ⟨bo', oo', eo, hbo, hv, hu⟩ := (HTW.out _ HT1.out).2.mp.get r hrl
                    simp only [Option.some.injEq, Addr.mk.injEq, and_true] at eo
                    obtain ⟨rfl, rfl⟩ := eo
                    have huu : (y.maps.getD r (0, 0)).2 = (m' : Int) := by
                      have h := HTK.out
                      rw [maps_next y.maps r (by rw [HNL.out.2]; exact hrl)] at h
                      have h2 := List.append_inj_right' h rfl
                      simpa using h2
                    rw [huu] at hu
                    have hcm := HA1.out.cell m' hm'
                    have hfm := HA1.out.frozen m'
                    have HAN : Hid (Arr g (w6.setCell ⟨g, m', none⟩ (.bool true)) (namesL q xs k ++ y.pols ++ (y.maps.take (r + 1)).flatMap two)) := by
                      show Arr _ _ _
                      rw [HTK.out, ← List.append_assoc, ← List.append_assoc]
                      exact HA1.out.store m'
                    have HTN : Hid (Touch g (g + 1) w5 (w6.setCell ⟨g, m', none⟩ (.bool true))) := HT1.out.trans (touch_setP _ _ _)
                    clear HA1 HT1 HTK huu hv
                    go_wp2
                    go_roundw
                    case rel => exact ⟨r + 1, by omega, by go_num, HAN, HTN⟩
                    case measure => simp [intOf]; omega
                  · obtain rfl : r = n2 := by omega
                    have hge2 : ¬ ((r : Int) < (r : Int)) := by omega
                    have HAN : Hid (Arr g wr (namesL q xs (k + 1))) := by
                      show Arr _ _ _
                      rw [names_next q xs k (by rw [HL.out]; exact hlt), ← HY.out]
                      unfold nmOf
                      rw [← List.append_assoc]
                      have h := HAR.out
                      rw [List.take_of_length_le (by rw [HNL.out.2]; exact Nat.le_refl _)] at h
                      exact h
                    have HTN : Hid (Touch g (g + 1) w2 wr) := (HTW.out _ HT.out).1
                    have bnx := nxt_bounds y.self y.need hc0 hc9
                    have bn1 := nxt_bounds y.self (-1) hc0 hc9
                    have HCK : Hid (c = ctr PC.need q0 xs k) := HC.out.1 hlt
                    have hnd := HCP.out.2.1.1.1
                    have HCT : Hid (ctr PC.need q0 xs (k + 1) = nxt c y.self y.need) := by show ctr PC.need q0 xs (k + 1) = _; rw [HCK.out, HY.out]; rfl
                    have HLS : Hid ((if y.need = 0 then 0 else nxt c y.self (-1)) = 0 ↔ nxt c y.self y.need = 0) := need_last c y.need y.self hc0 hc9 hnd
                    have HF1 : Hid (∀ W, Calls Try.prog 44 #[.int .i64 c, .bool y.self, .int .i64 y.need] W fun e w' => e = .returned (.int .i64 (nxt c y.self y.need)) ∧ w' = W) := fun W => l12Next_any c y.self y.need W hc0 hc9
                    have HF2 : Hid (∀ W, Calls Try.prog 44 #[.int .i64 c, .bool y.self, .int .i64 (-1)] W fun e w' => e = .returned (.int .i64 (nxt c y.self (-1))) ∧ w' = W) := fun W => l12Next_any c y.self (-1) W hc0 hc9
                    obtain ⟨v1, hv1⟩ : ∃ v1, v1 = nxt c y.self y.need := ⟨_, rfl⟩
                    obtain ⟨v2, hv2⟩ : ∃ v2, v2 = nxt c y.self (-1) := ⟨_, rfl⟩
                    rw [← hv1] at bnx HCT HLS HF1
                    rw [← hv2] at bn1 HLS HF2
                    clear hv1 hv2 HAR HT HC HCK hnd
                    by_cases hlast : k + 1 < np
                    · have hla : (k : Int) < (np : Int) - 1 := by omega
                      have HCN2 : Hid ((k + 1 < np → v1 = ctr PC.need q0 xs (k + 1)) ∧ (k + 1 = np → (v1 = 0 ↔ ctr PC.need q0 xs np = 0))) := ⟨fun _ => HCT.out.symm, fun e => by omega⟩
                      clear HCT HLS
                      go_wp2_with fail
                      refine (HF1.out _).mono ?_
                      rintro e w3 ⟨rfl, hw3⟩; have hw4 := hw3.symm; subst hw4
                      clear HF1 HF2
                      go_wp2
                      go_roundw
                      case rel => exact ⟨k + 1, v1, by omega, rfl, by go_num, bnx.1, bnx.2, HCN2, HAN, HTN⟩
                      case measure => simp [intOf]; omega
                    · have hla : ¬ ((k : Int) < (np : Int) - 1) := by omega
                      have hkn : k + 1 = np := by omega
                      go_wp2_with fail
                      refine (HF2.out _).mono ?_
                      rintro e w3 ⟨rfl, hw3⟩; have hw4 := hw3.symm; subst hw4
                      clear HF1 HF2
                      by_cases hz : y.need = 0
                      · have hzb : (y.need == 0) = true := beq_iff_eq.2 hz
                        have HZ : Hid (ctr PC.need q0 xs np = 0) := by
                          have h := HLS.out
                          rw [if_pos hz] at h
                          show _ = _
                          rw [← hkn, HCT.out]; exact h.1 rfl
                        clear HCT HLS hz
                        go_wp2
                        go_roundw
                        case rel => exact ⟨k + 1, 0, by omega, rfl, by go_num, by decide, by decide, ⟨fun e => by omega, fun _ => ⟨fun _ => HZ.out, fun _ => rfl⟩⟩, HAN, HTN⟩
                        case measure => simp [intOf]; omega
                      · have hzb : (y.need == 0) = false := beq_false_of_ne hz
                        have HCN2 : Hid ((k + 1 < np → v2 = ctr PC.need q0 xs (k + 1)) ∧ (k + 1 = np → (v2 = 0 ↔ ctr PC.need q0 xs np = 0))) := ⟨fun e => by omega, fun e => by
                          have h := HLS.out
                          rw [if_neg hz] at h
                          rw [← e, HCT.out]; exact h⟩
                        clear HCT HLS
                        go_wp2
                        go_roundw
                        case rel => exact ⟨k + 1, v2, by omega, rfl, by go_num, bn1.1, bn1.2, HCN2, HAN, HTN⟩
                        case measure => simp [intOf]; omega
          · have hkn : k = np := by omega
            subst hkn
            have hge : ¬ ((k : Int) < (k : Int)) := by omega
            have HNC : Hid (c = 0 ↔ ctr PC.need q0 xs k = 0) := HC.out.2 rfl
            have hN164 : (namesL q xs k).length ≤ 164 := by
              have := names_len HP.out HQ20.out k (by rw [HL.out]; exact Nat.le_refl _)
              omega
            obtain ⟨N, hN⟩ : ∃ N, N = namesL q xs k := ⟨_, rfl⟩
            rw [← hN] at HAR hN164
            have HN164 : Hid (N.length ≤ 164) := hN164
            have HN : Hid (N = namesL q xs k) := hN
            obtain ⟨hold, hhold⟩ : ∃ hold, hold = holdB xs noMap noAny := ⟨_, rfl⟩
            have HHO : Hid (hold = holdB xs noMap noAny) := hhold
            have HH : Hid (∀ (p : Int) (W : World), Below w.heap.size w W → Calls Try.prog 46 #[.slice ap k cp, .int .i64 p, .bool noMap, .bool noAny] W fun e w' => e = .returned (.bool (hold p)) ∧ Below W.heap.size W w') := fun p W hW => (l12Holds_any ap k cp xs p noMap noAny W (H0.out.kept hW) HP.out).mono (fun e w' h => by
              obtain ⟨b, rfl, hb, hbl⟩ := h
              refine ⟨?_, hbl⟩
              have e : hold p = b := by
                rw [hhold]
                unfold holdB
                rw [HL.out]
                cases b with
                | true => exact decide_eq_true (hb.out.1 rfl)
                | false => exact decide_eq_false (fun h => absurd (hb.out.2 h) (by decide))
              rw [e])
            obtain ⟨al, hal⟩ : ∃ al, al = decide (0 ∈ q) := ⟨_, rfl⟩
            have HAL : Hid (al = decide (0 ∈ q)) := hal
            have HZA : Hid (∀ W, Below w.heap.size w W → Calls Try.prog 45 #[.slice aq _ cq, .int .i64 0] W fun e w' => e = .returned (.bool al) ∧ w' = W) := fun W hW => by rw [hal]; exact HHZ.out 0 W hW
            have HB3 : Hid (Below w.heap.size w wr) := (HE2.out _ HT.out).2
            have HO3 : Hid (OwnL w.heap.size wr (some ⟨w.heap.size, 0, none⟩) 0 0 []) := (HE2.out _ HT.out).1
            clear hN hhold hal hN164 HC HT HE2 HCN
            go_wp2_with fail
            refine (HZA.out _ HB3.out).mono ?_
            rintro e w3 ⟨rfl, hw3⟩; have hw4 := hw3.symm; subst hw4
            clear HZA
            go_wp2
            obtain ⟨wc, hwc⟩ : ∃ wc, wc = wr := ⟨_, rfl⟩
            rw [← hwc] at HAR HB3 HO3 ⊢
            clear hwc
            go_loopw [21] (fun o wr => ∃ m : Nat, 1 ≤ m ∧ m ≤ 165 ∧ o = .int .i64 (m : Int) ∧ wc = wr ∧ Hid (othF N (1001 - m) (m : Int) = oth N) ∧ Hid (∀ p : Int, 1 ≤ p → p < m → p ∈ N)) (fun o _ => 1000 - (intOf o).toNat)
            case atStart => exact ⟨1, Nat.le_refl _, by decide, rfl, rfl, rfl, fun p h1 h2 => by omega⟩
            case round =>
              obtain ⟨m, hm1, hm2, rfl, rfl, HOT, HAL1⟩ := hrel
              have hcm := HAR.out.cell m (by omega)
              have hmi : (m : Int) < 1001 := by omega
              by_cases hin : (m : Int) ∈ N
              · rw [decide_eq_true hin] at hcm
                have HALN : Hid (∀ p : Int, 1 ≤ p → p < ((m + 1 : Nat) : Int) → p ∈ N) := fun p h1 h2 => by
                  by_cases e : p < (m : Int)
                  · exact HAL1.out p h1 e
                  · obtain rfl : p = (m : Int) := by omega
                    exact hin
                have hm3 : m + 1 ≤ 165 := by
                  have := run_len m N (fun p h1 h2 => HALN.out p h1 (by omega))
                  have := HN164.out
                  omega
                have HON : Hid (othF N (1001 - (m + 1)) ((m + 1 : Nat) : Int) = oth N) := by
                  show _ = _
                  rw [← HOT.out, show 1001 - m = (1001 - (m + 1)) + 1 by omega, othF, if_pos hin]
                  rfl
                clear HOT HAL1 hin
                go_wp2
                go_roundw
                case rel => exact ⟨m + 1, by omega, hm3, by go_num, by simp, HON, HALN⟩
                case measure => simp [intOf]; omega
              · rw [decide_eq_false hin] at hcm
                have HOM : Hid (oth N = (m : Int)) := by
                  show _ = _
                  rw [← HOT.out, show 1001 - m = (1001 - (m + 1)) + 1 by omega, othF, if_neg hin]
                clear HOT HAL1 hin
                go_upto_region 34 with fail
                go_cut [142] (fun cv wx => cv = .bool (al && hold (m : Int)) ∧ Hid (Arr g wx N) ∧ Hid (Below w.heap.size w wx) ∧ Hid (OwnL w.heap.size wx (some ⟨w.heap.size, 0, none⟩) 0 0 []))
                case first =>
                  cases al with
                  | false =>
                    go_wp2
                    go_meet
                    exact ⟨rfl, HAR, HB3, HO3⟩
                  | true =>
                    go_wp2_with fail
                    refine (HH.out _ _ HB3.out).mono ?_
                    rintro e wx ⟨rfl, hbx⟩
                    have HAX : Hid (Arr g wx N) := HAR.out.kept hbx
                    have HBX : Hid (Below w.heap.size w wx) := HB3.out.trans (hbx.mono HB3.out.size)
                    have HOX : Hid (OwnL w.heap.size wx (some ⟨w.heap.size, 0, none⟩) 0 0 []) := HO3.out.kept hbx
                    obtain ⟨hv, hhv⟩ : ∃ hv, hv = hold (m : Int) := ⟨_, rfl⟩
                    rw [← hhv]
                    have HHV : Hid (hv = hold (m : Int)) := hhv
                    clear hhv hbx
                    go_wp2
                    go_meet
                    exact ⟨by rw [HHV.out]; rfl, HAX, HBX, HOX⟩
                case rest =>
                  obtain ⟨rfl, HAR, HB3, HO3⟩ := hcut
                  obtain ⟨wx, hwx⟩ : ∃ wx, wx = wc := ⟨_, rfl⟩
                  rw [← hwx] at HAR HB3 HO3 ⊢
                  clear hwx
                  obtain ⟨t1, ht1⟩ : ∃ t1, t1 = (al && hold (m : Int)) := ⟨_, rfl⟩
                  have HT1 : Hid (t1 = (al && hold (m : Int))) := ht1
                  rw [← ht1]
                  clear ht1
                  go_upto_if 142 with fail
                  go_cut [12] (fun s wx => ∃ (a : Option Addr) (n c : Nat), s = .slice a n c ∧ n ≤ 1 ∧ Hid (OwnL w.heap.size wx a n c (headT N q hold)) ∧ Hid (Arr g wx N) ∧ Hid (Below w.heap.size w wx))
                  case first =>
                    cases t1 with
                    | false =>
                      have HFT : Hid (headT N q hold = []) := by
                        show _ = _
                        unfold headT
                        rw [HOM.out, ← HAL.out, ← HT1.out, if_neg (by decide)]
                      go_wp2
                      go_meet
                      exact ⟨_, 0, 0, rfl, by decide, by rw [HFT.out]; exact HO3, HAR, HB3⟩
                    | true =>
                      obtain ⟨Z, hZ⟩ : ∃ Z : List Int, Z = [] := ⟨_, rfl⟩
                      have HFT : Hid (headT N q hold = Z ++ [0]) := by
                        show _ = _
                        unfold headT
                        rw [HOM.out, ← HAL.out, ← HT1.out, if_pos rfl, hZ]; rfl
                      rw [← hZ] at HO3
                      clear hZ
                      have hsz := HB3.out.size
                      go_wp2_with (at_builtin; refine wpList_append_own _ rfl _ _ 32 rfl w.heap.size 2 i0 (.int .i64 0) 1 8 Try.underlying32 ih hz0 hz1 hz2 rfl (by decide) _ 0 _ rfl ((HO3.out.kept ((Below.refl _ _).alloc (Nat.le_refl _) _)).row) ⟨wx.heap.size, 0, none⟩ 1 1 ([0].map (Value.int .i64)) rfl rfl (cell_one64P _ _) (ints_oneCell .i64 [0]) (by unfold maxLen; omega) (by omega) (by simp; omega) ?_; intro v' w7 hown' hgrow' _; rw [← List.map_append, ← HFT.out] at hown'; obtain ⟨a7, c7, rfl, ho7⟩ := ownL_appended hown'; have hA7 : Below w.heap.size wx w7 := (((Below.refl w.heap.size wx).alloc hsz _).grown hgrow' (by simp; omega) (fun l hl => ((HO3.out.kept ((Below.refl wx.heap.size wx).alloc (Nat.le_refl _) (.cells #[.int .i64 0] 2))).row.lt l hl).1)); have hR7 : Arr g w7 N := (HAR.out.kept ((Below.refl wx.heap.size wx).alloc (Nat.le_refl _) (.cells #[.int .i64 0] 2))).grown (HO3.out.kept ((Below.refl wx.heap.size wx).alloc (Nat.le_refl _) (.cells #[.int .i64 0] 2))) hgrow')
                      have HO7 : Hid (OwnL w.heap.size w7 a7 (0 + 1) c7 (headT N q hold)) := ho7
                      have HA7 : Hid (Arr g w7 N) := hR7
                      have HB7 : Hid (Below w.heap.size w w7) := HB3.out.trans hA7
                      clear hown' hgrow' ho7 hA7 hR7
                      go_wp2
                      go_meet
                      exact ⟨a7, 1, c7, rfl, Nat.le_refl _, HO7, HA7, HB7⟩
                  case rest =>
                    obtain ⟨ao0, no0, co0, rfl, hno0, HO3, HAR, HB3⟩ := hcut
                    obtain ⟨wx, hwx⟩ : ∃ wx, wx = wc := ⟨_, rfl⟩
                    rw [← hwx] at HAR HB3 HO3 ⊢
                    clear hwx
                    clear HT1 HOM hcm hmi hm1 hm2
                    have HO4 : Hid (OwnL w.heap.size wx ao0 no0 co0 (headT N q hold ++ tailT N q hold 0)) := by show OwnL _ _ _ _ _ _; rw [tail_zero, List.append_nil]; exact HO3.out
                    clear HO3
                    go_wp2
                    obtain ⟨wd, hwd⟩ : ∃ wd, wd = wx := ⟨_, rfl⟩
                    rw [← hwd] at HAR HB3 HO4 ⊢
                    clear hwd
                    go_loopw [12, 22] (fun s p wr => ∃ (m ln cap : Nat) (ao : Option Addr), 1 ≤ m ∧ m ≤ 1001 ∧ s = .slice ao ln cap ∧ p = .int .i64 (m : Int) ∧ ln ≤ m ∧ Hid (OwnL w.heap.size wr ao ln cap (headT N q hold ++ tailT N q hold (m - 1))) ∧ Hid (Arr g wr N) ∧ Hid (Below w.heap.size w wr)) (fun _ p _ => 1001 - (intOf p).toNat)
                    case atStart => exact ⟨1, no0, co0, ao0, Nat.le_refl _, by decide, rfl, rfl, by omega, HO4, HAR, HB3⟩
                    case round =>
                      obtain ⟨m, ln, cap, ao, hm1, hm2, rfl, rfl, hln, HOR, HAR2, HBR⟩ := hrel
                      clear HAR HB3 HO4 hno0
                      obtain ⟨r, hmr⟩ : ∃ r : Nat, r = m - 1 := ⟨_, rfl⟩
                      rw [← hmr] at HOR
                      by_cases hlt : m ≤ 1000
                      · have hcm := HAR2.out.cell m (by omega)
                        have hmi : (m : Int) ≤ 1000 := by omega
                        have hmj : (m : Int) < 1001 := by omega
                        obtain ⟨nb, hnb⟩ : ∃ nb, nb = decide ((m : Int) ∈ N) := ⟨_, rfl⟩
                        rw [← hnb] at hcm
                        have HNB : Hid (nb = decide ((m : Int) ∈ N)) := hnb
                        obtain ⟨t2, ht2⟩ : ∃ t2, t2 = tellB N q hold (m : Int) := ⟨_, rfl⟩
                        have HTB : Hid (t2 = (nb && (al || decide ((m : Int) ∈ q)) && hold (m : Int))) := by show _ = _; rw [ht2, hnb, HAL.out]; rfl
                        have HTT : Hid (tailT N q hold m = tailT N q hold r ++ (if t2 = true then [(m : Int)] else [])) := by
                          show _ = _
                          have e : m = r + 1 := by omega
                          rw [ht2, e, tail_next N q hold r]
                          rfl
                        have HMR : Hid (r = m - 1) := hmr
                        clear hnb ht2 hmr
                        go_upto_region 39 with fail
                        go_cut [168] (fun cv wx => cv = .bool t2 ∧ Hid (Arr g wx N) ∧ Hid (Below w.heap.size w wx) ∧ Hid (OwnL w.heap.size wx ao ln cap (headT N q hold ++ tailT N q hold r)))
                        case first =>
                          cases nb with
                          | false =>
                            have HT0 : Hid (t2 = false) := HTB.out
                            go_wp2
                            go_meet
                            exact ⟨by rw [HT0.out], HAR2, HBR, HOR⟩
                          | true =>
                            cases al with
                            | true =>
                              have HT0 : Hid (t2 = hold (m : Int)) := HTB.out
                              go_wp2_with fail
                              refine (HH.out _ _ HBR.out).mono ?_
                              rintro e wx ⟨rfl, hbx⟩
                              have HAX : Hid (Arr g wx N) := HAR2.out.kept hbx
                              have HBX : Hid (Below w.heap.size w wx) := HBR.out.trans (hbx.mono HBR.out.size)
                              have HOX : Hid (OwnL w.heap.size wx ao ln cap (headT N q hold ++ tailT N q hold r)) := HOR.out.kept hbx
                              rw [← HT0.out]
                              clear hbx HT0
                              go_wp2
                              go_meet
                              exact ⟨rfl, HAX, HBX, HOX⟩
                            | false =>
                              go_wp2_with fail
                              refine (HHZ.out _ _ HBR.out).mono ?_
                              rintro e w3 ⟨rfl, hw3⟩; have hw4 := hw3.symm; subst hw4
                              by_cases hmq : (m : Int) ∈ q
                              · rw [decide_eq_true hmq]
                                have HT0 : Hid (t2 = hold (m : Int)) := by show _ = _; rw [HTB.out, decide_eq_true hmq]; rfl
                                clear hmq
                                go_wp2_with fail
                                refine (HH.out _ _ HBR.out).mono ?_
                                rintro e wx ⟨rfl, hbx⟩
                                have HAX : Hid (Arr g wx N) := HAR2.out.kept hbx
                                have HBX : Hid (Below w.heap.size w wx) := HBR.out.trans (hbx.mono HBR.out.size)
                                have HOX : Hid (OwnL w.heap.size wx ao ln cap (headT N q hold ++ tailT N q hold r)) := HOR.out.kept hbx
                                rw [← HT0.out]
                                clear hbx HT0
                                go_wp2
                                go_meet
                                exact ⟨rfl, HAX, HBX, HOX⟩
                              · rw [decide_eq_false hmq]
                                have HT0 : Hid (t2 = false) := by show _ = _; rw [HTB.out, decide_eq_false hmq]; rfl
                                clear hmq
                                go_wp2
                                go_meet
                                exact ⟨by rw [HT0.out], HAR2, HBR, HOR⟩
                        case rest =>
                          obtain ⟨rfl, HAR, HB3, HO3⟩ := hcut
                          obtain ⟨wx, hwx⟩ : ∃ wx, wx = wc := ⟨_, rfl⟩
                          rw [← hwx] at HAR HB3 HO3 ⊢
                          clear hwx
                          clear HAR2 HBR HOR HTB hcm HNB
                          cases t2 with
                          | false =>
                            have HFT : Hid (headT N q hold ++ tailT N q hold m = headT N q hold ++ tailT N q hold r) := by show _ = _; rw [HTT.out, if_neg (by decide), List.append_nil]
                            go_wp2
                            go_roundw
                            case rel => exact ⟨m + 1, ln, cap, ao, by omega, by omega, rfl, by go_num, by omega, by rw [Nat.add_sub_cancel, HFT.out]; exact HO3, HAR, HB3⟩
                            case measure => simp [intOf]; omega
                          | true =>
                            have HFT : Hid (headT N q hold ++ tailT N q hold m = headT N q hold ++ tailT N q hold r ++ [(m : Int)]) := by show _ = _; rw [HTT.out, if_pos rfl, List.append_assoc]
                            have hsz := HB3.out.size
                            go_wp2_with (at_builtin; refine wpList_append_own _ rfl _ _ 32 rfl w.heap.size 2 i0 (.int .i64 0) 1 8 Try.underlying32 ih hz0 hz1 hz2 rfl (by decide) _ ln _ rfl ((HO3.out.kept ((Below.refl _ _).alloc (Nat.le_refl _) _)).row) ⟨wx.heap.size, 0, none⟩ 1 1 ([(m : Int)].map (Value.int .i64)) rfl rfl (cell_one64P _ _) (ints_oneCell .i64 [(m : Int)]) (by unfold maxLen; omega) (by omega) (by simp; omega) ?_; intro v' w7 hown' hgrow' _; rw [← List.map_append, ← HFT.out] at hown'; obtain ⟨a7, c7, rfl, ho7⟩ := ownL_appended hown'; have hA7 : Below w.heap.size wx w7 := (((Below.refl w.heap.size wx).alloc hsz _).grown hgrow' (by simp; omega) (fun l hl => ((HO3.out.kept ((Below.refl wx.heap.size wx).alloc (Nat.le_refl _) (.cells #[.int .i64 (m : Int)] 2))).row.lt l hl).1)); have hR7 : Arr g w7 N := (HAR.out.kept ((Below.refl wx.heap.size wx).alloc (Nat.le_refl _) (.cells #[.int .i64 (m : Int)] 2))).grown (HO3.out.kept ((Below.refl wx.heap.size wx).alloc (Nat.le_refl _) (.cells #[.int .i64 (m : Int)] 2))) hgrow')
                            have HO7 : Hid (OwnL w.heap.size w7 a7 (ln + 1) c7 (headT N q hold ++ tailT N q hold m)) := ho7
                            have HA7 : Hid (Arr g w7 N) := hR7
                            have HB7 : Hid (Below w.heap.size w w7) := HB3.out.trans hA7
                            clear hown' hgrow' ho7 hA7 hR7
                            go_wp2
                            go_roundw
                            case rel => exact ⟨m + 1, ln + 1, c7, a7, by omega, by omega, rfl, by go_num, by omega, by rw [Nat.add_sub_cancel]; exact HO7, HA7, HB7⟩
                            case measure => simp [intOf]; omega
                      · have hgt : ¬ ((m : Int) ≤ 1000) := by omega
                        have hr1 : r = 1000 := by omega
                        have HTL : Hid (headT N q hold ++ tailT N q hold r = ppT xs q noMap noAny) := by
                          show _ = _
                          unfold ppT toldL
                          rw [HL.out, ← HN.out, ← HHO.out, hr1]
                        rw [HTL.out] at HOR
                        have HOL : Hid ((ppT xs q noMap noAny).length = ln) := HOR.out.len
                        have HCC : Hid (ctr PC.need (ctr0 need xs.length) xs xs.length = 0 ↔ c = 0) := by
                          show _ ↔ _
                          rw [HL.out, ← HQ0.out]
                          exact HNC.out.symm
                        have hln2 : ln ≤ 1001 := by omega
                        clear HTL HAR2 HNC hmr hr1
                        by_cases hz : c = 0
                        · have hzb : (c == 0) = true := beq_iff_eq.2 hz
                          by_cases hl : ln = 0
                          · have hlb : ((ln : Int) == 0) = true := beq_iff_eq.2 (by omega)
                            have HNP : Hid (¬ ppP xs q need noMap noAny) := fun e => e.2.2 ⟨List.eq_nil_of_length_eq_zero (by rw [HOL.out]; exact hl), HCC.out.2 hz⟩
                            have HF : Hid (OwnL w.heap.size (wr.alloc (.cells #[] 2)) (some ⟨wr.heap.size, 0, none⟩) 0 0 []) := ownL_mono (ownL_empty wr) HBR.out.size
                            have HBF : Hid (Below w.heap.size w (wr.alloc (.cells #[] 2))) := HBR.out.alloc HBR.out.size _
                            clear hz hl
                            go_wp2
                            go_ret2
                            exact ppR_f HNP.out HF.out HBF.out
                          · have hlb : ((ln : Int) == 0) = false := beq_false_of_ne (by omega)
                            have HNP : Hid (ppP xs q need noMap noAny) := ⟨HP.out, HASK.out, fun e => hl (by rw [← HOL.out, e.1]; rfl)⟩
                            clear hz hl
                            go_wp2
                            go_ret2
                            exact ⟨_, _, _, _, true, rfl, .inl ⟨rfl, HNP.out, rfl⟩, HOR.out, hln2, HBR.out⟩
                        · have hzb : (c == 0) = false := beq_false_of_ne hz
                          have HNP : Hid (ppP xs q need noMap noAny) := ⟨HP.out, HASK.out, fun e => hz (HCC.out.1 e.2)⟩
                          clear hz
                          go_wp2
                          go_ret2
                          exact ⟨_, _, _, _, true, rfl, .inl ⟨rfl, HNP.out, rfl⟩, HOR.out, hln2, HBR.out⟩

end Go.Proofs.Ytdkgilkjcndonaa
