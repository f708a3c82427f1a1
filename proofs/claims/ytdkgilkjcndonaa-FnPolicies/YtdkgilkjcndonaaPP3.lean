import Derived.Test.YtdkgilkjcndonaaPP1
import Derived.Test.YtdkgilkjcndonaaPL9c
namespace Go.Proofs.Ytdkgilkjcndonaa
open Go.RowKit Go.Maps

theorem k2Law : Keyed Try.prog 2 := int_keyed Try.underlying2
/-- The map tells how often each number is among N. -/
def TmOk (D : DataW Unit) (N : List Int) : Prop := ∀ p : Int, (Lit.int .i64 p).wf = true → D.atKey (.int .i64 p) (.lit (.int .i64 0)) = .lit (.int .i64 (N.count p)) ∧ (Maps.has D (.int .i64 p) = true ↔ p ∈ N)
theorem tm_none : TmOk (.map []) [] := fun p _ => ⟨rfl, ⟨fun h => (by cases h), fun h => (by cases h)⟩⟩
theorem tm_put {D : DataW Unit} {N : List Int} (hD : IsMap D) (h : TmOk D N) (q : Int) : TmOk (D.put (.int .i64 q) (.lit (.int .i64 (N.count q + 1)))) (N ++ [q]) := by
  intro p hp
  by_cases e : p = q
  · subst e
    refine ⟨?_, ?_⟩
    · rw [atKey_put_same hD (show WideAt.IsKeyLit (Lit.int .i64 p) from trivial)]
      simp [List.count_append]
    · rw [has_put_same hD (show WideAt.IsKeyLit (Lit.int .i64 p) from trivial)]
      simp
  · have e' : (Lit.int .i64 p) ≠ (Lit.int .i64 q) := fun h => by cases h; exact e rfl
    rw [atKey_put_other e', has_put_other e']
    refine ⟨?_, ?_⟩
    · rw [(h p hp).1]
      have : ¬ (q = p) := fun h => e h.symm
      simp [List.count_append, this]
    · rw [(h p hp).2]
      simp [e]
structure TimesAt (w : World) (bt n : Nat) (N : List Int) : Prop where
  own : ∃ D : DataW Unit, w.ownsMap Try.prog 2 (plainElem Try.prog 2) bt n D ∧ TmOk D N
theorem ownsMap_block {w w' : World} {k b n : Nat} {D : DataW Unit} {R : Value → Option (DataW Unit × List MemPlace)} (h : w.ownsMap Try.prog k R b n D) (e : w'.heap[b]? = w.heap[b]?) : w'.ownsMap Try.prog k R b n D := by
  obtain ⟨es, clock, he, F, hs, hd⟩ := h
  exact ⟨es, clock, e.trans he, F, hs, hd⟩
theorem TimesAt.lt {w : World} {bt n : Nat} {N : List Int} (h : TimesAt w bt n N) : bt < w.heap.size := by
  obtain ⟨D, hD, _⟩ := h.own
  exact hD.lt
theorem TimesAt.below {w w' : World} {bt n : Nat} {N : List Int} (h : TimesAt w bt n N) (hb : Below w.heap.size w w') : TimesAt w' bt n N := by
  obtain ⟨D, hD, hm⟩ := h.own
  exact ⟨D, ownsMap_block hD (hb.block bt hD.lt), hm⟩
theorem TimesAt.map {w : World} {bt n : Nat} {N : List Int} (h : TimesAt w bt n N) : ∃ es cl, w.heap[bt]? = some (.map es cl) := by
  obtain ⟨D, hD, _⟩ := h.own
  obtain ⟨es, clock, he, _⟩ := hD
  exact ⟨es, clock, he⟩
def TmR (w : World) (bt n : Nat) (N : List Int) (e : Ending) (w' : World) : Prop := e = .returned (.tuple #[]) ∧ TimesAt w' bt n N ∧ Touch bt (bt + 1) w w'

set_option maxRecDepth 10000 in
set_option maxHeartbeats 4000000 in
theorem count_any (a : Option Addr) (n c : Nat) (zs : List Int) (gp bt m : Nat) (N : List Int) (w : World) (h : Row64 w a n zs) (hz : ∀ j, j < n → 0 ≤ zs.getD j 0 ∧ zs.getD j 0 ≤ 1000) (hp : w.cell? ⟨gp, 0, none⟩ = some (.map (some bt))) (hM : TimesAt w bt m N) (hm : m + n ≤ 1000000) (hN : N.length + n ≤ 1000000) :
    Calls Try.prog 78 #[.slice a n c, .pointer (some ⟨gp, 0, none⟩)] w (TmR w bt (m + n) (N ++ zs)) := by
  have H0 : Hid (Row64 w a n zs) := h
  have HL : Hid (zs.length = n) := h.len
  have HZ : Hid (∀ j, j < n → 0 ≤ zs.getD j 0 ∧ zs.getD j 0 ≤ 1000) := hz
  have HM : Hid (TimesAt w bt m N) := hM
  have HP : Hid (w.cell? ⟨gp, 0, none⟩ = some (.map (some bt))) := hp
  have HNN : Hid (N.length + n ≤ 1000000) := hN
  have hgl : gp < w.heap.size := World.block_lt_of_cell? w _ hp
  clear h hz hM hp hN
  go_enter Try.func78, Try.ntmps78
  go_wp2
  go_loopw [7] (fun i wr => ∃ k : Nat, k ≤ n ∧ i = .int .i64 k ∧ Hid (TimesAt wr bt (m + k) (N ++ zs.take k)) ∧ Hid (Touch bt (bt + 1) w wr)) (fun i _ => n - (intOf i).toNat)
  case atStart => exact ⟨0, Nat.zero_le _, rfl, by show TimesAt _ _ _ _; rw [List.take_zero, List.append_nil]; exact HM.out, touch_refl _⟩
  case round =>
    obtain ⟨k, hk, rfl, HMK, HT⟩ := hrel
    have KC : KeptC w wr := KeptC.of_touch HT.out HM.out.map
    have hpc : wr.cell? ⟨gp, 0, none⟩ = some (.map (some bt)) := KC.2 _ _ _ HP.out
    have hgr : gp < wr.heap.size := Nat.lt_of_lt_of_le hgl KC.1
    by_cases hlt : k < n
    · obtain ⟨b, off, rfl, hlb, hc⟩ := (H0.out.keptC KC).get k hlt
      obtain ⟨v, hv⟩ : ∃ v, v = zs.getD k 0 := ⟨_, rfl⟩
      have hv0 := HZ.out k hlt
      rw [← hv] at hc hv0
      have HTK : Hid (N ++ zs.take (k + 1) = N ++ zs.take k ++ [v]) := by show _ = _; rw [take_next64 zs k (by rw [HL.out]; exact hlt), ← hv, List.append_assoc]
      obtain ⟨M, hMM⟩ : ∃ M, M = N ++ zs.take k := ⟨_, rfl⟩
      rw [← hMM] at HMK HTK
      have hML : M.length ≤ 1000000 := by
        have := HNN.out
        rw [hMM, List.length_append, List.length_take]
        omega
      obtain ⟨D, hD, hTm⟩ := HMK.out.own
      obtain ⟨cv, hcv⟩ : ∃ cv : Int, cv = ((M.count v : Nat) : Int) := ⟨_, rfl⟩
      have hcl : cv ≤ 1000000 := by rw [hcv]; have := List.count_le_length (a := v) (l := M); omega
      have hc0 : 0 ≤ cv := by rw [hcv]; omega
      have HWF : Hid ((Lit.int .i64 v).wf = true) := wf_small hv0.1 (by omega)
      have HWC : Hid ((Lit.int .i64 (cv + 1)).wf = true) := wf_small (by omega) (by omega)
      have HAT : Hid (D.atKey (.int .i64 v) (.lit (.int .i64 0)) = .lit (.int .i64 cv)) := by show _ = _; rw [(hTm v HWF.out).1, hcv]
      have HPUT : Hid (TmOk (D.put (.int .i64 v) (.lit (.int .i64 (cv + 1)))) (M ++ [v])) := by show TmOk _ _; rw [hcv]; exact tm_put hD.isMap hTm v
      have HD : Hid (wr.ownsMap Try.prog 2 (plainElem Try.prog 2) bt (m + k) D) := hD
      have HKEY : Hid (Go.keyOf Try.prog 2 (.int .i64 v) = some (.int .i64 v)) := keyOf_int_mk Try.underlying2 HWF.out
      have hlti : (k : Int) < (n : Int) := by omega
      have hbt := hD.lt
      clear hv hMM hcv hTm hD KC hML
      go_wp2_with (first
        | (at_lookup; refine wpList_lookup_own_int _ rfl _ _ 94 rfl 2 2 .i64 k2Law Try.underlying94 Try.underlying2 (zero2 _) bt (m + k) D rfl HD.out _ _ rfl HKEY.out ?_; intro cx hat hwc; obtain rfl : cx = cv := (by rw [HAT.out] at hat; simpa using hat.symm); clear hat hwc)
        | (at_mapUpdate; refine wpList_mapUpdate_own _ rfl _ _ _ 94 rfl 2 2 k2Law Try.underlying94 _ bt (m + k) D rfl HD.out (by unfold maxLen; omega) _ _ (.int .i64 v) rfl rfl HKEY.out _ [] (plainElem_int Try.underlying2 HWC.out) ?_; intro w4 hown4 hgrow4))
      have HM4 : Hid (TimesAt w4 bt (m + (k + 1)) (N ++ zs.take (k + 1))) := ⟨_, hown4, by rw [HTK.out]; exact HPUT.out⟩
      have HT4 : Hid (Touch bt (bt + 1) w w4) := HT.out.trans (touch_grownP hgrow4)
      clear hown4 hgrow4
      go_wp2
      go_roundw
      case rel => exact ⟨k + 1, by omega, by go_num, HM4, HT4⟩
      case measure => simp [intOf]; omega
    · obtain rfl : k = n := by omega
      have hge : ¬ ((k : Int) < (k : Int)) := by omega
      have HF : Hid (TimesAt wr bt (m + k) (N ++ zs)) := by
        have h := HMK.out
        rw [List.take_of_length_le (by rw [HL.out]; exact Nat.le_refl _)] at h
        exact h
      clear HMK KC
      go_wp2
      go_end0
      exact ⟨rfl, HF.out, HT.out⟩

/-- The map has counted N; of what was in w2 nothing else has turned. -/
structure TW (w2 : World) (bt : Nat) (W : World) (N : List Int) : Prop where
  tm : TimesAt W bt N.length N
  t : Touch bt (bt + 1) w2 W
theorem TW.below {w2 W W' : World} {bt : Nat} {N : List Int} (h : TW w2 bt W N) (hb : Below W.heap.size W W') : TW w2 bt W' N := ⟨h.tm.below hb, h.t.trans (Touch.of_below hb)⟩
theorem TW.step {w2 W W' : World} {bt n m : Nat} {N zs : List Int} {e : Ending} (h : TW w2 bt W N) (hr : TmR W bt m (N ++ zs) e W') (hn : zs.length = n) (hm : m = N.length + n) : TW w2 bt W' (N ++ zs) := ⟨by rw [List.length_append, hn, ← hm]; exact hr.2.1, h.t.trans hr.2.2⟩
theorem row_two (w : World) (v u : Int) : Row64 (w.alloc (.cells #[.int .i64 v, .int .i64 u] 2)) (some ⟨w.heap.size, 0, none⟩) 2 [v, u] := by
  refine ⟨rfl, fun k hk => ⟨_, 0, rfl, by simp, ?_⟩⟩
  rw [Nat.zero_add, cell_of_row _ _ _ _ 2 (0, 0) (heap_alloc_new _ _)]
  match k, hk with
  | 0, _ => rfl
  | 1, _ => rfl

set_option maxRecDepth 10000 in
set_option maxHeartbeats 4000000 in
theorem namedTimes_any (ap : Option Addr) (np cp : Nat) (xs : List PC) (aq : Option Addr) (nq cq : Nat) (q : List Int) (w : World) (h : Pcs w ap np xs) (hp : pathP xs) (hq : Row64 w aq nq q) (hk : askP q) :
    Calls Try.prog 64 #[.slice ap np cp, .slice aq nq cq] w fun e w' => e = .returned (.map (some w.heap.size)) ∧ TimesAt w' w.heap.size (namesL q xs np).length (namesL q xs np) ∧ Below w.heap.size w w' := by
  have HL : Hid (xs.length = np) := h.len
  have HQL : Hid (q.length = nq) := hq.len
  have HP : Hid (pathP xs) := hp
  have HK : Hid (askP q) := hk
  have hp8 : np ≤ 8 := by rw [← h.len]; exact hp.1.2
  have hq20 : nq ≤ 20 := by rw [← hq.len]; exact hk.1.2
  have hmm := @run_makeMap Try.prog
  obtain ⟨w2, hw2⟩ : ∃ w2, w2 = (w.alloc (Obj.map #[] 0)).alloc (.cells #[Value.map (some w.heap.size)] 94) := ⟨_, rfl⟩
  have HB2 : Hid (Below w.heap.size w w2) := by show Below _ _ _; rw [hw2]; exact ((Below.refl _ _).alloc (Nat.le_refl _) _).alloc (by simp) _
  have b2 := two_blocksP w (Obj.map #[] 0) (.cells #[Value.map (some w.heap.size)] 94)
  rw [← hw2] at b2
  have HTW : Hid (TW w2 w.heap.size w2 []) := by
    refine ⟨⟨.map [], ?_, tm_none⟩, touch_refl _⟩
    refine ownsMap_block (World.ownsMap_made w _ _ _) ?_
    rw [b2.1]
    exact (heap_alloc_new _ _).symm
  obtain ⟨bt, hbt⟩ : ∃ bt, bt = w.heap.size := ⟨_, rfl⟩
  have HMP : Hid (∃ es cl, w2.heap[bt]? = some (.map es cl)) := ⟨_, _, by rw [hbt]; exact b2.1⟩
  have HG : Hid (∀ W, KeptC w2 W → W.cell? ⟨bt + 1, 0, none⟩ = some (.map (some bt)) ∧ bt + 1 < W.heap.size) := fun W k => by
    have hc : w2.cell? ⟨bt + 1, 0, none⟩ = some (.map (some bt)) := by rw [hbt]; exact (cell_of_row _ _ 0 _ 94 (0, 0) b2.2).trans rfl
    exact ⟨k.2 _ _ _ hc, Nat.lt_of_lt_of_le (World.block_lt_of_cell? _ _ hc) k.1⟩
  have H0 : Hid (∀ W, KeptC w2 W → Pcs W ap np xs ∧ Row64 W aq nq q) := fun W k => ⟨(h.kept HB2.out).keptC k, (hq.kept HB2.out).keptC k⟩
  have HKC : Hid (∀ W N, TW w2 bt W N → KeptC w2 W) := fun W N h => KeptC.of_touch h.t HMP.out
  have HFB : Hid (∀ W, Touch bt (bt + 1) w2 W → Below bt w W) := fun W ht => (by
    have h1 : Below bt w w2 := by rw [hbt]; exact HB2.out
    exact h1.trans (ht.below (Nat.le_refl _) (by have := HB2.out.size; omega)))
  have HZQ : Hid (∀ j, j < nq → 0 ≤ q.getD j 0 ∧ q.getD j 0 ≤ 1000) := fun j hj => hk.2 j (by rw [hq.len]; exact hj)
  have HW2 : Hid (_ = _) := hw2
  have HBT : Hid (_ = _) := hbt
  rw [← hbt] at HTW ⊢
  clear hw2 hbt b2 h hp hq hk HB2
  go_enter Try.func64, Try.ntmps64
  go_upto_region 2 with fail
  rw [← HW2.out, ← HBT.out]
  clear HW2 HBT hmm
  go_wp2_with fail
  refine (count_any aq nq cq q (bt + 1) bt 0 [] _ (H0.out _ (HKC.out _ _ HTW.out)).2 HZQ.out (HG.out _ (HKC.out _ _ HTW.out)).1 HTW.out.tm (by omega) (by simp; omega)).mono ?_
  rintro e w3 hr3
  have HT3 : Hid (TW w2 bt w3 (namesL q xs 0)) := by
    have h := HTW.out.step hr3 HQL.out (by simp)
    rw [names_zero]
    exact h
  obtain ⟨rfl, -, -⟩ := hr3
  clear HTW HZQ
  go_wp2
  go_loopw [18] (fun i wr => ∃ k : Nat, k ≤ np ∧ i = .int .i64 k ∧ Hid (TW w2 bt wr (namesL q xs k))) (fun i _ => np - (intOf i).toNat)
  case atStart => exact ⟨0, Nat.zero_le _, rfl, HT3⟩
  case round =>
    obtain ⟨k, hk, rfl, HT⟩ := hrel
    clear HT3
    by_cases hlt : k < np
    · obtain ⟨b, off, a1, n1, d1, a2, n2, d2, rfl, hlb, hcc, hpc⟩ := (H0.out _ (HKC.out _ _ HT.out)).1.get k hlt
      obtain ⟨y, hy⟩ : ∃ y, y = xs.getD k default := ⟨_, rfl⟩
      rw [← hy] at hcc hpc
      have HY : Hid (y = xs.getD k default) := hy
      obtain ⟨c0, c1, c2, c3, c4, c5⟩ := hcc
      have hlti : (k : Int) < (np : Int) := by omega
      obtain ⟨w5, hw5⟩ : ∃ w5, w5 = wr.alloc (.cells #[.slice a1 n1 d1, .slice a2 n2 d2, .bool y.self, .int .i64 y.need, .int .i64 y.nomap, .int .i64 y.noany] 41) := ⟨_, rfl⟩
      have hh5 : w5.heap[wr.heap.size]? = some (.cells #[.slice a1 n1 d1, .slice a2 n2 d2, .bool y.self, .int .i64 y.need, .int .i64 y.nomap, .int .i64 y.noany] 41 (0, 0)) := by rw [hw5]; exact heap_alloc_new _ _
      have HK5 : Hid (Below wr.heap.size wr w5) := by show Below _ _ _; rw [hw5]; exact (Below.refl _ _).alloc (Nat.le_refl _) _
      obtain ⟨gc, hgc⟩ : ∃ gc, gc = wr.heap.size := ⟨_, rfl⟩
      rw [← hgc] at hh5
      have HX : Hid (∀ W, KeptC w5 W → (W.cell? ⟨gc, 0, none⟩ = some (.slice a1 n1 d1) ∧ W.cell? ⟨gc, 1, none⟩ = some (.slice a2 n2 d2)) ∧ gc < W.heap.size) := fun W hW => by
        have e0 : w5.cell? ⟨gc, 0, none⟩ = some (.slice a1 n1 d1) := (cell_of_row _ _ 0 _ 41 (0, 0) hh5).trans rfl
        have e1 : w5.cell? ⟨gc, 1, none⟩ = some (.slice a2 n2 d2) := (cell_of_row _ _ 1 _ 41 (0, 0) hh5).trans rfl
        exact ⟨⟨hW.2 _ _ _ e0, hW.2 _ _ _ e1⟩, Nat.lt_of_lt_of_le (World.block_lt_of_cell? _ _ e0) hW.1⟩
      have HPC : Hid (∀ W, KeptC w5 W → PcAt W a1 n1 d1 a2 n2 y) := fun W hW => (hpc.kept HK5.out).keptC hW
      have HCP : Hid (certP y) := by show certP y; rw [hy]; exact HP.out.2 k (by rw [HL.out]; exact hlt)
      have HNL : Hid (y.pols.length = n1 ∧ y.maps.length = n2) := ⟨hpc.pol.len, hpc.mp.len⟩
      have hn16 : n1 ≤ 6 := by rw [← hpc.pol.len]; exact HCP.out.1.1
      have hn26 : n2 ≤ 6 := by rw [← hpc.mp.len]; exact HCP.out.1.2
      have HT5 : Hid (TW w2 bt w5 (namesL q xs k)) := HT.out.below HK5.out
      obtain ⟨N0, hN0⟩ : ∃ N0, N0 = namesL q xs k := ⟨_, rfl⟩
      have HN0 : Hid (N0 = namesL q xs k) := hN0
      have hNl : N0.length ≤ 200 := by
        have := names_len HP.out (show q.length ≤ 20 by rw [HQL.out]; exact hq20) k (by rw [HL.out]; exact hk)
        rw [← hN0] at this
        omega
      rw [← hN0] at HT5
      have HM5 : Hid (∃ es cl, w5.heap[bt]? = some (.map es cl)) := HT5.out.tm.map
      have HKW : Hid (∀ W, Touch bt (bt + 1) w5 W → KeptC w5 W) := fun W ht => KeptC.of_touch ht HM5.out
      have HW5 : Hid (_ = _) := hw5
      have HGC : Hid (_ = _) := hgc
      clear hy hh5 hw5 hpc hN0 hgc HT
      go_upto_region 7 with fail
      rw [← HW5.out, ← HGC.out]
      clear HW5 HGC c0 c1 c2 c3 c4 c5 HK5
      have k55 : KeptC w5 w5 := HKW.out _ (touch_refl _)
      obtain ⟨⟨x0, x1⟩, lx⟩ := HX.out _ k55
      go_wp2_with fail
      refine (count_any a1 n1 d1 y.pols (bt + 1) bt N0.length N0 _ (HPC.out _ k55).pol (fun j hj => HCP.out.2.2.1 j (by rw [HNL.out.1]; exact hj)) (HG.out _ (HKC.out _ _ HT5.out)).1 HT5.out.tm (by omega) (by omega)).mono ?_
      rintro e w6 hr6
      have HT6 : Hid (TW w2 bt w6 (N0 ++ y.pols ++ (y.maps.take 0).flatMap two)) := by
        have h := HT5.out.step hr6 HNL.out.1 rfl
        show TW _ _ _ _
        simpa using h
      have HU6 : Hid (Touch bt (bt + 1) w5 w6) := hr6.2.2
      obtain ⟨rfl, -, -⟩ := hr6
      clear x0 x1 lx HT5 k55
      obtain ⟨⟨x0, x1⟩, lx⟩ := HX.out _ (HKW.out _ HU6.out)
      go_wp2
      clear x0 x1 lx
      go_loopw [29] (fun i wr => ∃ r : Nat, r ≤ n2 ∧ i = .int .i64 r ∧ Hid (TW w2 bt wr (N0 ++ y.pols ++ (y.maps.take r).flatMap two)) ∧ Hid (Touch bt (bt + 1) w5 wr)) (fun i _ => n2 - (intOf i).toNat)
      case atStart => exact ⟨0, Nat.zero_le _, rfl, HT6, HU6⟩
      case round =>
        obtain ⟨r, hr, rfl, HT, HU⟩ := hrel
        clear HT6 HU6
        by_cases hrl : r < n2
        · obtain ⟨bo, oo, rfl, hbo, hv, hu⟩ := (HPC.out _ (HKW.out _ HU.out)).mp.get r hrl
          have hrr := HCP.out.2.2.2.2 r (by rw [HNL.out.2]; exact hrl)
          have HTK : Hid ((y.maps.take (r + 1)).flatMap two = (y.maps.take r).flatMap two ++ [(y.maps.getD r (0, 0)).1] ++ [(y.maps.getD r (0, 0)).2]) := maps_next y.maps r (by rw [HNL.out.2]; exact hrl)
          obtain ⟨v, hvv⟩ : ∃ v, v = (y.maps.getD r (0, 0)).1 := ⟨_, rfl⟩
          obtain ⟨u, huu⟩ : ∃ u, u = (y.maps.getD r (0, 0)).2 := ⟨_, rfl⟩
          rw [← hvv] at hv hrr HTK
          rw [← huu] at hu hrr HTK
          have HRR : Hid ((1 ≤ v ∧ v ≤ 1000) ∧ 1 ≤ u ∧ u ≤ 1000) := hrr
          have hri : (r : Int) < (n2 : Int) := by omega
          obtain ⟨M, hM⟩ : ∃ M, M = N0 ++ y.pols ++ (y.maps.take r).flatMap two := ⟨_, rfl⟩
          have HMN : Hid (N0 ++ y.pols ++ (y.maps.take (r + 1)).flatMap two = M ++ [v, u]) := by show _ = _; rw [HTK.out, hM]; simp
          have hMl : M.length ≤ 300 := by
            rw [hM, List.length_append, List.length_append, two_len, HNL.out.1, List.length_take]
            omega
          rw [← hM] at HT
          obtain ⟨w7, hw7⟩ : ∃ w7, w7 = wr.alloc (.cells #[.int .i64 v, .int .i64 u] 43) := ⟨_, rfl⟩
          have hh7 : w7.heap[wr.heap.size]? = some (.cells #[.int .i64 v, .int .i64 u] 43 (0, 0)) := by rw [hw7]; exact heap_alloc_new _ _
          have HB7 : Hid (Below wr.heap.size wr w7) := by show Below _ _ _; rw [hw7]; exact (Below.refl _ _).alloc (Nat.le_refl _) _
          have y0 : w7.cell? ⟨wr.heap.size, 0, none⟩ = some (.int .i64 v) := (cell_of_row _ _ 0 _ 43 (0, 0) hh7).trans rfl
          have y1 : w7.cell? ⟨wr.heap.size, 1, none⟩ = some (.int .i64 u) := (cell_of_row _ _ 1 _ 43 (0, 0) hh7).trans rfl
          have ly : wr.heap.size < w7.heap.size := (Array.getElem?_eq_some_iff.1 hh7).1
          have HW7 : Hid (_ = _) := hw7
          clear hvv huu hrr hM hw7 hh7 HTK
          go_upto_region 11 with fail
          rw [← HW7.out]
          clear HW7 hv hu hbo
          have HB8 : Hid (Below wr.heap.size wr (w7.alloc (.cells #[.int .i64 v, .int .i64 u] 2))) := HB7.out.alloc HB7.out.size _
          have HT8 : Hid (TW w2 bt (w7.alloc (.cells #[.int .i64 v, .int .i64 u] 2)) M) := HT.out.below HB8.out
          have HU8 : Hid (Touch bt (bt + 1) w5 (w7.alloc (.cells #[.int .i64 v, .int .i64 u] 2))) := HU.out.trans (Touch.of_below HB8.out)
          clear HT HU HB8 HB7
          go_wp2_with fail
          refine (count_any _ 2 2 [v, u] (bt + 1) bt M.length M _ (row_two w7 v u) ?_ (HG.out _ (HKC.out _ _ HT8.out)).1 HT8.out.tm (by omega) (by omega)).mono ?_
          · intro j hj
            have := HRR.out
            match j, hj with
            | 0, _ => exact ⟨by show 0 ≤ v; omega, this.1.2⟩
            | 1, _ => exact ⟨by show 0 ≤ u; omega, this.2.2⟩
          · rintro e w9 hr9
            have HT9 : Hid (TW w2 bt w9 (N0 ++ y.pols ++ (y.maps.take (r + 1)).flatMap two)) := by
              show TW _ _ _ _
              rw [HMN.out]
              exact HT8.out.step hr9 rfl rfl
            have HU9 : Hid (Touch bt (bt + 1) w5 w9) := HU8.out.trans hr9.2.2
            obtain ⟨rfl, -, -⟩ := hr9
            clear y0 y1 ly HT8 HU8
            go_wp2
            go_roundw
            case rel => exact ⟨r + 1, by omega, by go_num, HT9, HU9⟩
            case measure => simp [intOf]; omega
        · obtain rfl : r = n2 := by omega
          have hge2 : ¬ ((r : Int) < (r : Int)) := by omega
          have HTN : Hid (TW w2 bt wr (namesL q xs (k + 1))) := by
            show TW _ _ _ _
            rw [names_next q xs k (by rw [HL.out]; exact hlt), ← HY.out, ← HN0.out]
            unfold nmOf
            rw [← List.append_assoc]
            have h := HT.out
            rw [List.take_of_length_le (by rw [HNL.out.2]; exact Nat.le_refl _)] at h
            exact h
          clear HT HU
          go_wp2
          go_roundw
          case rel => exact ⟨k + 1, by omega, by go_num, HTN⟩
          case measure => simp [intOf]; omega
    · obtain rfl : k = np := by omega
      have hge : ¬ ((k : Int) < (k : Int)) := by omega
      obtain ⟨hgc, hgl⟩ := HG.out _ (HKC.out _ _ HT.out)
      go_wp2
      go_ret
      exact ⟨rfl, HT.out.tm, HFB.out _ HT.out.t⟩

end Go.Proofs.Ytdkgilkjcndonaa
