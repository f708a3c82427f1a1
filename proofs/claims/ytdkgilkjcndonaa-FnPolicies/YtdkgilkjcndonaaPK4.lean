import Derived.Test.YtdkgilkjcndonaaPK3b
import Derived.Test.YtdkgilkjcndonaaPL6
namespace Go.Proofs.Ytdkgilkjcndonaa
open Go.RowKit

theorem touch_of_below {B : Nat} {w w' : World} (h : Below B w w') : Touch B w.heap.size w w' := ⟨h.os, h.tape, h.output, h.size, fun k hk ho => h.block k (by omega)⟩
theorem flat_snoc (ms : List (Int × Int)) (p : Int × Int) : flat (ms ++ [p]) = flat ms ++ [Value.int .i64 p.1, .int .i64 p.2] := by rw [flat_append]; rfl
/-- A certificate as it is drawn, in the block gc: its lists lie behind it. -/
structure CB (W : World) (gc : Nat) (a1 : Option Addr) (n1 c1 : Nat) (a2 : Option Addr) (n2 c2 : Nat) (x : PC) : Prop where
  blk : W.heap[gc]? = some (.cells #[.slice a1 n1 c1, .slice a2 n2 c2, .bool x.self, .int .i64 x.need, .int .i64 x.nomap, .int .i64 x.noany] 41 (0, 0))
theorem CB.cells {W : World} {gc : Nat} {a1 : Option Addr} {n1 c1 : Nat} {a2 : Option Addr} {n2 c2 : Nat} {x : PC} (h : CB W gc a1 n1 c1 a2 n2 c2 x) : CellsP W gc 0 a1 n1 c1 a2 n2 c2 x ∧ (∀ j, W.frozen? ⟨gc, j, none⟩ = false) ∧ gc < W.heap.size :=
  ⟨⟨(cell_of_row _ gc 0 _ 41 (0, 0) h.blk).trans rfl, (cell_of_row _ gc 1 _ 41 (0, 0) h.blk).trans rfl, (cell_of_row _ gc 2 _ 41 (0, 0) h.blk).trans rfl, (cell_of_row _ gc 3 _ 41 (0, 0) h.blk).trans rfl, (cell_of_row _ gc 4 _ 41 (0, 0) h.blk).trans rfl, (cell_of_row _ gc 5 _ 41 (0, 0) h.blk).trans rfl⟩, fun j => frozen_of_row W gc j _ 41 h.blk, (Array.getElem?_eq_some_iff.1 h.blk).1⟩
theorem CB.same {W W' : World} {gc : Nat} {a1 : Option Addr} {n1 c1 : Nat} {a2 : Option Addr} {n2 c2 : Nat} {x : PC} (h : CB W gc a1 n1 c1 a2 n2 c2 x) (e : W'.heap[gc]? = W.heap[gc]?) : CB W' gc a1 n1 c1 a2 n2 c2 x := ⟨e.trans h.blk⟩
theorem cb_set {W : World} {gc : Nat} {l l' : Array Value} (h : W.heap[gc]? = some (.cells l 41 (0, 0))) (j : Nat) (u : Value) (e : l.setIfInBounds j u = l') : (W.setCell ⟨gc, j, none⟩ u).heap[gc]? = some (.cells l' 41 (0, 0)) := by
  rw [← e]; exact heap_setCell_same W gc j _ 41 u h
theorem RdPost.set {w w1 : World} {g : Nat} {a : Option Addr} {n cap : Nat} {bs : List Int} (h : RdPost w g a n cap bs w1) {gc : Nat} (hg : g < gc) (hw : w.heap.size ≤ gc) (j : Nat) (u : Value) : RdPost w g a n cap bs (w1.setCell ⟨gc, j, none⟩ u) :=
  h.grown (lo := gc) (hi := gc + 1) ⟨rfl, rfl, rfl, by simp, fun k _ ho => Below.heap_setCell _ _ _ _ (by show k ≠ gc; omega)⟩ hg hw
theorem set_old (W : World) (gc j : Nat) (u : Value) (l : Nat) (h : l ≠ gc) : (W.setCell ⟨gc, j, none⟩ u).heap[l]? = W.heap[l]? := Below.heap_setCell _ _ _ _ (by show l ≠ gc; exact h)
/-- A certificate as it is drawn, and all that goes with it. -/
structure CT (w4 : World) (g : Nat) (a : Option Addr) (n cap : Nat) (bs : List Int) (gc : Nat) (a1 : Option Addr) (n1 c1 : Nat) (a2 : Option Addr) (n2 c2 : Nat) (zs : List Int) (ms : List (Int × Int)) (sf : Bool) (nd nm na : Int) (W : World) : Prop where
  cb : CB W gc a1 n1 c1 a2 n2 c2 ⟨zs, ms, sf, nd, nm, na⟩
  own : PcO (gc + 1) W.heap.size W a1 n1 c1 a2 n2 c2 ⟨zs, ms, sf, nd, nm, na⟩
  rd : RdPost w4 g a n cap bs W
theorem CT.step {w4 : World} {g : Nat} {a : Option Addr} {n cap : Nat} {bs : List Int} {gc : Nat} {a1 : Option Addr} {n1 c1 : Nat} {a2 : Option Addr} {n2 c2 : Nat} {zs : List Int} {ms : List (Int × Int)} {sf : Bool} {nd nm na : Int} {W W' : World} (h : CT w4 g a n cap bs gc a1 n1 c1 a2 n2 c2 zs ms sf nd nm na W) (k : RdPost W g a n cap bs W') (hg : g < gc) : CT w4 g a n cap bs gc a1 n1 c1 a2 n2 c2 zs ms sf nd nm na W' := by
  have hk : ∀ l, l < W.heap.size → l ≠ g → W'.heap[l]? = W.heap[l]? := fun l hl hne => k.2.block l hl (by omega)
  exact ⟨h.cb.same (hk gc h.cb.cells.2.2 (by omega)), (PcO.stab (Nat.le_refl _) W W' (fun l hl hs => hk l hs (by omega)) h.own).mono (Nat.le_refl _) k.2.size, h.rd.step k⟩
theorem CT.set {w4 : World} {g : Nat} {a : Option Addr} {n cap : Nat} {bs : List Int} {gc : Nat} {a1 : Option Addr} {n1 c1 : Nat} {a2 : Option Addr} {n2 c2 : Nat} {zs : List Int} {ms : List (Int × Int)} {sf : Bool} {nd nm na nd' nm' na' : Int} {W : World} (h : CT w4 g a n cap bs gc a1 n1 c1 a2 n2 c2 zs ms sf nd nm na W) (hg : g < gc) (hw : w4.heap.size = gc) (j : Nat) (u : Value) (e : (#[.slice a1 n1 c1, .slice a2 n2 c2, .bool sf, .int .i64 nd, .int .i64 nm, .int .i64 na] : Array Value).setIfInBounds j u = #[.slice a1 n1 c1, .slice a2 n2 c2, .bool sf, .int .i64 nd', .int .i64 nm', .int .i64 na']) : CT w4 g a n cap bs gc a1 n1 c1 a2 n2 c2 zs ms sf nd' nm' na' (W.setCell ⟨gc, j, none⟩ u) := by
  have ho := PcO.stab (Nat.le_refl _) W (W.setCell ⟨gc, j, none⟩ u) (fun l hl _ => set_old W gc j u l (by omega)) h.own
  exact ⟨⟨cb_set h.cb.blk j u e⟩, ⟨⟨ho.pol.row, fun x hx => Nat.lt_of_lt_of_le (ho.pol.lt x hx) (by simp)⟩, ⟨ho.mp.row, ho.mp.max, fun x hx => Nat.lt_of_lt_of_le (ho.mp.lt x hx) (by simp)⟩, h.own.sm⟩, h.rd.set hg (by omega) j u⟩
theorem four_at (V : Nat) (h : V < 4) : ∃ z : Int, (#[.int .i64 (-1), .int .i64 1000, .int .i64 1001, .int .i64 1] : Array Value)[V]? = some (.int .i64 z) := by
  match V, h with
  | 0, _ => exact ⟨_, rfl⟩
  | 1, _ => exact ⟨_, rfl⟩
  | 2, _ => exact ⟨_, rfl⟩
  | 3, _ => exact ⟨_, rfl⟩
theorem owns_some {w : World} {B e s n : Nat} {v : Value} {xs : List Value} (h : w.ownsRow B e s v (n + 1) xs) : ∃ g c, v = .slice (some ⟨g, 0, none⟩) (n + 1) c := by
  rcases h.2 with ⟨_, h0⟩ | ⟨g, cap, cur, rfl, _⟩
  · omega
  · exact ⟨_, _, rfl⟩
/-- What l12Draw answers. -/
def DrR (w : World) (g : Nat) (a : Option Addr) (n cap : Nat) (bs : List Int) (e : Ending) (w' : World) : Prop := ∃ ao m c xs, e = .returned (.slice ao m c) ∧ m ≤ 100 ∧ (∀ W' : World, (∀ l, w.heap.size ≤ l → l < w'.heap.size → W'.heap[l]? = w'.heap[l]?) → Pcs W' ao m xs) ∧ RdPost w g a n cap bs w'

set_option maxRecDepth 20000 in
set_option maxHeartbeats 8000000 in
theorem l12Draw_any (g : Nat) (a : Option Addr) (n cap : Nat) (bs : List Int) (w : World) (h : Rd w g a n cap bs) :
    Calls Try.prog 29 #[.pointer (some ⟨g, 0, none⟩)] w (DrR w g a n cap bs) := by
  obtain ⟨i0, ih, hz0, hz1, hz2⟩ := info_parts Try.infoPolCert
  obtain ⟨j0, jh, jz0, jz1, jz2⟩ := info_parts Try.infoPolMap
  have HR0 : Hid (Rd w g a n cap bs) := h
  have hgw : g < w.heap.size := h.lt
  clear h
  obtain ⟨w1, hw1⟩ : ∃ w1, w1 = w.alloc (.cells #[] 41) := ⟨_, rfl⟩
  have HD1 : Hid (DP w.heap.size w1 (some ⟨w.heap.size, 0, none⟩) 0 0 [] (fun _ => w.heap.size)) := by show DP _ _ _ _ _ _ _; rw [hw1]; exact dp_empty w
  have HP1 : Hid (RdPost w g a n cap bs w1) := by
    show RdPost _ _ _ _ _ _ _
    rw [hw1]; exact RdPost.alloc ⟨HR0.out, Touch.same _ _ _⟩ _
  have HW1 : Hid (_ = _) := hw1
  clear hw1 HR0
  go_enter Try.func29, Try.ntmps29
  go_upto_region 2 with fail
  rw [← HW1.out]
  clear HW1
  go_wp2_with fail
  refine (below_any g a n cap bs 4 _ HP1.out.1 (by decide)).mono ?_
  rintro e w2 ⟨v2, rfl, hv0, hv1, hp2⟩
  obtain ⟨N, rfl⟩ := Int.eq_ofNat_of_zero_le hv0
  have hN : N ≤ 3 := by omega
  have HP2 : Hid (RdPost w g a n cap bs w2) := HP1.out.step hp2
  have HD2 : Hid (DP w.heap.size w2 (some ⟨w.heap.size, 0, none⟩) 0 0 [] (fun _ => w.heap.size)) := HD1.out.stab (fun l hl hs => hp2.2.block l hs (.inr (by omega))) hp2.2.size
  clear hp2 hv0 hv1 HD1 HP1
  go_wp2
  go_loopw [3, 5] (fun s i wr => ∃ (k cc : Nat) (ao : Option Addr) (xs : List PC) (S : Nat → Nat), k ≤ N + 1 ∧ s = .slice ao k cc ∧ i = .int .i64 k ∧ Hid (DP w.heap.size wr ao k cc xs S) ∧ Hid (RdPost w g a n cap bs wr)) (fun _ i _ => N + 1 - (intOf i).toNat)
  case atStart => exact ⟨0, 0, _, [], _, Nat.zero_le _, rfl, rfl, HD2, HP2⟩
  case round =>
    obtain ⟨k, cc, ao, xs, S, hk, rfl, rfl, HD, HP⟩ := hrel
    clear HD2 HP2
    by_cases hlt : k < N + 1
    · have hlti : (k : Int) < 1 + (N : Int) := by omega
      obtain ⟨W3, hW3⟩ : ∃ W3, W3 = wr := ⟨_, rfl⟩
      rw [← hW3] at HD HP ⊢
      clear hW3
      go_wp2_with fail
      refine (once_any g a n cap bs 5 _ HP.out.1 (by decide) (by decide)).mono ?_
      rintro e w4 ⟨sf, rfl, hp4⟩
      have HP4 : Hid (RdPost w g a n cap bs w4) := HP.out.step hp4
      have HD4 : Hid (DP w.heap.size w4 ao k cc xs S) := HD.out.stab (fun l hl hs => hp4.2.block l hs (.inr (by omega))) hp4.2.size
      obtain ⟨gc, hgc⟩ : ∃ gc, gc = w4.heap.size := ⟨_, rfl⟩
      have hgg : g < gc := by rw [hgc]; exact hp4.1.lt
      have hwgc : w.heap.size ≤ gc := by rw [hgc]; exact HP4.out.2.size
      obtain ⟨w5, hw5⟩ : ∃ w5, w5 = w4.alloc (.cells #[.slice none 0 0, .slice none 0 0, .bool sf, .int .i64 (-1), .int .i64 (-1), .int .i64 (-1)] 41) := ⟨_, rfl⟩
      have HC5 : Hid (CB w5 gc none 0 0 none 0 0 ⟨[], [], sf, -1, -1, -1⟩) := ⟨by rw [hw5, hgc]; exact heap_alloc_new _ _⟩
      have HP5 : Hid (RdPost w4 g a n cap bs w5) := by
        show RdPost _ _ _ _ _ _ _
        rw [hw5]; exact RdPost.alloc ⟨hp4.1, Touch.same _ _ _⟩ _
      have HW5 : Hid (_ = _) := hw5
      have HGC : Hid (w4.heap.size = gc) := hgc.symm
      clear hp4 hw5 HD HP
      go_upto_region 7 with fail
      rw [← HW5.out, HGC.out]
      clear HW5 hgc
      go_wp2_with fail
      refine (below_any g a n cap bs 3 _ HP5.out.1 (by decide)).mono ?_
      rintro e w6 ⟨v6, rfl, hv0, hv1, hp6⟩
      obtain ⟨K1, rfl⟩ := Int.eq_ofNat_of_zero_le hv0
      have hK1 : K1 ≤ 2 := by omega
      have HP6 : Hid (RdPost w4 g a n cap bs w6) := HP5.out.step hp6
      have HC6 : Hid (CB w6 gc none 0 0 none 0 0 ⟨[], [], sf, -1, -1, -1⟩) := HC5.out.same (hp6.2.block gc HC5.out.cells.2.2 (.inr (by omega)))
      have HO6 : Hid (OwnL (gc + 1) w6 none 0 0 []) := ownL_none _ _
      clear hp6 hv0 hv1 HC5 HP5
      go_wp2
      go_loopw [8] (fun j wr => ∃ (t n1 c1 : Nat) (a1 : Option Addr) (zs : List Int), t ≤ K1 + 1 ∧ j = .int .i64 t ∧ n1 ≤ t ∧ Hid (CB wr gc a1 n1 c1 none 0 0 ⟨zs, [], sf, -1, -1, -1⟩) ∧ Hid (OwnL (gc + 1) wr a1 n1 c1 zs) ∧ Hid (RdPost w4 g a n cap bs wr)) (fun j _ => K1 + 1 - (intOf j).toNat)
      case atStart => exact ⟨0, 0, 0, none, [], Nat.zero_le _, rfl, Nat.le_refl _, HC6, HO6, HP6⟩
      case round =>
        obtain ⟨t, n1, c1, a1, zs, ht, rfl, hnt, HC, HO, HPR⟩ := hrel
        clear HC6 HO6 HP6
        by_cases htl : t < K1 + 1
        · have htli : (t : Int) < 1 + (K1 : Int) := by omega
          obtain ⟨⟨x0, x1, x2, x3, x4, x5⟩, fz, lc⟩ := HC.out.cells
          have f0 := fz 0
          have d0 : wr.drew.cell? ⟨gc, 0, none⟩ = some (.slice a1 n1 c1) := x0
          have fd0 : wr.drew.frozen? ⟨gc, 0, none⟩ = false := f0
          clear fz x1 x2 x3 x4 x5
          go_upto_region 11 with fail
          go_region_law
            (first
              | (go_simp; go_at_call 30; refine (below_any g a n cap bs 4 _ (HPR.out.1.kept (Below.refl _ _).drew) (by decide)).mono ?_; rintro e w7 ⟨v7, rfl, hv70, hv71, hp7⟩; have HP7 : Hid (RdPost w4 g a n cap bs w7) := ⟨hp7.1, HPR.out.2.trans ⟨hp7.2.os, hp7.2.tape, hp7.2.output, hp7.2.size, hp7.2.block⟩⟩; have s7 := hp7.2.size; have hk7 : ∀ l, l < wr.heap.size → l ≠ g → w7.heap[l]? = wr.heap[l]? := (fun l hl hne => hp7.2.block l hl (by omega)); have HC7 : Hid (CB w7 gc a1 n1 c1 none 0 0 ⟨zs, [], sf, -1, -1, -1⟩) := HC.out.same (hk7 gc lc (by omega)); have HO7 : Hid (OwnL (gc + 1) w7 a1 n1 c1 zs) := ⟨stab_row (Nat.le_refl _) wr w7 (fun l hl hs => hk7 l hs (by omega)) HO.out.row⟩; have q0 := HC7.out.cells.1.c0; have lc7 := HC7.out.cells.2.2; clear hp7 hk7)
              | (go_simp; go_at_call 51; refine (l12Put_any (gc + 1) a1 n1 c1 zs v7 _ HO7.out (by omega) lc7).mono ?_; rintro e w8 ⟨a8, n8, c8, rfl, ho8, hb8⟩; have HO8 : Hid (OwnL (gc + 1) w8 a8 n8 c8 (putL zs v7)) := ho8; have HC8 : Hid (CB w8 gc a1 n1 c1 none 0 0 ⟨zs, [], sf, -1, -1, -1⟩) := HC7.out.same (hb8.block gc (Nat.lt_succ_self _)); have HP8 : Hid (RdPost w4 g a n cap bs w8) := HP7.out.grown (touch_of_below hb8) (by omega) (by rw [HGC.out]; omega); have r0 := HC8.out.cells.1.c0; have fr0 := HC8.out.cells.2.1 0; have lc8 := HC8.out.cells.2.2; clear ho8 hb8))
          all_goals
            have hl8 := HO8.out.len
            have hl1 := HO.out.len
            have hpl := len_putL zs v7
            have HC9 : Hid (CB (w8.setCell ⟨gc, 0, none⟩ (.slice a8 n8 c8)) gc a8 n8 c8 none 0 0 ⟨putL zs v7, [], sf, -1, -1, -1⟩) := ⟨cb_set HC8.out.blk 0 _ rfl⟩
            have HO9 : Hid (OwnL (gc + 1) (w8.setCell ⟨gc, 0, none⟩ (.slice a8 n8 c8)) a8 n8 c8 (putL zs v7)) := ⟨stab_row (Nat.le_refl _) w8 _ (fun l hl _ => set_old _ _ _ _ l (by omega)) HO8.out.row⟩
            have HP9 : Hid (RdPost w4 g a n cap bs (w8.setCell ⟨gc, 0, none⟩ (.slice a8 n8 c8))) := HP8.out.set hgg (by rw [HGC.out]; exact Nat.le_refl _) 0 _
            have hn8 : n8 ≤ t + 1 := by omega
            clear hl8 hl1 hpl
            go_wp2
            go_roundw
            case rel => exact ⟨t + 1, n8, c8, a8, putL zs v7, by omega, by go_num, hn8, HC9, HO9, HP9⟩
            case measure => simp [intOf]; omega
        · have hge : ¬ ((t : Int) < 1 + (K1 : Int)) := by omega
          obtain ⟨W7, hW7⟩ : ∃ W7, W7 = wr := ⟨_, rfl⟩
          rw [← hW7] at HC HO HPR ⊢
          clear hW7
          go_wp2_with fail
          refine (below_any g a n cap bs 3 _ HPR.out.1 (by decide)).mono ?_
          rintro e w8 ⟨v8, rfl, hv0, hv1, hp8⟩
          obtain ⟨K2, rfl⟩ := Int.eq_ofNat_of_zero_le hv0
          have hK2 : K2 ≤ 2 := by omega
          have lc7 := HC.out.cells.2.2
          have HP8 : Hid (RdPost w4 g a n cap bs w8) := HPR.out.step hp8
          have hk8 : ∀ l, l < W7.heap.size → l ≠ g → w8.heap[l]? = W7.heap[l]? := fun l hl hne => hp8.2.block l hl (by omega)
          have HC8 : Hid (CB w8 gc a1 n1 c1 none 0 0 ⟨zs, [], sf, -1, -1, -1⟩) := HC.out.same (hk8 gc lc7 (by omega))
          obtain ⟨M, hM⟩ : ∃ M, M = w8.heap.size := ⟨_, rfl⟩
          have HO8 : Hid (Own64 (gc + 1) M w8 a1 n1 c1 zs) := ⟨stab_row (Nat.le_refl _) W7 w8 (fun l hl hs => hk8 l hs (by omega)) HO.out.row, fun x hx => by
            have hr := stab_row (B := gc + 1) (Nat.le_refl _) W7 w8 (fun l hl hs => hk8 l hs (by omega)) HO.out.row
            subst hx
            rcases hr.2 with ⟨hv, _⟩ | ⟨g2, cap2, cur2, hv, _, hg2, _⟩
            · cases hv
            · simp only [Value.slice.injEq, Option.some.injEq] at hv
              rw [hv.1, hM]; exact (Array.getElem?_eq_some_iff.1 hg2).1⟩
          have hgM : gc + 1 ≤ M := by rw [hM]; exact Nat.le_trans lc7 hp8.2.size
          have HM : Hid (M ≤ w8.heap.size) := by show _ ≤ _; rw [hM]; exact Nat.le_refl _
          have HE8 : Hid (w8.ownsRow M 43 2 (.slice none 0 0) 0 (flat [])) := World.ownsRow_nil _ _ _ _
          clear hp8 hv0 hv1 hk8 HC HO HPR hM lc7
          go_wp2
          go_loopw [9] (fun j wr => ∃ (t' n2 c2 : Nat) (a2 : Option Addr) (ms : List (Int × Int)), t' ≤ K2 ∧ j = .int .i64 t' ∧ n2 ≤ t' ∧ Hid (CB wr gc a1 n1 c1 a2 n2 c2 ⟨zs, ms, sf, -1, -1, -1⟩) ∧ Hid (Own64 (gc + 1) M wr a1 n1 c1 zs) ∧ Hid (wr.ownsRow M 43 2 (.slice a2 n2 c2) n2 (flat ms)) ∧ Hid (M ≤ wr.heap.size) ∧ Hid (RdPost w4 g a n cap bs wr)) (fun j _ => K2 - (intOf j).toNat)
          case atStart => exact ⟨0, 0, 0, none, [], Nat.zero_le _, rfl, Nat.le_refl _, HC8, HO8, HE8, HM, HP8⟩
          case round =>
            obtain ⟨t', n2, c2, a2, ms, ht', rfl, hnt', HC, HO, HE, HML, HPR⟩ := hrel
            clear HC8 HO8 HE8 HM HP8
            by_cases htl' : t' < K2
            · have htli' : (t' : Int) < (K2 : Int) := by omega
              obtain ⟨⟨x0, x1, x2, x3, x4, x5⟩, fz, lc⟩ := HC.out.cells
              have f1 := fz 1
              have d1 : wr.drew.cell? ⟨gc, 1, none⟩ = some (.slice a2 n2 c2) := x1
              have fd1 : wr.drew.frozen? ⟨gc, 1, none⟩ = false := f1
              clear fz x0 x2 x3 x4 x5
              have STEP : Hid (∀ W W' : World, CB W gc a1 n1 c1 a2 n2 c2 ⟨zs, ms, sf, -1, -1, -1⟩ ∧ Own64 (gc + 1) M W a1 n1 c1 zs ∧ W.ownsRow M 43 2 (.slice a2 n2 c2) n2 (flat ms) ∧ M ≤ W.heap.size ∧ RdPost w4 g a n cap bs W → RdPost W g a n cap bs W' → CB W' gc a1 n1 c1 a2 n2 c2 ⟨zs, ms, sf, -1, -1, -1⟩ ∧ Own64 (gc + 1) M W' a1 n1 c1 zs ∧ W'.ownsRow M 43 2 (.slice a2 n2 c2) n2 (flat ms) ∧ M ≤ W'.heap.size ∧ RdPost w4 g a n cap bs W') := fun W W' h1 h2 => by
                have hk : ∀ l, l < W.heap.size → l ≠ g → W'.heap[l]? = W.heap[l]? := fun l hl hne => h2.2.block l hl (by omega)
                exact ⟨h1.1.same (hk gc h1.1.cells.2.2 (by omega)), stab_64 (Nat.le_refl _) W W' (fun l hl hs => hk l hs (by omega)) h1.2.1, stab_row (Nat.le_refl _) W W' (fun l hl hs => hk l hs (by omega)) h1.2.2.1, Nat.le_trans h1.2.2.2.1 h2.2.size, h1.2.2.2.2.step h2⟩
              have ST0 : Hid (_ ∧ _ ∧ _ ∧ _ ∧ _) := ⟨HC.out, HO.out, HE.out, HML.out, HPR.out⟩
              have TOK : Hid True := trivial
              go_upto_region 16 with fail
              go_region_law
                (first
                  | (go_simp; go_at_call 30; clear TOK; refine (below_any g a n cap bs 3 _ (HPR.out.1.kept (Below.refl _ _).drew) (by decide)).mono ?_; rintro e w10 ⟨v10, rfl, hv100, hv101, hp10⟩; have ST10 : Hid (CB w10 gc a1 n1 c1 a2 n2 c2 ⟨zs, ms, sf, -1, -1, -1⟩ ∧ Own64 (gc + 1) M w10 a1 n1 c1 zs ∧ w10.ownsRow M 43 2 (.slice a2 n2 c2) n2 (flat ms) ∧ M ≤ w10.heap.size ∧ RdPost w4 g a n cap bs w10) := STEP.out wr w10 ST0.out ⟨hp10.1, ⟨hp10.2.os, hp10.2.tape, hp10.2.output, hp10.2.size, hp10.2.block⟩⟩; have q1 := ST10.out.1.cells.1.c1; have l10 := ST10.out.1.cells.2.2; have hv102 : v10 ≤ 2 := (by omega); have hw10 : IntKind.i64.wrap (1 + v10) = 1 + v10 := (by rw [IntKind.wrap_i64]; omega); clear hp10 hv101)
                  | (go_simp; go_at_call 30; refine (below_any g a n cap bs 3 _ ST10.out.2.2.2.2.1 (by decide)).mono ?_; rintro e w11 ⟨v11, rfl, hv110, hv111, hp11⟩; have ST11 : Hid (CB w11 gc a1 n1 c1 a2 n2 c2 ⟨zs, ms, sf, -1, -1, -1⟩ ∧ Own64 (gc + 1) M w11 a1 n1 c1 zs ∧ w11.ownsRow M 43 2 (.slice a2 n2 c2) n2 (flat ms) ∧ M ≤ w11.heap.size ∧ RdPost w4 g a n cap bs w11) := STEP.out w10 w11 ST10.out hp11; have r1 := ST11.out.1.cells.1.c1; have l11 := ST11.out.1.cells.2.2; have hv112 : v11 ≤ 2 := (by omega); have hw11 : IntKind.i64.wrap (1 + v11) = 1 + v11 := (by rw [IntKind.wrap_i64]; omega); have hor3 := ST11.out.2.2.1.alloc (.cells #[.int .i64 (1 + v10), .int .i64 (1 + v11)] 43); have hcl : ∀ jj uu, ([.int .i64 (1 + v10), .int .i64 (1 + v11)] : List Value)[jj]? = some uu → (w11.alloc (.cells #[.int .i64 (1 + v10), .int .i64 (1 + v11)] 43)).cell? ((⟨w11.heap.size, 0, none⟩ : Addr).add jj) = some uu := (by intro jj uu hju; rw [Addr.add_lit, Nat.zero_add, cell_of_row _ w11.heap.size jj _ 43 _ (heap_alloc_new w11 _), ← hju]; simp); have h1c : ∀ u ∈ ([.int .i64 (1 + v10), .int .i64 (1 + v11)] : List Value), u.oneCell' = true := (by intro u hu; simp at hu; rcases hu with rfl | rfl; exact rfl; exact rfl); have hb3 : M ≤ (w11.alloc (.cells #[.int .i64 (1 + v10), .int .i64 (1 + v11)] 43)).heap.size := Nat.le_trans ST11.out.2.2.2.1 ((Below.refl w11.heap.size w11).alloc (Nat.le_refl _) _).size; have s1 : (w11.alloc (.cells #[.int .i64 (1 + v10), .int .i64 (1 + v11)] 43)).cell? ⟨gc, 1, none⟩ = some (.slice a2 n2 c2) := (((Below.refl w11.heap.size w11).alloc (Nat.le_refl _) _).cell (p := ⟨gc, 1, none⟩) l11).trans r1; clear hp11 hv111)
                  | (refine step_append_ownP rfl (.tmp 45) (.tmp 53) 39 rfl M 43 j0 _ 2 16 Try.underlying39 jh jz0 jz1 jz2 rfl (by decide) _ n2 _ (by simp [Act.eval]) hor3 ⟨w11.heap.size, 0, none⟩ 1 1 [.int .i64 (1 + v10), .int .i64 (1 + v11)] (by simp [Act.eval]) rfl hcl h1c (by unfold maxLen; omega) (by omega) hb3 ?_; intro v7 w12 hv7 hg7; obtain ⟨a7, c7, rfl⟩ := owns_shapeP hv7; have HB12 : Hid (Below M w11 w12) := (((Below.refl M w11).alloc ST11.out.2.2.2.1 _).grown hg7 hb3 (fun l hl => (hor3.lt l hl).1)); have HE12 : Hid (w12.ownsRow M 43 2 (.slice a7 (n2 + 1) c7) (n2 + 1) (flat ms ++ [.int .i64 (1 + v10), .int .i64 (1 + v11)])) := hv7; have HC12 : Hid (CB w12 gc a1 n1 c1 a2 n2 c2 ⟨zs, ms, sf, -1, -1, -1⟩) := ST11.out.1.same (HB12.out.block gc hgM); have t1 := HC12.out.cells.1.c1; have ft1 := HC12.out.cells.2.1 1; have l12 := HC12.out.cells.2.2; clear hv7 hg7))
              all_goals
                have HC13 : Hid (CB (w12.setCell ⟨gc, 1, none⟩ (.slice a7 (n2 + 1) c7)) gc a1 n1 c1 a7 (n2 + 1) c7 ⟨zs, ms ++ [(1 + v10, 1 + v11)], sf, -1, -1, -1⟩) := ⟨cb_set HC12.out.blk 1 _ rfl⟩
                have HO13 : Hid (Own64 (gc + 1) M (w12.setCell ⟨gc, 1, none⟩ (.slice a7 (n2 + 1) c7)) a1 n1 c1 zs) := by
                  have h1 := ST11.out.2.1
                  refine ⟨owns_same (owns_same h1.row (w' := w12) (fun l hl _ => HB12.out.block l (by have := h1.lt _ hl; simpa using this))) (fun l hl hs => set_old _ _ _ _ l ?_), h1.lt⟩
                  subst hl
                  have := (h1.row.lt l rfl).1
                  omega
                have HE13 : Hid ((w12.setCell ⟨gc, 1, none⟩ (.slice a7 (n2 + 1) c7)).ownsRow M 43 2 (.slice a7 (n2 + 1) c7) (n2 + 1) (flat (ms ++ [(1 + v10, 1 + v11)]))) := by
                  show World.ownsRow _ _ _ _ _ _ _
                  rw [flat_snoc]
                  exact stab_row (Nat.le_refl _) w12 _ (fun l hl _ => set_old _ _ _ _ l (by omega)) HE12.out
                have HM13 : Hid (M ≤ (w12.setCell ⟨gc, 1, none⟩ (.slice a7 (n2 + 1) c7)).heap.size) := by
                  show _ ≤ _
                  have := HB12.out.size
                  have h2 := ST11.out.2.2.2.1
                  simp
                  omega
                have HP13 : Hid (RdPost w4 g a n cap bs (w12.setCell ⟨gc, 1, none⟩ (.slice a7 (n2 + 1) c7))) := (ST11.out.2.2.2.2.grown (touch_of_below HB12.out) (by omega) (by rw [HGC.out]; omega)).set hgg (by rw [HGC.out]; exact Nat.le_refl _) 1 _
                go_wp2
                go_roundw
                case rel => exact ⟨t' + 1, n2 + 1, c7, a7, ms ++ [(1 + v10, 1 + v11)], by omega, by go_num, by omega, HC13, HO13, HE13, HM13, HP13⟩
                case measure => simp [intOf]; omega
            · have hge' : ¬ ((t' : Int) < (K2 : Int)) := by omega
              obtain ⟨W9, hW9⟩ : ∃ W9, W9 = wr := ⟨_, rfl⟩
              rw [← hW9] at HC HO HE HML HPR ⊢
              clear hW9
              have HT9 : Hid (CT w4 g a n cap bs gc a1 n1 c1 a2 n2 c2 zs ms sf (-1) (-1) (-1) W9) := ⟨HC.out, ⟨HO.out.monoP (Nat.le_refl _) HML.out, ⟨(by
                refine ⟨HE.out.1, ?_⟩
                rcases HE.out.2 with hv | ⟨g2, cap2, cur2, hv, hbb, rest⟩
                · exact .inl hv
                · exact .inr ⟨g2, cap2, cur2, hv, by omega, rest⟩), by omega, fun x hx => by
                  have hr := HE.out
                  subst hx
                  rcases hr.2 with ⟨hv, _⟩ | ⟨g2, cap2, cur2, hv, _, hg2, _⟩
                  · cases hv
                  · simp only [Value.slice.injEq, Option.some.injEq] at hv
                    rw [hv.1]; exact (Array.getElem?_eq_some_iff.1 hg2).1⟩, by omega, by omega⟩, HPR.out⟩
              clear HC HO HE HML HPR
              go_wp2_with fail
              refine (once_any g a n cap bs 4 _ HT9.out.rd.1 (by decide) (by decide)).mono ?_
              rintro e w20 ⟨o0, rfl, hq0⟩
              have HU0 : Hid (CT w4 g a n cap bs gc a1 n1 c1 a2 n2 c2 zs ms sf (-1) (-1) (-1) w20) := HT9.out.step hq0 hgg
              clear hq0 HT9
              go_upto_if 57 with fail
              go_cut [6] (fun s wx => s = .pointer (some ⟨gc, 0, none⟩) ∧ ∃ u : Int, Hid (CT w4 g a n cap bs gc a1 n1 c1 a2 n2 c2 zs ms sf u (-1) (-1) wx))
              case first =>
                cases o0 with
                | true =>
                  go_wp2_with fail
                  refine (below_any g a n cap bs 3 _ HU0.out.rd.1 (by decide)).mono ?_
                  rintro e w30 ⟨y0, rfl, hy0, hy1, hr0⟩
                  have HV0 : Hid (CT w4 g a n cap bs gc a1 n1 c1 a2 n2 c2 zs ms sf (-1) (-1) (-1) w30) := HU0.out.step hr0 hgg
                  have cx := HV0.out.cb.cells.1.c3
                  rw [Nat.zero_add] at cx
                  have fx := HV0.out.cb.cells.2.1 3
                  have lx := HV0.out.cb.cells.2.2
                  have FIN : Hid (CT w4 g a n cap bs gc a1 n1 c1 a2 n2 c2 zs ms sf y0 (-1) (-1) (w30.setCell ⟨gc, 3, none⟩ (.int .i64 y0))) := HV0.out.set hgg HGC.out 3 _ rfl
                  clear hr0
                  go_wp2
                  go_meet
                  exact ⟨rfl, _, FIN⟩
                | false =>
                  go_wp2
                  go_meet
                  exact ⟨rfl, _, HU0⟩
              case rest =>
                obtain ⟨rfl, nd0, HS0⟩ := hcut
                obtain ⟨W20, hW20⟩ : ∃ W20, W20 = wc := ⟨_, rfl⟩
                rw [← hW20] at HS0 ⊢
                clear hW20 HU0
                go_wp2_with fail
                refine (once_any g a n cap bs 4 _ HS0.out.rd.1 (by decide) (by decide)).mono ?_
                rintro e w21 ⟨o1, rfl, hq1⟩
                have HU1 : Hid (CT w4 g a n cap bs gc a1 n1 c1 a2 n2 c2 zs ms sf nd0 (-1) (-1) w21) := HS0.out.step hq1 hgg
                clear hq1 HS0
                go_upto_if 62 with fail
                go_cut [6] (fun s wx => s = .pointer (some ⟨gc, 0, none⟩) ∧ ∃ u : Int, Hid (CT w4 g a n cap bs gc a1 n1 c1 a2 n2 c2 zs ms sf nd0 u (-1) wx))
                case first =>
                  cases o1 with
                  | true =>
                    go_wp2_with fail
                    refine (below_any g a n cap bs 3 _ HU1.out.rd.1 (by decide)).mono ?_
                    rintro e w31 ⟨y1, rfl, hy0, hy1, hr1⟩
                    have HV1 : Hid (CT w4 g a n cap bs gc a1 n1 c1 a2 n2 c2 zs ms sf nd0 (-1) (-1) w31) := HU1.out.step hr1 hgg
                    have cx := HV1.out.cb.cells.1.c4
                    rw [Nat.zero_add] at cx
                    have fx := HV1.out.cb.cells.2.1 4
                    have lx := HV1.out.cb.cells.2.2
                    have FIN : Hid (CT w4 g a n cap bs gc a1 n1 c1 a2 n2 c2 zs ms sf nd0 y1 (-1) (w31.setCell ⟨gc, 4, none⟩ (.int .i64 y1))) := HV1.out.set hgg HGC.out 4 _ rfl
                    clear hr1
                    go_wp2
                    go_meet
                    exact ⟨rfl, _, FIN⟩
                  | false =>
                    go_wp2
                    go_meet
                    exact ⟨rfl, _, HU1⟩
                case rest =>
                  obtain ⟨rfl, nm0, HS1⟩ := hcut
                  obtain ⟨W21, hW21⟩ : ∃ W21, W21 = wc := ⟨_, rfl⟩
                  rw [← hW21] at HS1 ⊢
                  clear hW21 HU1
                  go_wp2_with fail
                  refine (once_any g a n cap bs 4 _ HS1.out.rd.1 (by decide) (by decide)).mono ?_
                  rintro e w22 ⟨o2, rfl, hq2⟩
                  have HU2 : Hid (CT w4 g a n cap bs gc a1 n1 c1 a2 n2 c2 zs ms sf nd0 nm0 (-1) w22) := HS1.out.step hq2 hgg
                  clear hq2 HS1
                  go_upto_if 67 with fail
                  go_cut [6] (fun s wx => s = .pointer (some ⟨gc, 0, none⟩) ∧ ∃ u : Int, Hid (CT w4 g a n cap bs gc a1 n1 c1 a2 n2 c2 zs ms sf nd0 nm0 u wx))
                  case first =>
                    cases o2 with
                    | true =>
                      go_wp2_with fail
                      refine (below_any g a n cap bs 3 _ HU2.out.rd.1 (by decide)).mono ?_
                      rintro e w32 ⟨y2, rfl, hy0, hy1, hr2⟩
                      have HV2 : Hid (CT w4 g a n cap bs gc a1 n1 c1 a2 n2 c2 zs ms sf nd0 nm0 (-1) w32) := HU2.out.step hr2 hgg
                      have cx := HV2.out.cb.cells.1.c5
                      rw [Nat.zero_add] at cx
                      have fx := HV2.out.cb.cells.2.1 5
                      have lx := HV2.out.cb.cells.2.2
                      have FIN : Hid (CT w4 g a n cap bs gc a1 n1 c1 a2 n2 c2 zs ms sf nd0 nm0 y2 (w32.setCell ⟨gc, 5, none⟩ (.int .i64 y2))) := HV2.out.set hgg HGC.out 5 _ rfl
                      clear hr2
                      go_wp2
                      go_meet
                      exact ⟨rfl, _, FIN⟩
                    | false =>
                      go_wp2
                      go_meet
                      exact ⟨rfl, _, HU2⟩
                  case rest =>
                    obtain ⟨rfl, na0, HS2⟩ := hcut
                    obtain ⟨W22, hW22⟩ : ∃ W22, W22 = wc := ⟨_, rfl⟩
                    rw [← hW22] at HS2 ⊢
                    clear hW22 HU2
                    have hS2 := HS2.out
                    obtain ⟨x0, x1, x2, x3, x4, x5⟩ := hS2.cb.cells.1
                    rw [Nat.zero_add] at x1 x2 x3 x4 x5
                    have lc := hS2.cb.cells.2.2
                    have s2 := hS2.rd.2.size
                    have HDD : Hid (DP w.heap.size W22 ao k cc xs S) := HD4.out.stab (fun l hl hs => hS2.rd.2.block l hs (.inr (by omega))) s2
                    obtain ⟨vs, hvs⟩ := HDD.out.row
                    obtain ⟨wA, hwA⟩ : ∃ wA, wA = W22.alloc (.cells #[.slice a1 n1 c1, .slice a2 n2 c2, .bool sf, .int .i64 nd0, .int .i64 nm0, .int .i64 na0] 41) := ⟨_, rfl⟩
                    have bA : Below W22.heap.size W22 wA := by rw [hwA]; exact (Below.refl _ _).alloc (Nat.le_refl _) _
                    have HDA : Hid (DP w.heap.size wA ao k cc xs S) := HDD.out.stab (fun l hl hs => bA.block l hs) bA.size
                    have HVA : Hid (wA.ownsRow w.heap.size 41 6 (.slice ao k cc) k vs) := ownsRow_below hvs bA
                    have HXA : Hid (PcO (gc + 1) W22.heap.size wA a1 n1 c1 a2 n2 c2 ⟨zs, ms, sf, nd0, nm0, na0⟩) := PcO.stab (Nat.le_refl _) W22 wA (fun l hl hs => bA.block l hs) hS2.own
                    have HPA : Hid (RdPost w g a n cap bs wA) := by
                      show RdPost _ _ _ _ _ _ _
                      rw [hwA]; exact (HP4.out.step hS2.rd).alloc _
                    have HSK : Hid (S k ≤ gc + 1) := by
                      show _ ≤ _
                      have := HD4.out.top
                      rw [HGC.out] at this
                      omega
                    have hsA := bA.size
                    have hwA0 : w.heap.size ≤ wA.heap.size := HPA.out.2.size
                    have hcl : ∀ jj uu, ([.slice a1 n1 c1, .slice a2 n2 c2, .bool sf, .int .i64 nd0, .int .i64 nm0, .int .i64 na0] : List Value)[jj]? = some uu → wA.cell? ((⟨W22.heap.size, 0, none⟩ : Addr).add jj) = some uu := by
                      intro jj uu hju
                      rw [hwA, Addr.add_lit, Nat.zero_add, cell_of_row _ W22.heap.size jj _ 41 _ (heap_alloc_new W22 _), ← hju]
                      simp
                    have HCL : Hid (∀ jj uu, ([.slice a1 n1 c1, .slice a2 n2 c2, .bool sf, .int .i64 nd0, .int .i64 nm0, .int .i64 na0] : List Value)[jj]? = some uu → (W22.alloc (.cells #[.slice a1 n1 c1, .slice a2 n2 c2, .bool sf, .int .i64 nd0, .int .i64 nm0, .int .i64 na0] 41)).cell? ((⟨W22.heap.size, 0, none⟩ : Addr).add jj) = some uu) := by rw [← hwA]; exact hcl
                    have H1C : Hid (∀ u ∈ ([.slice a1 n1 c1, .slice a2 n2 c2, .bool sf, .int .i64 nd0, .int .i64 nm0, .int .i64 na0] : List Value), u.oneCell' = true) := by
                      intro u hu
                      simp at hu
                      rcases hu with rfl | rfl | rfl | rfl | rfl | rfl <;> rfl
                    have HWA : Hid (wA = W22.alloc (.cells #[.slice a1 n1 c1, .slice a2 n2 c2, .bool sf, .int .i64 nd0, .int .i64 nm0, .int .i64 na0] 41)) := hwA
                    clear hS2 hvs bA hcl hwA
                    go_wp2_with (at_builtin; rw [← HWA.out]; refine wpList_append_own _ rfl _ _ 24 rfl w.heap.size 41 i0 _ 6 80 Try.underlying24 ih hz0 hz1 hz2 rfl (by decide) _ k _ rfl HVA.out ⟨W22.heap.size, 0, none⟩ 1 1 [.slice a1 n1 c1, .slice a2 n2 c2, .bool sf, .int .i64 nd0, .int .i64 nm0, .int .i64 na0] rfl rfl (by rw [HWA.out]; exact HCL.out) H1C.out (by unfold maxLen; omega) (by omega) hwA0 ?_; intro v7 w12 hv7 hg7 _; obtain ⟨g7, c7, rfl⟩ := owns_some hv7)
                    have HDF : Hid (DP w.heap.size w12 (some ⟨g7, 0, none⟩) (k + 1) c7 (xs ++ [⟨zs, ms, sf, nd0, nm0, na0⟩]) (fun j => if j ≤ k then S j else W22.heap.size)) := HDA.out.more HVA.out HXA.out HSK.out (by omega) hsA hv7 hg7
                    have HPF : Hid (RdPost w g a n cap bs w12) := HPA.out.grown (touch_grown (lo := w.heap.size) (hi := wA.heap.size) hg7 (fun l hl => HVA.out.lt l hl)) hgw (Nat.le_refl _)
                    clear hv7 hg7
                    go_roundw
                    case rel => exact ⟨k + 1, c7, _, _, _, by omega, rfl, by go_num, HDF, HPF⟩
                    case measure => simp [intOf]; omega
    · obtain rfl : k = N + 1 := by omega
      have hge : ¬ (((N + 1 : Nat) : Int) < 1 + (N : Int)) := by omega
      obtain ⟨g2, hao⟩ : ∃ g2, ao = some ⟨g2, 0, none⟩ := by
        obtain ⟨g2, _, _, _, _, _, _, ha, _⟩ := HD.out.get 0 (by omega)
        exact ⟨g2, ha⟩
      subst hao
      go_wp2_with fail
      refine (once_any g a n cap bs 12 _ HP.out.1 (by decide) (by decide)).mono ?_
      rintro e w20 ⟨o, rfl, hq⟩
      have HP20 : Hid (RdPost w g a n cap bs w20) := HP.out.step hq
      have HD20 : Hid (DP w.heap.size w20 (some ⟨g2, 0, none⟩) (N + 1) cc xs S) := HD.out.stab (fun l hl hs => hq.2.block l hs (.inr (by omega))) hq.2.size
      clear hq HD HP
      cases o with
      | false =>
        go_wp2
        go_ret
        exact ⟨_, _, _, xs, rfl, by omega, fun W' hW => (HD20.out.dq.stab hW).pcs (by omega), HP20.out⟩
      | true =>
        go_wp2_with fail
        refine (below_any g a n cap bs _ _ HP20.out.1 (by omega)).mono ?_
        rintro e w21 ⟨vI, rfl, h0, h1, hq⟩
        obtain ⟨I, rfl⟩ := Int.eq_ofNat_of_zero_le h0
        have hI : I < N + 1 := by omega
        have HP21 : Hid (RdPost w g a n cap bs w21) := HP20.out.step hq
        have HD21 : Hid (DP w.heap.size w21 (some ⟨g2, 0, none⟩) (N + 1) cc xs S) := HD20.out.stab (fun l hl hs => hq.2.block l hs (.inr (by omega))) hq.2.size
        clear hq HD20 HP20 h0 h1
        go_wp2_with fail
        refine (below_any g a n cap bs 5 _ HP21.out.1 (by decide)).mono ?_
        rintro e w22 ⟨cs, rfl, h0, h1, hq⟩
        have HP22 : Hid (RdPost w g a n cap bs w22) := HP21.out.step hq
        have HD22 : Hid (DP w.heap.size w22 (some ⟨g2, 0, none⟩) (N + 1) cc xs S) := HD21.out.stab (fun l hl hs => hq.2.block l hs (.inr (by omega))) hq.2.size
        clear hq HD21 HP21
        have hgg2 := HD22.out.gt rfl
        have hIi : (I : Int) < ((N + 1 : Nat) : Int) := by omega
        have hIi2 : (I : Int) < (N : Int) + 1 := by omega
        obtain ⟨g3, a1, n1, c1, a2, n2, c2, ha, hC, hO⟩ := HD22.out.get I hI
        simp only [Option.some.injEq, Addr.mk.injEq, and_true] at ha
        subst ha
        have HCI : Hid (CellsP w22 g2 (I * 6) a1 n1 c1 a2 n2 c2 (xs.getD I default)) := hC
        have HOI : Hid (PcO (S I) (S (I + 1)) w22 a1 n1 c1 a2 n2 c2 (xs.getD I default)) := hO
        clear hC hO
        have hcc : cs = 0 ∨ cs = 1 ∨ cs = 2 ∨ cs = 3 ∨ cs = 4 := by omega
        clear h0 h1
        rcases hcc with rfl | rfl | rfl | rfl | rfl
        · obtain ⟨cur, hcur, hsz⟩ := HD22.out.blk
          obtain ⟨k0, kh, kz0, kz1, kz2⟩ := info_parts Try.info2P
          have HCUR : Hid (_ = _) := hcur
          have s22 := HP22.out.2.size
          have hsm := HOI.out.sm
          have x1 := HCI.out.c0
          have x1d : w22.drew.cell? ⟨g2, I * 6, none⟩ = some (.slice a1 n1 c1) := x1
          have l22 : g2 < w22.heap.size := hgg2.2
          have hSI : w.heap.size ≤ S I := HD22.out.low I (by omega)
          have hSI2 : S I ≤ w22.heap.size := Nat.le_trans (HD22.out.upto I (N + 1) (by omega) (Nat.le_refl _)) HD22.out.top
          have RD0 : Hid (Rd w22.drew g a n cap bs) := HP22.out.1.kept (Below.refl _ _).drew
          have BD : Below w22.heap.size w22 (w22.drew.alloc (.cells #[.int .i64 (-1), .int .i64 1000, .int .i64 1001, .int .i64 1] 2)) := (Below.refl w22.heap.size w22).drew.alloc (Nat.le_refl _) _
          have RD1 : Hid (Rd (w22.drew.alloc (.cells #[.int .i64 (-1), .int .i64 1000, .int .i64 1001, .int .i64 1] 2)) g a n cap bs) := HP22.out.1.kept BD
          have NA : Hid ((w22.drew.alloc (.cells #[.int .i64 (-1), .int .i64 1000, .int .i64 1001, .int .i64 1] 2)).heap[w22.heap.size]? = some (.cells #[.int .i64 (-1), .int .i64 1000, .int .i64 1001, .int .i64 1] 2 (0, 0))) := heap_alloc_new w22.drew _
          have LA : Hid (w22.heap.size < (w22.drew.alloc (.cells #[.int .i64 (-1), .int .i64 1000, .int .i64 1001, .int .i64 1] 2)).heap.size) := (Array.getElem?_eq_some_iff.1 NA.out).1
          have x1a : (w22.drew.alloc (.cells #[.int .i64 (-1), .int .i64 1000, .int .i64 1001, .int .i64 1] 2)).cell? ⟨g2, I * 6, none⟩ = some (.slice a1 n1 c1) := (BD.cell (p := ⟨g2, I * 6, none⟩) l22).trans x1
          have HBD : Hid (Below w22.heap.size w22 (w22.drew.alloc (.cells #[.int .i64 (-1), .int .i64 1000, .int .i64 1001, .int .i64 1] 2))) := BD
          clear hcur hsz BD
          go_upto_region 29 with fail
          go_region_law
            (first
              | (go_simp; go_at_call 30; refine (below_any g a n cap bs 4 _ (by first | exact RD0.out | exact RD1.out) (by decide)).mono ?_; rintro e w24 ⟨v, rfl, h0, h1, hq⟩; obtain ⟨V, rfl⟩ := Int.eq_ofNat_of_zero_le h0; have hV : V < 4 := (by omega); have hVi : (V : Int) < 4 := (by omega); (first | (have n24 := (hq.2.block w22.heap.size LA.out (.inr (by omega))).trans NA.out; have szA : w22.heap.size ≤ w24.heap.size := Nat.le_trans HBD.out.size hq.2.size; obtain ⟨z, hz⟩ : ∃ z : Int, w24.cell? ⟨w22.heap.size, V, none⟩ = some (.int .i64 z) := (by rw [cell_of_row _ _ V _ 2 (0, 0) n24]; exact four_at V hV); have lz : w22.heap.size < w24.heap.size := (Array.getElem?_eq_some_iff.1 n24).1; have HOLDA0 : ∀ l, w.heap.size ≤ l → l < w22.heap.size → w24.heap[l]? = w22.heap[l]? := (fun l h1 h2 => (hq.2.block l (Nat.lt_of_lt_of_le h2 HBD.out.size) (.inr (by omega))).trans (HBD.out.block l h2)); have lA : g2 < w24.heap.size := (by have := szA; omega); have qA : w24.cell? ⟨g2, I * 6, none⟩ = some (.slice a1 n1 c1) := (World.cell?_of_block (a := ⟨g2, I * 6, none⟩) (HOLDA0 g2 hgg2.1 hgg2.2)).trans x1; have BAA : Below w24.heap.size w24 (w24.alloc (.cells #[.int .i64 z] 2)) := (Below.refl _ _).alloc (Nat.le_refl _) _; have rA : (w24.alloc (.cells #[.int .i64 z] 2)).cell? ⟨g2, I * 6, none⟩ = some (.slice a1 n1 c1) := (BAA.cell (p := ⟨g2, I * 6, none⟩) lA).trans qA; have horA : (w24.alloc (.cells #[.int .i64 z] 2)).ownsRow (S I) 2 1 (.slice a1 n1 c1) n1 ((xs.getD I default).pols.map (Value.int .i64)) := (stab_row (Nat.le_refl _) w22 w24 (fun l hl hs => HOLDA0 l (Nat.le_trans hSI hl) hs) HOI.out.pol.row).alloc _; have hclA : ∀ jj uu, ([z].map (Value.int .i64))[jj]? = some uu → (w24.alloc (.cells #[.int .i64 z] 2)).cell? ((⟨w24.heap.size, 0, none⟩ : Addr).add jj) = some uu := cell_one64P _ _; have HSZA : Hid (w22.heap.size ≤ (w24.alloc (.cells #[.int .i64 z] 2)).heap.size) := Nat.le_trans szA BAA.size; have hbA : S I ≤ (w24.alloc (.cells #[.int .i64 z] 2)).heap.size := Nat.le_trans hSI2 HSZA.out; have HOLDA : Hid (∀ l, w.heap.size ≤ l → l < w22.heap.size → (w24.alloc (.cells #[.int .i64 z] 2)).heap[l]? = w22.heap[l]?) := (fun l h1 h2 => (BAA.block l (Nat.lt_of_lt_of_le h2 szA)).trans (HOLDA0 l h1 h2)); have HPXA : Hid (RdPost w g a n cap bs (w24.alloc (.cells #[.int .i64 z] 2))) := RdPost.alloc ⟨hq.1, (HP22.out.2.trans (Touch.of_below HBD.out)).trans hq.2⟩ _; clear BAA HOLDA0; clear hq n24 h0 h1) | (have s24 : w22.heap.size ≤ w24.heap.size := hq.2.size; have nB := heap_alloc_new w24 (.cells #[.int .i64 (-1), .int .i64 1000, .int .i64 1001, .int .i64 1] 2); have sb1 : (w24.alloc (.cells #[.int .i64 (-1), .int .i64 1000, .int .i64 1001, .int .i64 1] 2)).heap.size = w24.heap.size + 1 := (by simp); have szB : w22.heap.size ≤ (w24.alloc (.cells #[.int .i64 (-1), .int .i64 1000, .int .i64 1001, .int .i64 1] 2)).heap.size := (by omega); obtain ⟨z, hz⟩ : ∃ z : Int, (w24.alloc (.cells #[.int .i64 (-1), .int .i64 1000, .int .i64 1001, .int .i64 1] 2)).cell? ⟨w24.heap.size, V, none⟩ = some (.int .i64 z) := (by rw [cell_of_row _ _ V _ 2 (0, 0) nB]; exact four_at V hV); have q24 : w24.cell? ⟨g2, I * 6, none⟩ = some (.slice a1 n1 c1) := (World.cell?_of_block (a := ⟨g2, I * 6, none⟩) (hq.2.block g2 hgg2.2 (.inr (by omega)))).trans x1; have l24 : g2 < w24.heap.size := (by omega); have HOLDB0 : ∀ l, w.heap.size ≤ l → l < w22.heap.size → (w24.alloc (.cells #[.int .i64 (-1), .int .i64 1000, .int .i64 1001, .int .i64 1] 2)).heap[l]? = w22.heap[l]? := (fun l h1 h2 => (alloc_oldP w24 _ l (by omega)).trans (hq.2.block l h2 (.inr (by omega)))); have lB : g2 < (w24.alloc (.cells #[.int .i64 (-1), .int .i64 1000, .int .i64 1001, .int .i64 1] 2)).heap.size := (by have := szB; omega); have qB : (w24.alloc (.cells #[.int .i64 (-1), .int .i64 1000, .int .i64 1001, .int .i64 1] 2)).cell? ⟨g2, I * 6, none⟩ = some (.slice a1 n1 c1) := (World.cell?_of_block (a := ⟨g2, I * 6, none⟩) (HOLDB0 g2 hgg2.1 hgg2.2)).trans x1; have BAB : Below (w24.alloc (.cells #[.int .i64 (-1), .int .i64 1000, .int .i64 1001, .int .i64 1] 2)).heap.size (w24.alloc (.cells #[.int .i64 (-1), .int .i64 1000, .int .i64 1001, .int .i64 1] 2)) ((w24.alloc (.cells #[.int .i64 (-1), .int .i64 1000, .int .i64 1001, .int .i64 1] 2)).alloc (.cells #[.int .i64 z] 2)) := (Below.refl _ _).alloc (Nat.le_refl _) _; have rB : ((w24.alloc (.cells #[.int .i64 (-1), .int .i64 1000, .int .i64 1001, .int .i64 1] 2)).alloc (.cells #[.int .i64 z] 2)).cell? ⟨g2, I * 6, none⟩ = some (.slice a1 n1 c1) := (BAB.cell (p := ⟨g2, I * 6, none⟩) lB).trans qB; have horB : ((w24.alloc (.cells #[.int .i64 (-1), .int .i64 1000, .int .i64 1001, .int .i64 1] 2)).alloc (.cells #[.int .i64 z] 2)).ownsRow (S I) 2 1 (.slice a1 n1 c1) n1 ((xs.getD I default).pols.map (Value.int .i64)) := (stab_row (Nat.le_refl _) w22 (w24.alloc (.cells #[.int .i64 (-1), .int .i64 1000, .int .i64 1001, .int .i64 1] 2)) (fun l hl hs => HOLDB0 l (Nat.le_trans hSI hl) hs) HOI.out.pol.row).alloc _; have hclB : ∀ jj uu, ([z].map (Value.int .i64))[jj]? = some uu → ((w24.alloc (.cells #[.int .i64 (-1), .int .i64 1000, .int .i64 1001, .int .i64 1] 2)).alloc (.cells #[.int .i64 z] 2)).cell? ((⟨w24.heap.size + 1, 0, none⟩ : Addr).add jj) = some uu := (by have := cell_one64P (w24.alloc (.cells #[.int .i64 (-1), .int .i64 1000, .int .i64 1001, .int .i64 1] 2)) z; rw [sb1] at this; exact this); have HSZB : Hid (w22.heap.size ≤ ((w24.alloc (.cells #[.int .i64 (-1), .int .i64 1000, .int .i64 1001, .int .i64 1] 2)).alloc (.cells #[.int .i64 z] 2)).heap.size) := Nat.le_trans szB BAB.size; have hbB : S I ≤ ((w24.alloc (.cells #[.int .i64 (-1), .int .i64 1000, .int .i64 1001, .int .i64 1] 2)).alloc (.cells #[.int .i64 z] 2)).heap.size := Nat.le_trans hSI2 HSZB.out; have HOLDB : Hid (∀ l, w.heap.size ≤ l → l < w22.heap.size → ((w24.alloc (.cells #[.int .i64 (-1), .int .i64 1000, .int .i64 1001, .int .i64 1] 2)).alloc (.cells #[.int .i64 z] 2)).heap[l]? = w22.heap[l]?) := (fun l h1 h2 => (BAB.block l (Nat.lt_of_lt_of_le h2 szB)).trans (HOLDB0 l h1 h2)); have HPXB : Hid (RdPost w g a n cap bs ((w24.alloc (.cells #[.int .i64 (-1), .int .i64 1000, .int .i64 1001, .int .i64 1] 2)).alloc (.cells #[.int .i64 z] 2))) := RdPost.alloc (RdPost.alloc ⟨hq.1, HP22.out.2.trans ⟨hq.2.os, hq.2.tape, hq.2.output, hq.2.size, hq.2.block⟩⟩ _) _; clear BAB HOLDB0; clear hq nB h0 h1)))
              | (refine step_append_ownP rfl (.tmp 92) (.tmp 98) 32 rfl (S I) 2 k0 _ 1 8 Try.underlying32 kh kz0 kz1 kz2 rfl (by decide) _ n1 _ (by simp [Act.eval]) horA ⟨w24.heap.size, 0, none⟩ 1 1 ([z].map (Value.int .i64)) (by simp [Act.eval]) rfl hclA (ints_oneCell .i64 [z]) (by unfold maxLen; omega) (by omega) hbA ?_; intro v7 w25 hv7 hg7; obtain ⟨g7, c7, rfl⟩ := owns_some hv7; have HK25 : Hid (∀ l, w.heap.size ≤ l → l < w22.heap.size → a1 ≠ some ⟨l, 0, none⟩ → w25.heap[l]? = w22.heap[l]?) := (fun l h1 h2 h3 => (hg7.block l (Nat.lt_of_lt_of_le h2 HSZA.out) (by intro e; rcases horA.2 with ⟨hv', _⟩ | ⟨gx, _, _, hv', _⟩; (rw [hv'] at e; cases e); (simp only [Value.slice.injEq] at hv'; rw [hv'.1] at e h3; simp [Value.ownBlock] at e; exact h3 (by rw [e])))).trans (HOLDA.out l h1 h2)); have S25 : Hid (w22.heap.size ≤ w25.heap.size) := Nat.le_trans HSZA.out hg7.size; have hv8 : w25.ownsRow (S I) 2 1 (.slice (some ⟨g7, 0, none⟩) (n1 + 1) c7) (n1 + 1) (((xs.getD I default).pols ++ [z]).map (Value.int .i64)) := (by rw [List.map_append]; exact hv7); obtain ⟨xs', hxs⟩ := HD22.out.alter0 (by omega) I hI HCI.out HOI.out HK25.out S25.out hSI hv8; have HXS : Hid (∀ W' : World, (∀ l, w.heap.size ≤ l → l < w25.heap.size → W'.heap[l]? = (w25.setCell ⟨g2, I * 6, none⟩ (.slice (some ⟨g7, 0, none⟩) (n1 + 1) c7)).heap[l]?) → Pcs W' (some ⟨g2, 0, none⟩) (N + 1) xs') := hxs; have k25 : w25.heap[g2]? = some (.cells cur 41 (0, 0)) := (HK25.out g2 hgg2.1 hgg2.2 (fun e => row_ne HOI.out.pol.row HCUR.out (by decide) g2 e rfl)).trans HCUR.out; have t1 : w25.cell? ⟨g2, I * 6, none⟩ = some (.slice a1 n1 c1) := (World.cell?_of_block (a := ⟨g2, I * 6, none⟩) (k25.trans HCUR.out.symm)).trans x1; have ft1 : w25.frozen? ⟨g2, I * 6, none⟩ = false := frozen_of_row w25 g2 _ _ 41 k25; have l25 : g2 < w25.heap.size := (Array.getElem?_eq_some_iff.1 k25).1; have HP25 : Hid (RdPost w g a n cap bs w25) := HPXA.out.grown (touch_grown (lo := S I) (hi := (w24.alloc (.cells #[.int .i64 z] 2)).heap.size) hg7 (fun l hl => horA.lt l hl)) (by omega) hSI; clear hv7 hg7 hv8 hxs k25)
              | (refine step_append_ownP rfl (.tmp 92) (.tmp 98) 32 rfl (S I) 2 k0 _ 1 8 Try.underlying32 kh kz0 kz1 kz2 rfl (by decide) _ n1 _ (by simp [Act.eval]) horB ⟨w24.heap.size + 1, 0, none⟩ 1 1 ([z].map (Value.int .i64)) (by simp [Act.eval]) rfl hclB (ints_oneCell .i64 [z]) (by unfold maxLen; omega) (by omega) hbB ?_; intro v7 w25 hv7 hg7; obtain ⟨g7, c7, rfl⟩ := owns_some hv7; have HK25 : Hid (∀ l, w.heap.size ≤ l → l < w22.heap.size → a1 ≠ some ⟨l, 0, none⟩ → w25.heap[l]? = w22.heap[l]?) := (fun l h1 h2 h3 => (hg7.block l (Nat.lt_of_lt_of_le h2 HSZB.out) (by intro e; rcases horB.2 with ⟨hv', _⟩ | ⟨gx, _, _, hv', _⟩; (rw [hv'] at e; cases e); (simp only [Value.slice.injEq] at hv'; rw [hv'.1] at e h3; simp [Value.ownBlock] at e; exact h3 (by rw [e])))).trans (HOLDB.out l h1 h2)); have S25 : Hid (w22.heap.size ≤ w25.heap.size) := Nat.le_trans HSZB.out hg7.size; have hv8 : w25.ownsRow (S I) 2 1 (.slice (some ⟨g7, 0, none⟩) (n1 + 1) c7) (n1 + 1) (((xs.getD I default).pols ++ [z]).map (Value.int .i64)) := (by rw [List.map_append]; exact hv7); obtain ⟨xs', hxs⟩ := HD22.out.alter0 (by omega) I hI HCI.out HOI.out HK25.out S25.out hSI hv8; have HXS : Hid (∀ W' : World, (∀ l, w.heap.size ≤ l → l < w25.heap.size → W'.heap[l]? = (w25.setCell ⟨g2, I * 6, none⟩ (.slice (some ⟨g7, 0, none⟩) (n1 + 1) c7)).heap[l]?) → Pcs W' (some ⟨g2, 0, none⟩) (N + 1) xs') := hxs; have k25 : w25.heap[g2]? = some (.cells cur 41 (0, 0)) := (HK25.out g2 hgg2.1 hgg2.2 (fun e => row_ne HOI.out.pol.row HCUR.out (by decide) g2 e rfl)).trans HCUR.out; have t1 : w25.cell? ⟨g2, I * 6, none⟩ = some (.slice a1 n1 c1) := (World.cell?_of_block (a := ⟨g2, I * 6, none⟩) (k25.trans HCUR.out.symm)).trans x1; have ft1 : w25.frozen? ⟨g2, I * 6, none⟩ = false := frozen_of_row w25 g2 _ _ 41 k25; have l25 : g2 < w25.heap.size := (Array.getElem?_eq_some_iff.1 k25).1; have HP25 : Hid (RdPost w g a n cap bs w25) := HPXB.out.grown (touch_grown (lo := S I) (hi := ((w24.alloc (.cells #[.int .i64 (-1), .int .i64 1000, .int .i64 1001, .int .i64 1] 2)).alloc (.cells #[.int .i64 z] 2)).heap.size) hg7 (fun l hl => horB.lt l hl)) (by omega) hSI; clear hv7 hg7 hv8 hxs k25))
          all_goals
            have HPF : Hid (RdPost w g a n cap bs (w25.setCell ⟨g2, I * 6, none⟩ (.slice (some ⟨g7, 0, none⟩) (n1 + 1) c7))) := HP25.out.set (by omega) (by omega) _ _
            go_wp2
            go_ret
            exact ⟨_, _, _, xs', rfl, by omega, fun W' hW => HXS.out W' (fun l h1 h2 => hW l h1 (by simpa using h2)), HPF.out⟩
        · obtain ⟨cur, hcur, hsz⟩ := HD22.out.blk
          have HCUR : Hid (_ = _) := hcur
          have s22 := HP22.out.2.size
          have hsm := HOI.out.sm
          have x1 := HCI.out.c1
          have f1 : w22.frozen? ⟨g2, I * 6 + 1, none⟩ = false := frozen_of_row w22 g2 _ _ 41 hcur
          have x1d : w22.drew.cell? ⟨g2, I * 6 + 1, none⟩ = some (.slice a2 n2 c2) := x1
          have f1d : w22.drew.frozen? ⟨g2, I * 6 + 1, none⟩ = false := f1
          have l22 : g2 < w22.heap.size := hgg2.2
          have hSI : w.heap.size ≤ S I := HD22.out.low I (by omega)
          have hSI2 : S I ≤ w22.heap.size := Nat.le_trans (HD22.out.upto I (N + 1) (by omega) (Nat.le_refl _)) HD22.out.top
          clear hcur hsz
          go_upto_region 31 with fail
          go_region_law
            (first
              | (go_simp; go_at_call 30; refine (below_any g a n cap bs 2 _ (HP22.out.1.kept (Below.refl _ _).drew) (by decide)).mono ?_; rintro e w24 ⟨v, rfl, h0, h1, hq⟩; obtain ⟨V, rfl⟩ := Int.eq_ofNat_of_zero_le h0; have HP24 : Hid (RdPost w g a n cap bs w24) := ⟨hq.1, HP22.out.2.trans ⟨hq.2.os, hq.2.tape, hq.2.output, hq.2.size, hq.2.block⟩⟩; have s24 : w22.heap.size ≤ w24.heap.size := hq.2.size; have HK24 : Hid (∀ l, w.heap.size ≤ l → l < w22.heap.size → w24.heap[l]? = w22.heap[l]?) := (fun l h1 h2 => hq.2.block l h2 (.inr (by omega))); have q1 : w24.cell? ⟨g2, I * 6 + 1, none⟩ = some (.slice a2 n2 c2) := (World.cell?_of_block (a := ⟨g2, I * 6 + 1, none⟩) (HK24.out g2 hgg2.1 hgg2.2)).trans x1; have l24 : g2 < w24.heap.size := (by omega); have BA : Below w24.heap.size w24 (w24.alloc (.cells #[.int .i64 (V : Int), .int .i64 1] 43)) := (Below.refl _ _).alloc (Nat.le_refl _) _; have r1 : (w24.alloc (.cells #[.int .i64 (V : Int), .int .i64 1] 43)).cell? ⟨g2, I * 6 + 1, none⟩ = some (.slice a2 n2 c2) := (BA.cell (p := ⟨g2, I * 6 + 1, none⟩) l24).trans q1; have hor3 : (w24.alloc (.cells #[.int .i64 (V : Int), .int .i64 1] 43)).ownsRow (S I) 43 2 (.slice a2 n2 c2) n2 (flat (xs.getD I default).maps) := (stab_row (Nat.le_refl _) w22 w24 (fun l hl hs => HK24.out l (by omega) hs) HOI.out.mp.row).alloc _; have hcl : ∀ jj uu, ([.int .i64 (V : Int), .int .i64 1] : List Value)[jj]? = some uu → (w24.alloc (.cells #[.int .i64 (V : Int), .int .i64 1] 43)).cell? ((⟨w24.heap.size, 0, none⟩ : Addr).add jj) = some uu := (by intro jj uu hju; rw [Addr.add_lit, Nat.zero_add, cell_of_row _ w24.heap.size jj _ 43 _ (heap_alloc_new w24 _), ← hju]; simp); have h1c : ∀ u ∈ ([.int .i64 (V : Int), .int .i64 1] : List Value), u.oneCell' = true := (by intro u hu; simp at hu; rcases hu with rfl | rfl; exact rfl; exact rfl); have hb3 : S I ≤ (w24.alloc (.cells #[.int .i64 (V : Int), .int .i64 1] 43)).heap.size := Nat.le_trans (Nat.le_trans hSI2 s24) BA.size; have HBA : Hid (Below w24.heap.size w24 (w24.alloc (.cells #[.int .i64 (V : Int), .int .i64 1] 43))) := BA; clear hq h0 h1 BA)
              | (refine step_append_ownP rfl (.tmp 110) (.tmp 114) 39 rfl (S I) 43 j0 _ 2 16 Try.underlying39 jh jz0 jz1 jz2 rfl (by decide) _ n2 _ (by simp [Act.eval]) hor3 ⟨w24.heap.size, 0, none⟩ 1 1 [.int .i64 (V : Int), .int .i64 1] (by simp [Act.eval]) rfl hcl h1c (by unfold maxLen; omega) (by omega) hb3 ?_; intro v7 w25 hv7 hg7; obtain ⟨g7, c7, rfl⟩ := owns_some hv7; have HK25 : Hid (∀ l, w.heap.size ≤ l → l < w22.heap.size → a2 ≠ some ⟨l, 0, none⟩ → w25.heap[l]? = w22.heap[l]?) := (fun l h1 h2 h3 => (hg7.block l (Nat.lt_of_lt_of_le h2 (Nat.le_trans s24 HBA.out.size)) (by intro e; rcases hor3.2 with ⟨hv', _⟩ | ⟨gx, _, _, hv', _⟩; (rw [hv'] at e; cases e); (simp only [Value.slice.injEq] at hv'; rw [hv'.1] at e h3; simp [Value.ownBlock] at e; exact h3 (by rw [e])))).trans ((HBA.out.block l (Nat.lt_of_lt_of_le h2 s24)).trans (HK24.out l h1 h2))); have S25 : Hid (w22.heap.size ≤ w25.heap.size) := Nat.le_trans (Nat.le_trans s24 HBA.out.size) hg7.size; have hv8 : w25.ownsRow (S I) 43 2 (.slice (some ⟨g7, 0, none⟩) (n2 + 1) c7) (n2 + 1) (flat ((xs.getD I default).maps ++ [((V : Int), 1)])) := (by rw [flat_snoc]; exact hv7); obtain ⟨xs', hxs⟩ := HD22.out.alter1 (by omega) I hI HCI.out HOI.out HK25.out S25.out (by omega) hSI hv8; have HXS : Hid (∀ W' : World, (∀ l, w.heap.size ≤ l → l < w25.heap.size → W'.heap[l]? = (w25.setCell ⟨g2, I * 6 + 1, none⟩ (.slice (some ⟨g7, 0, none⟩) (n2 + 1) c7)).heap[l]?) → Pcs W' (some ⟨g2, 0, none⟩) (N + 1) xs') := hxs; have k25 : w25.heap[g2]? = some (.cells cur 41 (0, 0)) := (HK25.out g2 hgg2.1 hgg2.2 (fun e => row_ne HOI.out.mp.row HCUR.out (by decide) g2 e rfl)).trans HCUR.out; have t1 : w25.cell? ⟨g2, I * 6 + 1, none⟩ = some (.slice a2 n2 c2) := (World.cell?_of_block (a := ⟨g2, I * 6 + 1, none⟩) (k25.trans HCUR.out.symm)).trans x1; have ft1 : w25.frozen? ⟨g2, I * 6 + 1, none⟩ = false := frozen_of_row w25 g2 _ _ 41 k25; have l25 : g2 < w25.heap.size := (Array.getElem?_eq_some_iff.1 k25).1; have HP25 : Hid (RdPost w g a n cap bs w25) := (HP24.out.alloc _).grown (touch_grown (lo := S I) (hi := (w24.alloc (.cells #[.int .i64 (V : Int), .int .i64 1] 43)).heap.size) hg7 (fun l hl => hor3.lt l hl)) (by omega) hSI; clear hv7 hg7 hv8 hxs k25))
          all_goals
            have HPF : Hid (RdPost w g a n cap bs (w25.setCell ⟨g2, I * 6 + 1, none⟩ (.slice (some ⟨g7, 0, none⟩) (n2 + 1) c7))) := HP25.out.set (by omega) (by omega) _ _
            go_wp2
            go_ret
            exact ⟨_, _, _, xs', rfl, by omega, fun W' hW => HXS.out W' (fun l h1 h2 => hW l h1 (by simpa using h2)), HPF.out⟩
        · obtain ⟨cur, hcur, hsz⟩ := HD22.out.blk
          have s22 := HP22.out.2.size
          have HPB : Hid (RdPost w g a n cap bs (w22.alloc (.cells #[.int .i64 (-2), .int .i64 10, .int .i64 11] 2))) := HP22.out.alloc _
          have HBB : Hid (Below w22.heap.size w22 (w22.alloc (.cells #[.int .i64 (-2), .int .i64 10, .int .i64 11] 2))) := (Below.refl _ _).alloc (Nat.le_refl _) _
          have HNB : Hid ((w22.alloc (.cells #[.int .i64 (-2), .int .i64 10, .int .i64 11] 2)).heap[w22.heap.size]? = some (.cells #[.int .i64 (-2), .int .i64 10, .int .i64 11] 2 (0, 0))) := heap_alloc_new _ _
          go_wp2_with fail
          refine (below_any g a n cap bs 3 _ HPB.out.1 (by decide)).mono ?_
          rintro e w23 ⟨v, rfl, h0, h1, hq⟩
          obtain ⟨V, rfl⟩ := Int.eq_ofNat_of_zero_le h0
          have hV : V < 3 := by omega
          have hVi : (V : Int) < 3 := by omega
          have s23 := hq.2.size
          have sB := HBB.out.size
          have lB : w22.heap.size < (w22.alloc (.cells #[.int .i64 (-2), .int .i64 10, .int .i64 11] 2)).heap.size := (Array.getElem?_eq_some_iff.1 HNB.out).1
          have n23 := (hq.2.block _ lB (.inr (by omega))).trans HNB.out
          have hk : ∀ l, w.heap.size ≤ l → l < w22.heap.size → w23.heap[l]? = w22.heap[l]? := fun l h1 h2 => (hq.2.block l (by omega) (.inr (by omega))).trans (HBB.out.block l h2)
          have k23 : w23.heap[g2]? = some (.cells cur 41 (0, 0)) := (hk g2 hgg2.1 hgg2.2).trans hcur
          obtain ⟨z, hz⟩ : ∃ z : Int, w23.cell? ⟨w22.heap.size, V, none⟩ = some (.int .i64 z) := by
            rw [cell_of_row _ _ V _ 2 (0, 0) n23]
            match V, hV with
            | 0, _ => exact ⟨_, rfl⟩
            | 1, _ => exact ⟨_, rfl⟩
            | 2, _ => exact ⟨_, rfl⟩
          have x5 : w23.cell? ⟨g2, I * 6 + 5, none⟩ = some (.int .i64 (xs.getD I default).noany) := (World.cell?_of_block (a := ⟨g2, I * 6 + 5, none⟩) (hk g2 hgg2.1 hgg2.2)).trans HCI.out.c5
          have f5 : w23.frozen? ⟨g2, I * 6 + 5, none⟩ = false := frozen_of_row w23 g2 _ _ 41 k23
          have l1 : w22.heap.size < w23.heap.size := (Array.getElem?_eq_some_iff.1 n23).1
          have l2 : g2 < w23.heap.size := by omega
          obtain ⟨xs', hxs⟩ := HD22.out.alter5 (by omega) I hI HCI.out HOI.out hk (by omega) z
          have HXS : Hid (∀ W' : World, (∀ l, w.heap.size ≤ l → l < w23.heap.size → W'.heap[l]? = (w23.setCell ⟨g2, I * 6 + 5, none⟩ (.int .i64 z)).heap[l]?) → Pcs W' (some ⟨g2, 0, none⟩) (N + 1) xs') := hxs
          have HPF : Hid (RdPost w g a n cap bs (w23.setCell ⟨g2, I * 6 + 5, none⟩ (.int .i64 z))) := (HPB.out.step hq).grown (lo := w.heap.size) (hi := w23.heap.size) ⟨rfl, rfl, rfl, by simp, fun k h1 ho => Below.heap_setCell _ _ _ _ (by show k ≠ g2; omega)⟩ hgw (Nat.le_refl _)
          clear hq n23 k23 hk hcur hsz hxs
          go_wp2
          go_ret
          exact ⟨_, _, _, xs', rfl, by omega, fun W' hW => HXS.out W' (fun l h1 h2 => hW l h1 (by simpa using h2)), HPF.out⟩
        · have HQ22 : Hid (DQ w.heap.size w22 (some ⟨g2, 0, none⟩) (N + 1) cc xs) := HD22.out.dq
          clear HCI HOI HD22 hgg2
          go_wp2
          go_loopw [3] (fun s wr => ∃ (m c : Nat) (ao : Option Addr) (xs' : List PC), s = .slice ao m c ∧ 1 ≤ m ∧ m ≤ 9 ∧ Hid (DQ w.heap.size wr ao m c xs') ∧ Hid (RdPost w g a n cap bs wr)) (fun s _ => 10 - lenOf s)
          case atStart => exact ⟨N + 1, cc, _, xs, rfl, by omega, by omega, HQ22, HP22⟩
          case round =>
            obtain ⟨m, c, ao, xs', rfl, hm1, hm9, HQ, HPQ⟩ := hrel
            clear HQ22 HP22
            go_wp2_with fail
            refine (below_any g a n cap bs 2 _ HPQ.out.1 (by decide)).mono ?_
            rintro e w23 ⟨v, rfl, h0, h1, hq⟩
            obtain ⟨V, rfl⟩ := Int.eq_ofNat_of_zero_le h0
            have hV : V ≤ 1 := by omega
            have HQ23 : Hid (DQ w.heap.size w23 ao m c xs') := HQ.out.stab (fun l hl hs => hq.2.block l hs (.inr (by omega)))
            have HP23 : Hid (RdPost w g a n cap bs w23) := HPQ.out.step hq
            have hw8 : IntKind.i64.wrap (8 + (V : Int)) = 8 + (V : Int) := by rw [IntKind.wrap_i64]; omega
            clear hq h0 h1 HQ HPQ
            by_cases hlt : (m : Int) < 8 + (V : Int)
            · obtain ⟨g4, a3, n3, c3, a4, n4, c4, lo, hi, hao, hC, hlo, hO⟩ := HQ23.out.get 0 (by omega)
              subst hao
              obtain ⟨y, hy⟩ : ∃ y, y = xs'.getD 0 default := ⟨_, rfl⟩
              rw [← hy] at hC hO
              obtain ⟨x0, x1, x2, x3, x4, x5⟩ := hC
              simp only [Nat.zero_mul, Nat.zero_add] at x0 x1 x2 x3 x4 x5
              have hg4 := HQ23.out.gt rfl
              have l4 : g4 < w23.heap.size := hg4.2
              obtain ⟨vs, hvs⟩ := HQ23.out.row
              obtain ⟨wA, hwA⟩ : ∃ wA, wA = w23.alloc (.cells #[.slice a3 n3 c3, .slice a4 n4 c4, .bool y.self, .int .i64 y.need, .int .i64 y.nomap, .int .i64 y.noany] 41) := ⟨_, rfl⟩
              have bA : Below w23.heap.size w23 wA := by rw [hwA]; exact (Below.refl _ _).alloc (Nat.le_refl _) _
              have HQA : Hid (DQ w.heap.size wA (some ⟨g4, 0, none⟩) m c xs') := HQ23.out.stab (fun l hl hs => bA.block l hs)
              have HVA : Hid (wA.ownsRow w.heap.size 41 6 (.slice (some ⟨g4, 0, none⟩) m c) m vs) := ownsRow_below hvs bA
              have HXA : Hid (PcO lo hi wA a3 n3 c3 a4 n4 c4 y) := PcO.stab hlo w23 wA (fun l hl hs => bA.block l hs) hO
              have HPA : Hid (RdPost w g a n cap bs wA) := by
                show RdPost _ _ _ _ _ _ _
                rw [hwA]; exact HP23.out.alloc _
              have hwA0 : w.heap.size ≤ wA.heap.size := HPA.out.2.size
              have HCL : Hid (∀ jj uu, ([.slice a3 n3 c3, .slice a4 n4 c4, .bool y.self, .int .i64 y.need, .int .i64 y.nomap, .int .i64 y.noany] : List Value)[jj]? = some uu → (w23.alloc (.cells #[.slice a3 n3 c3, .slice a4 n4 c4, .bool y.self, .int .i64 y.need, .int .i64 y.nomap, .int .i64 y.noany] 41)).cell? ((⟨w23.heap.size, 0, none⟩ : Addr).add jj) = some uu) := by
                intro jj uu hju
                rw [Addr.add_lit, Nat.zero_add, cell_of_row _ w23.heap.size jj _ 41 _ (heap_alloc_new w23 _), ← hju]
                simp
              have H1C : Hid (∀ u ∈ ([.slice a3 n3 c3, .slice a4 n4 c4, .bool y.self, .int .i64 y.need, .int .i64 y.nomap, .int .i64 y.noany] : List Value), u.oneCell' = true) := by
                intro u hu
                simp at hu
                rcases hu with rfl | rfl | rfl | rfl | rfl | rfl <;> rfl
              have HWA : Hid (wA = w23.alloc (.cells #[.slice a3 n3 c3, .slice a4 n4 c4, .bool y.self, .int .i64 y.need, .int .i64 y.nomap, .int .i64 y.noany] 41)) := hwA
              have hm0 : (0 : Int) < (m : Int) := by omega
              clear hvs bA hwA hy hO
              go_wp2_with (at_builtin; rw [← HWA.out]; refine wpList_append_own _ rfl _ _ 24 rfl w.heap.size 41 i0 _ 6 80 Try.underlying24 ih hz0 hz1 hz2 rfl (by decide) _ m _ rfl HVA.out ⟨w23.heap.size, 0, none⟩ 1 1 [.slice a3 n3 c3, .slice a4 n4 c4, .bool y.self, .int .i64 y.need, .int .i64 y.nomap, .int .i64 y.noany] rfl rfl (by rw [HWA.out]; exact HCL.out) H1C.out (by unfold maxLen; omega) (by omega) hwA0 ?_; intro v7 w12 hv7 hg7 _; obtain ⟨g7, c7, rfl⟩ := owns_some hv7)
              have HQF : Hid (DQ w.heap.size w12 (some ⟨g7, 0, none⟩) (m + 1) c7 (xs' ++ [y])) := HQA.out.more HVA.out HXA.out hlo hv7 hg7
              have HPF : Hid (RdPost w g a n cap bs w12) := HPA.out.grown (touch_grown (lo := w.heap.size) (hi := wA.heap.size) hg7 (fun l hl => HVA.out.lt l hl)) hgw (Nat.le_refl _)
              clear hv7 hg7
              go_roundw
              case rel => exact ⟨m + 1, c7, _, _, rfl, by omega, by omega, HQF, HPF⟩
              case measure => simp [lenOf]; omega
            · go_wp2
              go_ret
              exact ⟨_, _, _, xs', rfl, by omega, fun W' hW => (HQ23.out.stab hW).pcs (by omega), HP23.out⟩
        · have HP23 : Hid (RdPost w g a n cap bs (w22.alloc (.cells #[] 41))) := HP22.out.alloc _
          go_wp2
          go_ret
          exact ⟨_, 0, _, [], rfl, by omega, fun _ _ => ⟨rfl, by decide, fun j hj => absurd hj (Nat.not_lt_zero _)⟩, HP23.out⟩

end Go.Proofs.Ytdkgilkjcndonaa
