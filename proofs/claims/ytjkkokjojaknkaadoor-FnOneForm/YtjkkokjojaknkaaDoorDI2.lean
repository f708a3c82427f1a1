import Derived.Test.YtjkkokjojaknkaaDoorDI0
import Derived.Great.BuildSlice
import Derived.Deep.RegionHeldLaw
namespace Go.Proofs.YtjkkokjojaknkaaDoor
open Go.RowKit

/-- A row of items of our own below a bound. -/
structure KidsH (d lo hi : Nat) (w : World) (a : Option Addr) (n c : Nat) (xs : List It) (vs : List Value) : Prop where
  len : xs.length = n
  row : w.ownsRow lo 26 5 (.slice a n c) n vs
  blk : ∀ g, a = some ⟨g, 0, none⟩ → g < hi
  pre : ∀ g, a = some ⟨g, 0, none⟩ → OwnPre (OwnKids d) lo hi w g n xs
theorem kidsH_nil (d lo hi : Nat) (w : World) : KidsH d lo hi w none 0 0 [] [] := ⟨rfl, World.ownsRow_nil _ _ _ _, (fun _ h => by cases h), (fun _ h => by cases h)⟩
theorem KidsH.kids {d lo hi : Nat} {w : World} {a : Option Addr} {n c : Nat} {xs : List It} {vs : List Value} (h : KidsH d lo hi w a n c xs vs) (hn : n ≤ 9223372036854775807) : OwnKids (d + 1) lo hi w a n xs := by
  refine ⟨h.len, hn, ?_⟩
  rcases h.row.2 with ⟨hv, h0⟩ | ⟨g, cap', cur, hv, _⟩
  · exact .inl h0
  · simp only [Value.slice.injEq] at hv
    obtain ⟨rfl, _, rfl⟩ := hv
    exact .inr ⟨g, c, vs, rfl, (h.row.lt g rfl).1, h.blk g rfl, h.row, h.pre g rfl⟩
theorem KidsH.at' {d lo hi : Nat} {w : World} {a : Option Addr} {n c : Nat} {xs : List It} {vs : List Value} (h : KidsH d lo hi w a n c xs vs) (hhi : hi ≤ w.heap.size) : KidsAt d lo w a n c xs vs := ⟨h.len, h.row, fun g hg => (h.pre g hg).wide hhi⟩
/-- One item as a row of its own. -/
theorem kids_one {d lo M H g : Nat} {W : World} {x : It} {ab : Option Addr} {nb cb : Nat} {ak : Option Addr} {nk ck : Nat} (hb : W.heap[g]? = some (.cells #[.int .i64 x.cls, .int .i64 x.tag, .bool x.cons, .slice ab nb cb, .slice ak nk ck] 26 (0, 0))) (m1 : lo ≤ M) (m2 : M ≤ H) (m3 : H ≤ g) (ob : OwnB lo M W ab nb cb x.body) (ok : OwnKids d M H W ak nk x.kids) :
    KidsH d lo (g + 1) W (some ⟨g, 0, none⟩) 1 1 [x] [.int .i64 x.cls, .int .i64 x.tag, .bool x.cons, .slice ab nb cb, .slice ak nk ck] := by
  refine ⟨rfl, ⟨rfl, .inr ⟨g, 1, #[.int .i64 x.cls, .int .i64 x.tag, .bool x.cons, .slice ab nb cb, .slice ak nk ck], rfl, by omega, hb, Nat.le_refl _, by decide, rfl, rfl⟩⟩, fun g2 hg => ?_, fun g2 hg => ?_⟩
  · obtain rfl : g = g2 := by simpa using hg
    omega
  · obtain rfl : g = g2 := by simpa using hg
    exact (OwnPre.more' (hi := lo) (s := lo) (hi' := H) (M := M) (xs := [x]) (i := 0) (ab := ab) (nb := nb) (cb := cb) (ak := ak) (nk := nk) (ck := ck) (ownPre_zero _ _ _ _ _) (Nat.le_refl _) (.inr m3) (Nat.le_refl _) m1 m2 ((cell_of_row _ _ 0 _ 26 (0, 0) hb).trans rfl) ((cell_of_row _ _ 1 _ 26 (0, 0) hb).trans rfl) ((cell_of_row _ _ 2 _ 26 (0, 0) hb).trans rfl) ((cell_of_row _ _ 3 _ 26 (0, 0) hb).trans rfl) ((cell_of_row _ _ 4 _ 26 (0, 0) hb).trans rfl) ob ok).wide (by omega)

set_option maxRecDepth 10000 in
set_option maxHeartbeats 4000000 in
theorem l2Box_any (cl t : Int) (ak : Option Addr) (nk ck : Nat) (w : World) :
    Calls Tryd.prog 52 #[.int .i64 cl, .int .i64 t, .slice ak nk ck] w fun e w' => e = .returned (.agg #[.int .i64 cl, .int .i64 t, .bool true, .slice none 0 0, .slice ak nk ck]) ∧ Below w.heap.size w w' := by
  have b0 := heap_alloc_new w (.cells #[.int .i64 0, .int .i64 0, .bool false, .slice none 0 0, .slice none 0 0] 26)
  have hB : Below w.heap.size w (w.alloc (.cells #[.int .i64 0, .int .i64 0, .bool false, .slice none 0 0, .slice none 0 0] 26)) := (Below.refl _ _).alloc (Nat.le_refl _) _
  go_enter Tryd.func52, Tryd.ntmps52
  go_wp2_with (refine wpList_store_rowTo rfl 26 _ _ rfl rfl (w.heap.size) #[.int .i64 cl, .int .i64 t, .bool true, .slice none 0 0, .slice ak nk ck] rfl rfl 26 #[.int .i64 0, .int .i64 0, .bool false, .slice none 0 0, .slice none 0 0] b0 infoSizeIt rfl (by simp [Value.oneCell']) ?_)
  have q4 := setRow_heap (w.alloc (.cells #[.int .i64 0, .int .i64 0, .bool false, .slice none 0 0, .slice none 0 0] 26)) w.heap.size _ #[.int .i64 cl, .int .i64 t, .bool true, .slice none 0 0, .slice ak nk ck] 26 (0, 0) b0
  have tt : Touch w.heap.size (w.heap.size + 1) (w.alloc (.cells #[.int .i64 0, .int .i64 0, .bool false, .slice none 0 0, .slice none 0 0] 26)) ((w.alloc (.cells #[.int .i64 0, .int .i64 0, .bool false, .slice none 0 0, .slice none 0 0] 26)).setRow w.heap.size #[.int .i64 cl, .int .i64 t, .bool true, .slice none 0 0, .slice ak nk ck]) := touch_setRow16 _ _ _
  try simp only [Exit.inBlock, Exit.then]
  exact bodyPost_ret (results_item rfl _ w.heap.size rfl _ _ _ _ _ _ q4) rfl ⟨rfl, hB.trans (tt.below (Nat.le_refl _) (by simp))⟩

set_option maxRecDepth 10000 in
set_option maxHeartbeats 4000000 in
theorem l2Leaf_any (cl t : Int) (a : Option Addr) (n cap : Nat) (bs : List Int) (w : World) (h : Row w a n bs) (hnil : a = none → cap = 0) (hn : n ≤ 1000) :
    Calls Tryd.prog 51 #[.int .i64 cl, .int .i64 t, .slice a n cap] w fun e w' => ∃ ab cb, e = .returned (itv (.mk cl t false bs []) ab n cb none 0 0) ∧ OwnB w.heap.size w'.heap.size w' ab n cb bs ∧ Below w.heap.size w w' := by
  obtain ⟨i5, hi5, hz50, hz51, hz52⟩ := info_parts Tryd.info5
  have HR : Hid (Row w a n bs) := h
  clear h
  obtain ⟨b0, b1⟩ := two_blocks w (.cells #[.int .i64 0, .int .i64 0, .bool false, .slice none 0 0, .slice none 0 0] 26) (.cells #[] 5)
  have hB0 : Below w.heap.size w ((w.alloc (.cells #[.int .i64 0, .int .i64 0, .bool false, .slice none 0 0, .slice none 0 0] 26)).alloc (.cells #[] 5)) := ((Below.refl _ _).alloc (Nat.le_refl _) _).alloc (by simp) _
  have HO : Hid (Own (w.heap.size + 1) ((w.alloc (.cells #[.int .i64 0, .int .i64 0, .bool false, .slice none 0 0, .slice none 0 0] 26)).alloc (.cells #[] 5)) (some ⟨w.heap.size + 1, 0, none⟩) 0 0 []) := own_zero _ _ _ (by simp) (by simp)
  have B0 : Hid (_ = _) := b0
  clear b0 b1
  go_enter Tryd.func51, Tryd.ntmps51
  go_wp2_with (first | (at_builtin; refine wpList_append_row _ rfl (.tmp 9) (.tmp 10) 22 rfl (w.heap.size + 1) i5 Tryd.underlying22 hi5 hz50 hz51 hz52 _ _ _ rfl HO.out.row a n cap bs rfl (HR.out.kept hB0) hnil (by omega) (by simp) ?_; intro v1 w1 hv1 hg1; obtain ⟨a1, c1, rfl, ho1⟩ := own_appended (xs := []) (ys := bs) hv1 HO.out.byte HR.out.byte; have hb1 : Below w.heap.size w w1 := below_appended hB0 hB0.size (HO.out.mono (by omega)).row hg1; have bb0 := (hg1.block w.heap.size (by simp; omega) (by show some w.heap.size ≠ some (w.heap.size + 1); simp)).trans B0.out; have ho1' : Own (w.heap.size + 1) w1 a1 n c1 bs := (by simpa using ho1); have HW1 : Hid (_ ∧ _ ∧ _) := ⟨ho1', hb1, bb0⟩; clear hv1 hg1 ho1 ho1' hb1 bb0) | (refine wpList_store_rowTo rfl 26 _ _ rfl rfl (w.heap.size) #[.int .i64 cl, .int .i64 t, .bool false, .slice a1 n c1, .slice none 0 0] rfl rfl 26 #[.int .i64 0, .int .i64 0, .bool false, .slice none 0 0, .slice none 0 0] HW1.out.2.2 infoSizeIt rfl (by simp [Value.oneCell']) ?_))
  have ho1 := HW1.out.1.ownB
  have hb1 := HW1.out.2.1
  have hs1 := hb1.size
  have hlt := (Array.getElem?_eq_some_iff.1 HW1.out.2.2).1
  have q4 := setRow_heap w1 w.heap.size _ #[.int .i64 cl, .int .i64 t, .bool false, .slice a1 n c1, .slice none 0 0] 26 (0, 0) HW1.out.2.2
  have tt : Touch w.heap.size (w.heap.size + 1) w1 (w1.setRow w.heap.size #[.int .i64 cl, .int .i64 t, .bool false, .slice a1 n c1, .slice none 0 0]) := touch_setRow16 _ _ _
  have tse : (w1.setRow w.heap.size #[.int .i64 cl, .int .i64 t, .bool false, .slice a1 n c1, .slice none 0 0]).heap.size = w1.heap.size := by simp
  try simp only [Exit.inBlock, Exit.then]
  exact bodyPost_ret (results_item rfl _ w.heap.size rfl _ _ _ _ _ _ q4) rfl ⟨a1, c1, rfl, (ho1.touch (.inr (Nat.le_refl _)) tt).mono (by omega) (by rw [tse]; exact Nat.le_refl _), hb1.trans (tt.below (Nat.le_refl _) hs1)⟩

def deepI : Nat → It
  | 0 => .mk 0 4 false [7] []
  | k + 1 => .mk 2 0 true [] [deepI k]
set_option maxRecDepth 10000 in
set_option maxHeartbeats 8000000 in
theorem l2Deep_any (n s : Nat) (hn : 1 ≤ n) (hs : n + s = 13) (w : World) :
    Calls Tryd.prog 34 #[.int .i64 (n : Int)] w fun e w' => ItQ w 12 (deepI (n - 1)) e w' ∧ Below w.heap.size w w' := by
  obtain ⟨b0, b1⟩ := two_blocks w (.cells #[.int .i64 0, .int .i64 0, .bool false, .slice none 0 0, .slice none 0 0] 26) (.cells #[.int .u8 7] 5)
  have hB0 : Below w.heap.size w ((w.alloc (.cells #[.int .i64 0, .int .i64 0, .bool false, .slice none 0 0, .slice none 0 0] 26)).alloc (.cells #[.int .u8 7] 5)) := ((Below.refl _ _).alloc (Nat.le_refl _) _).alloc (by simp) _
  have hsz0 : ((w.alloc (.cells #[.int .i64 0, .int .i64 0, .bool false, .slice none 0 0, .slice none 0 0] 26)).alloc (.cells #[.int .u8 7] 5)).heap.size = w.heap.size + 2 := by simp
  obtain ⟨W0, hW0⟩ : ∃ W0, W0 = (w.alloc (.cells #[.int .i64 0, .int .i64 0, .bool false, .slice none 0 0, .slice none 0 0] 26)).alloc (.cells #[.int .u8 7] 5) := ⟨_, rfl⟩
  have HW0 : Hid (W0 = _) := hW0
  rw [← hW0] at b0 b1 hB0 hsz0
  have hr7 : Row W0 (some ⟨w.heap.size + 1, 0, none⟩) 1 [7] := by
    refine ⟨rfl, fun k hk => ⟨_, _, rfl, (Array.getElem?_eq_some_iff.1 b1).1, ?_⟩, fun k => ?_⟩
    · obtain rfl : k = 0 := by omega
      exact (cell_of_row _ _ 0 _ 5 (0, 0) b1).trans rfl
    · match k with
      | 0 => decide
      | k + 1 => simp
  have HR7 : Hid (_) := hr7
  have B0 : Hid (_ = _) := b0
  clear hW0 hr7 b0 b1
  go_enter Tryd.func34, Tryd.ntmps34
  go_wp2_with fail
  rw [show (w.alloc (.cells #[.int .i64 0, .int .i64 0, .bool false, .slice none 0 0, .slice none 0 0] 26)).alloc (.cells #[.int .u8 7] 5) = W0 from HW0.out.symm]
  refine (l2Leaf_any 0 4 (some ⟨w.heap.size + 1, 0, none⟩) 1 1 [7] W0 HR7.out (by intro h; cases h) (by decide)).mono ?_
  rintro e w1 ⟨ab, cb, rfl, ob1, hb1⟩
  have hs1 := hb1.size
  have e1 : w1.heap[w.heap.size]? = some (.cells #[.int .i64 0, .int .i64 0, .bool false, .slice none 0 0, .slice none 0 0] 26 (0, 0)) := (hb1.block _ (by omega)).trans B0.out
  have HB1 : Hid (Below w.heap.size w w1) := hB0.trans (hb1.mono (by omega))
  have E1 : Hid (_ = _) := e1
  have OB1 : Hid (_) := ob1
  clear ob1 hb1 e1 HR7 B0 HW0 hB0
  unfold itv
  go_upto_region 2 with (refine wpList_store_rowTo rfl 26 _ _ rfl rfl (w1.heap.size) #[.int .i64 0, .int .i64 4, .bool false, .slice ab 1 cb, .slice none 0 0] rfl rfl 26 #[.int .i64 0, .int .i64 0, .bool false, .slice none 0 0, .slice none 0 0] (heap_alloc_new w1 _) infoSizeIt rfl (by simp [Value.oneCell']) ?_)
  have hal1 : Below w1.heap.size w1 (w1.alloc (.cells #[.int .i64 0, .int .i64 0, .bool false, .slice none 0 0, .slice none 0 0] 26)) := (Below.refl _ _).alloc (Nat.le_refl _) _
  have g1 := setRow_heap (w1.alloc (.cells #[.int .i64 0, .int .i64 0, .bool false, .slice none 0 0, .slice none 0 0] 26)) w1.heap.size _ #[.int .i64 0, .int .i64 4, .bool false, .slice ab 1 cb, .slice none 0 0] 26 (0, 0) (heap_alloc_new w1 _)
  have t1 : Touch w1.heap.size (w1.heap.size + 1) (w1.alloc (.cells #[.int .i64 0, .int .i64 0, .bool false, .slice none 0 0, .slice none 0 0] 26)) ((w1.alloc (.cells #[.int .i64 0, .int .i64 0, .bool false, .slice none 0 0, .slice none 0 0] 26)).setRow w1.heap.size #[.int .i64 0, .int .i64 4, .bool false, .slice ab 1 cb, .slice none 0 0]) := touch_setRow16 _ _ _
  have hsa : (w1.alloc (.cells #[.int .i64 0, .int .i64 0, .bool false, .slice none 0 0, .slice none 0 0] 26)).heap.size = w1.heap.size + 1 := by simp
  have hs2 : ((w1.alloc (.cells #[.int .i64 0, .int .i64 0, .bool false, .slice none 0 0, .slice none 0 0] 26)).setRow w1.heap.size #[.int .i64 0, .int .i64 4, .bool false, .slice ab 1 cb, .slice none 0 0]).heap.size = w1.heap.size + 1 := by simp
  have e2 := (t1.block w.heap.size (by omega) (.inl (by omega))).trans ((hal1.block _ (by omega)).trans E1.out)
  have ob2 := (OB1.out.kept hal1).touch (.inl (Nat.le_refl _)) t1
  have hb2 : Below w.heap.size w _ := (HB1.out.trans (hal1.mono (by omega))).trans (t1.below (B := w.heap.size) (by omega) (by omega))
  obtain ⟨W2, hW2⟩ : ∃ W2, W2 = (w1.alloc (.cells #[.int .i64 0, .int .i64 0, .bool false, .slice none 0 0, .slice none 0 0] 26)).setRow w1.heap.size #[.int .i64 0, .int .i64 4, .bool false, .slice ab 1 cb, .slice none 0 0] := ⟨_, rfl⟩
  rw [← hW2] at g1 t1 hs2 e2 ob2 hb2 ⊢
  have HF : Hid (_ ∧ _ ∧ _ ∧ _) := ⟨g1, e2, ob2, hb2⟩
  clear hW2 g1 t1 hsa e2 ob2 hb2 hal1 HB1 E1 OB1
  have hwG : w.heap.size + 2 ≤ w1.heap.size := by omega
  have hW0G : W0.heap.size ≤ w1.heap.size := by omega
  go_upto_region 3 with fail
  go_loopw [4] (fun i wr => ∃ (k : Nat) (ab : Option Addr) (nb cb : Nat) (ak : Option Addr) (nk ck M H : Nat) (vs : List Value), i = .int .i64 (k : Int) ∧ 1 ≤ k ∧ k ≤ n ∧ wr.heap[w1.heap.size]? = some (.cells #[.int .i64 (deepI (k - 1)).cls, .int .i64 (deepI (k - 1)).tag, .bool (deepI (k - 1)).cons, .slice ab nb cb, .slice ak nk ck] 26 (0, 0)) ∧ wr.heap[w.heap.size]? = some (.cells #[.int .i64 0, .int .i64 0, .bool false, .slice none 0 0, .slice none 0 0] 26 (0, 0)) ∧ w.heap.size + 1 ≤ M ∧ M ≤ H ∧ H ≤ wr.heap.size ∧ nk ≤ 3 ∧ (∀ W', Touch w1.heap.size (w1.heap.size + 1) wr W' → OwnB (w.heap.size + 1) M W' ab nb cb (deepI (k - 1)).body ∧ KidsH (k - 1 + s) M H W' ak nk ck (deepI (k - 1)).kids vs) ∧ Below w.heap.size w wr) (fun i _ => n - (intOf i).toNat)
  case atStart =>
    refine ⟨1, ab, 1, cb, none, 0, 0, w1.heap.size, w1.heap.size, [], rfl, Nat.le_refl _, hn, HF.out.1, HF.out.2.1, by omega, Nat.le_refl _, by omega, by decide, fun W' t => ⟨?_, kidsH_nil _ _ _ _⟩, HF.out.2.2.2⟩
    exact (HF.out.2.2.1.touch (.inl (Nat.le_refl _)) t).mono (by omega) (Nat.le_refl _)
  case round =>
    obtain ⟨k, ab, nb, cb, ak, nk, ck, M, H, vs, rfl, hk1, hkn, hg, hz, m1, m2, m3, nk3, hmem, hbr⟩ := hrel
    obtain ⟨y, hy⟩ : ∃ y, y = deepI (k - 1) := ⟨_, rfl⟩
    rw [← hy] at hg
    rw [← hy] at hmem
    have HG : Hid (_ = _) := hg
    have HZ : Hid (_ = _) := hz
    have HM : Hid (∀ W', _ → _) := hmem
    have HBR : Hid (_) := hbr
    have hlG := (Array.getElem?_eq_some_iff.1 hg).1
    clear hg hz hmem hbr
    by_cases hlt : k < n
    · have hlti : (k : Int) < (n : Int) := by omega
      have HY : Hid (deepI k = .mk 2 0 true [] [y]) := by
        show _ = _
        rw [hy]
        obtain ⟨k, rfl⟩ : ∃ m, k = m + 1 := ⟨k - 1, by omega⟩
        rfl
      clear hy
      go_wp2_with (refine wpList_load_row rfl 26 _ rfl (w1.heap.size) rfl 26 #[.int .i64 y.cls, .int .i64 y.tag, .bool y.cons, .slice ab nb cb, .slice ak nk ck] (0, 0) _ HG.out Tryd.underlying26 rfl infoSizeIt ?_)
      refine (l2Box_any 2 0 (some ⟨wr.heap.size, 0, none⟩) 1 1 (wr.alloc (.cells #[.int .i64 y.cls, .int .i64 y.tag, .bool y.cons, .slice ab nb cb, .slice ak nk ck] 26))).mono ?_
      rintro e w3 ⟨rfl, hb3⟩
      have hal : Below wr.heap.size wr (wr.alloc (.cells #[.int .i64 y.cls, .int .i64 y.tag, .bool y.cons, .slice ab nb cb, .slice ak nk ck] 26)) := (Below.refl _ _).alloc (Nat.le_refl _) _
      have hsa : (wr.alloc (.cells #[.int .i64 y.cls, .int .i64 y.tag, .bool y.cons, .slice ab nb cb, .slice ak nk ck] 26)).heap.size = wr.heap.size + 1 := by simp
      have hs3 := hb3.size
      have r3 := (hb3.block wr.heap.size (by omega)).trans (heap_alloc_new wr (.cells #[.int .i64 y.cls, .int .i64 y.tag, .bool y.cons, .slice ab nb cb, .slice ak nk ck] 26))
      have g3 := (hb3.block w1.heap.size (by omega)).trans ((hal.block w1.heap.size hlG).trans HG.out)
      have z3 := (hb3.block w.heap.size (by omega)).trans ((hal.block w.heap.size (by omega)).trans HZ.out)
      have b3 : Below w.heap.size w w3 := (HBR.out.trans (hal.mono (by omega))).trans (hb3.mono (by omega))
      have t3 : Touch w1.heap.size (w1.heap.size + 1) wr w3 := Touch.of_below (hal.trans (hb3.mono (by omega)))
      have G3 : Hid (_ = _) := g3
      have Z3 : Hid (_ ∧ _ ∧ _ ∧ _) := ⟨z3, r3, b3, t3⟩
      clear g3 z3 b3 r3 t3 hal hb3 HG HZ
      go_wp2_with (refine wpList_store_rowTo rfl 26 _ _ rfl rfl (w1.heap.size) #[.int .i64 2, .int .i64 0, .bool true, .slice none 0 0, .slice (some ⟨wr.heap.size, 0, none⟩) 1 1] rfl rfl 26 #[.int .i64 y.cls, .int .i64 y.tag, .bool y.cons, .slice ab nb cb, .slice ak nk ck] G3.out infoSizeIt rfl (by simp [Value.oneCell']) ?_)
      have g4 := setRow_heap w3 w1.heap.size _ #[.int .i64 2, .int .i64 0, .bool true, .slice none 0 0, .slice (some ⟨wr.heap.size, 0, none⟩) 1 1] 26 (0, 0) G3.out
      have tt : Touch w1.heap.size (w1.heap.size + 1) w3 (w3.setRow w1.heap.size #[.int .i64 2, .int .i64 0, .bool true, .slice none 0 0, .slice (some ⟨wr.heap.size, 0, none⟩) 1 1]) := touch_setRow16 _ _ _
      have tse : (w3.setRow w1.heap.size #[.int .i64 2, .int .i64 0, .bool true, .slice none 0 0, .slice (some ⟨wr.heap.size, 0, none⟩) 1 1]).heap.size = w3.heap.size := by simp
      have z4 := (tt.block w.heap.size (by omega) (.inl (by omega))).trans Z3.out.1
      have r4 := (tt.block wr.heap.size (by omega) (.inr (by omega))).trans Z3.out.2.1
      have t4 := Z3.out.2.2.2.trans tt
      have b4 := Z3.out.2.2.1.trans (tt.below (B := w.heap.size) (by omega) Z3.out.2.2.1.size)
      go_roundw
      case rel =>
        refine ⟨k + 1, none, 0, 0, some ⟨wr.heap.size, 0, none⟩, 1, 1, w.heap.size + 1, wr.heap.size + 1, [.int .i64 y.cls, .int .i64 y.tag, .bool y.cons, .slice ab nb cb, .slice ak nk ck], by go_num, by omega, by omega, ?_⟩
        rw [show deepI (k + 1 - 1) = .mk 2 0 true [] [y] from HY.out]
        refine ⟨g4, z4, Nat.le_refl _, by omega, by omega, by decide, fun W' t => ⟨ownB_nil16 _ _ _, ?_⟩, b4⟩
        have hm := HM.out W' (t4.trans t)
        have r5 := (t.block wr.heap.size (by omega) (.inr (by omega))).trans r4
        have h9 := kids_one r5 m1 m2 m3 hm.1 (hm.2.kids (by omega))
        rw [show k + 1 - 1 + s = k - 1 + s + 1 by omega]
        exact h9
      case measure => simp [intOf]; omega
    · obtain rfl : k = n := by omega
      go_wp2_with (first | (refine wpList_load_row rfl 26 _ rfl (w1.heap.size) rfl 26 #[.int .i64 y.cls, .int .i64 y.tag, .bool y.cons, .slice ab nb cb, .slice ak nk ck] (0, 0) _ HG.out Tryd.underlying26 rfl infoSizeIt ?_) | (refine wpList_store_rowTo rfl 26 _ _ rfl rfl (w.heap.size) #[.int .i64 y.cls, .int .i64 y.tag, .bool y.cons, .slice ab nb cb, .slice ak nk ck] rfl rfl 26 #[.int .i64 0, .int .i64 0, .bool false, .slice none 0 0, .slice none 0 0] HZ.out infoSizeIt rfl (by simp [Value.oneCell']) ?_))
      have q4 := setRow_heap wr w.heap.size _ #[.int .i64 y.cls, .int .i64 y.tag, .bool y.cons, .slice ab nb cb, .slice ak nk ck] 26 (0, 0) HZ.out
      have tt : Touch w.heap.size (w.heap.size + 1) wr (wr.setRow w.heap.size #[.int .i64 y.cls, .int .i64 y.tag, .bool y.cons, .slice ab nb cb, .slice ak nk ck]) := touch_setRow16 _ _ _
      have tse : (wr.setRow w.heap.size #[.int .i64 y.cls, .int .i64 y.tag, .bool y.cons, .slice ab nb cb, .slice ak nk ck]).heap.size = wr.heap.size := by simp
      try simp only [Exit.inBlock, Exit.then]
      refine bodyPost_ret (results_item rfl _ w.heap.size rfl _ _ _ _ _ _ q4) rfl ?_
      rw [← hy]
      have hm := HM.out wr (Touch.same _ _ _)
      refine ⟨⟨ab, nb, cb, ak, nk, ck, M, rfl, by omega, by rw [tse]; omega, (hm.1.touch (.inr (Nat.le_refl _)) tt).mono (by omega) (Nat.le_refl _), nk3, vs, ?_⟩, HBR.out.trans (tt.below (Nat.le_refl _) HBR.out.size)⟩
      have h9 := (hm.2.at' m3).touch tt (by omega)
      rw [show k - 1 + s = 12 by omega] at h9
      exact h9

end Go.Proofs.YtjkkokjojaknkaaDoor
