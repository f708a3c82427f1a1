import Derived.Test.YtjkkokjojaknkaaDoorFN
import Derived.Test.YtjkkokjojaknkaaDoorFK
import Derived.Deep.AppendLies
namespace Go.Proofs.YtjkkokjojaknkaaDoor
open Go.RowKit

theorem ownPre_congr {K : Nat → Nat → World → Option Addr → Nat → List It → Prop} {lo hi : Nat} {w : World} {g i : Nat} {xs ys : List It} (h : OwnPre K lo hi w g i xs) (he : ∀ k, k < i → ys.getD k default = xs.getD k default) : OwnPre K lo hi w g i ys := by
  obtain ⟨L, H, h1, h2, h3⟩ := h
  exact ⟨L, H, h1, h2, fun k hk => by rw [he k hk]; exact h3 k hk⟩

/-- A row of items of our own that grows. -/
structure KidsAt (d lo : Nat) (w : World) (a : Option Addr) (n c : Nat) (xs : List It) (vs : List Value) : Prop where
  len : xs.length = n
  row : w.ownsRow lo 26 5 (.slice a n c) n vs
  pre : ∀ g, a = some ⟨g, 0, none⟩ → OwnPre (OwnKids d) lo w.heap.size w g n xs

theorem kidsAt_nil (d lo : Nat) (w : World) : KidsAt d lo w none 0 0 [] [] := ⟨rfl, World.ownsRow_nil _ _ _ _, fun _ h => by cases h⟩
theorem KidsAt.kept {d lo : Nat} {w w' : World} {a : Option Addr} {n c : Nat} {xs : List It} {vs : List Value} (h : KidsAt d lo w a n c xs vs) (hb : Below w.heap.size w w') : KidsAt d lo w' a n c xs vs := by
  refine ⟨h.len, ownsRow_below h.row hb, fun g hg => ?_⟩
  subst hg
  have hlt := h.row.lt g rfl
  exact ((h.pre g rfl).move (ownKids_moves d) (fun j _ => hb.cell (p := ⟨g, j, none⟩) hlt.2) (.inl (.inl (Nat.le_refl _))) (Touch.of_below (lo := w.heap.size) (hi := w.heap.size) hb)).wide hb.size
theorem KidsAt.kids {d lo : Nat} {w : World} {a : Option Addr} {n c : Nat} {xs : List It} {vs : List Value} (h : KidsAt d lo w a n c xs vs) (hn : n ≤ 9223372036854775807) : OwnKids (d + 1) lo w.heap.size w a n xs := by
  refine ⟨h.len, hn, ?_⟩
  rcases h.row.2 with ⟨hv, h0⟩ | ⟨g, cap', cur, hv, _⟩
  · exact .inl h0
  · simp only [Value.slice.injEq] at hv
    obtain ⟨rfl, _, rfl⟩ := hv
    have hlt := h.row.lt g rfl
    exact .inr ⟨g, c, vs, rfl, hlt.1, hlt.2, h.row, h.pre g rfl⟩
theorem KidsAt.at0 {d lo : Nat} {w : World} {a : Option Addr} {n c : Nat} {xs : List It} {vs : List Value} (h : KidsAt d lo w a n c xs vs) : a = none ∨ ∃ g, a = some ⟨g, 0, none⟩ ∧ lo ≤ g ∧ g < w.heap.size := by
  rcases h.row.2 with ⟨hv, h0⟩ | ⟨g, cap', cur, hv, _⟩
  · simp only [Value.slice.injEq] at hv; exact .inl hv.1
  · simp only [Value.slice.injEq] at hv
    obtain ⟨rfl, _, rfl⟩ := hv
    have hlt := h.row.lt g rfl
    exact .inr ⟨g, rfl, hlt.1, hlt.2⟩

theorem KidsAt.block {d lo : Nat} {w : World} {a : Option Addr} {n c : Nat} {xs : List It} {vs : List Value} (h : KidsAt d lo w a n c xs vs) : ∀ j, (Value.slice a n c).ownBlock = some j → lo ≤ j := by
  intro j hj
  rcases h.at0 with ha | ⟨g, ha, hg1, _⟩
  · subst ha; cases hj
  · subst ha; cases hj; exact hg1

/-- An item more. -/
theorem KidsAt.more {d lo : Nat} {w w3 w4 w5 : World} {a : Option Addr} {n c : Nat} {xs : List It} {vs : List Value} {x : It} {ab : Option Addr} {nb cb : Nat} {ak : Option Addr} {nk ck M g5 c5 : Nat}
    (h : KidsAt d lo w a n c xs vs) (hlo : lo ≤ w.heap.size) (hb3 : Below w.heap.size w w3) (m1 : w.heap.size ≤ M) (m2 : M ≤ w3.heap.size) (ob : OwnB w.heap.size M w3 ab nb cb x.body) (ok : OwnKids d M w3.heap.size w3 ak nk x.kids) (hb4 : Below w3.heap.size w3 w4)
    (hown : w5.ownsRow lo 26 5 (.slice (some ⟨g5, 0, none⟩) (n + 1) c5) (n + 1) (vs ++ [.int .i64 x.cls, .int .i64 x.tag, .bool x.cons, .slice ab nb cb, .slice ak nk ck]))
    (hg : w4.grownBy w5 (Value.slice a n c).ownBlock) (hl : (Value.slice a n c).ownBlock = some g5 ∨ g5 = w4.heap.size) :
    KidsAt d lo w5 (some ⟨g5, 0, none⟩) (n + 1) c5 (xs ++ [x]) (vs ++ [.int .i64 x.cls, .int .i64 x.tag, .bool x.cons, .slice ab nb cb, .slice ak nk ck]) := by
  have hvl : vs.length = n * 5 := h.row.1
  have hxn := h.len
  have s3 := hb3.size
  have s4 := hb4.size
  have s5 := hg.size
  have ex : ∀ k, k < n → (xs ++ [x]).getD k default = xs.getD k default := fun k hk => by simp [List.getElem?_append, show k < xs.length by omega]
  have el : (xs ++ [x]).getD n default = x := by rw [← hxn]; simp
  have nc : ∀ i, i < 5 → w5.cell? ⟨g5, n * 5 + i, none⟩ = [Value.int .i64 x.cls, .int .i64 x.tag, .bool x.cons, .slice ab nb cb, .slice ak nk ck][i]? := fun i hi' => by rw [hown.cellAt _ (by omega), List.getElem?_append_right (by omega), hvl, Nat.add_sub_cancel_left]
  have b34 : Below w.heap.size w w4 := hb3.trans (hb4.mono s3)
  refine ⟨by simp [hxn], hown, fun g hgg => ?_⟩
  obtain rfl : g5 = g := by simpa using hgg
  have step : ∀ p q, Touch p q w4 w5 → (q ≤ w.heap.size ∨ w4.heap.size ≤ p) → (g5 < w.heap.size ∨ w4.heap.size ≤ g5) → OwnPre (OwnKids d) lo w.heap.size w5 g5 n xs → OwnPre (OwnKids d) lo w5.heap.size w5 g5 (n + 1) (xs ++ [x]) := by
    intro p q t5 hpq hgs hp
    have hp2 := ownPre_congr hp ex
    refine (OwnPre.more' (s := w.heap.size) (hi' := w3.heap.size) (M := M) hp2 (Nat.le_refl _) (by omega) hlo m1 m2 (by rw [el]; exact nc 0 (by decide)) (by rw [el]; exact nc 1 (by decide)) (by rw [el]; exact nc 2 (by decide)) (nc 3 (by decide)) (nc 4 (by decide)) ?_ ?_).wide (by omega)
    · rw [el]; exact (ob.kept hb4).touch (by omega) t5
    · rw [el]; exact ownKids_moves d _ _ _ _ _ _ _ _ _ (ok.kept hb4) (by omega) t5
  rcases h.at0 with rfl | ⟨g, rfl, hg1, hg2⟩
  · have hn0 : n = 0 := by
      rcases h.row.2 with ⟨_, h0⟩ | ⟨g, cap', cur, hv, _⟩
      · exact h0
      · cases hv
    subst hn0
    have e5 : g5 = w4.heap.size := by rcases hl with hl | hl; exact (by simp [Value.ownBlock] at hl); exact hl
    have hb5 : Below w4.heap.size w4 w5 := (Below.refl _ _).grown hg (Nat.le_refl _) (fun k hk => by simp [Value.ownBlock] at hk)
    exact step w4.heap.size w4.heap.size (Touch.of_below hb5) (.inr (Nat.le_refl _)) (by omega) (ownPre_zero _ _ _ _ _)
  · have hg5'' : g5 = g ∨ g5 = w4.heap.size := by
      rcases hl with hl | hl
      · simp [Value.ownBlock] at hl; exact .inl hl.symm
      · exact .inr hl
    have t5 : Touch g (g + 1) w4 w5 := ⟨hg.os, hg.tape, hg.output, hg.size, fun i hi' ho => hg.block i hi' (by simp [Value.ownBlock]; omega)⟩
    have HP3 : OwnPre (OwnKids d) lo w.heap.size w4 g n xs := OwnPre.move (ownKids_moves d) (h.pre g rfl) (fun j hj => b34.cell (p := ⟨g, j, none⟩) hg2) (.inl (.inl (Nat.le_refl _))) (Touch.of_below (lo := w.heap.size) (hi := w.heap.size) b34)
    have hor4 : w4.ownsRow lo 26 5 (.slice (some ⟨g, 0, none⟩) n c) n vs := ownsRow_below h.row b34
    have HP4 : OwnPre (OwnKids d) lo w.heap.size w5 g5 n xs := HP3.regrow (ownKids_moves d) (fun j hj => by rw [hown.cellAt j (by omega), hor4.cellAt j (by omega), List.getElem?_append_left (by omega)]) (by omega) t5
    exact step g (g + 1) t5 (by omega) (by omega) HP4

/-- What the reader of an item answers. -/
def ItPost (r : Nat) (R : Rs It) (w : World) (ev : Ending) (w' : World) : Prop := Below w.heap.size w w' ∧ match R with
  | .ok x nx => ∃ ab nb cb ak nk ck M, ev = .returned (.tuple #[itv x ab nb cb ak nk ck, .int .i64 (nx : Int)]) ∧ w.heap.size ≤ M ∧ M ≤ w'.heap.size ∧ OwnB w.heap.size M w' ab nb cb x.body ∧ OwnKids r M w'.heap.size w' ak nk x.kids
  | .no c p => ev = .panicked (gvUp c p)
def ItemC (lax : Bool) (bs : List Int) (n cap : Nat) (a : Option Addr) (r : Nat) : Prop := ∀ (p e : Nat) (w : World), Row w a n bs → p ≤ e → e ≤ n →
    Calls Tryd.prog 64 #[.agg #[.slice a n cap, .bool lax], .int .i64 (p : Int), .int .i64 (e : Int), .int .i64 (13 - (r : Int))] w fun ev w' => ItPost r (itemR lax bs r p e) w ev w'
/-- What the readers of kids answer. -/
def KsPost (r : Nat) (R : Rs (List It)) (f : Option Addr → Nat → Nat → Nat → Value) (w : World) (ev : Ending) (w' : World) : Prop := Below w.heap.size w w' ∧ match R with
  | .ok ks nx => ∃ ak nk ck lo, ev = .returned (f ak nk ck nx) ∧ nk ≤ 20000 ∧ w.heap.size ≤ lo ∧ lo ≤ w'.heap.size ∧ OwnKids (r + 1) lo w'.heap.size w' ak nk ks
  | .no c p => ev = .panicked (gvUp c p)

end Go.Proofs.YtjkkokjojaknkaaDoor

namespace Go.Proofs.YtjkkokjojaknkaaDoor
open Go.RowKit

theorem closedR_end {f : Nat → Rs It} {e m : Nat} {acc : List It} {q : Nat} (h : ¬ q < e) : closedR f e m acc q = .ok acc q := by
  cases m with
  | zero => rfl
  | succ m => rw [closedR, if_neg h]
theorem closedR_no {f : Nat → Rs It} {e m : Nat} {acc : List It} {q c p : Nat} (h : q < e) (hf : f q = .no c p) : closedR f e (m + 1) acc q = .no c p := by
  rw [closedR, if_pos h, hf]
theorem closedR_next {f : Nat → Rs It} {e m : Nat} {acc : List It} {q nx : Nat} {x : It} (h : q < e) (hf : f q = .ok x nx) : closedR f e (m + 1) acc q = closedR f e m (acc ++ [x]) nx := by
  rw [closedR, if_pos h, hf]

theorem KsPost.no {r : Nat} {R : Rs (List It)} {c p : Nat} (h : Hid (R = .no c p)) {f : Option Addr → Nat → Nat → Nat → Value} {w w' : World} (hb : Below w.heap.size w w') : KsPost r R f w (.panicked (gvUp c p)) w' := by
  refine ⟨hb, ?_⟩
  rw [h.out]

set_option maxRecDepth 10000 in
set_option maxHeartbeats 8000000 in
theorem closedKids_any (lax : Bool) (bs : List Int) (n cap : Nat) (a : Option Addr) (r : Nat) (IH : ItemC lax bs n cap a r) (q0 e : Nat) (w : World) (h : Row w a n bs) (hq0 : q0 ≤ e) (he : e ≤ n) (hn : n ≤ 20000) :
    Calls Tryd.prog 80 #[.agg #[.slice a n cap, .bool lax], .int .i64 (q0 : Int), .int .i64 (e : Int), .int .i64 (13 - (r : Int))] w fun ev w' => KsPost r (closedR (fun i => itemR lax bs r i e) e (e - q0) [] q0) (fun ak nk ck _ => .slice ak nk ck) w ev w' := by
  obtain ⟨i0, hi, hz0, hz1, hz2⟩ := info_parts Tryd.infoItem
  have HR : Hid (Row w a n bs) := h
  clear h
  obtain ⟨f, hf⟩ : ∃ f : Nat → Rs It, f = fun i => itemR lax bs r i e := ⟨_, rfl⟩
  rw [← hf]
  have HF : Hid (f = fun i => itemR lax bs r i e) := hf
  clear hf
  obtain ⟨R, hR⟩ : ∃ R, R = closedR f e (e - q0) [] q0 := ⟨_, rfl⟩
  rw [← hR]
  have hbl : Below w.heap.size w (w.alloc (.cells #[.slice a n cap, .bool lax] 93)) := (Below.refl _ _).alloc (Nat.le_refl _) _
  have HBX : Hid ((w.alloc (.cells #[.slice a n cap, .bool lax] 93)).heap[w.heap.size]? = some (.cells #[.slice a n cap, .bool lax] 93 (0, 0))) := heap_alloc_new w _
  have hs1 : (w.alloc (.cells #[.slice a n cap, .bool lax] 93)).heap.size = w.heap.size + 1 := by simp
  go_enter Tryd.func80, Tryd.ntmps80
  go_wp2_with fail
  obtain ⟨W1, hW1⟩ : ∃ W1, W1 = w.alloc (.cells #[.slice a n cap, .bool lax] 93) := ⟨_, rfl⟩
  rw [← hW1] at hbl HBX hs1 ⊢
  clear hW1
  go_loopw [9, 1] (fun ks i wr => ∃ (m q : Nat) (a2 : Option Addr) (k c : Nat) (xs : List It) (vs : List Value), ks = .slice a2 k c ∧ i = .int .i64 (q : Int) ∧ q ≤ e ∧ e ≤ q + m ∧ k ≤ q ∧ KidsAt r (w.heap.size + 1) wr a2 k c xs vs ∧ Below (w.heap.size + 1) W1 wr ∧ R = closedR f e m xs q) (fun _ i _ => e - (intOf i).toNat)
  case atStart => exact ⟨e - q0, q0, none, 0, 0, [], [], rfl, rfl, hq0, by omega, by omega, kidsAt_nil _ _ _, Below.refl _ _, hR⟩
  case round =>
    obtain ⟨m, q, a2, k, c, xs, vs, rfl, rfl, hqe, hem, hkq, hka, hbr, hRq⟩ := hrel
    have hsr := hbr.size
    have BX : Hid (_ = _) := (hbr.block w.heap.size (by omega)).trans HBX.out
    have hbw : Below w.heap.size w wr := hbl.trans (hbr.mono (by omega))
    have HRQ : Hid (R = closedR f e m xs q) := hRq
    clear hRq
    by_cases hlt : q < e
    · have hlti : (q : Int) < (e : Int) := by omega
      have c0 : wr.cell? ⟨w.heap.size, 0, none⟩ = some (.slice a n cap) := (cell_of_row _ w.heap.size 0 _ 93 (0, 0) BX.out).trans rfl
      have c1 : wr.cell? ⟨w.heap.size, 1, none⟩ = some (.bool lax) := (cell_of_row _ w.heap.size 1 _ 93 (0, 0) BX.out).trans rfl
      obtain ⟨m, rfl⟩ : ∃ m2, m = m2 + 1 := ⟨m - 1, by omega⟩
      have HC := IH q e wr (HR.out.kept hbw) hqe he
      cases hit : itemR lax bs r q e with
      | no c2 p2 =>
        rw [hit] at HC
        have hfq : f q = .no c2 p2 := by rw [HF.out]; exact hit
        have hfin : Hid (R = .no c2 p2) := HRQ.out.trans (closedR_no hlt hfq)
        go_wp2_with (go_at_call 64; refine HC.mono ?_; rintro ev w3 ⟨hb3, ht⟩; obtain rfl : ev = .panicked (gvUp c2 p2) := ht)
        exact ⟨rfl, KsPost.no hfin (hbw.trans (hb3.mono hbw.size))⟩
      | ok x nx =>
        rw [hit] at HC
        have hfq : f q = .ok x nx := by rw [HF.out]; exact hit
        have hnx := itemR_place r q e hqe hit
        have hnext : Hid (R = closedR f e m (xs ++ [x]) nx) := HRQ.out.trans (closedR_next hlt hfq)
        have HKA : Hid (_) := hka
        clear hit hfq HRQ hka
        go_wp2_with fail
        refine HC.mono ?_
        rintro ev w3 ⟨hb3, ab, nb, cb, ak, nk, ck, M, rfl, m1, m2, ob, ok⟩
        have hs3 := hb3.size
        have hb4 : Below w3.heap.size w3 ((w3.alloc (.cells #[.int .i64 x.cls, .int .i64 x.tag, .bool x.cons, .slice ab nb cb, .slice ak nk ck] 26)).alloc (.cells #[.int .i64 x.cls, .int .i64 x.tag, .bool x.cons, .slice ab nb cb, .slice ak nk ck] 26)) := ((Below.refl _ _).alloc (Nat.le_refl _) _).alloc (by simp) _
        have hor4 := ownsRow_below (ownsRow_below HKA.out.row hb3) hb4
        have hnews := cells_new (w3.alloc (.cells #[.int .i64 x.cls, .int .i64 x.tag, .bool x.cons, .slice ab nb cb, .slice ak nk ck] 26)) #[.int .i64 x.cls, .int .i64 x.tag, .bool x.cons, .slice ab nb cb, .slice ak nk ck] 26
        have hsa : (w3.alloc (.cells #[.int .i64 x.cls, .int .i64 x.tag, .bool x.cons, .slice ab nb cb, .slice ak nk ck] 26)).heap.size = w3.heap.size + 1 := by simp
        rw [hsa] at hnews
        have hsz4 : ((w3.alloc (.cells #[.int .i64 x.cls, .int .i64 x.tag, .bool x.cons, .slice ab nb cb, .slice ak nk ck] 26)).alloc (.cells #[.int .i64 x.cls, .int .i64 x.tag, .bool x.cons, .slice ab nb cb, .slice ak nk ck] 26)).heap.size = w3.heap.size + 1 + 1 := by simp
        have HOB : Hid (_) := ob
        have HOK : Hid (_) := ok
        have HB3 : Hid (_) := hb3
        have HB4 : Hid (_) := hb4
        clear ob ok c0 c1 hb3 hb4
        unfold itv
        go_wp2_with (at_builtin; refine wpList_append_lies _ rfl (.tmp 23) (.tmp 25) 24 rfl (w.heap.size + 1) 26 i0 _ 5 72 Tryd.underlying24 hi hz0 hz1 hz2 rfl (by decide) _ k vs rfl hor4 ⟨w3.heap.size + 1, 0, none⟩ 1 1 [.int .i64 x.cls, .int .i64 x.tag, .bool x.cons, .slice ab nb cb, .slice ak nk ck] rfl rfl hnews (by intro u hu; simp only [List.mem_cons, List.not_mem_nil, or_false] at hu; rcases hu with rfl | rfl | rfl | rfl | rfl <;> rfl) (by decide) (by unfold maxLen; omega) (by omega) (by omega) (w3.heap.size + 1 + 1) hsz4 ?_; intro g5 c5 w5 hown5 hg5 hlies5 hlt5)
        have hka5 := HKA.out.more (by omega) HB3.out m1 m2 HOB.out HOK.out HB4.out hown5 hg5 (by rw [hsz4]; exact hlies5)
        have hb5 : Below (w.heap.size + 1) W1 w5 := (hbr.trans ((HB3.out.trans (HB4.out.mono hs3)).mono (by omega))).grown hg5 (by omega) HKA.out.block
        have HK5 : Hid (_) := hka5
        have HB5 : Hid (_) := hb5
        clear hka5 hb5 hown5 hg5 hlies5 hlt5 HOB HOK HB3 HB4 hor4 hnews HC
        go_roundw
        case rel => exact ⟨m, nx, some ⟨g5, 0, none⟩, k + 1, c5, xs ++ [x], _, rfl, rfl, hnx.2, by omega, by omega, HK5.out, HB5.out, hnext.out⟩
        case measure => simp [intOf]; omega
    · obtain rfl : q = e := by omega
      have hfin : Hid (R = .ok xs q) := HRQ.out.trans (closedR_end (by omega))
      go_wp2
      go_ret
      refine ⟨hbw, ?_⟩
      rw [hfin.out]
      exact ⟨a2, k, c, w.heap.size + 1, rfl, by omega, by omega, by omega, hka.kids (by omega)⟩

end Go.Proofs.YtjkkokjojaknkaaDoor
