import Derived.Test.YtjkkokjojaknkaaDoorG09
import Derived.Test.YtjkkokjojaknkaaDoorRR13
namespace Go.Proofs.YtjkkokjojaknkaaDoor
open Go.RowKit

theorem openR_no {f : Nat → Rs It} {bs : List Int} {e m : Nat} {acc : List It} {q c p : Nat} (h : endR bs q e = .no c p) : openR f bs e (m + 1) acc q = .no c p := by
  unfold endR at h
  rw [openR]
  by_cases h0 : q = e
  · rw [if_pos h0] at h ⊢; cases h; rfl
  rw [if_neg h0] at h ⊢
  by_cases h1 : bs.getD q 0 = 0
  · rw [if_pos h1] at h ⊢
    by_cases h2 : q + 1 = e
    · rw [if_pos h2] at h ⊢; cases h; rfl
    rw [if_neg h2] at h ⊢
    by_cases h3 : bs.getD (q + 1) 0 = 0
    · rw [if_pos h3] at h; cases h
    · rw [if_neg h3] at h ⊢; cases h; rfl
  · rw [if_neg h1] at h; cases h
theorem openR_end {f : Nat → Rs It} {bs : List Int} {e m : Nat} {acc : List It} {q p : Nat} (h : endR bs q e = .ok true p) : openR f bs e (m + 1) acc q = .ok acc (q + 2) := by
  unfold endR at h
  rw [openR]
  by_cases h0 : q = e
  · rw [if_pos h0] at h; cases h
  rw [if_neg h0] at h ⊢
  by_cases h1 : bs.getD q 0 = 0
  · rw [if_pos h1] at h ⊢
    by_cases h2 : q + 1 = e
    · rw [if_pos h2] at h; cases h
    rw [if_neg h2] at h ⊢
    by_cases h3 : bs.getD (q + 1) 0 = 0
    · rw [if_pos h3]
    · rw [if_neg h3] at h; cases h
  · rw [if_neg h1] at h; cases h
theorem openR_kid {f : Nat → Rs It} {bs : List Int} {e m : Nat} {acc : List It} {q p : Nat} (h : endR bs q e = .ok false p) : q ≠ e ∧ openR f bs e (m + 1) acc q = match f q with
    | .no c p => .no c p
    | .ok x nx => openR f bs e m (acc ++ [x]) nx := by
  unfold endR at h
  rw [openR]
  by_cases h0 : q = e
  · rw [if_pos h0] at h; cases h
  rw [if_neg h0] at h ⊢
  by_cases h1 : bs.getD q 0 = 0
  · rw [if_pos h1] at h
    by_cases h2 : q + 1 = e
    · rw [if_pos h2] at h; cases h
    rw [if_neg h2] at h
    by_cases h3 : bs.getD (q + 1) 0 = 0
    · rw [if_pos h3] at h; cases h
    · rw [if_neg h3] at h; cases h
  · rw [if_neg h1]; exact ⟨h0, rfl⟩

set_option maxRecDepth 10000 in
set_option maxHeartbeats 8000000 in
theorem openKids_any (lax : Bool) (bs : List Int) (n cap : Nat) (a : Option Addr) (r : Nat) (IH : ItemC lax bs n cap a r) (q0 e : Nat) (w : World) (h : Row w a n bs) (hq0 : q0 ≤ e) (he : e ≤ n) (hn : n ≤ 20000) :
    Calls Tryd.prog 79 #[.agg #[.slice a n cap, .bool lax], .int .i64 (q0 : Int), .int .i64 (e : Int), .int .i64 (13 - (r : Int))] w fun ev w' => KsPost r (openR (fun i => itemR lax bs r i e) bs e (e - q0 + 1) [] q0) (fun ak nk ck nx => .tuple #[.slice ak nk ck, .int .i64 (nx : Int)]) w ev w' := by
  obtain ⟨i0, hi, hz0, hz1, hz2⟩ := info_parts Tryd.infoItem
  have HR : Hid (Row w a n bs) := h
  clear h
  obtain ⟨f, hf⟩ : ∃ f : Nat → Rs It, f = fun i => itemR lax bs r i e := ⟨_, rfl⟩
  rw [← hf]
  have HF : Hid (f = fun i => itemR lax bs r i e) := hf
  clear hf
  obtain ⟨R, hR⟩ : ∃ R, R = openR f bs e (e - q0 + 1) [] q0 := ⟨_, rfl⟩
  rw [← hR]
  have hbl : Below w.heap.size w (w.alloc (.cells #[.slice a n cap, .bool lax] 93)) := (Below.refl _ _).alloc (Nat.le_refl _) _
  have HBX : Hid ((w.alloc (.cells #[.slice a n cap, .bool lax] 93)).heap[w.heap.size]? = some (.cells #[.slice a n cap, .bool lax] 93 (0, 0))) := heap_alloc_new w _
  have hs1 : (w.alloc (.cells #[.slice a n cap, .bool lax] 93)).heap.size = w.heap.size + 1 := by simp
  go_enter Tryd.func79, Tryd.ntmps79
  go_wp2_with fail
  obtain ⟨W1, hW1⟩ : ∃ W1, W1 = w.alloc (.cells #[.slice a n cap, .bool lax] 93) := ⟨_, rfl⟩
  rw [← hW1] at hbl HBX hs1 ⊢
  clear hW1
  go_loopw [10, 1] (fun ks i wr => ∃ (m q : Nat) (a2 : Option Addr) (k c : Nat) (xs : List It) (vs : List Value), ks = .slice a2 k c ∧ i = .int .i64 (q : Int) ∧ q ≤ e ∧ e + 1 ≤ q + m ∧ k ≤ q ∧ KidsAt r (w.heap.size + 1) wr a2 k c xs vs ∧ Below (w.heap.size + 1) W1 wr ∧ R = openR f bs e m xs q) (fun _ i _ => e + 1 - (intOf i).toNat)
  case atStart => exact ⟨e - q0 + 1, q0, none, 0, 0, [], [], rfl, rfl, hq0, by omega, by omega, kidsAt_nil _ _ _, Below.refl _ _, hR⟩
  case round =>
    obtain ⟨m, q, a2, k, c, xs, vs, rfl, rfl, hqe, hem, hkq, hka, hbr, hRq⟩ := hrel
    have hsr := hbr.size
    have BX : Hid (_ = _) := (hbr.block w.heap.size (by omega)).trans HBX.out
    have hbw : Below w.heap.size w wr := hbl.trans (hbr.mono (by omega))
    have HRQ : Hid (R = openR f bs e m xs q) := hRq
    clear hRq
    have c0 : wr.cell? ⟨w.heap.size, 0, none⟩ = some (.slice a n cap) := (cell_of_row _ w.heap.size 0 _ 93 (0, 0) BX.out).trans rfl
    have c1 : wr.cell? ⟨w.heap.size, 1, none⟩ = some (.bool lax) := (cell_of_row _ w.heap.size 1 _ 93 (0, 0) BX.out).trans rfl
    obtain ⟨m, rfl⟩ : ∃ m2, m = m2 + 1 := ⟨m - 1, by omega⟩
    have HE := endMark_any a n cap lax bs q e wr (HR.out.kept hbw) hqe he hn
    cases hend : endR bs q e with
    | no c2 p2 =>
      rw [hend] at HE
      have hfin : Hid (R = .no c2 p2) := HRQ.out.trans (openR_no hend)
      clear hend
      go_wp2_with (go_at_call 85; refine HE.mono ?_; rintro ev w2 ⟨ht, hb2⟩; obtain rfl : ev = .panicked (gvUp c2 p2) := ht)
      exact ⟨rfl, KsPost.no hfin (hbw.trans (hb2.mono hbw.size))⟩
    | ok t p2 =>
      rw [hend] at HE
      cases t with
      | true =>
        have hfin : Hid (R = .ok xs (q + 2)) := HRQ.out.trans (openR_end hend)
        clear hend
        have HKA : Hid (_) := hka
        clear hka
        go_wp2_with (go_at_call 85; refine HE.mono ?_; rintro ev w2 ⟨ht, hb2⟩; obtain rfl : ev = .returned (.bool true) := ht)
        go_ret2
        have hs2 := hb2.size
        refine ⟨hbw.trans (hb2.mono hbw.size), ?_⟩
        rw [hfin.out]
        exact ⟨a2, k, c, w.heap.size + 1, rfl, by omega, by omega, by omega, (HKA.out.kept hb2).kids (by omega)⟩
      | false =>
        obtain ⟨hqne, hop⟩ := openR_kid (f := f) (m := m) (acc := xs) hend
        have hlt : q < e := by omega
        have HOP : Hid (R = match f q with | .no c p => .no c p | .ok x nx => openR f bs e m (xs ++ [x]) nx) := HRQ.out.trans hop
        have HKA0 : Hid (_) := hka
        clear hend hop HRQ hka
        go_wp2_with fail
        refine HE.mono ?_
        rintro ev w2 ⟨ht, hb2⟩
        obtain rfl : ev = .returned (.bool false) := ht
        have hs2 := hb2.size
        have hbw2 := hbw.trans (hb2.mono hbw.size)
        have HKA : Hid (_) := HKA0.out.kept hb2
        have HBR2 : Below (w.heap.size + 1) W1 w2 := hbr.trans (hb2.mono (by omega))
        have e0 : w2.cell? ⟨w.heap.size, 0, none⟩ = some (.slice a n cap) := (hb2.cell (p := ⟨w.heap.size, 0, none⟩) (by show w.heap.size < _; omega)).trans c0
        have e1 : w2.cell? ⟨w.heap.size, 1, none⟩ = some (.bool lax) := (hb2.cell (p := ⟨w.heap.size, 1, none⟩) (by show w.heap.size < _; omega)).trans c1
        have HC := IH q e w2 (HR.out.kept hbw2) hqe he
        clear c0 c1 HE HKA0
        cases hit : itemR lax bs r q e with
        | no c2 p2 =>
          rw [hit] at HC
          have hfq : f q = .no c2 p2 := by rw [HF.out]; exact hit
          have hfin : Hid (R = .no c2 p2) := HOP.out.trans (by rw [hfq])
          clear hfq hit
          go_wp2_with (go_at_call 64; refine HC.mono ?_; rintro ev w3 ⟨hb3, ht⟩; obtain rfl : ev = .panicked (gvUp c2 p2) := ht)
          exact ⟨rfl, KsPost.no hfin (hbw2.trans (hb3.mono hbw2.size))⟩
        | ok x nx =>
          rw [hit] at HC
          have hfq : f q = .ok x nx := by rw [HF.out]; exact hit
          have hnx := itemR_place r q e hqe hit
          have hnext : Hid (R = openR f bs e m (xs ++ [x]) nx) := HOP.out.trans (by rw [hfq])
          clear hit hfq HOP
          go_wp2_with fail
          refine HC.mono ?_
          rintro ev w3 ⟨hb3, ab, nb, cb, ak, nk, ck, M, rfl, m1, m2, ob, ok⟩
          have hs3 := hb3.size
          have hb4 : Below w3.heap.size w3 ((w3.alloc (.cells #[.int .i64 x.cls, .int .i64 x.tag, .bool x.cons, .slice ab nb cb, .slice ak nk ck] 26)).alloc (.cells #[.int .i64 x.cls, .int .i64 x.tag, .bool x.cons, .slice ab nb cb, .slice ak nk ck] 26)) := ((Below.refl _ _).alloc (Nat.le_refl _) _).alloc (by simp) _
          have hor4 := ownsRow_below (ownsRow_below HKA.out.row hb3) hb4
          have hnews := cells_new (w3.alloc (.cells #[.int .i64 x.cls, .int .i64 x.tag, .bool x.cons, .slice ab nb cb, .slice ak nk ck] 26)) #[.int .i64 x.cls, .int .i64 x.tag, .bool x.cons, .slice ab nb cb, .slice ak nk ck] 26
          have hsa : (w3.alloc (.cells #[.int .i64 x.cls, .int .i64 x.tag, .bool x.cons, .slice ab nb cb, .slice ak nk ck] 26)).heap.size = w3.heap.size + 1 := by simp
          rw [hsa] at hnews
          have hsz4 : ((w3.alloc (.cells #[.int .i64 x.cls, .int .i64 x.tag, .bool x.cons, .slice ab nb cb, .slice ak nk ck] 26)).alloc (.cells #[.int .i64 x.cls, .int .i64 x.tag, .bool x.cons, .slice ab nb cb, .slice ak nk ck] 26)).heap.size = w3.heap.size + 1 + 1 := by simp
          have HOB : Hid (_) := ob
          have HOK : Hid (_) := ok
          have HB3 : Hid (_) := hb3
          have HB4 : Hid (_) := hb4
          clear ob ok e0 e1 hb3 hb4
          unfold itv
          go_wp2_with (at_builtin; refine wpList_append_lies _ rfl (.tmp 26) (.tmp 28) 24 rfl (w.heap.size + 1) 26 i0 _ 5 72 Tryd.underlying24 hi hz0 hz1 hz2 rfl (by decide) _ k vs rfl hor4 ⟨w3.heap.size + 1, 0, none⟩ 1 1 [.int .i64 x.cls, .int .i64 x.tag, .bool x.cons, .slice ab nb cb, .slice ak nk ck] rfl rfl hnews (by intro u hu; simp only [List.mem_cons, List.not_mem_nil, or_false] at hu; rcases hu with rfl | rfl | rfl | rfl | rfl <;> rfl) (by decide) (by unfold maxLen; omega) (by omega) (by omega) (w3.heap.size + 1 + 1) hsz4 ?_; intro g5 c5 w5 hown5 hg5 hlies5 hlt5)
          have hka5 := HKA.out.more (by omega) HB3.out m1 m2 HOB.out HOK.out HB4.out hown5 hg5 (by rw [hsz4]; exact hlies5)
          have hb5 : Below (w.heap.size + 1) W1 w5 := (HBR2.trans ((HB3.out.trans (HB4.out.mono hs3)).mono (by omega))).grown hg5 (by omega) HKA.out.block
          have HK5 : Hid (_) := hka5
          have HB5 : Hid (_) := hb5
          clear hka5 hb5 hown5 hg5 hlies5 hlt5 HOB HOK HB3 HB4 hor4 hnews HC
          go_roundw
          case rel => exact ⟨m, nx, some ⟨g5, 0, none⟩, k + 1, c5, xs ++ [x], _, rfl, rfl, hnx.2, by omega, by omega, HK5.out, HB5.out, hnext.out⟩
          case measure => simp [intOf]; omega

end Go.Proofs.YtjkkokjojaknkaaDoor

namespace Go.Proofs.YtjkkokjojaknkaaDoor
open Go.RowKit

/-! No code is 0. -/
theorem grpR_code {bs : List Int} {p e : Nat} : ∀ (n : Nat) (tag : Int) (q : Nat) {c x : Nat}, grpR bs p e n tag q = .no c x → c ≠ 0 := by
  intro n
  induction n with
  | zero => intro tag q c x h; simp only [grpR] at h; split at h <;> (cases h; decide)
  | succ n ih =>
    intro tag q c x h
    simp only [grpR] at h
    split at h
    · cases h; decide
    · split at h
      · cases h
      · exact ih _ _ h
theorem stagR_code {lax : Bool} {bs : List Int} {p e c x : Nat} (h : stagR lax bs p e = .no c x) : c ≠ 0 := by
  unfold stagR at h
  split at h
  · cases h
  · cases hg : grpR bs p e 6 0 (p + 1) with
    | no c2 q2 => rw [hg] at h; cases h; exact grpR_code _ _ _ hg
    | ok t q2 =>
      rw [hg] at h
      simp only at h
      split at h
      · cases h; decide
      · cases h
theorem stagR_place {lax : Bool} {bs : List Int} {p e : Nat} {t : Int} {nx : Nat} (hp : p < e) (h : stagR lax bs p e = .ok t nx) : p < nx ∧ nx ≤ e := by
  unfold stagR at h
  split at h
  · cases h; omega
  · cases hg : grpR bs p e 6 0 (p + 1) with
    | no c2 q2 => rw [hg] at h; cases h
    | ok t2 q2 =>
      rw [hg] at h
      have := grpR_place 6 0 (p + 1) (by omega) hg
      simp only at h
      split at h
      · cases h
      · cases h; omega
theorem lenR_code {lax cons : Bool} {bs : List Int} {q e c x : Nat} (h : lenR lax cons bs q e = .no c x) : c ≠ 0 := by
  unfold lenR at h
  by_cases h0 : q = e
  · rw [if_pos h0] at h; cases h; decide
  rw [if_neg h0] at h
  by_cases h1 : bs.getD q 0 < 128
  · rw [if_pos h1] at h; cases h
  rw [if_neg h1] at h
  by_cases h2 : bs.getD q 0 = 128 ∧ lax = true ∧ cons = true
  · rw [if_pos h2] at h; cases h
  rw [if_neg h2] at h
  by_cases h3 : bs.getD q 0 = 128 ∨ 132 < bs.getD q 0
  · rw [if_pos h3] at h; cases h; decide
  rw [if_neg h3] at h
  by_cases h4 : e < q + 1 + (bs.getD q 0 - 128).toNat
  · rw [if_pos h4] at h; cases h; decide
  rw [if_neg h4] at h
  by_cases h5 : lax = false ∧ (bs.getD (q + 1) 0 = 0 ∨ digR bs (q + 1) (bs.getD q 0 - 128).toNat < 128)
  · rw [if_pos h5] at h; cases h; decide
  rw [if_neg h5] at h
  cases h
theorem closedR_code_le (lax : Bool) (bs : List Int) (r : Nat) (ih : ∀ (p e : Nat) {c x : Nat}, p ≤ e → itemR lax bs r p e = .no c x → c ≠ 0) (e : Nat) : ∀ (k : Nat) (acc : List It) (q : Nat) {c x : Nat}, q ≤ e → closedR (fun i => itemR lax bs r i e) e k acc q = .no c x → c ≠ 0 := by
  intro k
  induction k with
  | zero => intro acc q c x _ h; simp only [closedR] at h; cases h
  | succ k ih2 =>
    intro acc q c x hq h
    simp only [closedR] at h
    split at h
    · cases hfq : itemR lax bs r q e with
      | no c2 p2 => rw [hfq] at h; cases h; exact ih _ _ hq hfq
      | ok y n2 =>
        rw [hfq] at h
        exact ih2 _ _ (itemR_place r q e hq hfq).2 h
    · cases h
theorem openR_code_le (lax : Bool) (bs : List Int) (r : Nat) (ih : ∀ (p e : Nat) {c x : Nat}, p ≤ e → itemR lax bs r p e = .no c x → c ≠ 0) (e : Nat) : ∀ (k : Nat) (acc : List It) (q : Nat) {c x : Nat}, q ≤ e → e + 1 ≤ q + k → openR (fun i => itemR lax bs r i e) bs e k acc q = .no c x → c ≠ 0 := by
  intro k
  induction k with
  | zero => intro acc q c x h1 h2 h; omega
  | succ k ih2 =>
    intro acc q c x h1 h2 h
    simp only [openR] at h
    split at h
    · cases h; decide
    · split at h
      · split at h
        · cases h; decide
        · split at h
          · cases h
          · cases h; decide
      · cases hfq : itemR lax bs r q e with
        | no c2 p2 => rw [hfq] at h; cases h; exact ih _ _ h1 hfq
        | ok y n2 =>
          rw [hfq] at h
          have := itemR_place r q e h1 hfq
          exact ih2 _ _ (by omega) (by omega) h
theorem itemR_code {lax : Bool} {bs : List Int} : ∀ (r p e : Nat) {c x : Nat}, p ≤ e → itemR lax bs r p e = .no c x → c ≠ 0 := by
  intro r
  induction r with
  | zero => intro p e c x hp h; simp only [itemR] at h; cases h; decide
  | succ r ih =>
    intro p e c x hp h
    simp only [itemR] at h
    split at h
    · cases h; decide
    · have hts := tagR_stag lax bs p e
      cases ht : tagR lax bs p e with
      | no c2 q =>
        rw [ht] at h hts
        cases h
        cases hs : stagR lax bs p e with
        | no c3 q3 => rw [hs] at hts; cases hts; exact stagR_code hs
        | ok t3 q3 =>
          rw [hs] at hts
          simp only at hts
          split at hts
          · cases hts; decide
          · cases hts
      | ok t q =>
        rw [ht] at h
        have h1 := tagR_place (by omega) ht
        simp only at h
        cases hl : lenR lax (consN bs p) bs q e with
        | no c2 q2 => rw [hl] at h; cases h; exact lenR_code hl
        | ok o q2 =>
          rw [hl] at h
          have h2 := lenR_place h1.2 hl
          cases o with
          | none =>
            simp only [bodyR] at h
            cases ho : openR (fun i => itemR lax bs r i e) bs e (e - q2 + 1) [] q2 with
            | ok ks q3 => rw [ho] at h; cases h
            | no c2 q3 =>
              rw [ho] at h
              cases h
              exact openR_code_le lax bs r ih e _ _ _ h2.2 (by omega) ho
          | some n =>
            simp only [bodyR] at h
            split at h
            · cases h; decide
            · split at h
              · cases hc : closedR (fun i => itemR lax bs r i (q2 + n)) (q2 + n) n [] q2 with
                | ok ks q3 => rw [hc] at h; cases h
                | no c2 q3 =>
                  rw [hc] at h
                  cases h
                  exact closedR_code_le lax bs r ih (q2 + n) _ _ _ (by omega) hc
              · cases h

end Go.Proofs.YtjkkokjojaknkaaDoor
