import Derived.Test.YtjkkokjojaknkaaDoorWMk
namespace Go.Proofs.YtjkkokjojaknkaaDoor
open Go.RowKit

set_option maxRecDepth 10000 in
set_option maxHeartbeats 1000000 in
theorem markItem_any (d lo M hi : Nat) (x : It) (ab : Option Addr) (nb cb : Nat) (ak : Option Addr) (nk ck : Nat) (k : Nat) (w : World) (hb : OwnB lo M w ab nb cb x.body) (hk : OwnKids d M hi w ak nk x.kids) (h1 : lo ≤ M) (h2 : M ≤ hi) (hh : hi ≤ w.heap.size) (hw : k + nb + 3 * wtS d x.kids ≤ 100000000) :
    Calls Tryd.prog 27 #[itv x ab nb cb ak nk ck, .int .i64 k] w fun e w' => e = .returned (.int .i64 ((mkS d x.kids (k + nb)).2 : Nat)) ∧ OwnB lo M w' ab nb cb (marks k nb) ∧ OwnKids d M hi w' ak nk (mkS d x.kids (k + nb)).1 ∧ Touch lo hi w w' := by
  have hbl : Below w.heap.size w (w.alloc (.cells #[.int .i64 x.cls, .int .i64 x.tag, .bool x.cons, .slice ab nb cb, .slice ak nk ck] 26)) := (Below.refl _ _).alloc (Nat.le_refl _) _
  have OB : Hid (_) := hb.kept hbl
  have OK : Hid (_) := hk.kept hbl
  have hbx := boxT_new 26 w x ab nb cb ak nk ck
  have T0 : Hid (Touch lo hi w _) := Touch.of_below hbl
  have hsz : (w.alloc (.cells #[.int .i64 x.cls, .int .i64 x.tag, .bool x.cons, .slice ab nb cb, .slice ak nk ck] 26)).heap.size = w.heap.size + 1 := by simp
  clear hb hk hbl
  unfold itv
  go_enter Tryd.func27, Tryd.ntmps27
  go_wp2_with fail
  refine (markByteS_any lo ab nb cb k x.body _ OB.out.own (by omega) (by omega)).mono ?_
  rintro e w1 ⟨rfl, ho1, hg1⟩
  have t1 : Touch lo M _ w1 := OB.out.wrote hg1
  have hx1 : BoxT 26 w.heap.size w1 x ab nb cb ak nk ck := ⟨(t1.block w.heap.size (by omega) (by omega)).trans hbx.heap⟩
  have c4 := hx1.cells.2.2.2.2
  have ok1 := ownKids_moves d _ _ lo M _ _ _ _ _ OK.out (.inr (Nat.le_refl _)) t1
  have OB1 : Hid (OwnB lo M w1 ab nb cb (marks k nb)) := ⟨ho1, OB.out.lt⟩
  have OK1 : Hid (_) := ok1
  have T1 : Hid (Touch lo hi w w1) := T0.out.trans (t1.mono (Nat.le_refl _) h2)
  clear ho1 hg1 t1 hx1 ok1 hbx OB OK T0
  go_wp2_with fail
  refine (markS_all d M hi ak nk ck x.kids (k + nb) _ w1 (by omega) OK1.out hw).mono ?_
  rintro e w2 ⟨rfl, ok2, t2⟩
  have ob2 := OB1.out.touch (.inl (Nat.le_refl _)) t2
  have hq := mkS_le d x.kids (k + nb)
  obtain ⟨q, hqe⟩ : ∃ q, q = (mkS d x.kids (k + nb)).2 := ⟨_, rfl⟩
  rw [← hqe] at hq ⊢
  have FIN : Hid (_ ∧ _ ∧ _ ∧ _) := ⟨hqe, ob2, ok2, T1.out.trans (t2.mono h1 (Nat.le_refl _))⟩
  clear hqe ob2 ok2 t2 OB1 OK1 T1
  go_wp2
  go_ret
  exact ⟨by rw [← FIN.out.1]; rfl, FIN.out.2.1, FIN.out.2.2.1, FIN.out.2.2.2⟩

theorem markItem_int (d lo M hi : Nat) (x : It) (ab : Option Addr) (nb cb : Nat) (ak : Option Addr) (nk ck : Nat) (k : Nat) (K : Int) (hK : K = (k : Int)) (w : World) (hb : OwnB lo M w ab nb cb x.body) (hk : OwnKids d M hi w ak nk x.kids) (h1 : lo ≤ M) (h2 : M ≤ hi) (hh : hi ≤ w.heap.size) (hw : k + nb + 3 * wtS d x.kids ≤ 100000000) :
    Calls Tryd.prog 27 #[itv x ab nb cb ak nk ck, .int .i64 K] w fun e w' => e = .returned (.int .i64 ((mkS d x.kids (k + nb)).2 : Nat)) ∧ OwnB lo M w' ab nb cb (marks k nb) ∧ OwnKids d M hi w' ak nk (mkS d x.kids (k + nb)).1 ∧ Touch lo hi w w' := by
  subst hK
  exact markItem_any d lo M hi x ab nb cb ak nk ck k w hb hk h1 h2 hh hw

theorem It.cls_mk (c t : Int) (co : Bool) (b : List Int) (ks : List It) : (It.mk c t co b ks).cls = c := rfl
theorem It.tag_mk (c t : Int) (co : Bool) (b : List Int) (ks : List It) : (It.mk c t co b ks).tag = t := rfl
theorem It.cons_mk (c t : Int) (co : Bool) (b : List Int) (ks : List It) : (It.mk c t co b ks).cons = co := rfl
theorem It.body_mk (c t : Int) (co : Bool) (b : List Int) (ks : List It) : (It.mk c t co b ks).body = b := rfl
theorem It.kids_mk (c t : Int) (co : Bool) (b : List Int) (ks : List It) : (It.mk c t co b ks).kids = ks := rfl

def HeldS (d : Nat) : Prop := ∀ (a : Option Addr) (n cap : Nat) (xs : List It) (k : Nat) (K : Int) (w : World), K = (k : Int) → Kids d w a n (mkS d xs k).1 → k + 3 * wtS d xs ≤ 100000000 →
    Calls Tryd.prog 48 #[.slice a n cap, .int .i64 K] w fun e w' => e = .returned (.int .i64 ((mkS d xs k).2 : Nat)) ∧ Below w.heap.size w w'

set_option maxRecDepth 10000 in
set_option maxHeartbeats 2000000 in
theorem heldS_next (d : Nat) (ih : HeldS d) : HeldS (d + 1) := by
  intro a n cap xs k K w hKk hk hwt
  subst hKk
  have hlen : xs.length = n := by have := hk.1; simp [mkS, mkK] at this; exact this
  have HLN : Hid (xs.length = n) := hlen
  have HW : Hid (k + 3 * (n + wtP d xs n) ≤ 100000000) := by show _ ≤ _; rw [wtS_succ, hlen] at hwt; exact hwt
  have hn9 : n ≤ 100000000 := by have := HW.out; omega
  have HK : Hid (Kids (d + 1) w a n (mkS (d + 1) xs k).1) := hk
  clear hk hwt hlen
  go_enter Tryd.func48, Tryd.ntmps48
  go_wp2
  go_loopw [1, 5] (fun kk i wr => ∃ j q : Nat, j ≤ n ∧ i = .int .i64 j ∧ kk = .int .i64 q ∧ Hid (q = kkAt (mkS d) xs k j) ∧ Below w.heap.size w wr) (fun _ i _ => n - (intOf i).toNat)
  case atStart => exact ⟨0, k, Nat.zero_le _, rfl, rfl, rfl, Below.refl _ _⟩
  case round =>
    obtain ⟨j, q, hj, rfl, rfl, HQ, hbr⟩ := hrel
    have hkl := kkAt_le d xs k j (by rw [HLN.out]; omega)
    rw [← HQ.out] at hkl
    by_cases hjn : j < n
    · obtain ⟨b, off, rfl, hlb, ab1, nb1, cb1, ak1, nk1, ck1, c0, c1, c2, c3, c4, hr1, hn1, hm1, hk1⟩ := HK.out.2.2 j hjn
      have hnx := wtP_next d xs j (by rw [HLN.out]; exact hjn)
      have hle := wtP_le d xs (j + 1)
      rw [HLN.out] at hle
      obtain ⟨y, hy⟩ : ∃ y, y = xs.getD j default := ⟨_, rfl⟩
      have hg : ((mkS (d + 1) xs k).1).getD j default = .mk (q : Int) ((q : Int) + 1) (((q : Int) + 1 + 1) % 3 == 0) (marks (q + 3) y.body.length) (mkS d y.kids (q + 3 + y.body.length)).1 := by
        show ((List.range xs.length).map fun j => (mkItem (mkS d) (xs.getD j default) (kkAt (mkS d) xs k j)).1).getD j default = _
        have hj' : j < xs.length := by rw [HLN.out]; exact hjn
        rw [hy, HQ.out]
        simp [hj', mkItem]
      rw [hg] at c0 c1 c2 hr1 hk1
      rw [It.cls_mk] at c0
      rw [It.tag_mk] at c1
      rw [It.cons_mk] at c2
      rw [It.body_mk] at hr1
      rw [It.kids_mk] at hk1
      have hbl : y.body.length = nb1 := by have := hr1.len; rw [marks_len] at this; exact this
      rw [← hy, hbl] at hnx
      rw [hbl] at hr1 hk1
      have hqk : q + 3 + nb1 + 3 * wtS d y.kids ≤ 100000000 := by have := HW.out; omega
      have hkj : (mkS d y.kids (q + 3 + nb1)).2 = kkAt (mkS d) xs k (j + 1) := by
        show _ = (mkItem (mkS d) (xs.getD j default) (kkAt (mkS d) xs k j)).2
        rw [← hy, ← HQ.out, mkItem, hbl]
      have cc : ∀ i, wr.cell? ⟨b, i, none⟩ = w.cell? ⟨b, i, none⟩ := fun i => hbr.cell (p := ⟨b, i, none⟩) hlb
      rw [← cc] at c0 c1 c2 c3 c4
      have HKJ : Hid (_ = _) := hkj
      have R1 : Hid (_) := hr1.kept hbr
      have K1 : Hid (_) := hk1.kept hbr
      have hji : (j : Int) < (n : Int) := by omega
      have t0 : ((q : Int) != (q : Int)) = false := by simp
      have t1 : ((q : Int) + 1 != (q : Int) + 1) = false := by simp
      have hs := hbr.size
      clear cc hy hg hnx hle hkj hr1 hk1
      go_wp2_with fail
      have htn : ((q : Int) + 1 + 1 + 1).toNat = q + 3 := by omega
      refine (heldByteS_int ab1 nb1 cb1 ((q : Int) + 1 + 1 + 1) wr (by rw [htn]; exact R1.out) (by omega) (by omega) (by omega)).mono ?_
      rintro e w1 ⟨rfl, rfl⟩
      have g0 : ¬ (q : Int) + 1 + 1 + 1 + (nb1 : Int) < 0 := by omega
      go_wp2_with fail
      refine (ih ak1 nk1 ck1 y.kids (q + 3 + nb1) _ _ (by omega) K1.out hqk).mono ?_
      rintro e w2 ⟨rfl, hb2⟩
      have hb2' : Below w.heap.size w w2 := hbr.trans (hb2.mono hs)
      have hq4 := mkS_le d y.kids (q + 3 + nb1)
      obtain ⟨q2, hq2⟩ : ∃ q2, q2 = (mkS d y.kids (q + 3 + nb1)).2 := ⟨_, rfl⟩
      rw [← hq2] at hq4 ⊢
      have HQ2 : Hid (q2 = kkAt (mkS d) xs k (j + 1)) := hq2.trans HKJ.out
      have g1 : ¬ (q2 : Int) < 0 := by omega
      clear hq2 htn
      go_wp2
      go_roundw
      case rel => exact ⟨j + 1, q2, by omega, by go_num, rfl, HQ2, hb2'⟩
      case measure => simp [intOf]; omega
    · obtain rfl : n = j := by omega
      have hq9 : q ≤ 100000000 := by have := HW.out; omega
      have hE : Hid ((mkS (d + 1) xs k).2 = q) := by show kkAt (mkS d) xs k xs.length = q; rw [HLN.out, ← HQ.out]
      clear hkl
      go_wp2
      go_ret
      exact ⟨by rw [hE.out]; rfl, hbr⟩

theorem heldS_all (d : Nat) : HeldS d := by
  induction d with
  | zero => intro a n cap xs k K w _ h; exact h.elim
  | succ d ih => exact heldS_next d ih

end Go.Proofs.YtjkkokjojaknkaaDoor
