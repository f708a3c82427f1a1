import Derived.Test.YtjkkokjojaknkaaDoorFM
import Derived.Deep.RegionWith
import Derived.Test.YtjkkokjojaknkaaDoorFB
import Derived.ProofKit
import Derived.Deep.Slices
import Derived.ChangeArms
import Derived.Test.YtjkkokjojaknkaaDoorRR11
import Derived.Test.YtjkkokjojaknkaaDoorG11
import Derived.Test.YtjkkokjojaknkaaDoorRC0
namespace Go.Proofs.YtjkkokjojaknkaaDoor
open Go.RowKit

end Go.Proofs.YtjkkokjojaknkaaDoor

namespace Go.Proofs.YtjkkokjojaknkaaDoor
open Go.RowKit Go.ChangeShapes Go.WideShapes

theorem Kids.more {d : Nat} : ∀ {w : World} {a : Option Addr} {n : Nat} {xs : List It}, Kids d w a n xs → Kids (d + 1) w a n xs := by
  induction d with
  | zero => intro _ _ _ _ h; exact h.elim
  | succ d ih =>
    intro w a n xs h
    refine ⟨h.1, h.2.1, fun k hk => ?_⟩
    obtain ⟨b, off, ha, hlt, ab, nb, cb, ak, nk, ck, c0, c1, c2, c3, c4, hr, hn, hm, hk⟩ := h.2.2 k hk
    exact ⟨b, off, ha, hlt, ab, nb, cb, ak, nk, ck, c0, c1, c2, c3, c4, hr, hn, hm, ih hk⟩
theorem Kids.le {d d' : Nat} (hd : d ≤ d') {w : World} {a : Option Addr} {n : Nat} {xs : List It} (h : Kids d w a n xs) : Kids d' w a n xs := by
  induction hd with
  | refl => exact h
  | step _ ih => exact ih.more

theorem open_row {H : Type} {enc : TypeId × Value → H} {W : World} {fuel : Nat} {cs : List Value} {x : DataW H × List MemPlace} (h : DataW.trod enc Tryd.prog W 0 (fun _ => true) true fuel 22 cs = some x) :
    ∃ a n cap bs, cs = [.slice a n cap] ∧ Row W a n bs ∧ (a = none → cap = 0) ∧ n ≤ 9223372036854775807 := by
  rcases open_ints Tryd.underlying22 Tryd.underlying5 (by kernel_rfl) h with ⟨rfl, _⟩ | ⟨a, len, cap, zs, rfl, _, hl, hm, hz, _, hc, hw⟩
  · have hr : IsRow .u8 W none 0 0 [] := .inl ⟨rfl, rfl, rfl, rfl⟩
    exact ⟨none, 0, 0, _, rfl, hr.row.1, fun _ => rfl, by decide⟩
  · have hr : IsRow .u8 W (some a) len cap zs := .inr ⟨a, rfl, hl, hm, by simpa using hz, hc, hw⟩
    exact ⟨some a, len, cap, _, rfl, hr.row.1, hr.nil, by have := hr.cap; omega⟩

/-- What an item's argument reads as. -/
def Opens (W : World) (d : Nat) (y : It) (cs : List Value) : Prop := ∃ ab nb cb ak nk ck, cs = [.int .i64 y.cls, .int .i64 y.tag, .bool y.cons, .slice ab nb cb, .slice ak nk ck] ∧ Row W ab nb y.body ∧ (ab = none → cb = 0) ∧ nb ≤ 9223372036854775807 ∧ Kids d W ak nk y.kids

def OpensS (W : World) (d : Nat) (cs : List Value) : Prop := ∃ a n cap xs, cs = [.slice a n cap] ∧ Kids d W a n xs

end Go.Proofs.YtjkkokjojaknkaaDoor

namespace Go.Proofs.YtjkkokjojaknkaaDoor
open Go.RowKit

/-- A variable with an item of our own. -/
structure Tree (lo M hi d : Nat) (W : World) (g : Nat) (y : It) (ab : Option Addr) (nb cb : Nat) (ak : Option Addr) (nk ck : Nat) : Prop where
  box : BoxT 26 g W y ab nb cb ak nk ck
  body : OwnB lo M W ab nb cb y.body
  kids : OwnKids d M hi W ak nk y.kids
  le : lo ≤ M ∧ M ≤ hi
theorem Tree.kept {lo M hi d : Nat} {W W' : World} {g : Nat} {y : It} {ab : Option Addr} {nb cb : Nat} {ak : Option Addr} {nk ck : Nat} (h : Tree lo M hi d W g y ab nb cb ak nk ck) (hb : Below W.heap.size W W') : Tree lo M hi d W' g y ab nb cb ak nk ck :=
  ⟨h.box.kept hb, h.body.kept hb, h.kids.kept hb, h.le⟩
theorem Tree.touch {lo M hi d p q : Nat} {W W' : World} {g : Nat} {y : It} {ab : Option Addr} {nb cb : Nat} {ak : Option Addr} {nk ck : Nat} (h : Tree lo M hi d W g y ab nb cb ak nk ck) (hd : hi ≤ p ∨ q ≤ lo) (hg : g < p ∨ q ≤ g) (ht : Touch p q W W') : Tree lo M hi d W' g y ab nb cb ak nk ck :=
  ⟨h.box.touch hg ht, h.body.touch (by have := h.le; omega) ht, ownKids_moves d _ _ p q _ _ _ _ _ h.kids (by have := h.le; omega) ht, h.le⟩
theorem tree_new {lo M hi d : Nat} {W : World} {y : It} {ab : Option Addr} {nb cb : Nat} {ak : Option Addr} {nk ck : Nat} (hb : OwnB lo M W ab nb cb y.body) (hk : OwnKids d M hi W ak nk y.kids) (h1 : lo ≤ M) (h2 : M ≤ hi) :
    Tree lo M hi d (W.alloc (.cells #[.int .i64 y.cls, .int .i64 y.tag, .bool y.cons, .slice ab nb cb, .slice ak nk ck] 26)) W.heap.size y ab nb cb ak nk ck :=
  ⟨boxT_new 26 W y ab nb cb ak nk ck, hb.kept ((Below.refl _ _).alloc (Nat.le_refl _) _), hk.kept ((Below.refl _ _).alloc (Nat.le_refl _) _), h1, h2⟩
/-- Two such items that are the same are told as the same. -/
theorem Tree.eq {lo M hi d lo2 M2 hi2 d2 : Nat} {W : World} {g g2 : Nat} {y : It} {ab : Option Addr} {nb cb : Nat} {ak : Option Addr} {nk ck : Nat} {ab2 : Option Addr} {nb2 cb2 : Nat} {ak2 : Option Addr} {nk2 ck2 : Nat} (h : Tree lo M hi d W g y ab nb cb ak nk ck) (h2 : Tree lo2 M2 hi2 d2 W g2 y ab2 nb2 cb2 ak2 nk2 ck2) :
    Calls Tryd.prog 24 #[itv y ab nb cb ak nk ck, itv y ab2 nb2 cb2 ak2 nk2 ck2] W fun e w' => e = .returned (.bool true) ∧ Below W.heap.size W w' := by
  obtain rfl : nb = nb2 := h.body.own.length.symm.trans h2.body.own.length
  have k1 := h.kids.kids.le (show d ≤ d + d2 + 1 by omega)
  have k2 := h2.kids.kids.le (show d2 ≤ d + d2 + 1 by omega)
  obtain rfl : nk = nk2 := k1.1.symm.trans k2.1
  exact eqItem_same (d + d2 + 1) (eqS_all _) y ab nb cb ak nk ck ab2 cb2 ak2 ck2 W h.body.own.toRow k1 h2.body.own.toRow k2 (by have := h.body.own.max; unfold maxLen; omega)

set_option maxRecDepth 10000 in
set_option maxHeartbeats 1000000 in
theorem heldItem_any (d : Nat) (y : It) (ab : Option Addr) (nb cb : Nat) (ak : Option Addr) (nk ck : Nat) (k : Nat) (K : Int) (hK : K = (k : Int)) (w : World) (hb : Row w ab nb (marks k nb)) (hk : Kids d w ak nk (mkS d y.kids (k + nb)).1) (hw : k + nb + 3 * wtS d y.kids ≤ 100000000) :
    Calls Tryd.prog 28 #[itv y ab nb cb ak nk ck, .int .i64 K] w fun e w' => e = .returned (.int .i64 ((mkS d y.kids (k + nb)).2 : Nat)) ∧ Below w.heap.size w w' := by
  subst hK
  have hbl : Below w.heap.size w (w.alloc (.cells #[.int .i64 y.cls, .int .i64 y.tag, .bool y.cons, .slice ab nb cb, .slice ak nk ck] 26)) := (Below.refl _ _).alloc (Nat.le_refl _) _
  have RB : Hid (_) := hb.kept hbl
  have KB : Hid (_) := hk.kept hbl
  have hbx := boxT_new 26 w y ab nb cb ak nk ck
  obtain ⟨x0, x1, x2, x3, x4⟩ := hbx.cells
  clear hb hk hbx
  have hq := mkS_le d y.kids (k + nb)
  have g0 : ¬ (k : Int) + (nb : Int) < 0 := by omega
  unfold itv
  go_enter Tryd.func28, Tryd.ntmps28
  go_wp2_with fail
  refine (heldByteS_int ab nb cb (k : Int) _ (by rw [Int.toNat_natCast]; exact RB.out) (by omega) (by omega) (by omega)).mono ?_
  rintro e w1 ⟨rfl, rfl⟩
  go_wp2_with fail
  refine (heldS_all d ak nk ck y.kids (k + nb) _ _ (by omega) KB.out hw).mono ?_
  rintro e w2 ⟨rfl, hb2⟩
  have B2 : Below w.heap.size w w2 := hbl.trans (hb2.mono hbl.size)
  obtain ⟨q, hqe⟩ : ∃ q, q = (mkS d y.kids (k + nb)).2 := ⟨_, rfl⟩
  have HQ : Hid (q = (mkS d y.kids (k + nb)).2) := hqe
  rw [← hqe] at hq ⊢
  have g1 : ¬ (q : Int) < 0 := by omega
  clear hqe hb2
  go_wp2
  go_ret
  exact ⟨by rw [← HQ.out]; rfl, B2⟩

end Go.Proofs.YtjkkokjojaknkaaDoor

namespace Go.Proofs.YtjkkokjojaknkaaDoor
open Go.RowKit

/-! What is read is no longer than its bytes. -/
theorem wtS_snoc (d : Nat) (xs : List It) (x : It) : wtS (d + 1) (xs ++ [x]) = wtS (d + 1) xs + 1 + (x.body.length + wtS d x.kids) := by
  simp [wtS]; omega
theorem closedR_size (lax : Bool) (bs : List Int) (r : Nat) (ih : ∀ (p e : Nat) {x : It} {nx : Nat}, p ≤ e → itemR lax bs r p e = .ok x nx → p + x.body.length + wtS r x.kids + 2 ≤ nx) (e : Nat) : ∀ (k : Nat) (acc : List It) (q : Nat) {ks : List It} {nx : Nat}, q ≤ e →
    closedR (fun i => itemR lax bs r i e) e k acc q = .ok ks nx → wtS (r + 1) ks + q ≤ wtS (r + 1) acc + nx := by
  intro k
  induction k with
  | zero => intro acc q ks nx _ h; simp only [closedR] at h; cases h; omega
  | succ k ih2 =>
    intro acc q ks nx hq h
    simp only [closedR] at h
    split at h
    · cases hfq : itemR lax bs r q e with
      | no c2 p2 => rw [hfq] at h; cases h
      | ok y n2 =>
        rw [hfq] at h
        have h1 := ih q e hq hfq
        have h2 := itemR_place r q e hq hfq
        have h3 := ih2 (acc ++ [y]) n2 h2.2 h
        rw [wtS_snoc] at h3
        omega
    · cases h; omega
theorem openR_size (lax : Bool) (bs : List Int) (r : Nat) (ih : ∀ (p e : Nat) {x : It} {nx : Nat}, p ≤ e → itemR lax bs r p e = .ok x nx → p + x.body.length + wtS r x.kids + 2 ≤ nx) (e : Nat) : ∀ (k : Nat) (acc : List It) (q : Nat) {ks : List It} {nx : Nat}, q ≤ e →
    openR (fun i => itemR lax bs r i e) bs e k acc q = .ok ks nx → wtS (r + 1) ks + q ≤ wtS (r + 1) acc + nx := by
  intro k
  induction k with
  | zero => intro acc q ks nx _ h; simp only [openR] at h; cases h
  | succ k ih2 =>
    intro acc q ks nx hq h
    simp only [openR] at h
    split at h
    · cases h
    · split at h
      · split at h
        · cases h
        · split at h
          · cases h; omega
          · cases h
      · cases hfq : itemR lax bs r q e with
        | no c2 p2 => rw [hfq] at h; cases h
        | ok y n2 =>
          rw [hfq] at h
          have h1 := ih q e hq hfq
          have h2 := itemR_place r q e hq hfq
          have h3 := ih2 (acc ++ [y]) n2 h2.2 h
          rw [wtS_snoc] at h3
          omega
theorem wtS_nil (d : Nat) : wtS d [] = 0 := by cases d <;> simp [wtS]
theorem itemR_size (lax : Bool) (bs : List Int) : ∀ (r p e : Nat) {x : It} {nx : Nat}, p ≤ e → itemR lax bs r p e = .ok x nx → p + x.body.length + wtS r x.kids + 2 ≤ nx := by
  intro r
  induction r with
  | zero => intro p e x nx hp h; simp only [itemR] at h; cases h
  | succ r ih =>
    intro p e x nx hp h
    simp only [itemR] at h
    split at h
    · cases h
    · cases ht : tagR lax bs p e with
      | no c q => rw [ht] at h; cases h
      | ok t q =>
        rw [ht] at h
        have h1 := tagR_place (by omega) ht
        simp only at h
        cases hl : lenR lax (consN bs p) bs q e with
        | no c q2 => rw [hl] at h; cases h
        | ok o q2 =>
          rw [hl] at h
          have h2 := lenR_place h1.2 hl
          cases o with
          | none =>
            simp only [bodyR] at h
            cases ho : openR (fun i => itemR lax bs r i e) bs e (e - q2 + 1) [] q2 with
            | no c q3 => rw [ho] at h; cases h
            | ok ks q3 =>
              rw [ho] at h
              have h3 := openR_size lax bs r ih e _ _ _ h2.2 ho
              rw [wtS_nil] at h3
              cases h
              show p + ([] : List Int).length + wtS (r + 1) ks + 2 ≤ (none : Option Nat).getD q3
              simp only [List.length_nil, Option.getD_none]
              omega
          | some n =>
            simp only [bodyR] at h
            split at h
            · cases h
            · split at h
              · cases hc : closedR (fun i => itemR lax bs r i (q2 + n)) (q2 + n) n [] q2 with
                | no c q3 => rw [hc] at h; cases h
                | ok ks q3 =>
                  rw [hc] at h
                  have h3 := closedR_size lax bs r ih (q2 + n) _ _ _ (by omega) hc
                  have h4 := closedR_place (fun p x nx hp h => itemR_place r p (q2 + n) (by omega) h) _ _ _ (by omega) (by omega) hc
                  rw [wtS_nil] at h3
                  cases h
                  show p + ([] : List Int).length + wtS (r + 1) ks + 2 ≤ (some (q2 + n) : Option Nat).getD q3
                  simp only [List.length_nil, Option.getD_some]
                  omega
              · cases h
                show p + ((bs.drop q2).take n).length + wtS (r + 1) [] + 2 ≤ q2 + n
                have := List.length_take_le n (bs.drop q2)
                rw [wtS_nil]
                omega

/-! What both functions answer, in one form. -/
def yO (R : Rs It) : It := match R with | .ok x _ => x | .no _ _ => zeroIt
def cO (R : Rs It) : Int := match R with | .ok _ _ => 0 | .no c _ => (c : Int)
def pO (R : Rs It) : Int := match R with | .ok _ _ => 0 | .no _ p => (p : Int)
theorem readR_size (lax : Bool) (bs : List Int) : (yO (readR lax bs)).body.length + wtS 12 (yO (readR lax bs)).kids ≤ 20000 := by
  unfold readR
  split
  · exact Nat.zero_le _
  · cases hi : itemR lax bs 12 0 bs.length with
    | no c p => exact Nat.zero_le _
    | ok x nx =>
      have h1 := itemR_size lax bs 12 0 bs.length (Nat.zero_le _) hi
      have h2 := itemR_place 12 0 bs.length (Nat.zero_le _) hi
      simp only
      split
      · exact Nat.zero_le _
      · show x.body.length + wtS 12 x.kids ≤ 20000
        omega
theorem RiPost.out {R : Rs It} {w w' : World} {ev : Ending} (h : RiPost R w ev w') : Below w.heap.size w w' ∧ ∃ ab nb cb ak nk ck M, ev = .returned (.tuple #[itv (yO R) ab nb cb ak nk ck, .int .i64 (cO R), .int .i64 (pO R)]) ∧ w.heap.size ≤ M ∧ M ≤ w'.heap.size ∧ OwnB w.heap.size M w' ab nb cb (yO R).body ∧ OwnKids 12 M w'.heap.size w' ak nk (yO R).kids := by
  refine ⟨h.1, ?_⟩
  have h2 := h.2
  cases R with
  | ok x nx => exact h2
  | no c p =>
    obtain rfl := h2
    exact ⟨none, 0, 0, none, 0, 0, w'.heap.size, rfl, h.1.size, Nat.le_refl _, ownB_none _ _ _, ownKids_nil 11 _ _ _ none⟩

end Go.Proofs.YtjkkokjojaknkaaDoor

namespace Go.Proofs.YtjkkokjojaknkaaDoor
open Go.RowKit

/-- What Canon answers: the bytes of what is read laxly, or none and the fault. -/
def cnL (bs : List Int) : List Int := match readR true bs with
  | .ok x _ => (enc 12 x).getD []
  | .no _ _ => []
def CnPost (bs : List Int) (w : World) (ev : Ending) (w' : World) : Prop := Below w.heap.size w w' ∧ ∃ a cap, ev = .returned (.tuple #[.slice a (cnL bs).length cap, .int .i64 (cO (readR true bs)), .int .i64 (pO (readR true bs))]) ∧ Own w.heap.size w' a (cnL bs).length cap (cnL bs)

theorem readR_code {lax : Bool} {bs : List Int} {c p : Nat} (h : readR lax bs = .no c p) : c ≠ 0 := by
  unfold readR at h
  split at h
  · cases h; decide
  · cases hi : itemR lax bs 12 0 bs.length with
    | no c2 p2 => rw [hi] at h; cases h; exact itemR_code 12 0 bs.length (Nat.zero_le _) hi
    | ok y n2 =>
      rw [hi] at h
      simp only at h
      split at h
      · cases h; decide
      · cases h

set_option maxRecDepth 10000 in
set_option maxHeartbeats 4000000 in
theorem implCanon_any (a : Option Addr) (n cap : Nat) (bs : List Int) (w : World) (hE : ErrT w) (h : Row w a n bs) (hcap : n ≤ cap) (hn63 : n ≤ 9223372036854775807) :
    Calls Tryd.prog 16 #[.slice a n cap] w fun ev w' => CnPost bs w ev w' := by
  have HC := implReadItem_any a n cap true bs w hE h hcap hn63
  have hby := h.byte
  have hlen := h.len
  clear h hE
  cases hrd : readR true bs with
  | no c p =>
    rw [hrd] at HC
    have hcode := readR_code hrd
    have hne : ((c : Int) != 0) = true := by simp; omega
    have hf : Hid (cnL bs = [] ∧ cO (readR true bs) = c ∧ pO (readR true bs) = p) := by show _ ∧ _ ∧ _; unfold cnL; rw [hrd]; exact ⟨rfl, rfl, rfl⟩
    clear hrd hby
    go_enter Tryd.func16, Tryd.ntmps16
    go_wp2_with (go_at_call 14; refine HC.mono ?_; rintro ev w3 ⟨hb3, hev⟩; obtain rfl : ev = .returned (.tuple #[.agg #[.int .i64 0, .int .i64 0, .bool false, .slice none 0 0, .slice none 0 0], .int .i64 (c : Int), .int .i64 (p : Int)]) := hev)
    go_ret3
    refine ⟨hb3.alloc hb3.size _, none, 0, ?_⟩
    rw [hf.out.1, hf.out.2.1, hf.out.2.2]
    exact ⟨rfl, own_none _ _⟩
  | ok x nx =>
    rw [hrd] at HC
    obtain ⟨l, hl1, hl2⟩ := readR_enc hby hrd
    have hf : Hid (cnL bs = l ∧ cO (readR true bs) = 0 ∧ pO (readR true bs) = 0) := by show _ ∧ _ ∧ _; unfold cnL; rw [hrd]; exact ⟨by simp only [hl1]; rfl, rfl, rfl⟩
    have HEN : Hid (enc 12 x = some l) := hl1
    clear hrd hby hl1
    go_enter Tryd.func16, Tryd.ntmps16
    go_wp2_with fail
    refine HC.mono ?_
    rintro ev w3 ⟨hb3, ab, nb, cb, ak, nk, ck, M, rfl, m1, m2, ob, ok⟩
    have hal : Below w3.heap.size w3 (w3.alloc (.cells #[.int .i64 x.cls, .int .i64 x.tag, .bool x.cons, .slice ab nb cb, .slice ak nk ck] 26)) := (Below.refl _ _).alloc (Nat.le_refl _) _
    have hs3 := hb3.size
    have HI := implItemBytes_any 12 x ab nb cb ak nk ck (w3.alloc (.cells #[.int .i64 x.cls, .int .i64 x.tag, .bool x.cons, .slice ab nb cb, .slice ak nk ck] 26)) (ob.kept hal).own.toRow ob.own.nil ob.own.max (ok.kept hal).kids
    have hbb : Below w.heap.size w (w3.alloc (.cells #[.int .i64 x.cls, .int .i64 x.tag, .bool x.cons, .slice ab nb cb, .slice ak nk ck] 26)) := hb3.trans (hal.mono hs3)
    have hsa : (w3.alloc (.cells #[.int .i64 x.cls, .int .i64 x.tag, .bool x.cons, .slice ab nb cb, .slice ak nk ck] 26)).heap.size = w3.heap.size + 1 := by simp
    rw [HEN.out] at HI
    have HBB : Hid (_) := hbb
    clear ob ok hal hbb HC
    unfold itv at HI ⊢
    go_wp2_with fail
    refine HI.mono ?_
    rintro ev w4 ⟨hans, hb4⟩
    rcases hans with ⟨a4, n4, c4, bs4, rfl, he4, ho4⟩ | ⟨rfl, he4⟩
    · obtain rfl : l = bs4 := by simpa using he4.out
      obtain rfl : n4 = l.length := ho4.length.symm
      have hb5 := HBB.out.trans (hb4.mono (by omega))
      go_wp2
      go_ret3
      refine ⟨hb5, a4, c4, ?_⟩
      rw [hf.out.1, hf.out.2.1, hf.out.2.2]
      exact ⟨rfl, ho4.mono (by omega)⟩
    · cases he4.out

end Go.Proofs.YtjkkokjojaknkaaDoor
