import Derived.Test.YtglmaoigjnoklaaF8
import Derived.Test.YtglmaoigjnoklaaS5
namespace Go.Proofs.Ytglmaoigjnoklaa
open Go.RowKit

theorem Try.infoSpan : (Try.prog.info? 45).map (fun i => (i.zero, i.size, i.bytes)) = some (some (.agg #[.int .i64 0, .int .i64 0, .bool false]), 3, 24) := by kernel_rfl

def updS (L : Nat → Sp) (j : Nat) (v : Sp) : Nat → Sp := fun i => if i = j then v else L i
theorem SpRow.set {w : World} {g n : Nat} {L : Nat → Sp} (h : SpRow w g n L) (T : Nat) (v : Sp) : SpRow (((w.setCell ⟨g, T * 3, none⟩ (.int .i64 v.f)).setCell ⟨g, T * 3 + 1, none⟩ (.int .i64 v.m)).setCell ⟨g, T * 3 + 2, none⟩ (.bool v.k)) g n (updS L T v) := by
  obtain ⟨cs, hh, hs, hc⟩ := h.heap
  have q1 := heap_setCell_same w g (T * 3) cs _ (.int .i64 v.f) hh
  have q2 := heap_setCell_same _ g (T * 3 + 1) _ _ (.int .i64 v.m) q1
  have q3 := heap_setCell_same _ g (T * 3 + 2) _ _ (.bool v.k) q2
  refine ⟨_, q3, by simp [hs], fun i hi => ?_⟩
  unfold updS
  have c := hc i hi
  by_cases hij : i = T
  · subst hij
    rw [if_pos rfl]
    refine ⟨?_, ?_, ?_⟩
    · rw [Array.getElem?_setIfInBounds_ne (by omega), Array.getElem?_setIfInBounds_ne (by omega), Array.getElem?_setIfInBounds_self_of_lt (by omega)]
    · rw [Array.getElem?_setIfInBounds_ne (by omega), Array.getElem?_setIfInBounds_self_of_lt (by simp; omega)]
    · rw [Array.getElem?_setIfInBounds_self_of_lt (by simp; omega)]
  · rw [if_neg hij]
    refine ⟨?_, ?_, ?_⟩
    · rw [Array.getElem?_setIfInBounds_ne (by omega), Array.getElem?_setIfInBounds_ne (by omega), Array.getElem?_setIfInBounds_ne (by omega)]; exact c.1
    · rw [Array.getElem?_setIfInBounds_ne (by omega), Array.getElem?_setIfInBounds_ne (by omega), Array.getElem?_setIfInBounds_ne (by omega)]; exact c.2.1
    · rw [Array.getElem?_setIfInBounds_ne (by omega), Array.getElem?_setIfInBounds_ne (by omega), Array.getElem?_setIfInBounds_ne (by omega)]; exact c.2.2
theorem spRow_made {B n g : Nat} {w : World} (h : w.ownsRow B 45 3 (.slice (some ⟨g, 0, none⟩) n n) n (madeCells (Value.agg #[.int .i64 0, .int .i64 0, .bool false]).cells (n * 3)).toList) : SpRow w g n (fun _ => ⟨0, 0, false⟩) := by
  rcases h.2 with ⟨hv, _⟩ | ⟨g', cap, cur, hv, _, hg, _, _, hs, ht⟩
  · simp at hv
  · simp only [Value.slice.injEq, Option.some.injEq, Addr.mk.injEq, and_true, true_and] at hv
    obtain ⟨rfl, rfl⟩ := hv
    have key : ∀ k, k < n * 3 → cur[k]? = some ((#[Value.int .i64 0, .int .i64 0, .bool false] : Array Value)[k % 3]!) := by
      intro k hk
      have h2 : (cur.toList.take (n * 3))[k]? = some ((#[Value.int .i64 0, .int .i64 0, .bool false] : Array Value)[k % 3]!) := by
        rw [ht]
        simp [madeCells, Value.cells, hk]
      rw [List.getElem?_take, if_pos hk] at h2
      simpa using h2
    refine ⟨cur, hg, by omega, fun i hi => ⟨?_, ?_, ?_⟩⟩
    · rw [key (i * 3) (by omega), show i * 3 % 3 = 0 by omega]; rfl
    · rw [key (i * 3 + 1) (by omega), show (i * 3 + 1) % 3 = 1 by omega]; rfl
    · rw [key (i * 3 + 2) (by omega), show (i * 3 + 2) % 3 = 2 by omega]; rfl
theorem spA_step (xs : List ST) (j T : Nat) (hT : T = xs.length - 1 - j) : spA xs (j + 1) = updS (spA xs j) T (capSp (spanP xs (spA xs j) (xs.getD T default))) := by
  funext i
  rw [spA]
  unfold updS
  rw [← hT]

set_option maxHeartbeats 8000000 in
theorem spansOf_any (a : Option Addr) (n c : Nat) (xs : List ST) (w : World) (h : Sts w a n xs) (h40 : n ≤ 40) (hF : ∀ t, t < n → fieldsP (xs.getD t default)) (hb : ∀ t, t < n → behindP (xs.getD t default).kids t n) :
    Calls Try.prog 26 #[.slice a n c] w fun e w' => ∃ g, e = .returned (.slice (some ⟨g, 0, none⟩) n n) ∧ SpRow w' g n (spA xs n) ∧ Below w.heap.size w w' := by
  have HS : Hid (Sts w a n xs) := h
  have HL : Hid (xs.length = n) := h.len
  have HF : Hid (_) := hF
  have HB : Hid (_) := hb
  have HOK : Hid (∀ j, j ≤ n → ∀ i, (spA xs j i).ok 1000000000000000) := fun j hj => spA_ok xs (fun t ht => hF t (by rw [h.len] at ht; exact ht)) j (by rw [h.len]; exact hj)
  obtain ⟨i0, hi, hz0, hz1, hz2⟩ := info_parts Try.infoSpan
  clear h hF hb
  go_enter Try.func26, Try.ntmps26
  go_wp2_with (first | (at_make; refine wpList_make_full _ rfl _ _ 46 rfl w.heap.size 45 i0 (.agg #[.int .i64 0, .int .i64 0, .bool false]) 3 Try.underlying46 hi hz0 hz1 _ _ _ _ n rfl rfl rfl rfl (by rw [hz2]; omega) (by unfold maxLen; omega) (by exact Nat.le_refl _) ?_; intro w1 hown1 hgrow1))
  have A1 := spRow_made hown1
  have B1 : Below w.heap.size w w1 := (Below.refl _ _).grown hgrow1 (Nat.le_refl _) (by simp)
  have F0 : Hid (_ ∧ _) := ⟨A1, B1⟩
  obtain ⟨g, hg⟩ : ∃ g, g = w.heap.size := ⟨_, rfl⟩
  have HG : Hid (g = w.heap.size) := hg
  rw [← hg] at F0 ⊢
  clear hown1 hgrow1 A1 B1 hg
  go_loopw [4] (fun i wr => ∃ T1 : Nat, T1 ≤ n ∧ i = .int .i64 ((T1 : Int) - 1) ∧ SpRow wr g n (spA xs (n - T1)) ∧ Below g w wr) (fun i _ => (intOf i + 1).toNat)
  case atStart => exact ⟨n, Nat.le_refl _, rfl, by rw [Nat.sub_self]; exact F0.out.1, F0.out.2⟩
  case round =>
    obtain ⟨T1, hT, rfl, harr, hbr⟩ := hrel
    cases T1 with
    | zero =>
      have F : Hid (_ ∧ _) := ⟨harr, hbr⟩
      clear harr hbr
      go_wp2
      go_ret
      exact ⟨g, rfl, by have := F.out.1; rw [Nat.sub_zero] at this; exact this, by rw [← HG.out]; exact F.out.2⟩
    | succ T =>
      have e0 : ((T + 1 : Nat) : Int) - 1 = (T : Int) := by omega
      rw [e0]
      clear e0
      obtain ⟨j, hj⟩ : ∃ j, j = n - (T + 1) := ⟨_, rfl⟩
      rw [← hj] at harr
      have HJ : Hid (j = n - (T + 1)) := hj
      have hbw : Below w.heap.size w wr := by rw [← HG.out]; exact hbr
      obtain ⟨b, off, rfl, hlb, ak, nk, ck, hcs, hr, hnk⟩ := HS.out.get T (by omega)
      obtain ⟨x, hx⟩ : ∃ x, x = xs.getD T default := ⟨_, rfl⟩
      rw [← hx] at hcs hr
      have HX : Hid (x = xs.getD T default) := hx
      obtain ⟨c0, c1, c2, c3, c4, c5⟩ := hcs.of (w' := wr) (fun i => hbw.cell (p := ⟨b, i, none⟩) hlb)
      have hin : ∀ k, k < nk → 0 ≤ x.kids.getD k 0 ∧ x.kids.getD k 0 < n := fun k hk => by
        have := HB.out T (by omega) k (by rw [← hx, hr.len]; exact hk)
        rw [← hx] at this
        omega
      have t2 : (T : Int) < (n : Int) := by omega
      have t3 : (0 : Int) ≤ (T : Int) := by omega
      have HI : Hid (_) := hin
      have HR : Hid (Row64 w ak nk x.kids) := hr
      have FA : Hid (_ ∧ _ ∧ _) := ⟨harr, hbw, hbr⟩
      clear hj hcs hr hx hin harr hbw hbr
      go_wp2_with fail
      refine (spanOf_any xs (some ⟨b, off, none⟩) n c x ak nk ck g n (spA xs j) _ (HS.out.kept FA.out.2.1) (HR.out.kept FA.out.2.1) (by rw [HX.out]; exact HF.out T (by omega)) FA.out.1 (HOK.out j (by have := HJ.out; omega)) HI.out).mono ?_
      rintro e w2 ⟨rfl, hb2⟩
      obtain ⟨v, hv⟩ : ∃ v, v = spanP xs (spA xs j) x := ⟨_, rfl⟩
      have HV : Hid (v = spanP xs (spA xs j) x) := hv
      rw [← hv]
      have X := FA.out.1.kept hb2
      have hbw2 : Below w.heap.size w w2 := FA.out.2.1.trans (hb2.mono FA.out.2.1.size)
      have hgl := X.lt
      have f0 := X.frozen (T * 3)
      have f1 := X.frozen (T * 3 + 1)
      have f2 := X.frozen (T * 3 + 2)
      obtain ⟨z0, z1, z2⟩ := X.cell T (by omega)
      have F2 : Hid (_ ∧ _) := ⟨X, hbw2⟩
      clear hv hb2 X hbw2
      simp only [spv]
      have e1 : (if 1000000000000000 < v.f then 1000000000000000 else v.f) = (capSp v).f := by show _ = min v.f 1000000000000000; split <;> omega
      have e2 : (if 1000000000000000 < v.m then 1000000000000000 else v.m) = (capSp v).m := by show _ = min v.m 1000000000000000; split <;> omega
      have E12 : Hid (_ ∧ _) := ⟨e1, e2⟩
      clear e1 e2
      have HA : Hid (updS (spA xs j) T (capSp v) = spA xs (n - T)) := by
        show _ = _
        have hj := HJ.out
        rw [show n - T = j + 1 by omega, spA_step xs j T (by rw [HL.out]; omega), HV.out, HX.out]
      have B3 : Hid (Below g w w2) := by show Below _ _ _; rw [HG.out]; exact F2.out.2
      have hgw : Hid (w.heap.size ≤ w2.heap.size) := F2.out.2.size
      go_wp2_with fail
      rw [E12.out.1, E12.out.2]
      go_roundw
      case rel =>
        refine ⟨T, by omega, rfl, ?_, ?_⟩
        · rw [← HA.out]
          exact (F2.out.1.set T (capSp v)).same (alloc_old _ _ _ (by simp; exact hgl))
        · exact (((B3.out.setCell (Nat.le_refl _) _).setCell (Nat.le_refl _) _).setCell (Nat.le_refl _) _).alloc (by simp; omega) _
      case measure => simp [intOf]

end Go.Proofs.Ytglmaoigjnoklaa
