import Derived.Test.YtjkkokjojaknkaaDoorFC
import Derived.Test.YtjkkokjojaknkaaDoorWXor
import Derived.Laws.BytesArg
import Derived.Lib.SlBytesConst
namespace Go.Proofs.YtjkkokjojaknkaaDoor
open Go.RowKit

theorem convert_row {w : World} {a : Option Addr} {n cap : Nat} {bs : List Int} (h : Row w a n bs) : (convert 22 9 (.slice a n cap)).run Tryd.prog w = .ok (.string (strOfNums bs)) w := by
  rcases Nat.eq_zero_or_pos n with h0 | h0
  · subst h0
    have hb : bs = [] := List.eq_nil_of_length_eq_zero h.len
    subst hb
    cases a with
    | none => exact run_convert_bytes_nil w 22 5 Tryd.underlying22 Tryd.underlying5 _ _ 9 Tryd.underlying9
    | some x =>
      rw [run_convert_bytes_string w 22 9 5 _ 0 cap Tryd.underlying22 Tryd.underlying5 Tryd.underlying9]
      rw [run_bytesToString w x 0 cap [] (by simpa using run_loadCells_list (P := Tryd.prog) w x ([] : List Value) (by simp))]
      rfl
  · obtain ⟨b, off, rfl, _, _⟩ := h.get 0 h0
    refine run_convert_bytes_arg w 22 5 Tryd.underlying22 Tryd.underlying5 b off n cap bs h.len (fun i hi => ?_) 9 Tryd.underlying9
    obtain ⟨b', off', ha, _, hc⟩ := h.get i hi
    simp at ha
    obtain ⟨rfl, rfl⟩ := ha
    exact hc

theorem strOfNums_inj {xs ys : List Int} (hx : ∀ k, 0 ≤ xs.getD k 0 ∧ xs.getD k 0 ≤ 255) (hy : ∀ k, 0 ≤ ys.getD k 0 ∧ ys.getD k 0 ≤ 255) (h : (strOfNums xs).data.toList = (strOfNums ys).data.toList) : xs = ys := by
  rw [strOfNums_data, strOfNums_data] at h
  have hl : xs.length = ys.length := by have := congrArg List.length h; simpa using this
  apply List.ext_getElem hl
  intro i h1 h2
  have e := congrArg (fun l => l[i]?) h
  simp only [List.getElem?_map, List.getElem?_eq_getElem h1, List.getElem?_eq_getElem h2, Option.map_some, Option.some.injEq] at e
  have e2 := congrArg UInt8.toNat e
  simp only [UInt8.toNat_ofNat'] at e2
  have bx := hx i
  have by' := hy i
  simp [h1] at bx
  simp [h2] at by'
  omega

set_option maxRecDepth 10000 in
set_option maxHeartbeats 400000 in
theorem sameBytes_any (a b : Option Addr) (n m ca cb : Nat) (xs ys : List Int) (w : World) (hx : Row w a n xs) (hy : Row w b m ys) :
    Calls Tryd.prog 18 #[.slice a n ca, .slice b m cb] w fun e w' => e = .returned (.bool (decide (xs = ys))) ∧ w = w' := by
  have c1 := convert_row (cap := ca) hx
  have c2 := convert_row (cap := cb) hy
  have hiff : ((strOfNums xs).toList == (strOfNums ys).toList) = decide (xs = ys) := by
    by_cases e : xs = ys
    · subst e; simp
    · rw [decide_eq_false e]
      rw [beq_eq_false_iff_ne]
      exact fun h => e (strOfNums_inj hx.byte hy.byte (by rw [ByteArray.toList_eq, ByteArray.toList_eq] at h; exact h))
  obtain ⟨s, hs⟩ : ∃ s, s = strOfNums xs := ⟨_, rfl⟩
  obtain ⟨t, ht⟩ : ∃ t, t = strOfNums ys := ⟨_, rfl⟩
  rw [← hs, ← ht] at hiff
  rw [← hs] at c1
  rw [← ht] at c2
  clear hs ht hx hy
  have HI : Hid ((s.toList == t.toList) = decide (xs = ys)) := hiff
  clear hiff
  go_enter Tryd.func18, Tryd.ntmps18
  go_wp2
  go_ret
  refine ⟨?_, rfl⟩
  rw [← HI.out]
  rfl

set_option maxRecDepth 10000 in
set_option maxHeartbeats 400000 in
theorem copied_any (a : Option Addr) (n cap : Nat) (bs : List Int) (w : World) (h : Row w a n bs) (hnil : a = none → cap = 0) (hn : n ≤ 1000000000) :
    Calls Tryd.prog 15 #[.slice a n cap] w fun e w' => ∃ a' cap', e = .returned (.slice a' n cap') ∧ Own w.heap.size w' a' n cap' bs ∧ Below w.heap.size w w' := by
  obtain ⟨i0, hi, hz0, hz1, hz2⟩ := info_parts Tryd.info5
  have HX : Hid (Row w a n bs) := h
  have HB := h.byte
  have HN : Hid (a = none → cap = 0) := hnil
  clear h hnil
  have hoe : Own w.heap.size (w.alloc (.cells #[] 5)) (some ⟨w.heap.size, 0, none⟩) 0 0 [] := ⟨World.ownsRow_lit w #[] 0 (Nat.le_refl _) (Nat.zero_le _) rfl, by simp⟩
  have hbe : Below w.heap.size w (w.alloc (.cells #[] 5)) := (Below.refl _ _).alloc (Nat.le_refl _) _
  go_enter Tryd.func15, Tryd.ntmps15
  go_wp2_with (at_builtin; refine wpList_append_row _ rfl _ _ 22 rfl w.heap.size i0 Tryd.underlying22 hi hz0 hz1 hz2 _ _ _ rfl hoe.row a n cap bs rfl (HX.out.kept (by exact (Below.refl _ _).alloc (Nat.le_refl _) _)) HN.out (by omega) (by simp) ?_; intro v1 w1 hown1 hgrow1)
  obtain ⟨a1, cap1, rfl, ho1⟩ := own_appended (xs := []) (ys := bs) hown1 (by simp) HB
  have hb1 : Below w.heap.size w w1 := below_appended hbe (by simp) hoe.row hgrow1
  rw [Nat.zero_add] at ho1
  go_ret
  exact ⟨a1, cap1, by rw [Nat.zero_add]; rfl, ho1, hb1⟩

theorem bytes5 : ∀ k, 0 ≤ ([108, 105, 118, 101, 115] : List Int).getD k 0 ∧ ([108, 105, 118, 101, 115] : List Int).getD k 0 ≤ 255 := by
  intro k
  match k with
  | 0 | 1 | 2 | 3 | 4 => decide
  | k + 5 => simp
theorem lives_hash : (hashL [108, 105, 118, 101, 115] != 0) = true := by decide +kernel

theorem row_lives (w : World) : Row (w.alloc (.cells #[.int .u8 108, .int .u8 105, .int .u8 118, .int .u8 101, .int .u8 115] 5 (5, 6))) (some ⟨w.heap.size, 0, none⟩) 5 [108, 105, 118, 101, 115] := by
  refine ⟨rfl, fun k hk => ⟨w.heap.size, 0, rfl, by simp, ?_⟩, bytes5⟩
  rw [Nat.zero_add, cell_of_row _ w.heap.size k _ 5 (5, 6) (heap_alloc_new w _)]
  have hc : k = 0 ∨ k = 1 ∨ k = 2 ∨ k = 3 ∨ k = 4 := by omega
  rcases hc with rfl | rfl | rfl | rfl | rfl <;> rfl

set_option maxRecDepth 10000 in
set_option maxHeartbeats 400000 in
theorem lives_any (w : World) : Calls Tryd.prog 13 #[] w fun e w' => e = .returned (.bool true) ∧ Below w.heap.size w w' := by
  obtain ⟨h, hh⟩ : ∃ h, h = hashL [108, 105, 118, 101, 115] := ⟨_, rfl⟩
  have hl := lives_hash
  rw [← hh] at hl
  have HH : Hid (h = hashL [108, 105, 118, 101, 115]) := hh
  clear hh
  have hcv := Lib.run_convert_bytes_const (P := Tryd.prog) w 22 5 #[.int .u8 108, .int .u8 105, .int .u8 118, .int .u8 101, .int .u8 115] 5 5 Tryd.underlying22 Tryd.underlying5
  have e1 : (h == h) = true := by simp
  go_enter Tryd.func13, Tryd.ntmps13
  have ho := row_lives w
  have hb0 : Below w.heap.size w (w.alloc (.cells #[.int .u8 108, .int .u8 105, .int .u8 118, .int .u8 101, .int .u8 115] 5 (5, 6))) := (Below.refl _ _).alloc (Nat.le_refl _) _
  have HO : Hid (Row (w.alloc (.cells #[.int .u8 108, .int .u8 105, .int .u8 118, .int .u8 101, .int .u8 115] 5 (5, 6))) (some ⟨w.heap.size, 0, none⟩) 5 [108, 105, 118, 101, 115]) := ho
  clear ho
  go_wp2_with fail
  refine (implHash_any _ 5 5 _ _ HO.out (by decide)).mono ?_
  rintro e w1 ⟨rfl, hb1⟩
  rw [← HH.out]
  go_wp2_with fail
  refine (specHash_any _ 5 5 _ _ (HO.out.kept hb1) (by decide)).mono ?_
  rintro e w2 ⟨rfl, hw2⟩
  subst hw2
  rw [← HH.out]
  go_wp2_with fail
  refine (implHash_any _ 5 5 _ _ (HO.out.kept hb1) (by decide)).mono ?_
  rintro e w3 ⟨rfl, hb3⟩
  rw [← HH.out]
  go_wp2_with fail
  go_ret
  have z1 := hb0.size
  have z2 := hb1.size
  exact ⟨rfl, hb0.trans ((hb1.mono z1).trans (hb3.mono (by omega)))⟩

end Go.Proofs.YtjkkokjojaknkaaDoor
