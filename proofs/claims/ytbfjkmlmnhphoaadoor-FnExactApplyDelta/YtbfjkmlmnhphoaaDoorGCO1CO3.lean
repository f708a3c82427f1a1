import Derived.Test.YtbfjkmlmnhphoaaDoorGN8K7
import Derived.Lib.ItoaNum
import Derived.Test.YtbfjkmlmnhphoaaDoorShelf
import Derived.Lib.AppendIntMem
import Derived.Lib.ItoaLen
import Derived.Lib.AppendStr
import Derived.Lib.Slices
import Derived.Lib.Hide
import Derived.Laws.IdiomStrings
import Derived.OwnWalk
set_option linter.unusedVariables false
namespace Go.Proofs.YtbfjkmlmnhphoaaDoor
open Go.RowKit

/-- A number's digits, as bytes. -/
def dg (n : Int) : List Int := (Lib.itoa n).map fun b => (b.toNat : Int)
/-- What foldedText tells of a part, of a name. -/
def ftOne (p : PT) : List Int := dg p.attr ++ 61 :: (foldL p.val ++ [10])
def ft : List PT → List Int
  | [] => []
  | p :: ps => ftOne p ++ ft ps
theorem cut_eq {c : Int} : ∀ (a b r s : List Int), c ∉ a → c ∉ b → a ++ c :: r = b ++ c :: s → a = b ∧ r = s
  | [], [], r, s, _, _, h => by simpa using h
  | [], y :: b, r, s, _, hb, h => by
    simp only [List.nil_append, List.cons_append, List.cons.injEq] at h
    exact absurd (by rw [h.1]; exact List.Mem.head _) hb
  | x :: a, [], r, s, ha, _, h => by
    simp only [List.nil_append, List.cons_append, List.cons.injEq] at h
    exact absurd (by rw [← h.1]; exact List.Mem.head _) ha
  | x :: a, y :: b, r, s, ha, hb, h => by
    simp only [List.cons_append, List.cons.injEq] at h
    have := cut_eq a b r s (fun q => ha (List.Mem.tail _ q)) (fun q => hb (List.Mem.tail _ q)) h.2
    exact ⟨by rw [h.1, this.1], this.2⟩
theorem dg_table : ((List.range 21).all fun m => !((dg (m : Int)).contains 61) && (List.range 21).all fun n => decide (m = n) || !(dg (m : Int) == dg (n : Int))) = true := by decide +kernel
theorem dg_61 (n : Int) (h0 : 1 ≤ n) (h1 : n ≤ 20) : (61 : Int) ∉ dg n := by
  obtain ⟨k, rfl⟩ : ∃ k : Nat, n = k := ⟨n.toNat, by omega⟩
  have := List.all_eq_true.1 dg_table k (List.mem_range.2 (by omega))
  simp only [Bool.and_eq_true, Bool.not_eq_true', List.contains_eq_mem, decide_eq_false_iff_not] at this
  exact this.1
theorem dg_inj (m n : Int) (h0 : 1 ≤ m) (h1 : m ≤ 20) (h2 : 1 ≤ n) (h3 : n ≤ 20) (h : dg m = dg n) : m = n := by
  obtain ⟨k, rfl⟩ : ∃ k : Nat, m = k := ⟨m.toNat, by omega⟩
  obtain ⟨j, rfl⟩ : ∃ k : Nat, n = k := ⟨n.toNat, by omega⟩
  have := List.all_eq_true.1 dg_table k (List.mem_range.2 (by omega))
  simp only [Bool.and_eq_true] at this
  have h4 := List.all_eq_true.1 this.2 j (List.mem_range.2 (by omega))
  simp only [h, Bool.or_eq_true, decide_eq_true_eq, beq_self_eq_true, Bool.not_true, Bool.false_eq_true, or_false] at h4
  rw [h4]
theorem strNums_inj {xs ys : List Int} (hx : ∀ k, 0 ≤ xs.getD k 0 ∧ xs.getD k 0 ≤ 255) (hy : ∀ k, 0 ≤ ys.getD k 0 ∧ ys.getD k 0 ≤ 255) (h : strOfNums xs = strOfNums ys) : xs = ys := by
  have hl : xs.length = ys.length := by rw [← strOfNums_size xs, ← strOfNums_size ys, h]
  have hd : xs.map (fun n => UInt8.ofNat n.toNat) = ys.map (fun n => UInt8.ofNat n.toNat) := by rw [← strOfNums_data, ← strOfNums_data, h]
  apply List.ext_getElem hl
  intro i h1 h2
  have e : UInt8.ofNat (xs[i]).toNat = UInt8.ofNat (ys[i]).toNat := by
    have := congrArg (fun l => l[i]?) hd
    simpa [h1, h2] using this
  have e2 := congrArg UInt8.toNat e
  have bx := hx i
  have by' := hy i
  simp only [List.getD_eq_getElem?_getD, List.getElem?_eq_getElem h1, List.getElem?_eq_getElem h2, Option.getD_some] at bx by'
  simp only [UInt8.toNat_ofNat'] at e2
  omega
theorem fo_rng (s : ByteArray) : ∀ k, printP s k → ∀ b ∈ (fo s k).1, 32 ≤ b ∧ b ≤ 126
  | 0, _, b, hb => by simp [fo] at hb
  | k + 1, hp, b, hb => by
    have ih := fo_rng s k (fun j hj => hp j (by omega))
    have h := hp k (by omega)
    rw [fo] at hb
    split at hb
    · exact ih b hb
    · simp only [List.mem_append, List.mem_singleton] at hb
      rcases hb with (hb | hb) | hb
      · exact ih b hb
      · split at hb
        · simp only [List.mem_singleton] at hb; omega
        · simp at hb
      · subst hb
        unfold low
        split <;> omega
theorem foldL_rng (x : PT) (h : partP x) : ∀ b ∈ foldL x.val, 32 ≤ b ∧ b ≤ 126 := fun b hb => fo_rng x.val x.val.size h.2.2.1 b hb
theorem foldL_10 (x : PT) (h : partP x) : (10 : Int) ∉ foldL x.val := fun e => by have := foldL_rng x h 10 e; omega
theorem getD_rng {l : List Int} (h : ∀ b ∈ l, 32 ≤ b ∧ b ≤ 126) (k : Nat) : 0 ≤ l.getD k 0 ∧ l.getD k 0 ≤ 255 := by
  rw [List.getD_eq_getElem?_getD]
  by_cases hk : k < l.length
  · rw [List.getElem?_eq_getElem hk]
    have := h _ (List.getElem_mem hk)
    simp only [Option.getD_some]
    omega
  · rw [List.getElem?_eq_none (by omega)]; simp
theorem FS_eq {x y : PT} (hx : partP x) (hy : partP y) : FS x.val = FS y.val ↔ foldL x.val = foldL y.val :=
  ⟨fun h => strNums_inj (getD_rng (foldL_rng x hx)) (getD_rng (foldL_rng y hy)) h, fun h => by unfold FS; rw [h]⟩
theorem ft_cons (p : PT) (ps : List PT) : ft (p :: ps) = dg p.attr ++ 61 :: (foldL p.val ++ 10 :: ft ps) := by
  rw [ft, ftOne]; simp
theorem ft_inj : ∀ (xs ys : List PT), (∀ p ∈ xs, partP p) → (∀ p ∈ ys, partP p) → (ft xs = ft ys ↔ xs.length = ys.length ∧ ∀ k, k < ys.length → alikeP (xs.getD k default) (ys.getD k default))
  | [], [], _, _ => by simp [ft]
  | [], y :: ys, _, _ => by rw [ft_cons]; simp [ft]
  | x :: xs, [], _, _ => by rw [ft_cons]; simp [ft]
  | x :: xs, y :: ys, hx, hy => by
    have ih := ft_inj xs ys (fun p q => hx p (List.Mem.tail _ q)) (fun p q => hy p (List.Mem.tail _ q))
    have px := hx x (List.Mem.head _)
    have py := hy y (List.Mem.head _)
    rw [ft_cons, ft_cons]
    constructor
    · intro h
      obtain ⟨e1, e2⟩ := cut_eq _ _ _ _ (dg_61 _ px.1.1 px.1.2) (dg_61 _ py.1.1 py.1.2) h
      obtain ⟨e3, e4⟩ := cut_eq _ _ _ _ (foldL_10 x px) (foldL_10 y py) e2
      obtain ⟨e5, e6⟩ := ih.1 e4
      refine ⟨by simp [e5], fun k hk => ?_⟩
      cases k with
      | zero => exact ⟨dg_inj _ _ px.1.1 px.1.2 py.1.1 py.1.2 e1, (FS_eq px py).2 e3⟩
      | succ k => exact e6 k (by simpa using hk)
    · rintro ⟨e1, e2⟩
      have h0 := e2 0 (by simp)
      have e4 := ih.2 ⟨by simpa using e1, fun k hk => e2 (k + 1) (by simpa using hk)⟩
      have a1 : x.attr = y.attr := h0.1
      have a2 : foldL x.val = foldL y.val := (FS_eq px py).1 h0.2
      rw [a1, a2, e4]
theorem nameP_all {xs : List PT} (h : nameP xs) : ∀ p ∈ xs, partP p := fun p hp => by
  obtain ⟨k, hk, rfl⟩ := List.getElem_of_mem hp
  have := h.2 k hk
  rw [List.getD_eq_getElem?_getD, List.getElem?_eq_getElem hk] at this
  exact this
/-- The folded texts of right names are alike just where the names are the same. -/
theorem ft_same {xs ys : List PT} (hx : nameP xs) (hy : nameP ys) : ft xs = ft ys ↔ sameP xs ys := by
  rw [ft_inj xs ys (nameP_all hx) (nameP_all hy)]
  unfold sameP underP
  constructor
  · rintro ⟨h1, h2⟩
    exact ⟨h1, hx, hy, by omega, h2⟩
  · rintro ⟨h1, _, _, _, h2⟩
    exact ⟨h1, h2⟩

/-- A reason that a list may tell. -/
def reaP (x : CP) (r : Int) : Prop := (r = 7 ∧ 0 ≤ x.base) ∨ ((1 ≤ r ∧ r ≤ 6) ∧ x.scope / 2 ^ r.toNat % 2 = 1)
/-- An entry that is right in its list. -/
def entP (x : CP) (y : GP) : Prop := (1 ≤ y.ser ∧ y.ser ≤ 4611686018427387904) ∧ timeP y.tm ∧ y.tm ≤ x.tm ∧ (x.ind = true → calledP y.parts) ∧ (x.ind = false → y.parts = []) ∧ reaP x y.rs
def crhP (x : CP) : Prop := calledP x.parts ∧ (0 ≤ x.num ∧ x.num ≤ 1099511627776) ∧ (-1 ≤ x.base ∧ x.base ≤ x.num - 1) ∧ timeP x.tm ∧ timeP x.next ∧ x.tm ≤ x.next ∧ (2 ≤ x.scope ∧ x.scope ≤ 126 ∧ x.scope % 2 = 0) ∧ x.ents.length ≤ 60 ∧ x.sig.length ≤ 500
/-- A list that is right. -/
def crlP (x : CP) : Prop := crhP x ∧ (∀ i, i < x.ents.length → entP x (x.ents.getD i default)) ∧ ∀ i k, i < x.ents.length → k < i → ¬ likeP (x.ents.getD k default) (x.ents.getD i default)
theorem entP_name {x : CP} {y : GP} (h : entP x y) : nameP y.parts := by
  cases hi : x.ind with
  | true => exact (h.2.2.2.1 hi).1
  | false => rw [h.2.2.2.2.1 hi]; exact ⟨by simp, fun k hk => absurd hk (Nat.not_lt_zero _)⟩

end Go.Proofs.YtbfjkmlmnhphoaaDoor

set_option linter.unusedVariables false
namespace Go.Proofs.YtbfjkmlmnhphoaaDoor
open Go.RowKit Go.Shelf

/-- foldedText, byte by byte. -/
def fb1 (p : PT) : List UInt8 := Lib.itoa p.attr ++ 61 :: ((FS p.val).data.toList ++ [10])
def fbs : List PT → List UInt8
  | [] => []
  | p :: ps => fb1 p ++ fbs ps
theorem fbs_append : ∀ (xs ys : List PT), fbs (xs ++ ys) = fbs xs ++ fbs ys
  | [], ys => rfl
  | x :: xs, ys => by rw [List.cons_append, fbs, fbs, fbs_append xs ys, List.append_assoc]
theorem fbs_succ (xs : List PT) (k : Nat) (hk : k < xs.length) : fbs (xs.take (k + 1)) = fbs (xs.take k) ++ fb1 (xs.getD k default) := by
  rw [List.take_succ_eq_append_getElem hk, fbs_append, List.getD_eq_getElem?_getD, List.getElem?_eq_getElem hk]
  simp [fbs]
def nat8 (l : List UInt8) : List Int := l.map fun b => (b.toNat : Int)
theorem nat8_inj : ∀ {l m : List UInt8}, nat8 l = nat8 m → l = m
  | [], [], _ => rfl
  | [], y :: m, h => by simp [nat8] at h
  | x :: l, [], h => by simp [nat8] at h
  | x :: l, y :: m, h => by
    simp only [nat8, List.map_cons, List.cons.injEq] at h
    have e : x.toNat = y.toNat := by omega
    rw [UInt8.toNat_inj.1 e, nat8_inj (l := l) (m := m) h.2]
theorem nat8_FS (x : PT) (h : partP x) : nat8 (FS x.val).data.toList = foldL x.val := by
  unfold FS nat8
  rw [strOfNums_data, List.map_map]
  refine (List.map_congr_left (fun b hb => ?_)).trans (List.map_id _)
  have := foldL_rng x h b hb
  simp only [Function.comp_apply, UInt8.toNat_ofNat', id_eq]
  omega
theorem nat8_fbs : ∀ (xs : List PT), (∀ p ∈ xs, partP p) → nat8 (fbs xs) = ft xs
  | [], _ => rfl
  | x :: xs, h => by
    have h1 := nat8_fbs xs (fun p hp => h p (List.Mem.tail _ hp))
    have h2 := nat8_FS x (h x (List.Mem.head _))
    rw [ft_cons, ← h1, ← h2]
    simp [fbs, fb1, nat8, dg]
/-- The text of a name's key. -/
def ftS (xs : List PT) : ByteArray := ⟨(fbs xs).toArray⟩
theorem ftS_same {xs ys : List PT} (hx : nameP xs) (hy : nameP ys) : ftS xs = ftS ys ↔ sameP xs ys := by
  rw [← ft_same hx hy, ← nat8_fbs xs (nameP_all hx), ← nat8_fbs ys (nameP_all hy)]
  constructor
  · intro h
    have h2 : (fbs xs).toArray = (fbs ys).toArray := congrArg ByteArray.data h
    rw [show fbs xs = fbs ys by simpa using congrArg Array.toList h2]
  · intro h
    unfold ftS
    rw [nat8_inj h]
theorem fb1_len (p : PT) (h : partP p) : (fb1 p).length ≤ 200 := by
  have h1 := Lib.itoa_length_le p.attr (by have := h.1.1; omega) (by have := h.1.2; omega)
  have h2 : (FS p.val).data.toList.length ≤ 120 := by
    unfold FS
    rw [strOfNums_data, List.length_map]
    have := fo_len p.val p.val.size
    have := h.2.1
    unfold foldL
    omega
  simp only [fb1, List.length_append, List.length_cons, List.length_nil]
  omega
theorem fbs_len : ∀ (xs : List PT), (∀ p ∈ xs, partP p) → (fbs xs).length ≤ 200 * xs.length
  | [], _ => by simp [fbs]
  | x :: xs, h => by
    have h1 := fbs_len xs (fun p hp => h p (List.Mem.tail _ hp))
    have h2 := fb1_len x (h x (List.Mem.head _))
    simp only [fbs, List.length_append, List.length_cons]
    omega
theorem Tryd.infoB1 : (Tryd.prog.info? 5).map (fun i => (i.zero, i.size, i.bytes)) = some (some (.int .u8 0), 1, 1) := by kernel_rfl

theorem box_kept {w w' : World} {B e s n g t : Nat} {v : Value} {xs : List Value} {cs : Array Value} {fr : Nat × Nat} (h : w.ownsRow B e s v n xs) (hg : w.grownBy w' v.ownBlock) (hb : w.heap[g]? = some (.cells cs t fr)) (hne : t ≠ e) : w'.heap[g]? = some (.cells cs t fr) := by
  refine (hg.block g (Array.getElem?_eq_some_iff.1 hb).1 (fun e2 => ?_)).trans hb
  rcases h.2 with ⟨rfl, _⟩ | ⟨g', cap, cur', rfl, _, hh, _⟩
  · simp [Value.ownBlock] at e2
  · simp only [Value.ownBlock, Option.some.injEq] at e2
    subst e2
    rw [hh] at hb
    simp only [Option.some.injEq, Obj.cells.injEq] at hb
    exact hne hb.2.1.symm

set_option maxRecDepth 100000 in
set_option maxRecDepth 10000 in
set_option maxHeartbeats 8000000 in
theorem foldedText_any (a : Option Addr) (n c : Nat) (xs : List PT) (w : World) (htab : Lib.TabIs Tryd.prog w "internal/strconv.uint64pow10" .u64 Lib.pow10Tab) (h : Pts w a n xs) (hp : nameP xs) :
    Calls Tryd.prog 93 #[nmv a n c] w fun e w' => e = .returned (.string (ftS xs)) ∧ Below w.heap.size w w' := by
  obtain ⟨i0, hi, hz0, hz1, hz2⟩ := info_parts Tryd.infoB1
  have HI : Hid (_ ∧ _ ∧ _ ∧ _) := ⟨hi, hz0, hz1, hz2⟩
  have hT : Hid (_) := Lib.tabBelow_of_tabIs htab
  have HL : Hid (xs.length = n) := h.len
  have hn8 : n ≤ 8 := by rw [← h.len]; exact hp.1
  have HP : Hid (∀ p ∈ xs, partP p) := nameP_all hp
  obtain ⟨W0, hW0⟩ : ∃ W0, W0 = w.alloc (.cells #[.slice a n c] 33) := ⟨_, rfl⟩
  have hB0 : Below w.heap.size w W0 := by rw [hW0]; exact (Below.refl _ _).alloc (Nat.le_refl _) _
  have hh0 : W0.heap[w.heap.size]? = some (.cells #[.slice a n c] 33) := by rw [hW0]; exact heap_alloc_new w _
  have q0 : W0.cell? ⟨w.heap.size, 0, none⟩ = some (.slice a n c) := (cell_of_row _ _ 0 _ 33 (0, 0) hh0).trans rfl
  have HK : Hid (∀ W, Below w.heap.size w W → Pts W a n xs) := fun W hW => h.kept hW
  have HW : Hid (_ = _) := hW0
  clear h hp hW0 hh0 hi hz0 hz1 hz2 htab
  unfold nmv
  go_enter Tryd.func93, Tryd.ntmps93
  go_upto_region 1 with fail
  rw [← HW.out]
  clear HW
  go_wp2
  clear q0
  go_loopw [3, 9] (fun o i wr => ∃ k : Nat, k ≤ n ∧ i = .int .i64 k ∧ wr.ownsRow w.heap.size 5 1 o (fbs (xs.take k)).length (Lib.byteCells (fbs (xs.take k))) ∧ Below w.heap.size w wr) (fun _ i _ => n - (intOf i).toNat)
  case atStart => exact ⟨0, Nat.zero_le _, rfl, World.ownsRow_nil _ _ _ _, hB0⟩
  case round =>
    obtain ⟨k, hk, rfl, how, hbr⟩ := hrel
    clear hB0
    by_cases hkn : k < n
    · obtain ⟨b, off, rfl, hlb, hc, _⟩ := (HK.out wr hbr).get k hkn
      obtain ⟨x, hx⟩ : ∃ x, x = xs.getD k default := ⟨_, rfl⟩
      rw [← hx] at hc
      have hmem : xs.getD k default ∈ xs := by
        rw [List.getD_eq_getElem?_getD, List.getElem?_eq_getElem (by rw [HL.out]; exact hkn)]
        exact List.getElem_mem _
      have HPX : Hid (partP x) := by show partP x; rw [hx]; exact HP.out _ hmem
      have HSU : Hid (fbs (xs.take (k + 1)) = fbs (xs.take k) ++ fb1 x) := by show _ = _; rw [hx]; exact fbs_succ xs k (by rw [HL.out]; exact hkn)
      have hlen : (fbs (xs.take k)).length ≤ 1600 := by
        have h1 := fbs_len (xs.take k) (fun p hp => HP.out p (List.mem_of_mem_take hp))
        rw [List.length_take] at h1
        omega
      obtain ⟨L, hL⟩ : ∃ L, L = fbs (xs.take k) := ⟨_, rfl⟩
      rw [← hL] at how hlen HSU
      clear hL hmem hx
      obtain ⟨c0, c1⟩ := hc
      obtain ⟨W1, hW1⟩ : ∃ W1, W1 = wr.alloc (.cells #[.int .i64 x.attr, .string x.val] 107) := ⟨_, rfl⟩
      have hB1 : Below w.heap.size w W1 := by rw [hW1]; exact hbr.alloc hbr.size _
      have HY1 : Hid (W1.heap[wr.heap.size]? = some (.cells #[.int .i64 x.attr, .string x.val] 107)) := by show _ = _; rw [hW1]; exact heap_alloc_new wr _
      have how1 : W1.ownsRow w.heap.size 5 1 u3 L.length (Lib.byteCells L) := by rw [hW1]; exact how.alloc _
      have d0 : W1.cell? ⟨wr.heap.size, 0, none⟩ = some (.int .i64 x.attr) := (cell_of_row _ _ 0 _ 107 (0, 0) HY1.out).trans rfl
      have hkni : (k : Int) < (n : Int) := by omega
      have HW1 : Hid (_ = _) := hW1
      have hs1 := hB1.size
      clear hW1 how
      go_upto_region 5 with fail
      rw [← HW1.out]
      clear HW1 c0 c1
      go_wp2_with fail
      refine (Tryd.strconv_AppendInt_10 w.heap.size L.length x.attr (by have := HPX.out.1.1; omega) (by have := HPX.out.1.2; omega) u3 _ _ how1 hs1 (by omega) (Lib.TabBelow.on hT.out hB1)).mono ?_
      rintro e w2 ⟨v2, rfl, how2, hb2, hk2⟩
      have la := Lib.itoa_length_le x.attr (by have := HPX.out.1.1; omega) (by have := HPX.out.1.2; omega)
      have hB2 : Below w.heap.size w w2 := hB1.trans hb2
      have hs2 := hB2.size
      have HY2 : Hid (w2.heap[wr.heap.size]? = some (.cells #[.int .i64 x.attr, .string x.val] 107)) := hk2 _ _ HY1.out (by simp) (fun c fz e => by simp at e)
      clear d0 hk2 hb2 how1 hB1 HY1 hs1
      go_wp2_with (at_builtin; refine wpList_append_own _ rfl _ _ 26 rfl w.heap.size 5 i0 (.int .u8 0) 1 1 Tryd.underlying26 HI.out.1 HI.out.2.1 HI.out.2.2.1 HI.out.2.2.2 rfl (by decide) _ _ _ rfl (how2.alloc _) ⟨w2.heap.size, 0, none⟩ 1 1 [Value.int .u8 61] rfl rfl (by intro j u' hj; match j, hj with | 0, hj => simp at hj; subst hj; simp [Addr.add]) (by intro u' hu'; simp at hu'; subst hu'; rfl) (by unfold maxLen; omega) (by omega) (by simp; omega) ?_)
      intro v3 w3 how3 hg3 _
      have hB3 : Below w.heap.size w w3 := (hB2.alloc hB2.size _).grown hg3 (by simp; omega) (fun k hk => (how2.lt k hk).1)
      have HY3 : Hid (w3.heap[wr.heap.size]? = some (.cells #[.int .i64 x.attr, .string x.val] 107)) := box_kept (how2.alloc _) hg3 ((((Below.refl w2.heap.size w2).alloc (Nat.le_refl _) _).block _ (Array.getElem?_eq_some_iff.1 HY2.out).1).trans HY2.out) (by decide)
      have hs3 := hB3.size
      have e1 : w3.cell? ⟨wr.heap.size, 1, none⟩ = some (.string x.val) := (cell_of_row _ _ 1 _ 107 (0, 0) HY3.out).trans rfl
      clear hg3 how2 hB2 HY2 hs2
      go_wp2_with fail
      refine (implFold_any x.val _ (by have := HPX.out.2.1; omega)).mono ?_
      rintro e w4 ⟨rfl, hb4⟩
      have hB4 : Below w.heap.size w w4 := hB3.trans (hb4.mono hs3)
      have how4 := ownsRow_below how3 hb4
      have hs4 := hB4.size
      have lf : (FS x.val).size ≤ 120 := by
        have h1 := fo_len x.val x.val.size
        have h2 := HPX.out.2.1
        unfold FS
        rw [strOfNums_size]
        unfold foldL
        omega
      obtain ⟨S, hS⟩ : ∃ S, S = FS x.val := ⟨_, rfl⟩
      have hS2 : strOfNums (foldL x.val) = S := hS.symm
      rw [hS2]
      rw [← hS] at lf
      have HS : Hid (S = FS x.val) := hS
      clear e1 hb4 how3 hB3 HY3 hs3 hS hS2
      go_wp2_with (at_builtin; refine Lib.wpList_append_own_string _ rfl _ _ 26 9 rfl w.heap.size 5 i0 Tryd.underlying26 Tryd.underlying9 HI.out.1 HI.out.2.1 HI.out.2.2.1 HI.out.2.2.2 _ _ _ rfl how4 S rfl (by unfold maxLen; omega) (by omega) (by omega) ?_)
      intro v5 w5 how5 hg5 _
      have hB5 : Below w.heap.size w w5 := hB4.grown hg5 hs4 (fun k hk => (how4.lt k hk).1)
      have hs5 := hB5.size
      clear hg5 how4 hB4 hs4
      go_wp2_with (at_builtin; refine wpList_append_own _ rfl _ _ 26 rfl w.heap.size 5 i0 (.int .u8 0) 1 1 Tryd.underlying26 HI.out.1 HI.out.2.1 HI.out.2.2.1 HI.out.2.2.2 rfl (by decide) _ _ _ rfl (how5.alloc _) ⟨w5.heap.size, 0, none⟩ 1 1 [Value.int .u8 10] rfl rfl (by intro j u' hj; match j, hj with | 0, hj => simp at hj; subst hj; simp [Addr.add]) (by intro u' hu'; simp at hu'; subst hu'; rfl) (by unfold maxLen; omega) (by omega) (by simp; omega) ?_)
      intro v6 w6 how6 hg6 _
      have hB6 : Below w.heap.size w w6 := (hB5.alloc hB5.size _).grown hg6 (by simp; omega) (fun k hk => (how5.lt k hk).1)
      have HF : Hid (w6.ownsRow w.heap.size 5 1 v6 (fbs (xs.take (k + 1))).length (Lib.byteCells (fbs (xs.take (k + 1))))) := by
        show w6.ownsRow _ _ _ _ _ _
        rw [HSU.out]
        have eN : (L ++ fb1 x).length = L.length + (Lib.itoa x.attr).length + 1 + S.size + 1 := by
          simp only [fb1, List.length_append, List.length_cons, List.length_nil, Array.length_toList, ← HS.out]
          show _ + (_ + (S.data.size + 1 + 1)) = _ + S.data.size + 1
          omega
        have eL : Lib.byteCells (L ++ fb1 x) = Lib.byteCells L ++ (Lib.byteCells (Lib.itoa x.attr) ++ Value.int .u8 61 :: (Lib.strCells S ++ [Value.int .u8 10])) := by
          simp [fb1, Lib.byteCells, Lib.strCells, ← HS.out]
        rw [eN, eL]
        exact how6
      clear how6 how5 hg6
      go_wp2
      go_roundw
      case rel => exact ⟨k + 1, by omega, by go_num, HF.out, hB6⟩
      case measure => simp [intOf]; omega
    · have hkn' : k = n := by omega
      subst hkn'
      have hni : ¬ ((k : Int) < (k : Int)) := by omega
      have hall : xs.take k = xs := List.take_of_length_le (by rw [HL.out]; exact Nat.le_refl _)
      rw [hall] at how
      clear hall
      rcases how.2 with ⟨rfl, h0⟩ | ⟨g, cap, cur, rfl, _, _, _, _, _, _⟩
      · have HE : Hid (ftS xs = { data := #[] }) := by
          show _ = _
          unfold ftS
          rw [List.eq_nil_of_length_eq_zero h0]
        have hcv := convert_own (Own.mk (World.ownsRow_nil wr w.heap.size 5 1) (by simp) : Own w.heap.size wr none 0 0 [])
        clear how h0
        go_wp2
        go_ret
        exact ⟨by rw [HE.out]; rfl, hbr⟩
      · obtain ⟨l, hl⟩ : ∃ l, l = fbs xs := ⟨_, rfl⟩
        rw [← hl] at how
        have HLL : Hid (l = fbs xs) := hl
        have hcv := run_convert_bytes_back (P := Tryd.prog) wr 26 9 5 ⟨g, 0, none⟩ cap l Tryd.underlying26 Tryd.underlying5 Tryd.underlying9 (fun j hj => how.cells (g := g) rfl j _ (by simp [Lib.byteCells, hj]))
        rw [← hl]
        clear hl how
        go_wp2
        go_ret
        exact ⟨by unfold ftS; rw [← HLL.out]; rfl, hbr⟩

end Go.Proofs.YtbfjkmlmnhphoaaDoor
