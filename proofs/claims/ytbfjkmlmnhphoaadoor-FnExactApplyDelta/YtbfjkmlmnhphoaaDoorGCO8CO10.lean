import Derived.Test.YtbfjkmlmnhphoaaDoorGCO1CO3
import Derived.Test.YtbfjkmlmnhphoaaDoorRK
import Derived.DeepKeys4
import Derived.Maps.OwnSet
import Derived.Maps.Views
set_option linter.unusedVariables false
namespace Go.Proofs.YtbfjkmlmnhphoaaDoor
open Go.RowKit Go.Maps

/-- What is known of a region (RJ). -/
def ko1 (an : Option Addr) (nn cn : Nat) (y : GP) (G B : Nat) : RSpec where
  m := 7
  n := 9
  slots := [3, 4, 5, 6, 7, 8, 100006, 100007, 100008]
  kills := [[], [], [], [], [], [], [], [], [6]]
  pres := [[], [], [], [], [], [], [], [], []]
  fact := fun k v w => match k with
    | 0 => v = .pointer (some ⟨G, 0, none⟩)
    | 1 => v = .agg #[.slice an nn cn]
    | 2 => v = .string (ftS y.parts)
    | 3 => v = .pointer (some ⟨G, 1, none⟩)
    | 4 => v = .int .i64 y.ser
    | 5 => v = .agg #[.string (ftS y.parts), .int .i64 y.ser]
    | 6 => w.heap[(G + 1)]? = some (.cells #[.string (ftS y.parts), .int .i64 y.ser] 99 (0, 0))
    | 7 => w.heap[G]? = some (.cells #[.slice an nn cn, .int .i64 y.ser, .int .i64 y.tm, .int .i64 y.rs] 63 (0, 0))
    | _ => w.heap[(G + 1)]? = some (.cells #[.string { data := #[] }, .int .i64 0] 99 (0, 0))
set_option linter.unusedVariables false in
theorem ko1_stb (an : Option Addr) (nn cn : Nat) (y : GP) (G B : Nat) (k : Nat) (hk : k < 9) : StB ((ko1 an nn cn y G (B)).fact k) := by
  match k, hk with
  | 0, _ => exact fun _ _ _ h _ => h
  | 1, _ => exact fun _ _ _ h _ => h
  | 2, _ => exact fun _ _ _ h _ => h
  | 3, _ => exact fun _ _ _ h _ => h
  | 4, _ => exact fun _ _ _ h _ => h
  | 5, _ => exact fun _ _ _ h _ => h
  | 6, _ => exact fun _ _ _ q_0 hb => below_kept q_0 hb
  | 7, _ => exact fun _ _ _ q_0 hb => below_kept q_0 hb
  | 8, _ => exact fun _ _ _ q_0 hb => below_kept q_0 hb
  | k + 9, hk => omega
set_option linter.unusedVariables false in
theorem ko1_st6 (an : Option Addr) (nn cn : Nat) (y : GP) (G B : Nat) {W W2 : World} {cs : Array Value} {fr : Nat × Nat} (hg : W.heap[(G + 1)]? = some (.cells cs 99 fr)) (ht : Touch ((G + 1)) ((G + 1) + 1) W W2) (k : Nat) (hk : k < 9) (hne : k ≠ 6) (hkill : 6 ∉ (ko1 an nn cn y G (B)).kill k) (v : Value) (hfact : (ko1 an nn cn y G (B)).fact k v W) : (ko1 an nn cn y G (B)).fact k v W2 := by
  match k, hk, hne, hkill, hfact with
  | 0, _, _, _, hq => exact hq
  | 1, _, _, _, hq => exact hq
  | 2, _, _, _, hq => exact hq
  | 3, _, _, _, hq => exact hq
  | 4, _, _, _, hq => exact hq
  | 5, _, _, _, hq => exact hq
  | 6, _, hne, _, _ => exact absurd rfl hne
  | 7, _, _, _, q_0 => exact box_box q_0 hg (by decide) ht
  | 8, _, _, hkill, _ => exact absurd (List.Mem.head _) hkill
  | k + 9, hk, _, _, _ => omega

set_option maxRecDepth 10000 in
set_option maxHeartbeats 4000000 in
theorem goneKey_any (an : Option Addr) (nn cn : Nat) (y : GP) (w : World) (htab : Lib.TabIs Tryd.prog w "internal/strconv.uint64pow10" .u64 Lib.pow10Tab) (h : Pts w an nn y.parts) (hp : nameP y.parts) :
    Calls Tryd.prog 76 #[gov an nn cn y] w fun e w' => e = .returned (.agg #[.string (ftS y.parts), .int .i64 y.ser]) ∧ Below w.heap.size w w' := by
  unfold gov
  obtain ⟨W0, hW0⟩ : ∃ W0, W0 = (w.alloc (.cells #[.slice an nn cn, .int .i64 y.ser, .int .i64 y.tm, .int .i64 y.rs] 63)).alloc (.cells #[.string { data := #[] }, .int .i64 0] 99) := ⟨_, rfl⟩
  have hB0 : Below w.heap.size w W0 := by rw [hW0]; exact two_below _ _ _
  have b0 := two_blocks w (.cells #[.slice an nn cn, .int .i64 y.ser, .int .i64 y.tm, .int .i64 y.rs] 63) (.cells #[.string { data := #[] }, .int .i64 0] 99)
  rw [← hW0] at b0
  have HFT : Hid (∀ W, Below w.heap.size W0 W → Calls Tryd.prog 93 #[.agg #[.slice an nn cn]] W fun e w' => e = .returned (.string (ftS y.parts)) ∧ Below W.heap.size W w') := fun W hW => foldedText_any an nn cn y.parts W (Lib.tabBelow_of_tabIs htab W (hB0.trans hW)) (h.kept (hB0.trans hW)) hp
  have HW : Hid (_ = _) := hW0
  have HBB : w.heap.size ≤ W0.heap.size := hB0.size
  clear hW0 htab h hp
  go_enter Tryd.func76, Tryd.ntmps76
  go_upto_region 1 with fail
  rw [← HW.out]
  clear HW
  refine wp_region_ri (ko1 an nn cn y w.heap.size (w.heap.size)) [3, 4, 5, 6, 7, 8] (w.heap.size) (fun a0 => a0.tmps.size = 9 ∧ aT a0 1 = .pointer (some ⟨w.heap.size, 0, none⟩) ∧ aT a0 2 = .pointer (some ⟨(w.heap.size + 1), 0, none⟩)) (by kernel_rfl) rfl (by kernel_rfl) rfl ⟨rfl, rfl, rfl⟩ (ko1_stb an nn cn y w.heap.size (w.heap.size)) ?_ ?_ ?_
  · intro k hk hk2
    match k, hk, hk2 with
    | 7, _, _ => exact b0.1
    | 8, _, _ => exact b0.2
    | 0, hk, _ => exact absurd hk (by show ¬ (7 ≤ 0); omega)
    | 1, hk, _ => exact absurd hk (by show ¬ (7 ≤ 1); omega)
    | 2, hk, _ => exact absurd hk (by show ¬ (7 ≤ 2); omega)
    | 3, hk, _ => exact absurd hk (by show ¬ (7 ≤ 3); omega)
    | 4, hk, _ => exact absurd hk (by show ¬ (7 ≤ 4); omega)
    | 5, hk, _ => exact absurd hk (by show ¬ (7 ≤ 5); omega)
    | 6, hk, _ => exact absurd hk (by show ¬ (7 ≤ 6); omega)
    | k + 9, _, hk2 => exact absurd hk2 (by show ¬ (k + 9 < 9); omega)
  · rintro a0 ⟨hz, g1, g2⟩
    refine StepsRI.cons ?_ (StepsRI.cons ?_ (StepsRI.cons ?_ (StepsRI.cons ?_ (StepsRI.cons ?_ (StepsRI.cons ?_ (StepsRI.cons ?_ (StepsRI.nil)))))))
    · intro lQ b W hI hUN hED KQ hKQ
      exact opw_field 63 1 0 rfl _ ((hI.fr.same 1 (by decide)).trans g1) _ (by kernel_rfl) (hKQ.out _ _ (hI.put 0 3 rfl rfl (by rw [hz]; decide) rfl hUN rfl HBB (ko1_stb an nn cn y w.heap.size (w.heap.size)) (Below.refl _ _) rfl))
    · intro lQ b W hI hUN hED KQ hKQ
      have f : aT b 3 = .pointer (some ⟨w.heap.size, 0, none⟩) := hI.got 0 (of_decide_eq_true rfl) (edge hED 0 (by kernel_rfl)) rfl
      have hg := hI.vot 7 (of_decide_eq_true rfl) (of_decide_eq_true rfl) rfl
      have hc : W.cell? ⟨w.heap.size, 0, none⟩ = some (.slice an nn cn) := (cell_of_row _ _ 0 _ _ (0, 0) hg).trans rfl
      exact opw_load1 33 3 rfl _ f (.agg #[.slice an nn cn]) (by simp [Instr.loadAt, go_sem, hc]) (hKQ.out _ _ (hI.put 1 4 rfl rfl (by rw [hz]; decide) rfl hUN rfl HBB (ko1_stb an nn cn y w.heap.size (w.heap.size)) (Below.refl _ _) rfl))
    · intro lQ b W hI hUN hED KQ hKQ
      have f0 := hI.got 1 (of_decide_eq_true rfl) (edge hED 1 (by kernel_rfl)) rfl
      replace f0 : aT b 4 = .agg #[.slice an nn cn] := f0
      refine opw_call 93 #[.tmp 4] _ _ _ rfl Tryd.func93 (by kernel_rfl) rfl #[.agg #[.slice an nn cn]] (by simp [ev, f0]) ?_
      refine (HFT.out W hI.bel).mono ?_
      rintro e W2 ⟨rfl, hb⟩
      exact ⟨_, rfl, hKQ.out _ _ (hI.put 2 5 rfl rfl (by rw [hz]; decide) rfl hUN rfl HBB (ko1_stb an nn cn y w.heap.size (w.heap.size)) hb rfl)⟩
    · intro lQ b W hI hUN hED KQ hKQ
      exact opw_field 63 1 1 rfl _ ((hI.fr.same 1 (by decide)).trans g1) _ (by kernel_rfl) (hKQ.out _ _ (hI.put 3 6 rfl rfl (by rw [hz]; decide) rfl hUN rfl HBB (ko1_stb an nn cn y w.heap.size (w.heap.size)) (Below.refl _ _) rfl))
    · intro lQ b W hI hUN hED KQ hKQ
      have f := hI.got 3 (of_decide_eq_true rfl) (edge hED 3 (by kernel_rfl)) rfl
      have hg := (hI.vot 7 (of_decide_eq_true rfl) (of_decide_eq_true rfl) rfl)
      have hc : W.cell? ⟨w.heap.size, 1, none⟩ = some (.int .i64 y.ser) := (cell_of_row _ _ 1 _ _ (0, 0) hg).trans rfl
      exact opw_load1 2 6 rfl _ f _ (by simp [Instr.loadAt, go_sem, hc]) (hKQ.out _ _ (hI.put 4 7 rfl rfl (by rw [hz]; decide) rfl hUN rfl HBB (ko1_stb an nn cn y w.heap.size (w.heap.size)) (Below.refl _ _) rfl))
    · intro lQ b W hI hUN hED KQ hKQ
      have f0 := hI.got 2 (of_decide_eq_true rfl) (edge hED 2 (by kernel_rfl)) rfl
      replace f0 : aT b 5 = .string (ftS y.parts) := f0
      have f1 := hI.got 4 (of_decide_eq_true rfl) (edge hED 4 (by kernel_rfl)) rfl
      replace f1 : aT b 7 = .int .i64 y.ser := f1
      refine opw_build 99 _ rfl #[(0, .string (ftS y.parts)), (1, .int .i64 y.ser)] (by simp [ev, f0, f1]) (.agg #[.string (ftS y.parts), .int .i64 y.ser]) (by kernel_rfl) ?_
      exact hKQ.out _ _ (hI.put 5 8 rfl rfl (by rw [hz]; decide) rfl hUN rfl HBB (ko1_stb an nn cn y w.heap.size (w.heap.size)) (Below.refl _ _) rfl)
    · intro lQ b W hI hUN hED KQ hKQ
      have hgb := (hI.vot1 8 6 (of_decide_eq_true rfl) (of_decide_eq_true rfl) hUN rfl)
      have fb := ((hI.fr.same 2 (by decide)).trans g2)
      have f := hI.got 5 (of_decide_eq_true rfl) (edge hED 5 (by kernel_rfl)) rfl
      refine wp_store_row 99 _ _ rfl ((w.heap.size + 1)) #[.string (ftS y.parts), .int .i64 y.ser] fb f 99 _ hgb (by kernel_rfl) rfl (by simp [Value.oneCell']) ?_
      have ht := setRow_touch W ((w.heap.size + 1)) #[.string (ftS y.parts), .int .i64 y.ser]
      exact hKQ.out _ _ (hI.store 6 (fun j hj => by cases hj) (hI.bel.trans (ht.below (by first | exact HGE2 | omega) (Nat.le_trans HBB hI.bel.size))) (ko1_st6 an nn cn y w.heap.size (w.heap.size) hgb ht) (setRow_heap W ((w.heap.size + 1)) _ _ _ _ hgb))
  · intro b W hf hb F
    have hk := F 6 (of_decide_eq_true rfl) rfl
    rw [hf.eq]
    simp only [puts, Act.put, List.setIfInBounds_toArray, List.set_cons_zero, List.set_cons_succ]
    clear hf F
    have hK : W.heap[w.heap.size + 1]? = some (.cells #[.string (ftS y.parts), .int .i64 y.ser] 99 (0, 0)) := hk
    have HK : Hid (_ = _) := hK
    clear hk hK
    go_wp2
    exact bodyPost_ret (results_cell_row (by rfl) _ _ (w.heap.size + 1) _ _ (0, 0) _ rfl HK.out Tryd.underlying99 rfl (by kernel_rfl)) rfl ⟨rfl, hB0.trans hb⟩

end Go.Proofs.YtbfjkmlmnhphoaaDoor

set_option linter.unusedVariables false
namespace Go.Proofs.YtbfjkmlmnhphoaaDoor
open Go.RowKit Go.Maps

theorem laidOutP : laidOutB Tryd.prog = true := by kernel_rfl
theorem kRow : (99 : TypeId) < Tryd.prog.types.size := of_decide_eq_true (by kernel_rfl)
theorem kWide : (match Tryd.prog.underlying 99 with | some (.array _ _) | some (.struct _) => true | _ => false) = true := by rw [Tryd.underlying99]
set_option maxRecDepth 20000 in
theorem kLaw : Keyed Tryd.prog 99 := Keyed.of_law (deep_law_laid laidOutP (m := 2) (by omega) kRow (by kernel_rfl) kWide)
theorem kCells : Tryd.prog.cellsOf 99 = 2 := by kernel_rfl
theorem kCell2 : Tryd.prog.cellsOf 2 = 1 := by kernel_rfl
theorem kCell9 : Tryd.prog.cellsOf 9 = 1 := by kernel_rfl
theorem kType : Tryd.prog.keyType 99 = true := by kernel_rfl
theorem pos_succ {a n : Nat} (h : a < n) : ∃ m, n = m + 1 := ⟨n - 1, by omega⟩
set_option maxRecDepth 20000 in
theorem kSize : ∃ m, Tryd.prog.types.size = m + 1 := pos_succ (a := 99) kRow
/-- A name's text and a serial as a key. -/
def kl (s : ByteArray) (n : Int) : Lit := .string (keyBytes [.string s.data.toList, .int .i64 n])
theorem key_is {s : ByteArray} {n : Int} (hs : s.size ≤ maxLen) (hn : (Lit.int .i64 n).wf = true) : Go.keyOf Tryd.prog 99 (.agg #[.string s, .int .i64 n]) = some (kl s n) := by
  obtain ⟨m, hm⟩ := kSize
  unfold Go.keyOf
  rw [Tryd.underlying99]
  have hf : (Value.agg #[.string s, .int .i64 n]).formed Tryd.prog 99 = true := by simp [Value.formed, Tryd.underlying99, kCells]
  simp only [kType, hf, Bool.and_self, if_true]
  have h1 : Tryd.prog.keyLits (m + 1) 9 [.string s] = some [.string s.data.toList] := by simp [Program.keyLits, Tryd.underlying9, hs]
  have h2 : Tryd.prog.keyLits (m + 1) 2 [.int .i64 n] = some [.int .i64 n] := by simp [Program.keyLits, Tryd.underlying2, hn]
  have h3 : Tryd.prog.keyLits (m + 1 + 1) 99 [.string s, .int .i64 n] = some [.string s.data.toList, .int .i64 n] := by
    unfold Program.keyLits
    simp only [Tryd.underlying99]
    simp [kCells, kCell2, kCell9, h1, h2]
  have hc : (Value.agg #[.string s, .int .i64 n]).cells.toList = [.string s, .int .i64 n] := by simp [Value.cells]
  rw [hm, hc, h3]
  rfl
theorem key_inj {s t : ByteArray} {m n : Int} (hs : s.size ≤ maxLen) (ht : t.size ≤ maxLen) (hm : (Lit.int .i64 m).wf = true) (hn : (Lit.int .i64 n).wf = true) (h : kl s m = kl t n) : s = t ∧ m = n := by
  have h1 := key_is hs hm
  have h2 := key_is ht hn
  rw [h] at h1
  have := kLaw.inj h1 h2
  simpa using this
theorem isKey {s : ByteArray} {n : Int} (hs : s.size ≤ maxLen) (hn : (Lit.int .i64 n).wf = true) : WideAt.IsKeyLit (kl s n) := kLaw.key (key_is hs hn)

end Go.Proofs.YtbfjkmlmnhphoaaDoor

set_option linter.unusedVariables false
namespace Go.Proofs.YtbfjkmlmnhphoaaDoor
open Go.RowKit Go.Maps

theorem opw_mapUpdate {H : Type} {P : Program} {Q : Exit → Act → World → Prop} {o : Oper} {a : Act} {w : World} {K : Act → World → Prop} (m x v : Nat) (t : TypeId) (hop : o.op = .mapUpdate t (.tmp m) (.tmp x) (.tmp v))
    (k e : TypeId) (KL : Keyed P k) (ht : P.underlying t = some (.map k e)) (R : Value → Option (DataW H × List MemPlace)) (b n : Nat) (D : DataW H)
    (hm : aT a m = .map (some b)) (hown : w.ownsMap P k R b n D) (hn : n < maxLen) (key val : Value) (l : Lit) (hx : aT a x = key) (hv : aT a v = val) (hkey : Go.keyOf P k key = some l)
    (d : DataW H) (ps : List MemPlace) (hval : R val = some (d, ps))
    (hK : ∀ w', w'.ownsMap P k R b (n + 1) (D.put l d) → w.grownBy w' (some b) → K (a.put o.dst undef) w') : o.wp P a w K Q := by
  obtain ⟨w', hrun, r1, r2⟩ := hown.update KL ht hn hkey hval
  have hm' : a.eval (.tmp m) = .map (some b) := hm
  have hx' : a.eval (.tmp x) = key := hx
  have hv' : a.eval (.tmp v) = val := hv
  unfold Oper.wp
  simp [execOp, hop, hm', hx', hv', hrun, Result.andThen]
  exact hK w' r1 r2
theorem addKey_str (acc : List (List UInt8)) (x : List UInt8) : addKey (acc.map Lit.string) (.string x) = (if x ∈ acc then acc else acc ++ [x]).map Lit.string := by
  unfold addKey
  have e : ((acc.map Lit.string).any fun y => y.sameKey (.string x)) = decide (x ∈ acc) := by
    induction acc with
    | nil => rfl
    | cons z acc ih =>
      rw [List.map_cons, List.any_cons, ih]
      by_cases h : z = x
      · subst h; simp [Lit.sameKey]
      · have h2 : ¬ x = z := fun q => h q.symm
        simp [Lit.sameKey, h, h2]
  rw [e]
  by_cases h : x ∈ acc <;> simp [h]
def addS (acc : List (List UInt8)) (x : List UInt8) : List (List UInt8) := if x ∈ acc then acc else acc ++ [x]
theorem fold_str : ∀ (xs acc : List (List UInt8)), (xs.map Lit.string).foldl addKey (acc.map Lit.string) = (xs.foldl addS acc).map Lit.string
  | [], acc => rfl
  | x :: xs, acc => by
    rw [List.map_cons, List.foldl_cons, addKey_str]
    exact fold_str xs (addS acc x)
theorem addS_mem (acc : List (List UInt8)) (x y : List UInt8) : y ∈ addS acc x ↔ y ∈ acc ∨ y = x := by
  unfold addS
  split
  · rename_i h
    exact ⟨.inl, fun q => q.elim id (fun e => by rw [e]; exact h)⟩
  · simp
theorem fold_mem : ∀ (xs acc : List (List UInt8)) (y : List UInt8), y ∈ xs.foldl addS acc ↔ y ∈ acc ∨ y ∈ xs
  | [], acc, y => by simp
  | x :: xs, acc, y => by rw [List.foldl_cons, fold_mem xs, addS_mem]; simp [or_assoc]
/-- As many keys as entries: no two are alike. -/
theorem fold_len : ∀ (xs acc : List (List UInt8)), (xs.foldl addS acc).length ≤ acc.length + xs.length ∧ ((xs.foldl addS acc).length = acc.length + xs.length ↔ (∀ y ∈ xs, y ∉ acc) ∧ xs.Nodup)
  | [], acc => by simp
  | x :: xs, acc => by
    have ih := fold_len xs (addS acc x)
    rw [List.foldl_cons]
    by_cases h : x ∈ acc
    · have e : addS acc x = acc := by unfold addS; rw [if_pos h]
      rw [e] at ih ⊢
      refine ⟨by simp only [List.length_cons]; omega, ⟨fun q => ?_, fun q => absurd h (q.1 x (List.Mem.head _))⟩⟩
      simp only [List.length_cons] at q
      omega
    · have e : (addS acc x).length = acc.length + 1 := by unfold addS; rw [if_neg h]; simp
      refine ⟨by simp only [List.length_cons]; omega, ?_⟩
      have e2 : ((xs.foldl addS (addS acc x)).length = acc.length + (x :: xs).length) ↔ (xs.foldl addS (addS acc x)).length = (addS acc x).length + xs.length := by simp only [List.length_cons]; omega
      rw [e2, ih.2, List.nodup_cons]
      constructor
      · rintro ⟨q1, q2⟩
        refine ⟨fun y hy => ?_, fun hx => q1 x hx ((addS_mem _ _ _).2 (.inr rfl)), q2⟩
        rcases List.mem_cons.1 hy with rfl | hy
        · exact h
        · exact fun ha => q1 y hy ((addS_mem _ _ _).2 (.inl ha))
      · rintro ⟨q1, q2, q3⟩
        refine ⟨fun y hy ha => ?_, q3⟩
        rcases (addS_mem _ _ _).1 ha with ha | rfl
        · exact q1 y (List.Mem.tail _ hy) ha
        · exact q2 hy

end Go.Proofs.YtbfjkmlmnhphoaaDoor
