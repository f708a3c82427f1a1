import Derived.Test.YtmdfbnlgfhjnoaaGreatDoorFD10
import Derived.Test.YtmdfbnlgfhjnoaaGreatDoorFD16
set_option maxRecDepth 10000
set_option maxHeartbeats 8000000
set_option linter.unusedVariables false
namespace Go.Proofs.YtmdfbnlgfhjnoaaGreatDoor
open Go.RowKit
theorem take_snoc (l:List Int)(k:Nat)(h:k<l.length):l.take (k+1)=l.take k++[l.getD k 0]:=by
 have e:l.getD k 0=l[k]:=by simp [h]
 rw [List.take_succ_eq_append_getElem h,e]
def eightI (v:Int):List Int:=eight v.toNat
theorem eightI_len (v:Int):(eightI v).length=8:=rfl
theorem eightI_byte (v:Int):∀ k,0≤(eightI v).getD k 0∧(eightI v).getD k 0≤255:=eight_byte _
theorem digestBytes_any (v:Int)(w:World)(h0:0≤v)(h1:v≤18446744073709551615) :
  Calls Tryz.prog 183 #[.int .u64 v] w fun e w'=>∃ g,e=.returned (.slice (some ⟨g,0,none⟩) 8 8)∧Row w' (some ⟨g,0,none⟩) 8 (eightI v)∧(∃ cs fr,w'.heap[g]? = some (.cells cs 151 fr))∧Below w.heap.size w w':=by
 obtain ⟨n,rfl⟩:=Int.eq_ofNat_of_zero_le h0
 go_enter Tryz.func183,Tryz.ntmps183
 go_wp2_with fail
 refine (eight_any n _ h1).mono ?_
 rintro e w1 ⟨x0,x1,x2,x3,x4,x5,x6,x7,rfl,hx,hb1⟩
 have HX:Hid (_=_):=hx
 have HB1:Hid (_):=hb1
 clear hx hb1
 go_wp2
 go_ret
 refine ⟨w1.heap.size,rfl,⟨eightI_len _,fun k hk=>⟨w1.heap.size,0,rfl,by simp,?_⟩,eightI_byte _⟩,⟨_,_,heap_alloc_new w1 _⟩,HB1.out.alloc HB1.out.size _⟩
 rw [Nat.zero_add,cell_of_row _ w1.heap.size k _ 151 _ (heap_alloc_new w1 _)]
 have e:eightI (n:Int) = [x0,x1,x2,x3,x4,x5,x6,x7]:=by rw [HX.out]; rfl
 rw [e]
 match k,hk with
 | 0,_ | 1,_ | 2,_ | 3,_ | 4,_ | 5,_ | 6,_ | 7,_=>rfl
theorem eight_at (n q:Nat)(h:q≤7):(n:Int) / 2 ^ (8 * q) % 256=(eightI (n:Int)).getD (7 - q) 0:=by
 have e:eightI (n:Int)=eight n:=rfl
 rw [e]
 match q,h with
 | 0,_=>simp [eight]
 | 1,_=>simp [eight]
 | 2,_=>simp [eight]
 | 3,_=>simp [eight]
 | 4,_=>simp [eight]
 | 5,_=>simp [eight]
 | 6,_=>simp [eight]
 | 7,_=>simp [eight]
theorem l1Eight_any (v:Int)(w:World)(h0:0≤v)(h1:v≤18446744073709551615) :
  Calls Tryz.prog 138 #[.int .u64 v] w fun e w'=>∃ a cap,e=.returned (.slice a 8 cap)∧Own w.heap.size w' a 8 cap (eightI v)∧Below w.heap.size w w':=by
 obtain ⟨i0,hi,hz0,hz1,hz2⟩:=info_parts Tryz.info5
 obtain ⟨n,rfl⟩:=Int.eq_ofNat_of_zero_le h0
 have hoe:=own_empty w
 have hbe:Below w.heap.size w (w.alloc (.cells #[] 5)):=(Below.refl _ _).alloc (Nat.le_refl _) _
 go_enter Tryz.func138,Tryz.ntmps138
 go_wp2
 go_loopw [3,4] (fun o i wr=>∃ (a:Option Addr) (q len cap:Nat),q≤8∧len=8 - q∧i=.int .i64 ((q:Int) - 1)∧o=.slice a len cap∧Own w.heap.size wr a len cap ((eightI (n:Int)).take (8 - q))∧Below w.heap.size w wr) (fun _ i _=>((intOf i)+1).toNat)
 case atStart=>exact ⟨_,8,0,0,Nat.le_refl _,rfl,rfl,rfl,hoe,hbe⟩
 case round =>
  obtain ⟨a,q,len,cap,hq,hle,rfl,rfl,hor,hbr⟩:=hrel
  have HLe:Hid (len=8 - q):=hle
  clear hle
  rcases q with _ | q
  ·go_wp2
   go_ret
   obtain rfl:len=8:=HLe.out
   exact ⟨_,_,rfl,hor,hbr⟩
  ·have e1:((q+1:Nat):Int) - 1=(q:Int):=by omega
   rw [e1]
   clear e1
   have hl9:len≤9:=by have:=HLe.out; omega
   have hq7:q≤7:=by omega
   have hws:w.heap.size≤wr.heap.size:=hbr.size
   have HE:Hid (_=_):=eight_at n q hq7
   go_wp2_with (at_builtin; go_loud (refine wpList_append_own _ rfl _ _ 32 rfl w.heap.size 5 i0 (.int .u8 0) 1 1 Tryz.underlying32 hi hz0 hz1 hz2 rfl (by decide) _ _ _ rfl (hor.row.alloc _) ⟨wr.heap.size,0,none⟩ 1 1 [_] rfl rfl (cell_one_new _ _ _) (by intro u hu; simp at hu; subst hu; rfl) (by unfold maxLen; omega) (by omega) (by simp; omega) ?_); intro v' w1 hown' hgrow' _)
   have hb1:Below w.heap.size w w1:=below_appended (hbr.alloc hws _) (by simp; omega) (hor.row.alloc _) hgrow'
   rw [HE.out] at hown'
   obtain ⟨a',cap',rfl,ho⟩:=own_appended (ys:=[(eightI (n:Int)).getD (7 - q) 0]) hown' hor.byte (by simpa using snoc_byte (xs:=[]) (by simp) _ (eightI_byte (n:Int) (7 - q)))
   have e2:(eightI (n:Int)).take (8 - (q+1))++[(eightI (n:Int)).getD (7 - q) 0]=(eightI (n:Int)).take (8 - q):=by
    rw [show 8 - q=7 - q+1 by omega,show 8 - (q+1)=7 - q by omega,take_snoc _ _ (by rw [eightI_len]; omega)]
   rw [e2] at ho
   go_roundw
   case rel=>exact ⟨a',q,len+1,cap',by omega,by have:=HLe.out; omega,rfl,rfl,ho,hb1⟩
   case measure=>simp [intOf]
open Go.RowKit
structure RowU (w:World)(a:Option Addr)(n:Nat)(zs:List Int):Prop where
 len:zs.length=n
 get:∀ k,k<n→∃ b off,a=some ⟨b,off,none⟩∧b<w.heap.size∧w.cell? ⟨b,off+k,none⟩=some (.int .u64 (zs.getD k 0))
 rng:∀ k,U64 (zs.getD k 0)
theorem RowU.kept {w w':World}{a:Option Addr}{n:Nat}{zs:List Int}(h:RowU w a n zs)(hb:Below w.heap.size w w'):RowU w' a n zs:=by
 refine ⟨h.len,fun k hk=>?_,h.rng⟩
 obtain ⟨b,off,ha,hlt,hc⟩:=h.get k hk
 exact ⟨b,off,ha,Nat.lt_of_lt_of_le hlt hb.size,(hb.cell (p:=⟨b,off+k,none⟩) hlt).trans hc⟩
theorem RowU.take {w:World}{a:Option Addr}{n:Nat}{zs:List Int}(h:RowU w a n zs)(k:Nat)(hk:k≤n):RowU w a k (zs.take k):=by
 refine ⟨by rw [List.length_take,h.len]; omega,fun j hj=>?_,fun j=>?_⟩
 ·obtain ⟨b,off,ha,hb,hc⟩:=h.get j (by omega)
  exact ⟨b,off,ha,hb,hc.trans (by simp [hj])⟩
 ·have:=h.rng j
  rw [List.getD_eq_getElem?_getD,List.getElem?_take]
  split
  ·simpa [List.getD_eq_getElem?_getD] using this
  ·simp [U64]
structure OwnU (B:Nat)(w:World)(a:Option Addr)(n cap:Nat)(zs:List Int):Prop where
 row:w.ownsRow B 25 1 (.slice a n cap) n (zs.map (Value.int .u64))
 rng:∀ k,U64 (zs.getD k 0)
theorem OwnU.len {B:Nat}{w:World}{a:Option Addr}{n cap:Nat}{zs:List Int}(h:OwnU B w a n cap zs):zs.length=n:=by simpa using h.row.1
theorem OwnU.shape {B:Nat}{w:World}{a:Option Addr}{n cap:Nat}{zs:List Int}(h:OwnU B w a n cap zs)(hn:0<n):∃ g,a=some ⟨g,0,none⟩∧B≤g∧g<w.heap.size:=by
 rcases h.row.2 with ⟨_,h0⟩ | ⟨g,cap',cur,hv,hb,hg,_⟩
 ·omega
 ·simp only [Value.slice.injEq] at hv
  exact ⟨g,hv.1,hb,(Array.getElem?_eq_some_iff.1 hg).1⟩
theorem OwnU.toRow {B:Nat}{w:World}{a:Option Addr}{n cap:Nat}{zs:List Int}(h:OwnU B w a n cap zs):RowU w a n zs:=by
 refine ⟨h.len,fun k hk=>?_,h.rng⟩
 obtain ⟨g,rfl,_,hg⟩:=h.shape (by omega)
 refine ⟨g,0,rfl,hg,?_⟩
 rw [Nat.zero_add,World.ownsRow.cellAt h.row k (by omega)]
 have:=h.len
 simp [show k<zs.length by omega]
theorem OwnU.kept {B:Nat}{w w':World}{a:Option Addr}{n cap:Nat}{zs:List Int}(h:OwnU B w a n cap zs)(hb:Below w.heap.size w w'):OwnU B w' a n cap zs:=⟨ownsRow_below h.row hb,h.rng⟩
theorem ownU_appended {B:Nat}{w:World}{v:Value}{m:Nat}{zs:List Int}(hz:∀ k,U64 (zs.getD k 0))(h:w.ownsRow B 25 1 v m (zs.map (Value.int .u64))):∃ a cap,v=.slice a m cap∧OwnU B w a m cap zs:=by
 rcases h.2 with ⟨rfl,rfl⟩ | ⟨g,cap,cur,rfl,_⟩
 ·exact ⟨_,_,rfl,h,hz⟩
 ·exact ⟨_,_,rfl,h,hz⟩
theorem u64_set {zs:List Int}(h:∀ k,U64 (zs.getD k 0))(i:Nat){x:Int}(hx:U64 x):∀ k,U64 ((zs.set i x).getD k 0):=by
 intro k
 have:=h k
 rw [List.getD_eq_getElem?_getD] at this
 rw [List.getD_eq_getElem?_getD,List.getElem?_set]
 split
 ·split
  ·exact hx
  ·simp [U64]
 ·exact this
theorem u64_rep (n:Nat):∀ k,U64 ((List.replicate n (0:Int)).getD k 0):=by
 intro k
 rw [List.getD_eq_getElem?_getD,List.getElem?_replicate]
 split <;> simp [U64]
theorem u64_half {zs:List Int}(h:∀ k,U64 (zs.getD k 0))(j:Nat):∀ k,U64 ((half zs j).getD k 0):=by
 intro k
 unfold half
 rw [List.getD_eq_getElem?_getD,List.getElem?_append]
 split
 ·rw [List.getElem?_take]
  split
  ·simpa [List.getD_eq_getElem?_getD] using h k
  ·simp [U64]
 ·rw [List.getElem?_replicate]
  split <;> simp [U64]
theorem ownU_empty (w:World):OwnU w.heap.size (w.alloc (.cells #[] 25)) (some ⟨w.heap.size,0,none⟩) 0 0 [] :=
 ⟨World.ownsRow_lit w #[] 0 (Nat.le_refl _) (Nat.zero_le _) rfl,by simp [U64]⟩
theorem ownU_none (B:Nat)(w:World):OwnU B w none 0 0 []:=⟨World.ownsRow_nil _ _ _ _,by simp [U64]⟩
abbrev Part:=Option Addr × Nat × Nat × List Int
def pval (p:Part):Value:=.slice p.1 p.2.1 p.2.2.1
def TyB (w:World)(a:Option Addr):Prop:=∀ b off s,a=some ⟨b,off,s⟩→∃ cs t fr,w.heap[b]? = some (.cells cs t fr)∧t≠32
theorem TyB.kept {w w':World}{a:Option Addr}(h:TyB w a)(hb:Below w.heap.size w w'):TyB w' a:=by
 intro b off s e
 obtain ⟨cs,t,fr,h1,h2⟩:=h b off s e
 exact ⟨cs,t,fr,(hb.block _ (Array.getElem?_eq_some_iff.1 h1).1).trans h1,h2⟩
theorem Own.ty {B:Nat}{w:World}{a:Option Addr}{n cap:Nat}{bs:List Int}(h:Own B w a n cap bs):TyB w a:=by
 intro b off s e
 rcases h.row.2 with ⟨hv,_⟩ | ⟨g,cap',cur,hv,hb,hg,_⟩
 ·simp only [Value.slice.injEq] at hv; rw [hv.1] at e; cases e
 ·simp only [Value.slice.injEq] at hv
  rw [hv.1] at e
  simp at e
  obtain ⟨rfl,_⟩:=e
  exact ⟨cur,5,(0,0),hg,by decide⟩
structure Good (w:World)(p:Part):Prop where
 row:Row w p.1 p.2.1 p.2.2.2
 nil:p.1=none→p.2.2.1=0
 ty:TyB w p.1
theorem Good.kept {w w':World}{p:Part}(h:Good w p)(hb:Below w.heap.size w w'):Good w' p:=⟨h.row.kept hb,h.nil,h.ty.kept hb⟩
structure OwnP (B:Nat)(w:World)(a:Option Addr)(n cap:Nat)(ps:List Part):Prop where
 row:w.ownsRow B 32 1 (.slice a n cap) n (ps.map pval)
 get:∀ p∈ps,Good w p
theorem OwnP.rows {B:Nat}{w:World}{a:Option Addr}{n cap:Nat}{ps:List Part}(h:OwnP B w a n cap ps):Rows2 w a n (ps.map fun p=>p.2.2.2):=by
 have hl:ps.length=n:=by simpa using h.row.1
 refine ⟨by simpa using hl,fun k hk=>?_⟩
 rcases h.row.2 with ⟨_,h0⟩ | ⟨g,cap',cur,hv,hb,hg,_⟩
 ·omega
 ·simp only [Value.slice.injEq] at hv
  obtain ⟨rfl,_,rfl⟩:=hv
  have hkl:k<ps.length:=by omega
  refine ⟨g,0,rfl,(Array.getElem?_eq_some_iff.1 hg).1,ps[k].1,ps[k].2.1,ps[k].2.2.1,?_,?_,(h.get ps[k] (List.getElem_mem hkl)).nil⟩
  ·rw [Nat.zero_add,World.ownsRow.cellAt h.row k (by omega)]
   simp [hkl,pval]
  ·have e:(ps.map fun p=>p.2.2.2).getD k []=ps[k].2.2.2:=by simp [hkl]
   rw [e]
   exact (h.get ps[k] (List.getElem_mem hkl)).row
theorem OwnP.kept {B:Nat}{w w':World}{a:Option Addr}{n cap:Nat}{ps:List Part}(h:OwnP B w a n cap ps)(hb:Below w.heap.size w w'):OwnP B w' a n cap ps :=
 ⟨ownsRow_below h.row hb,fun p hp=>(h.get p hp).kept hb⟩
theorem ownP_one (w:World)(p:Part)(h:Good w p):OwnP w.heap.size (w.alloc (.cells #[pval p] 32)) (some ⟨w.heap.size,0,none⟩) 1 1 [p] :=
 ⟨World.ownsRow_lit w #[pval p] 1 (Nat.le_refl _) (by unfold maxLen; omega) rfl,fun q hq=>by
  simp at hq
  subst hq
  exact h.kept ((Below.refl _ _).alloc (Nat.le_refl _) _)⟩
theorem ownP_appended {B n:Nat}{w w':World}{v vold:Value}{m:Nat}{ps:List Part}{p:Part}{xs:List Value}(hold:w.ownsRow B 32 1 vold n xs)(hv:w'.ownsRow B 32 1 v m ((ps++[p]).map pval))(hg:w.grownBy w' vold.ownBlock)
  (hps:∀ q∈ps,Good w q) (hp:Good w p):∃ a cap,v=.slice a m cap∧OwnP B w' a m cap (ps++[p]):=by
 have one:∀ b:Nat,(∃ cs t fr,w.heap[b]? = some (Obj.cells cs t fr)∧t≠32)→w'.heap[b]? = w.heap[b]?:=by
  intro b hb
  obtain ⟨cs,t,fr,h1,h2⟩:=hb
  refine hg.block b (Array.getElem?_eq_some_iff.1 h1).1 (fun e=>?_)
  rcases hold.2 with ⟨h',_⟩ | ⟨g,cap,cur,h',_,hgg,_⟩
  ·rw [h'] at e; cases e
  ·rw [h'] at e
   simp [Value.ownBlock] at e
   subst e
   rw [hgg] at h1
   simp at h1
   exact h2 h1.2.1.symm
 have key:∀ q,Good w q→Good w' q:=by
  intro q hq
  refine ⟨⟨hq.row.len,fun k hk=>?_,hq.row.byte⟩,hq.nil,fun b off s e=>?_⟩
  ·obtain ⟨b,off,ha,hb,hc⟩:=hq.row.get k hk
   exact ⟨b,off,ha,Nat.lt_of_lt_of_le hb hg.size,(World.cell?_of_block (a:=⟨b,off+k,none⟩) (one b (hq.ty b off none ha))).trans hc⟩
  ·obtain ⟨cs,t,fr,h1,h2⟩:=hq.ty b off s e
   exact ⟨cs,t,fr,(one b ⟨cs,t,fr,h1,h2⟩).trans h1,h2⟩
 have all:∀ q∈ps++[p],Good w' q:=by
  intro q hq
  rw [List.mem_append,List.mem_singleton] at hq
  rcases hq with h | rfl
  ·exact key q (hps q h)
  ·exact key q hp
 rcases hv.2 with ⟨rfl,rfl⟩ | ⟨g,cap,cur,rfl,r⟩
 ·exact ⟨_,_,rfl,hv,all⟩
 ·exact ⟨_,_,rfl,hv,all⟩
def strL (s:ByteArray):List Int:=(List.range s.size).map (cAt s)
theorem strL_len (s:ByteArray):(strL s).length=s.size:=by simp [strL]
theorem strL_get (s:ByteArray)(k:Nat)(h:k<s.size):(strL s).getD k 0=cAt s k:=by simp [strL,h]
theorem conv_strT (w:World)(s:ByteArray) :
  ∃ cp W,(convert 9 32 (.string s)).run Tryz.prog w=.ok (.slice (some ⟨w.heap.size,0,none⟩) s.size cp) W∧Good W (some ⟨w.heap.size,0,none⟩,s.size,cp,strL s)∧Below w.heap.size w W:=by
 have hr:=run_bytes_of_string (P:=Tryz.prog) w 9 32 5 s Tryz.underlying9 Tryz.underlying32 Tryz.underlying5
 obtain ⟨cp,hcp⟩:∃ cp,cp=grownCap w s.size 0 5:=⟨_,rfl⟩
 rw [← hcp] at hr
 refine ⟨cp,_,hr,⟨⟨strL_len s,fun k hk=>⟨w.heap.size,0,rfl,by simp,?_⟩,fun k=>?_⟩,(fun h=>by cases h),?_⟩,((Below.refl _ _).drew).alloc (Nat.le_refl _) _⟩
 ·rw [Nat.zero_add,cell_of_row _ w.heap.size k _ 5 _ (heap_alloc_new w.drew _),strL_get s k hk,cAt_get s k hk]
  have h1:k<s.data.size:=hk
  unfold bytesRow
  rw [Array.getElem?_append_left (by simpa using h1),Array.getElem?_map,Array.getElem?_eq_getElem h1]
  rfl
 ·by_cases hk:k<s.size
  ·rw [strL_get s k hk,cAt_get s k hk]
   have:=s[k].toNat_lt
   omega
  ·rw [List.getD_eq_getElem?_getD,List.getElem?_eq_none (by rw [strL_len]; omega)]; simp
 ·intro b off s' e
  simp at e
  obtain ⟨rfl,_⟩:=e
  exact ⟨_,5,_,heap_alloc_new w.drew _,by decide⟩
open Go.RowKit
def SaysP (P:Prop)(w:World)(e:Ending)(w':World):Prop:=∃ b,e=.returned (.bool b)∧Hid (b=true↔P)∧Below w.heap.size w w'
theorem saysP_t {P:Prop}{w w':World}(h:P)(hb:Below w.heap.size w w'):SaysP P w (.returned (.bool true)) w':=⟨true,rfl,⟨fun _=>h,fun _=>rfl⟩,hb⟩
theorem saysP_f {P:Prop}{w w':World}(h:¬ P)(hb:Below w.heap.size w w'):SaysP P w (.returned (.bool false)) w':=⟨false,rfl,⟨fun e=>(by cases e),fun e=>absurd e h⟩,hb⟩
theorem isPolicy_any (x:Int)(w:World):Calls Tryz.prog 209 #[.int .i64 x] w fun e w'=>e=.returned (.bool (decide (1≤x∧x≤1000)))∧w'=w:=by
 by_cases h:1≤x∧x≤1000
 ·rw [decide_eq_true h]
  go_enter Tryz.func209,Tryz.ntmps209
  go_wp2_with fail
  refine (inBounds_t x 1 1000 _ h).mono ?_
  rintro e w1 ⟨rfl,rfl⟩
  go_wp2
  go_ret
  exact ⟨rfl,rfl⟩
 ·rw [decide_eq_false h]
  go_enter Tryz.func209,Tryz.ntmps209
  go_wp2_with fail
  refine (inBounds_f x 1 1000 _ h).mono ?_
  rintro e w1 ⟨rfl,rfl⟩
  go_wp2
  go_ret
  exact ⟨rfl,rfl⟩
theorem isPolicyOrAny_any (x:Int)(w:World):Calls Tryz.prog 142 #[.int .i64 x] w fun e w'=>e=.returned (.bool (decide (0≤x∧x≤1000)))∧w'=w:=by
 by_cases h:0≤x∧x≤1000
 ·rw [decide_eq_true h]
  go_enter Tryz.func142,Tryz.ntmps142
  go_wp2_with fail
  refine (inBounds_t x 0 1000 _ h).mono ?_
  rintro e w1 ⟨rfl,rfl⟩
  go_wp2
  go_ret
  exact ⟨rfl,rfl⟩
 ·rw [decide_eq_false h]
  go_enter Tryz.func142,Tryz.ntmps142
  go_wp2_with fail
  refine (inBounds_f x 0 1000 _ h).mono ?_
  rintro e w1 ⟨rfl,rfl⟩
  go_wp2
  go_ret
  exact ⟨rfl,rfl⟩
theorem everyPol_any (a:Option Addr)(n c:Nat)(zs:List Int)(w:World)(h:Row64 w a n zs)(hn:n≤9223372036854775807) :
  Calls Tryz.prog 141 #[.slice a n c,.func (Fn.func 142) #[] #[]] w (SaysP (∀ j,j<zs.length→0≤zs.getD j 0∧zs.getD j 0≤1000) w):=by
 have H0:Hid (Row64 w a n zs):=h
 have HL:Hid (zs.length=n):=h.len
 clear h
 go_enter Tryz.func141,Tryz.ntmps141
 go_wp2
 go_loopw [9] (fun i wr=>∃ k:Nat,k≤n∧i=.int .i64 k∧Hid (∀ j,j<k→0≤zs.getD j 0∧zs.getD j 0≤1000)∧w=wr) (fun i _=>n - (intOf i).toNat)
 case atStart=>exact ⟨0,Nat.zero_le _,rfl,fun k hk=>absurd hk (Nat.not_lt_zero _),rfl⟩
 case round =>
  obtain ⟨k,hk,rfl,HE,rfl⟩:=hrel
  by_cases hlt:k<n
  ·obtain ⟨b,off,rfl,hb,hc⟩:=H0.out.get k hlt
   obtain ⟨z,hz⟩:∃ z,z=zs.getD k 0:=⟨_,rfl⟩
   rw [← hz] at hc
   have HZ:Hid (z=zs.getD k 0):=hz
   have hlti:(k:Int)<(n:Int):=by omega
   clear hz
   go_wp2_with fail
   refine (isPolicyOrAny_any z _).mono ?_
   rintro e w2 ⟨rfl,rfl⟩
   by_cases h0:0≤z∧z≤1000
   ·rw [decide_eq_true h0]
    have HN:Hid (∀ j,j<k+1→0≤zs.getD j 0∧zs.getD j 0≤1000):=fun j hj=>by
     by_cases e:j<k
     ·exact HE.out j e
     ·obtain rfl:j=k:=by omega
      rw [← HZ.out]; exact h0
    clear h0 HE
    go_wp2
    go_roundw
    case rel=>exact ⟨k+1,by omega,by go_num,HN,by trivial⟩
    case measure=>simp [intOf]; omega
   ·rw [decide_eq_false h0]
    have HN:Hid (¬ (∀ j,j<zs.length→0≤zs.getD j 0∧zs.getD j 0≤1000)):=fun e=>h0 (by rw [HZ.out]; exact e k (by rw [HL.out]; exact hlt))
    clear h0 HE
    go_wp2
    go_ret
    exact saysP_f HN.out (Below.refl _ _)
  ·obtain rfl:k=n:=by omega
   go_wp2
   go_ret
   exact saysP_t (fun j hj=>HE.out j (by rw [HL.out] at hj; exact hj)) (Below.refl _ _)
theorem limitOk_any (x:Int)(w:World):Calls Tryz.prog 145 #[.int .i64 x] w fun e w'=>e=.returned (.bool (decide ((-1)≤x∧x≤10)))∧w'=w:=by
 by_cases h:(-1)≤x∧x≤10
 ·rw [decide_eq_true h]
  go_enter Tryz.func145,Tryz.ntmps145
  go_wp2_with fail
  refine (inBounds_t x (-1) 10 _ h).mono ?_
  rintro e w1 ⟨rfl,rfl⟩
  go_wp2
  go_ret
  exact ⟨rfl,rfl⟩
 ·rw [decide_eq_false h]
  go_enter Tryz.func145,Tryz.ntmps145
  go_wp2_with fail
  refine (inBounds_f x (-1) 10 _ h).mono ?_
  rintro e w1 ⟨rfl,rfl⟩
  go_wp2
  go_ret
  exact ⟨rfl,rfl⟩
theorem everyLim_any (a:Option Addr)(n c:Nat)(zs:List Int)(w:World)(h:Row64 w a n zs)(hn:n≤9223372036854775807) :
  Calls Tryz.prog 141 #[.slice a n c,.func (Fn.func 145) #[] #[]] w (SaysP (∀ j,j<zs.length→(-1)≤zs.getD j 0∧zs.getD j 0≤10) w):=by
 have H0:Hid (Row64 w a n zs):=h
 have HL:Hid (zs.length=n):=h.len
 clear h
 go_enter Tryz.func141,Tryz.ntmps141
 go_wp2
 go_loopw [9] (fun i wr=>∃ k:Nat,k≤n∧i=.int .i64 k∧Hid (∀ j,j<k→(-1)≤zs.getD j 0∧zs.getD j 0≤10)∧w=wr) (fun i _=>n - (intOf i).toNat)
 case atStart=>exact ⟨0,Nat.zero_le _,rfl,fun k hk=>absurd hk (Nat.not_lt_zero _),rfl⟩
 case round =>
  obtain ⟨k,hk,rfl,HE,rfl⟩:=hrel
  by_cases hlt:k<n
  ·obtain ⟨b,off,rfl,hb,hc⟩:=H0.out.get k hlt
   obtain ⟨z,hz⟩:∃ z,z=zs.getD k 0:=⟨_,rfl⟩
   rw [← hz] at hc
   have HZ:Hid (z=zs.getD k 0):=hz
   have hlti:(k:Int)<(n:Int):=by omega
   clear hz
   go_wp2_with fail
   refine (limitOk_any z _).mono ?_
   rintro e w2 ⟨rfl,rfl⟩
   by_cases h0:(-1)≤z∧z≤10
   ·rw [decide_eq_true h0]
    have HN:Hid (∀ j,j<k+1→(-1)≤zs.getD j 0∧zs.getD j 0≤10):=fun j hj=>by
     by_cases e:j<k
     ·exact HE.out j e
     ·obtain rfl:j=k:=by omega
      rw [← HZ.out]; exact h0
    clear h0 HE
    go_wp2
    go_roundw
    case rel=>exact ⟨k+1,by omega,by go_num,HN,by trivial⟩
    case measure=>simp [intOf]; omega
   ·rw [decide_eq_false h0]
    have HN:Hid (¬ (∀ j,j<zs.length→(-1)≤zs.getD j 0∧zs.getD j 0≤10)):=fun e=>h0 (by rw [HZ.out]; exact e k (by rw [HL.out]; exact hlt))
    clear h0 HE
    go_wp2
    go_ret
    exact saysP_f HN.out (Below.refl _ _)
  ·obtain rfl:k=n:=by omega
   go_wp2
   go_ret
   exact saysP_t (fun j hj=>HE.out j (by rw [HL.out] at hj; exact hj)) (Below.refl _ _)
def polsP (zs:List Int):Prop:=zs.length≤6∧(∀ j,j<zs.length→0≤zs.getD j 0∧zs.getD j 0≤1000)∧unl zs
theorem policiesOk_any (a:Option Addr)(n c:Nat)(zs:List Int)(w:World)(h:Row64 w a n zs)(hn:n≤c)(hc:c≤9223372036854775807) :
  Calls Tryz.prog 97 #[.slice a n c] w (SaysP (polsP zs) w):=by
 have H0:Hid (Row64 w a n zs):=h
 have HL:Hid (zs.length=n):=h.len
 clear h
 by_cases h6:n≤6
 ·have h6':(n:Int)≤6:=by omega
  go_enter Tryz.func97,Tryz.ntmps97
  go_wp2_with fail
  refine (everyPol_any a n c zs _ H0.out (by omega)).mono ?_
  rintro e w1 ⟨b,rfl,HB,hb1⟩
  cases b with
  | false =>
   have HN:Hid (¬ polsP zs):=fun e=>absurd (HB.out.2 e.2.1) (by decide)
   clear HB
   go_wp2
   go_ret
   exact saysP_f HN.out hb1
  | true =>
   have HT:Hid (∀ j,j<zs.length→0≤zs.getD j 0∧zs.getD j 0≤1000):=HB.out.1 rfl
   clear HB
   go_wp2_with fail
   refine (allUnlike_any a n c zs _ (H0.out.kept hb1) hn hc).mono ?_
   rintro e w2 ⟨rfl,rfl⟩
   have FIN:Hid (decide (unl zs)=true↔polsP zs):=⟨fun e=>⟨by rw [HL.out]; exact h6,HT.out,of_decide_eq_true e⟩,fun e=>decide_eq_true e.2.2⟩
   obtain ⟨d,hd⟩:∃ d,d=decide (unl zs):=⟨_,rfl⟩
   rw [← hd] at FIN ⊢
   clear hd
   go_wp2
   go_ret
   exact ⟨_,rfl,FIN,hb1⟩
 ·have h6':¬ (n:Int)≤6:=by omega
  have HN:Hid (¬ polsP zs):=fun e=>h6 (by rw [← HL.out]; exact e.1)
  go_enter Tryz.func97,Tryz.ntmps97
  go_wp2
  go_ret
  exact saysP_f HN.out (Below.refl _ _)
def mapP (p:Int × Int):Prop:=(1≤p.1∧p.1≤1000)∧(1≤p.2∧p.2≤1000)
instance (p:Int × Int):Decidable (mapP p):=by unfold mapP; infer_instance
theorem mapOk_any (p:Int × Int)(w:World):Calls Tryz.prog 179 #[pmv p] w fun e w'=>e=.returned (.bool (decide (mapP p)))∧Below w.heap.size w w':=by
 obtain ⟨x,y⟩:=p
 unfold pmv
 have hbl:Below w.heap.size w (w.alloc (.cells #[.int .i64 x,.int .i64 y] 115)):=(Below.refl _ _).alloc (Nat.le_refl _) _
 by_cases h1:1≤x∧x≤1000
 ·have HD:Hid (decide (1≤y∧y≤1000)=decide (mapP (x,y))):=by show _=_; exact decide_eq_decide.2 ⟨fun h=>⟨h1,h⟩,fun h=>h.2⟩
  have HD1:Hid (decide (1≤x∧x≤1000)=true):=decide_eq_true h1
  clear h1
  go_enter Tryz.func179,Tryz.ntmps179
  go_wp2_with fail
  refine (isPolicy_any x _).mono ?_
  rintro e w1 ⟨rfl,rfl⟩
  rw [HD1.out]
  go_wp2_with fail
  refine (isPolicy_any y _).mono ?_
  rintro e w1 ⟨rfl,rfl⟩
  rw [HD.out]
  obtain ⟨d,hd⟩:∃ d,d=decide (mapP (x,y)):=⟨_,rfl⟩
  rw [← hd]
  have HDD:Hid (d=decide (mapP (x,y))):=hd
  clear hd HD
  go_wp2
  go_ret
  exact ⟨by rw [← HDD.out]; rfl,hbl⟩
 ·have HD:Hid (decide (mapP (x,y))=false):=decide_eq_false (fun h=>h1 h.1)
  have HD1:Hid (decide (1≤x∧x≤1000)=false):=decide_eq_false h1
  clear h1
  go_enter Tryz.func179,Tryz.ntmps179
  go_wp2_with fail
  refine (isPolicy_any x _).mono ?_
  rintro e w1 ⟨rfl,rfl⟩
  rw [HD1.out]
  go_wp2
  go_ret
  exact ⟨by rw [HD.out]; rfl,hbl⟩
def mapsP (ps:List (Int × Int)):Prop:=∀ j,j<ps.length→mapP (ps.getD j (0,0))
theorem everyMap_any (a:Option Addr)(n c:Nat)(ps:List (Int × Int))(w:World)(h:Pms w a n ps) :
  Calls Tryz.prog 178 #[.slice a n c,.func (Fn.func 179) #[] #[]] w (SaysP (mapsP ps) w):=by
 have H0:Hid (Pms w a n ps):=h
 have HL:Hid (ps.length=n):=h.len
 have hn:=h.max
 clear h
 go_enter Tryz.func178,Tryz.ntmps178
 go_wp2
 go_loopw [9] (fun i wr=>∃ k:Nat,k≤n∧i=.int .i64 k∧Hid (∀ j,j<k→mapP (ps.getD j (0,0)))∧Below w.heap.size w wr) (fun i _=>n - (intOf i).toNat)
 case atStart=>exact ⟨0,Nat.zero_le _,rfl,fun k hk=>absurd hk (Nat.not_lt_zero _),Below.refl _ _⟩
 case round =>
  obtain ⟨k,hk,rfl,HE,hbr⟩:=hrel
  have hws:=hbr.size
  by_cases hlt:k<n
  ·obtain ⟨b,off,rfl,hlb,x0,x1⟩:=(H0.out.kept hbr).get k hlt
   obtain ⟨p,hp⟩:∃ p,p=ps.getD k (0,0):=⟨_,rfl⟩
   rw [← hp] at x0 x1
   have HP:Hid (p=ps.getD k (0,0)):=hp
   have hlti:(k:Int)<(n:Int):=by omega
   have hbz:Below wr.heap.size wr (wr.alloc (.cells #[.int .i64 p.1,.int .i64 p.2] 115)):=(Below.refl _ _).alloc (Nat.le_refl _) _
   clear hp
   go_wp2_with fail
   refine (mapOk_any p _).mono ?_
   rintro e w2 ⟨rfl,hb2⟩
   have B2:Below w.heap.size w w2:=keepP hbr (keepP hbz hb2)
   by_cases h0:mapP p
   ·rw [decide_eq_true h0]
    have HN:Hid (∀ j,j<k+1→mapP (ps.getD j (0,0))):=fun j hj=>by
     by_cases e:j<k
     ·exact HE.out j e
     ·obtain rfl:j=k:=by omega
      rw [← HP.out]; exact h0
    clear h0 HE hb2 hbz hbr x0 x1
    go_wp2
    go_roundw
    case rel=>exact ⟨k+1,by omega,by go_num,HN,B2⟩
    case measure=>simp [intOf]; omega
   ·rw [decide_eq_false h0]
    have HN:Hid (¬ mapsP ps):=fun e=>h0 (by rw [HP.out]; exact e k (by rw [HL.out]; exact hlt))
    clear h0 HE hb2 hbz hbr x0 x1
    go_wp2
    go_ret
    exact saysP_f HN.out B2
  ·obtain rfl:k=n:=by omega
   go_wp2
   go_ret
   exact saysP_t (fun j hj=>HE.out j (by rw [HL.out] at hj; exact hj)) hbr
theorem mapsOk_any (a:Option Addr)(n c:Nat)(ps:List (Int × Int))(w:World)(h:Pms w a n ps) :
  Calls Tryz.prog 147 #[.slice a n c] w (SaysP (ps.length≤6∧mapsP ps) w):=by
 have H0:Hid (Pms w a n ps):=h
 have HL:Hid (ps.length=n):=h.len
 have hn:=h.max
 clear h
 by_cases h6:n≤6
 ·have h6':(n:Int)≤6:=by omega
  go_enter Tryz.func147,Tryz.ntmps147
  go_wp2_with fail
  refine (everyMap_any a n c ps _ H0.out).mono ?_
  rintro e w1 ⟨b,rfl,HB,hb1⟩
  have FIN:Hid (b=true↔ps.length≤6∧mapsP ps):=⟨fun e=>⟨by rw [HL.out]; exact h6,HB.out.1 e⟩,fun e=>HB.out.2 e.2⟩
  go_wp2
  go_ret
  exact ⟨_,rfl,FIN,hb1⟩
 ·have h6':¬ (n:Int)≤6:=by omega
  have HN:Hid (¬ (ps.length≤6∧mapsP ps)):=fun e=>h6 (by rw [← HL.out]; exact e.1)
  go_enter Tryz.func147,Tryz.ntmps147
  go_wp2
  go_ret
  exact saysP_f HN.out (Below.refl _ _)
open Go.RowKit
theorem Tryz.infoBytes:(Tryz.prog.info? 32).map (fun i=>(i.zero,i.size,i.bytes))=some (some (.slice none 0 0),1,24):=by kernel_rfl
def hashD (word:List Int)(ds:List Int):Int:=hashL (partsL (word::ds.map eightI))
theorem hashD_bd (word ds:List Int):U64 (hashD word ds):=hashL_bd _
def bytesOfP (ps:List Part):List (List Int):=ps.map fun p=>p.2.2.2
theorem total_parts (word:List Int)(ds:List Int):total (word::ds.map eightI)=word.length+8 * ds.length:=by
 unfold total
 rw [List.map_cons,List.sum_cons,List.map_map]
 have:∀ l:List Int,(l.map (List.length ∘ eightI)).sum=8 * l.length:=by
  intro l
  induction l with
  | nil=>rfl
  | cons x r ih=>rw [List.map_cons,List.sum_cons,ih,List.length_cons]; simp [eightI_len]; omega
 rw [this]
theorem map_snoc (ds:List Int)(k:Nat)(h:k<ds.length):(ds.take (k+1)).map eightI=(ds.take k).map eightI++[eightI (ds.getD k 0)]:=by rw [take_snoc ds k h,List.map_append]; rfl
theorem hashDigests_any (s:ByteArray)(a:Option Addr)(n c:Nat)(ds:List Int)(w:World)(h:RowU w a n ds)(hn:n≤100000)(hs:s.size≤1000) :
  Calls Tryz.prog 288 #[.string s,.slice a n c] w fun e w'=>e=.returned (.int .u64 (hashD (strL s) ds))∧Below w.heap.size w w':=by
 obtain ⟨i0,hi,hz0,hz1,hz2⟩:=info_parts Tryz.infoBytes
 have H0:Hid (RowU w a n ds):=h
 have HL:Hid (ds.length=n):=h.len
 clear h
 obtain ⟨cp,W,hcv,hgd,hb0⟩:=conv_strT w s
 have HO:Hid (OwnP W.heap.size (W.alloc (.cells #[.slice (some ⟨w.heap.size,0,none⟩) s.size cp] 32)) (some ⟨W.heap.size,0,none⟩) 1 1 [(some ⟨w.heap.size,0,none⟩,s.size,cp,strL s)]):=ownP_one W _ hgd
 have hb1:Below w.heap.size w (W.alloc (.cells #[.slice (some ⟨w.heap.size,0,none⟩) s.size cp] 32)):=hb0.alloc hb0.size _
 have hWs:=hb0.size
 go_enter Tryz.func288,Tryz.ntmps288
 go_wp2
 clear hcv
 go_loopw [5,13] (fun o i wr=>∃ (k m cc:Nat) (ao:Option Addr) (ps:List Part),k≤n∧m=k+1∧i=.int .i64 k∧o=.slice ao m cc∧OwnP w.heap.size wr ao m cc ps∧Hid (bytesOfP ps=strL s::(ds.take k).map eightI)∧Below w.heap.size w wr) (fun _ i _=>n - (intOf i).toNat)
 case atStart=>exact ⟨0,1,1,_,_,Nat.zero_le _,rfl,rfl,rfl,⟨⟨HO.out.row.1,by rcases HO.out.row.2 with h | ⟨g,cap,cur,hv,hb,r⟩; exact .inl h; exact .inr ⟨g,cap,cur,hv,by omega,r⟩⟩,HO.out.get⟩,rfl,hb1⟩
 case round =>
  obtain ⟨k,m,cc,ao,ps,hk,rfl,rfl,rfl,hor,HP,hbr⟩:=hrel
  have hws:=hbr.size
  by_cases hlt:k<n
  ·obtain ⟨b,off,rfl,hlb,hc0⟩:=H0.out.get k hlt
   have hcell:wr.cell? ⟨b,off+k,none⟩=some (.int .u64 (ds.getD k 0)):=(hbr.cell (p:=⟨b,off+k,none⟩) hlb).trans hc0
   obtain ⟨hd0,hd1⟩:=H0.out.rng k
   obtain ⟨d,hd⟩:∃ d,d=ds.getD k 0:=⟨_,rfl⟩
   rw [← hd] at hcell hd0 hd1
   have HN:Hid (strL s::(ds.take (k+1)).map eightI=(strL s::(ds.take k).map eightI)++[eightI d]):=by show _=_; rw [map_snoc ds k (by rw [HL.out]; exact hlt),hd]; rfl
   have hlti:(k:Int)<(n:Int):=by omega
   have HOR:Hid (_):=hor
   clear hd hc0 hor HO
   go_wp2_with fail
   refine (digestBytes_any d _ hd0 hd1).mono ?_
   rintro e w2 ⟨g,rfl,hrow,⟨cs,fr,hty⟩,hb2⟩
   have hgd2:Good w2 (some ⟨g,0,none⟩,8,8,eightI d):=⟨hrow,(fun h=>by cases h),fun b off s e=>by simp at e; obtain ⟨rfl,_⟩:=e; exact ⟨cs,_,fr,hty,by decide⟩⟩
   have hor2:=HOR.out.kept hb2
   have hal:Below w2.heap.size w2 (w2.alloc (.cells #[.slice (some ⟨g,0,none⟩) 8 8] 32)):=(Below.refl _ _).alloc (Nat.le_refl _) _
   have hor3:=hor2.kept hal
   have hgd3:=hgd2.kept hal
   have hbr3:Below w.heap.size w (w2.alloc (.cells #[.slice (some ⟨g,0,none⟩) 8 8] 32)):=keepT (keepT hbr hb2) hal
   have hcl:∀ jj uu,([pval (some ⟨g,0,none⟩,8,8,eightI d)]:List Value)[jj]? = some uu→(w2.alloc (.cells #[.slice (some ⟨g,0,none⟩) 8 8] 32)).cell? ((⟨w2.heap.size,0,none⟩:Addr).add jj)=some uu:=by
    intro jj uu hju
    rw [Addr.add_lit,Nat.zero_add,cell_of_row _ w2.heap.size jj _ 32 _ (heap_alloc_new w2 _),← hju]
    simp [pval]
   clear hrow hty hgd2 hor2 hal HOR
   go_wp2_with (first | (at_builtin; refine wpList_append_own _ rfl (.tmp 17) (.tmp 20) 191 rfl w.heap.size 32 i0 _ 1 24 Tryz.underlying191 hi hz0 hz1 hz2 rfl (by decide) _ (k+1) _ rfl hor3.row ⟨w2.heap.size,0,none⟩ 1 1 [pval (some ⟨g,0,none⟩,8,8,eightI d)] rfl rfl hcl (by intro u hu; simp at hu; subst hu; rfl) (by unfold maxLen; omega) (by omega) (by have:=hbr3.size; exact this) ?_; intro v4 w4 hv4 hg4 _))
   have he:ps.map pval++[pval (some ⟨g,0,none⟩,8,8,eightI d)]=(ps++[((some ⟨g,0,none⟩,8,8,eightI d):Part)]).map pval:=by rw [List.map_append]; rfl
   rw [he] at hv4
   obtain ⟨a4,c4,rfl,ho4⟩:=ownP_appended hor3.row hv4 hg4 hor3.get hgd3
   have hbr4:Below w.heap.size w w4:=hbr3.grown hg4 hbr3.size (fun k hk=>(hor3.row.lt k hk).1)
   have HN2:Hid (bytesOfP (ps++[((some ⟨g,0,none⟩,8,8,eightI d):Part)])=strL s::(ds.take (k+1)).map eightI):=by show _=_; rw [HN.out,← HP.out]; unfold bytesOfP; rw [List.map_append]; rfl
   go_roundw
   case rel=>exact ⟨k+1,k+1+1,c4,a4,_,by omega,rfl,by go_num,rfl,ho4,HN2,hbr4⟩
   case measure=>simp [intOf]; omega
  ·obtain rfl:k=n:=by omega
   have HR:Hid (Rows2 wr ao (k+1) (strL s::ds.map eightI)):=by
    have:=hor.rows
    have e:=HP.out
    rw [List.take_of_length_le (by rw [HL.out]; exact Nat.le_refl _)] at e
    rw [← e]
    exact this
   have HT:Hid (total (strL s::ds.map eightI)≤2097152):=by show _≤_; rw [total_parts,strL_len,HL.out]; omega
   clear hor HO HP
   go_wp2_with fail
   refine (implHashAll_any ao (k+1) cc (strL s::ds.map eightI) _ HR.out (by omega) HT.out).mono ?_
   rintro e w2 ⟨rfl,hb2⟩
   go_wp2
   go_ret
   exact ⟨rfl,keepT hbr hb2⟩
end Go.Proofs.YtmdfbnlgfhjnoaaGreatDoor
