/- Part. -/
import Derived.RangeFuncNested
import Derived.RangeFuncBound
import Derived.RangeFuncCalls
import Derived.RangeFuncLeaves
import Derived.RangeFuncBox
import Derived.Shelf.Abstract
import Derived.OwnWalkIn
import Derived.TacticsInMore
import Derived.LoopNIn
import Derived.LoopIn
import Derived.BigRegionIn
import Derived.Test.YtbicgjafjjihdaaGreatDoorZ4
set_option maxHeartbeats 16000000
set_option maxRecDepth 100000
namespace Go.Proofs.YtbicgjafjjihdaaGreatDoor
section
open Go.RowKit Go.Shelf
variable {n₀ Bs:Nat}
attribute [local go_sem] Oper.semAt_some
structure B8 where
 z0:Int
 z1:Int
 z2:Int
 z3:Int
 z4:Int
 z5:Int
 z6:Int
 z7:Int
def B8.iq (x:B8):Array Value:=#[.int .u8 x.z0,.int .u8 x.z1,.int .u8 x.z2,.int .u8 x.z3,.int .u8 x.z4,.int .u8 x.z5,.int .u8 x.z6,.int .u8 x.z7]
def B8.list (x:B8):List Int:=[x.z0,x.z1,x.z2,x.z3,x.z4,x.z5,x.z6,x.z7]
def kj (bs:List Int) (k:Nat):B8:=⟨bs.getD (8*k) 0,bs.getD (8*k+1) 0,bs.getD (8*k+2) 0,bs.getD (8*k+3) 0,bs.getD (8*k+4) 0,bs.getD (8*k+5) 0,bs.getD (8*k+6) 0,bs.getD (8*k+7) 0⟩
def ef (bs:List Int) (k:Nat):List B8:=(List.range k).map (kj bs)
theorem jF (bs:List Int) (k:Nat):ef bs (k+1)=ef bs k++[kj bs k]:=by simp[ef,List.range_succ]
theorem m8 (bs:List Int) (k:Nat):(ef bs k).length=k:=by simp[ef]
def KpS (n₀ Bs:Nat) (W W':World):Prop:=Below n₀ W W'∧W'.heap[Bs]?=W.heap[Bs]?
theorem C9 (n:Nat) (hn:1≤n) (l Bs n₀ b off cap m:Nat) (bs:List Int) (hm:m≤1000) (hcap:8*m≤cap) (hb:b<n₀) (J Jx:List B8→World→Prop)
 (W:World) (hn₀:n₀≤W.heap.size) (hBn:Bs<W.heap.size) (hJ:AbidesFrom W.heap.size J)
 (hY:∀ pre x W,J pre W→pre.length<m→YieldAt Fence.wide (n-1) Tryz.prog l #[.agg x.iq] W fun e W' =>
   (e=.returned (.bool true)∧J (pre++[x]) W'∧KpS n₀ Bs W W')∨(e=.returned (.bool false)∧Jx (pre++[x]) W'))
 (hBs:W.cell? ⟨Bs,0,none⟩=some (.slice (some ⟨b,off,none⟩) (8*m) cap)) (hc:∀ j,j<8*m→W.cell? ⟨b,off+j,none⟩=some (.int .u8 (bs.getD j 0))) (h0:J [] W) :
 CallsIn Fence.wide n Tryz.prog 159 #[.func (.yield l) #[] #[],.pointer (some ⟨Bs,0,none⟩)] W fun e W'=>(∃ v,e=.returned v) ∧
  ((∃ ys,ys=ef bs m∧J ys W')∨(∃ pre,(∃ k,k≤m∧pre=ef bs k)∧Jx pre W')):=by
 have HC:=aa hc;clear hc;refine callsIn_of_wp Tryz.func159 rfl trivial ?_ rfl;simp only[Tryz.ntmps159,List.size_toArray,List.length_cons,List.length_nil,Nat.reduceAdd,Nat.reduceSub,Array.replicate_succ,Array.replicate_zero,List.push_toArray,List.append_toArray,List.nil_append,List.cons_append];gi_wp2
 gi_loopw [3] (fun i wr=>∃ k:Nat,k≤m∧i=.int .i64 ((8*k:Nat):Int)∧J (ef bs k) wr∧Below n₀ W wr∧wr.heap[Bs]?=W.heap[Bs]?)
  (fun i _=>8*m+8-(intOf i).toNat)
 case atStart=>exact⟨0,Nat.zero_le _,rfl,h0,Below.refl _ _,rfl⟩
 case round =>
  obtain⟨k,hk,rfl,hJs,hnx,hbs⟩:=hrel;have HBS:=aa hbs;have hbx:wr.cell? ⟨Bs,0,none⟩=some (.slice (some ⟨b,off,none⟩) (8*m) cap):=(World.cell?_of_block (w:=W) (a:=⟨Bs,0,none⟩) hbs).trans hBs;clear hbs;by_cases hlt:k<m
  ·have hBw:Bs<wr.heap.size:=by have:=hnx.size;omega
   have hq1:(8:Int)*k+8≤cap:=by omega
   have hq2:8*k+8≤cap:=by omega
   have hq3:(8:Int)*k+8≤8*m:=by omega
   have hcp:Sem.run Tryz.prog (Builtin.copy_ #[78,78] 3 #[.slice (some ⟨wr.heap.size,0,none⟩) 8 8,.slice (some ⟨b,off+8*k,none⟩) (8*k+8-8*k) (cap-8*k)])
    ((wr.alloc (.cells #[.int .u8 0,.int .u8 0,.int .u8 0,.int .u8 0,.int .u8 0,.int .u8 0,.int .u8 0,.int .u8 0] 33)).drew)=.ok (.int .i64 8) ((wr.alloc (.cells (kj bs k).iq 33)).drew):=by
    rw[show 8*k+8-8*k=8 by omega];exact rG wr.drew wr.heap.size 8 (cap-8*k) b (off+8*k) 33 #[.int .u8 0,.int .u8 0,.int .u8 0,.int .u8 0,.int .u8 0,.int .u8 0,.int .u8 0,.int .u8 0] (kj bs k).list rfl rfl rfl (by show b<wr.heap.size;have:=hnx.size;omega) (by
     intro j hj;have hx:=HC.o (8*k+j) (by omega);rw[←hnx.cell (p:=⟨b,off+(8*k+j),none⟩) hb,←Nat.add_assoc] at hx;show wr.cell? ⟨b,off+8*k+j,none⟩=_
     rw[hx]
     match j,hj with
     | 0, _ => rfl
     | 1, _ => rfl
     | 2, _ => rfl
     | 3, _ => rfl
     | 4, _ => rfl
     | 5, _ => rfl
     | 6, _ => rfl
     | 7, _ => rfl)
   obtain⟨x,hx⟩:∃ x,Hid (x=kj bs k):=⟨_,rfl⟩
   rw[←hx.o] at hcp;unfold B8.iq at hcp;have hcp8:=hcp;rw[show 8*k+8-8*k=8 by omega] at hcp8;obtain⟨W1,hW1⟩:∃ W1:World,W1=(wr.alloc (.cells #[.int .u8 x.z0,.int .u8 x.z1,.int .u8 x.z2,.int .u8 x.z3,.int .u8 x.z4,.int .u8 x.z5,.int .u8 x.z6,.int .u8 x.z7] 33)).drew:=⟨_,rfl⟩
   have hg1:wr.grownBy W1 none:=by
    rw[hW1];exact⟨rfl,rfl,rfl,by simp,fun i hi _=>Below.heap_alloc wr _ i hi⟩
   have hB1:Below n₀ wr W1:=(Below.refl n₀ wr).grown hg1 (by have:=hnx.size;omega) (fun i h=>by cases h);obtain⟨fn,tmps,assign,body,hy,hR⟩:=hY (ef bs k) x W1 (hJ _ wr W1 none hJs hg1 (fun r h=>by cases h)) (by rw[m8];exact hlt);unfold B8.iq at hy;rw[hW1] at hy hR;gi_wp2
   gi_region
   clear hcp hcp8;gi_wp2
   refine hR.mono ?_;rintro e W3 (⟨rfl,hJ3,hk3⟩|⟨rfl,hJx3⟩)
   ·gi_wp2
    go_roundw
    case rel=>exact⟨k+1,by omega,by go_num,by rw[jF,←hx.o];exact hJ3,hnx.trans (hB1.trans (by rw[hW1];exact hk3.1)),hk3.2.trans ((Below.heap_alloc wr _ Bs hBw).trans HBS.o)⟩
    case measure=>simp[intOf];omega
   ·gi_wp2
    refine bodyPost_ret (results_none rfl _ _ _) rfl ?_;exact⟨⟨_,rfl⟩,.inr ⟨_,⟨k+1,by omega,by rw[jF,←hx.o]⟩,hJx3⟩⟩
  ·obtain rfl:k=m:=by omega
   gi_wp2
   go_end0
   exact⟨⟨_,rfl⟩,.inl ⟨_,rfl,hJs⟩⟩
theorem tt (n:Nat) (a:Option Addr) (len cap:Nat) (w:World) :
 CallsIn Fence.wide n Tryz.prog 144 #[.slice a len cap] w fun e w'=>e=.returned (.func (.func 159) #[] #[.pointer (some ⟨w.heap.size,0,none⟩)])∧w'=w.alloc (.cells #[.slice a len cap] 78):=by
 refine callsIn_of_wp Tryz.func144 rfl trivial ?_ rfl;simp only[Tryz.ntmps144,List.size_toArray,List.length_cons,List.length_nil,Nat.reduceAdd,Nat.reduceSub,Array.replicate_succ,Array.replicate_zero,List.push_toArray,List.append_toArray,List.nil_append,List.cons_append];gi_wp2
 go_ret;exact⟨rfl,rfl⟩
theorem vV (n:Nat) (hn:1≤n) (Bs n₀ b off cap m:Nat) (bs:List Int) (hm:m≤1000) (hcap:8*m≤cap) (hb:b<n₀) (w:World) (hn₀:n₀≤w.heap.size) (hBn:Bs<w.heap.size)
 (hBs:w.cell? ⟨Bs,0,none⟩=some (.slice (some ⟨b,off,none⟩) (8*m) cap)) (hc:∀ j,j<8*m→w.cell? ⟨b,off+j,none⟩=some (.int .u8 (bs.getD j 0))) :
 SeqStopsK Fence.wide n Tryz.prog 159 #[.pointer (some ⟨Bs,0,none⟩)] (fun x:B8=>#[.agg x.iq]) (KpS n₀ Bs) (fun ys=>ys=ef bs m) (fun pre=>∃ k,k≤m∧pre=ef bs k) m w:=fun l J Jx W hW hJ _ hY h0 =>
 C9 n hn l Bs n₀ b off cap m bs hm hcap hb J Jx W (Gn hn₀ hW.size) (Gf hBn hW.size) hJ hY ((hW.cell (p:=⟨Bs,0,none⟩) hBn).trans hBs)
  (fun j hj=>(hW.cell (p:=⟨b,off+j,none⟩) (by show b<_;omega)).trans (hc j hj)) h0
theorem Cw {A B C:World} (h:KpS n₀ Bs A B) (k:KpS n₀ Bs B C):KpS n₀ Bs A C:=⟨h.1.trans k.1,k.2.trans h.2⟩
theorem nL {w:World} (hn:n₀≤w.heap.size) (hB:Bs<w.heap.size) (W:World) (l:Nat) (o o':Obj) (hl:w.heap.size≤l) (h:W.heap[l]?=some o) (h1:o.isCells=false) (h2:o.isWalk=false):KpS n₀ Bs W (W.putObj l o') :=
 ⟨belowK_b hn W l o o' hl h h1 h2,(grownBy_putObj' W l o').block Bs (by have:=(Array.getElem?_eq_some_iff.1 h).1;omega) (fun e=>by cases e;omega)⟩
end
section

variable {l al bs:List Int} {A nb:Nat} {kind:Int}
namespace Mx
def eB (l:List Int) (kind:Int) (al:List Int) (nb:Nat) (bs:List Int):Prop :=
 may kind al nb=0∧bs.length=8*nb∧(∀ x∈bs,0≤x∧x≤255)∧db kind al nb bs=l
def ff (l al:List Int) (A:Nat):Prop :=
 (∃ x0 x1,l=x0::x1::(bL al++l.drop A))∧A=2+(bL al).length∧∀ x∈al,0≤x∧x≤2147483647
theorem ff.start (l:List Int) (h:2≤l.length):ff l [] 2:=by
 match l,h with
 | x0 :: x1 :: r, _ => exact ⟨⟨x0, x1, by simp [bL]⟩, by simp [bL], by simp⟩
theorem ff.step {n size:Nat} (h:ff l al A) (h2:size≤(l.drop A).length) (h3:n≤2147483647) (h4:(l.drop A).take size=cj n):ff l (al++[(n:Int)]) (A+size):=by
 obtain⟨⟨x0,x1,e1⟩,e2,e3⟩:=h;have hl:(cj n).length=size:=by rw[←h4,Gk];omega
 have hn:bL (al++[(n:Int)])=bL al++cj n:=by rw[mo];simp[bL]
 refine⟨⟨x0,x1,?_⟩,?_,?_⟩
 ·rw[hn,List.append_assoc,←h4,←List.drop_drop,List.take_append_drop]
  exact e1
 ·rw[hn,Ge,hl,e2];omega
 ·intro x hx
  rcases List.mem_append.1 hx with h|h
  ·exact e3 x h
  ·simp at h;omega
theorem eB.rest {nums':List Int} (h:ff l al A) (hf:eB l kind nums' nb bs) (hk:al.length≤nums'.length) :
 al=nums'.take al.length∧l.drop A=bL (nums'.drop al.length)++bs∧l.getD 0 0=16*kind+(nums'.length:Int)∧l.getD 1 0=(nb:Int):=by
 obtain⟨⟨x0,x1,e1⟩,e2,e3⟩:=h;obtain⟨m1,m2,m3,m4⟩:=hf;obtain⟨a1,a2,a3,a4,a5⟩:=du m1;have e4:l=(16*kind+(nums'.length:Int))::(nb:Int)::(bL nums'++bs):=by rw[←m4];simp[db]
 have e5:bL al++l.drop A=bL nums'++bs:=by
  have:=e1.symm.trans e4;simp only[List.cons.injEq] at this;exact this.2.2
 have e6:bL nums'=bL (nums'.take al.length)++bL (nums'.drop al.length):=by rw[←mo,List.take_append_drop]
 rw[e6,List.append_assoc] at e5;obtain⟨c1,c2⟩:=sD al (nums'.take al.length) _ _ e3 (fun x hx=>a5 x (List.mem_of_mem_take hx)) (by rw[Gk];omega) e5;exact⟨c1,c2,by rw[e4];rfl,by rw[e4];rfl⟩
theorem ff.none (h:ff l al A) (hk:(al.length:Int)<l.getD 0 0%16) (hn:∀ x t,x≤2147483647→l.drop A≠cj x++t):∀ kind nums' nb bs,¬eB l kind nums' nb bs:=by
 intro kind nums' nb bs hf;have hmf:=du hf.1;rcases Nat.lt_or_ge al.length nums'.length with hlt|hge
 ·obtain⟨_,c2,c3,_⟩:=hf.rest h (by omega)
  have hm:=hmf.2.2.2.2 nums'[al.length] (List.getElem_mem hlt);rw[List.drop_eq_getElem_cons hlt] at c2;have e:∀ z (l:List Int),bL (z::l)=cj z.toNat++bL l:=fun z l=>by simp[bL]
  rw[e,List.append_assoc] at c2;exact hn _ _ (by omega) c2
 ·have e4:l.getD 0 0=16*kind+(nums'.length:Int):=by rw[←hf.2.2.2];rfl
  omega
theorem ff.done (h:ff l al A) (hk:l.getD 0 0%16=(al.length:Int)):∀ kind nums' nb bs,eB l kind nums' nb bs→al=nums'∧l.drop A=bs∧l.getD 1 0=(nb:Int)∧kind=l.getD 0 0/16:=by
 intro kind nums' nb bs hf;have hmf:=du hf.1;have e4:l.getD 0 0=16*kind+(nums'.length:Int):=by rw[←hf.2.2.2];rfl
 have hlen:nums'.length=al.length:=by omega
 obtain⟨c1,c2,_,c4⟩:=hf.rest h (by omega);rw[Gj (by omega)] at c1;have hdn:nums'.drop al.length=[]:=List.drop_eq_nil_of_le (by omega);rw[hdn,show bL []=[] from rfl,List.nil_append] at c2;exact⟨c1,c2,c4,by omega⟩
theorem ff.vN {c0 c1:Nat} (h:ff l al A) (h0:l.getD 0 0=(c0:Int)) (h1:l.getD 1 0=(c1:Int)) (hc:c0≤255) (hk:(c0:Int)%16=(al.length:Int)) (hn:al.length≤12) (hb:c1≤32) (hl:(l.drop A).length=8*c1)
 (hby:∀ x∈l,0≤x∧x≤255):eB l ((c0:Int)/16) al c1 (l.drop A):=by
 obtain⟨⟨x0,x1,e1⟩,e2,e3⟩:=h;refine⟨?_,hl,fun x hx=>hby x (List.mem_of_mem_drop hx),?_⟩
 ·apply lG
  ·omega
  ·omega
  ·intro j hj
   have hm:=e3 _ (mL al j hj);generalize al.getD j 0=z at hm;unfold bj;simp;omega
 ·have f0:x0=(c0:Int):=by rw[←h0,e1];rfl
  have f1:x1=(c1:Int):=by rw[←h1,e1];rfl
  conv=>rhs;rw[e1]
  unfold db;rw[f0,f1,←hk];simp;omega
theorem aE.body (h:aE l kind al nb bs):eB (l.take (l.length-4)) kind al nb bs∧l.drop (l.length-4)=dL (crc (l.take (l.length-4))):=by
 have e:l=db kind al nb bs++dL (crc (db kind al nb bs)):=h.2.2.2.symm;have hl:l.length-4=(db kind al nb bs).length:=by
  have:=congrArg List.length e;rw[Ge,ia] at this;omega
 have ht:l.take (l.length-4)=db kind al nb bs:=by rw[hl];conv=>lhs;rw[e];rw[List.take_left]
 have hd:l.drop (l.length-4)=dL (crc (db kind al nb bs)):=by rw[hl];conv=>lhs;rw[e];rw[List.drop_left]
 rw[ht,hd];exact⟨⟨h.1,h.2.1,h.2.2.1,rfl⟩,rfl⟩
theorem eB.frame (h:eB (l.take (l.length-4)) kind al nb bs) (hs:l.drop (l.length-4)=dL (crc (l.take (l.length-4)))):aE l kind al nb bs:=by
 refine⟨h.1,h.2.1,h.2.2.1,?_⟩;unfold aY;rw[h.2.2.2,←hs,List.take_append_drop]
end Mx
end
section
open Go.RowKit Go.Shelf
variable {W W':World} {n g:Nat} {row:Option Nat} {cs:Array Value} {t:TypeId} {a:Option Addr} {l:List Int}
attribute [local go_sem] Oper.semAt_some
theorem eI.drew {w wr:World} {s0 v1 v2:Value} (h:eI w wr s0 v1 v2):eI w wr.drew s0 v1 v2:=⟨h.1,h.2.1,h.2.2.1.drew,h.2.2.2⟩
def flat (pre:List B8):List Int:=pre.flatMap B8.list
theorem pG (pre:List B8) (x:B8):flat (pre++[x])=flat pre++x.list:=by simp[flat]
theorem AQ (pre:List B8):(flat pre).length=8*pre.length:=by
 induction pre with
 | nil => rfl
 | cons x pre ih => simp [flat, B8.list] at *; omega
theorem Ap (bs:List Int) (k:Nat) (h:8*k+8≤bs.length):bs.take (8*(k+1))=bs.take (8*k)++(kj bs k).list:=by
 rw[show 8*(k+1)=8*k+1+1+1+1+1+1+1+1 by omega];rw[Mx.bX bs _ _ (by omega) rfl,Mx.bX bs _ _ (by omega) rfl,Mx.bX bs _ _ (by omega) rfl,Mx.bX bs _ _ (by omega) rfl,
  Mx.bX bs _ _ (by omega) rfl,Mx.bX bs _ _ (by omega) rfl,Mx.bX bs _ _ (by omega) rfl,Mx.bX bs _ _ (by omega) rfl]
 simp only[List.append_assoc,List.cons_append,List.nil_append,B8.list,kj]
theorem tD (bs:List Int) (k:Nat) (h:8*k≤bs.length):flat (ef bs k)=bs.take (8*k):=by
 induction k with
 | zero => simp [ef, flat]
 | succ k ih => rw [jF, pG, ih (by omega), Ap bs k (by omega)]
def ld (w:World) (C:Nat) (k0 v1:Value) (al:List Int) (pre:List B8) (W:World):Prop :=
 ∃ v2,eI w W k0 v1 v2∧gK W C v2 pre.length (flat pre)∧aV W (w.heap.size+2) v1 al∧C≤W.heap.size
def LAx (C:Nat) (T:Array Value) (x:B8) (a':Act) (W:World):Prop :=
 ∃ Bx,C≤Bx∧W.heap[Bx]?=some (.cells x.iq 33 (0,0))∧a'={tmps:=(T.setIfInBounds 64 (.agg x.iq)).setIfInBounds 10 (.pointer (some ⟨Bx,0,none⟩)),defers:=[]}
theorem gR {base e size:Nat} {v:Value} {xs:List Value} (h:W.ownsRow base e size v n xs) (hg:W.grownBy W' row) (hr:∀ r,row=some r→∃ o:Obj,W.heap[r]?=some o∧o.isCells=false):W'.ownsRow base e size v n xs:=by
 refine h.kept hg ?_;rcases h.2 with ⟨rfl,_⟩|⟨g,cap,cur,rfl,_,hgb,_⟩
 ·exact .inl rfl
 ·refine .inr fun e=>?_
  obtain⟨o,ho,hc⟩:=hr g (by rw[←e];rfl);rw[hgb] at ho;cases ho
  cases hc
theorem bO (h:W.heap[g]?=some (.cells cs t (0,0))) (hg:W.grownBy W' row) (hr:∀ r,row=some r→∃ o:Obj,W.heap[r]?=some o∧o.isCells=false):W'.heap[g]?=some (.cells cs t (0,0)):=by
 refine(hg.block g (Array.getElem?_eq_some_iff.1 h).1 (fun e=>?_)).trans h;obtain⟨o,ho,hc⟩:=hr g e.symm;rw[h] at ho;cases ho
 cases hc
theorem ay.grow (h:ay W a n l) (hg:W.grownBy W' row) (hr:∀ r,row=some r→∃ o:Obj,W.heap[r]?=some o∧o.isCells=false):ay W' a n l:=by
 obtain⟨h1,h2,h4⟩:=h;refine⟨h1,h2,fun hp=>?_⟩;obtain⟨b,off,ha,hlt,hc⟩:=h4 hp;exact⟨b,off,ha,by have:=hg.size;omega,fun i hi=>cell_kept (hc i hi) hg hr⟩
theorem aS.grow (h:aS W a n l) (hg:W.grownBy W' row) (hr:∀ r,row=some r→∃ o:Obj,W.heap[r]?=some o∧o.isCells=false):aS W' a n l:=by
 obtain⟨h1,h2,h3,h4⟩:=h;refine⟨h1,h2,h3,fun hp=>?_⟩;obtain⟨b,off,ha,hlt,hc⟩:=h4 hp;exact⟨b,off,ha,by have:=hg.size;omega,fun i hi=>cell_kept (hc i hi) hg hr⟩
theorem kP {F:Fence} {fuel:Nat} {w:World} {ops:Array Oper} {rest:List Oper} {o:Oper} {a:Act} {Q:Exit→Act→World→Prop} (hgd:o.guard=none) (s x:Operand)
 (ho:o.op=.call {callee:=.builtin .append,args:=#[s,x],argTypes:=#[38,38]}) (base n:Nat) (bs:List Int) (hown:gK w base (a.eval s) n bs)
 (zs:List Int) (hz8:zs.length=8) (arr:Array Value) (harr:arr=(zs.map (Value.int .u8)).toArray) (hx:a.eval x=.slice (some ⟨w.heap.size,0,none⟩) 1 1) (h63:n≤1000000) (hbase:base≤w.heap.size)
 (h:∀ ad c w',gK w' base (.slice (some ad) (n+1) c) (n+1) (bs++zs)→Below base w w'→KeepsOthers w w'→wpListIn F fuel Tryz.prog ops Q rest (a.put o.dst (.slice (some ad) (n+1) c)) w') :
 wpListIn F fuel Tryz.prog ops Q (o::rest) a (w.alloc (.cells arr 33)):=by
 obtain⟨i0,hi,hz0,hz1,hz2⟩:=info_parts Tryz.info33;refine wpListIn_append_own _ hgd s x 38 ho base 33 i0 _ 8 8 Tryz.underlying38 hi hz0 hz1 hz2 rfl (by decide) (a.eval s) n (bs.map (Value.int .u8)) rfl (World.ownsRow.alloc hown.2 _) ⟨w.heap.size,0,none⟩ 1 1 (zs.map (Value.int .u8)) hx (by simp[hz8]) (km w zs arr 33 harr) ?_ (by unfold maxLen;omega) (by omega) (by simp;omega) ?_
 ·intro u hu
  obtain⟨z,_,rfl⟩:=List.mem_map.1 hu;rfl
 ·intro v' w' hown' hg _
  have hb:Below base w w':=((Below.refl base w).alloc hbase _).grown hg (by simp;omega) (fun k hk=>(World.ownsRow.lt hown.2 k hk).1);have hI:gK w' base v' (n+1) (bs++zs):=⟨by rw[Ge,hown.1,hz8];omega,by rw[List.map_append];exact hown'⟩
  have hk:KeepsOthers w w':=(KeepsOthers.alloc w _).trans (KeepsOthers.of_grownBy hg (by
   intro j o' e hj;have hown2:=World.ownsRow.alloc hown.2 (.cells arr 33);rcases hown2.2 with ⟨hv,_⟩|⟨g,cap,cur,hv,_,hgb,_⟩
   ·rw[hv] at e;cases e
   ·rw[hv] at e
    cases e
    rw[hgb] at hj;cases hj
    rfl))
  rcases hown'.2 with ⟨_,hz⟩|⟨g,cap,cur,rfl,hbg,_⟩
  ·simp at hz
  ·exact h _ _ w' hI hb hk
theorem cD (h:W.heap[g]?=some (.cells cs t (0,0))) (j:Nat):W.cell? ⟨g,j,none⟩=cs[j]?:=by
 unfold World.cell?;rw[h];rfl
theorem rZ (w:World) (C:Nat) (k0 v1:Value) (al:List Int) (hC:w.heap.size+2≤C):OwnFrom C (ld w C k0 v1 al):=by
 rintro pre W W' row ⟨v2,⟨b1,b2,b3,b4⟩,hB,hI,hs⟩ hg hr;have hr':∀ r,row=some r→∃ o:Obj,W.heap[r]?=some o∧o.isCells=false:=fun r e=>(hr r e).2
 refine⟨v2,⟨bO b1 hg hr',bO b2 hg hr',b3.grown hg (by omega) (fun k e=>by have:=(hr k e).1;omega),by have:=hg.size;omega⟩,⟨hB.1,gR hB.2 hg hr'⟩,gR hI hg hr',by have:=hg.size;omega⟩
theorem Da (C:Nat) (T:Array Value) (x:B8) (a':Act):OwnFrom C (fun(_:Unit) W=>LAx C T x a' W):=by
 rintro _ W W' row ⟨Bx,h1,h2,h3⟩ hg hr;exact⟨Bx,h1,bO h2 hg (fun r e=>(hr r e).2),h3⟩
theorem tX {g:Operand} {assign body:Code} {Q:Exit→Act→World→Prop} {a:Act} {wl:World} (w:World) (k0 v1:Value) (al:List Int) (Bs b off cap m:Nat) (bs:List Int)
 (hg:a.eval g=.func (.func 159) #[] #[.pointer (some ⟨Bs,0,none⟩)]) (hm:m≤1000) (hcap:8*m≤cap) (hb:b<w.heap.size) (hBn:Bs<wl.heap.size) (hC:w.heap.size+2≤wl.heap.size)
 (hBs:wl.cell? ⟨Bs,0,none⟩=some (.slice (some ⟨b,off,none⟩) (8*m) cap)) (hc:∀ j,j<8*m→wl.cell? ⟨b,off+j,none⟩=some (.int .u8 (bs.getD j 0)))
 (h0:ld w wl.heap.size k0 v1 al [] wl)
 (hassign:∀ (l:Nat) (pre:List B8) (x:B8) (W:World) (K:Act→World→Prop),ld w wl.heap.size k0 v1 al pre W→(∀ a' W',KeepsFrom wl.heap.size W W'→KpS w.heap.size Bs W W'→ld w wl.heap.size k0 v1 al pre W'→LAx wl.heap.size a.tmps x a' W'→K a' W') →
   assign.wpIn (Fence.wide.inRound l) (6-1-1) Tryz.prog (Exit.then K (fun _ _ _=>False)) {tmps:=a.tmps.setIfInBounds 64 (.agg x.iq),defers:=[]} W)
 (hbody:∀ (l:Nat) (pre:List B8) (x:B8) (a':Act) (W:World),ld w wl.heap.size k0 v1 al pre W→LAx wl.heap.size a.tmps x a' W→pre.length<m →
   body.wpIn (Fence.wide.inRound l) (6-1-1) Tryz.prog (ownPostG wl.heap.size (KpS w.heap.size Bs) (ld w wl.heap.size k0 v1 al) (fun _ _ _=>False) (pre++[x]) W) a' W)
 (hdone:∀ (D:Nat) (W:World),wl.heap.size≤D→ld w wl.heap.size k0 v1 al (ef bs m) W→W.heap[D]?=some (.deferred (some []))→Q .normal {a with defers:={target:=.collected D,args:=#[]}::a.defers} W) :
 (Code.rangeFunc g #[64] assign body).wpIn Fence.wide 6 Tryz.prog Q a wl:=by
 refine wpIn_rangeFunc_ownH rfl (by omega) (gf:=159) (lb:=#[.pointer (some ⟨Bs,0,none⟩)]) hg trivial (enters_of Tryz.func159 (by kernel_rfl) rfl)
  (vV 5 (by omega) Bs w.heap.size b off cap m bs hm hcap hb wl (by omega) hBn hBs hc) Cw (nL (by omega) hBn) (Below.refl _ _) (fun _=>rfl)
  (ld w wl.heap.size k0 v1 al) (fun _ _ _=>False) (rZ w _ k0 v1 al hC) (fun _ _ _ _ _ hs _ _=>hs) h0 (LAx wl.heap.size a.tmps) (Da wl.heap.size a.tmps) ?_ ?_ ?_ ?_
 ·intro l pre x W K hi hK
  have h:=hassign l pre x W K hi hK;have e:(#[64].zip #[Value.agg x.iq]).foldl (fun(t:Array Value) (x:Nat × Value)=>match x with|(p,v)=>t.setIfInBounds p v) a.tmps=a.tmps.setIfInBounds 64 (.agg x.iq):=by simp
  rw[e];exact h
 ·intro l pre x a' W _ _ hi ha hlt
  exact hbody l pre x a' W hi ha hlt
 ·rintro D xs W hD rfl hi hK
  exact hdone D W hD hi hK
 ·intro D c pre W _ _ h _
  exact h.elim
end
section
open Go.RowKit Go.Shelf
attribute [local go_sem] Oper.semAt_some
def rn (w w':World) (l:List Int) (e:Ending):Prop :=
 (∃ kind al nb bs a1 c1 a2 c2,e=.returned (.tuple #[.agg #[.int .i64 kind,.slice a1 al.length c1,.slice a2 nb c2],.bool true])∧Mx.eB l kind al nb bs∧ay w' a1 al.length al∧aS w' a2 nb bs∧(∀ p,a1=some p→w.heap.size≤p.block)∧(∀ p,a2=some p→w.heap.size≤p.block)∧al.length≤c1∧nb≤c2∧Gq w w') ∨
 (e=.returned (.tuple #[.agg #[.int .i64 0,.slice none 0 0,.slice none 0 0],.bool false])∧(∀ kind al nb bs,¬Mx.eB l kind al nb bs)∧Gq w w')
theorem kX {F:Fence} {fuel:Nat} {w:World} {ops:Array Oper} {rest:List Oper} {o:Oper} {a:Act} {Q:Exit→Act→World→Prop} (hgd:o.guard=none) (s x:Operand)
 (ho:o.op=.call {callee:=.builtin .append,args:=#[s,x],argTypes:=#[47,47]}) (base:Nat) (l:List Int) (hown:aV w base (a.eval s) l)
 (z:Int) (hx:a.eval x=.slice (some ⟨w.heap.size,0,none⟩) 1 1) (h63:l.length≤1000000) (hbase:base≤w.heap.size)
 (h:∀ ad c w',aV w' base (.slice (some ad) (l.length+1) c) (l++[z])→Below base w w'→base≤ad.block→wpListIn F fuel Tryz.prog ops Q rest (a.put o.dst (.slice (some ad) (l.length+1) c)) w') :
 wpListIn F fuel Tryz.prog ops Q (o::rest) a (w.alloc (.cells #[.int .i64 z] 3)):=by
 obtain⟨i0,hi,hz0,hz1,hz2⟩:=info_parts Tryz.info3;refine wpListIn_append_own _ hgd s x 47 ho base 3 i0 (.int .i64 0) 1 8 Tryz.underlying47 hi hz0 hz1 hz2 rfl (by decide) (a.eval s) l.length (l.map (Value.int .i64)) rfl (World.ownsRow.alloc hown _) ⟨w.heap.size,0,none⟩ 1 1 [.int .i64 z] hx (by simp) ?_ ?_ (by unfold maxLen;omega) (by omega) (by simp;omega) ?_
 ·intro j u hj
  match j,hj with
  | 0, hj => simp at hj; subst hj; simp [Addr.add]
 ·intro u hu
  simp at hu;subst hu;rfl
 ·intro v' w' hown' hg _
  have hb:Below base w w':=((Below.refl base w).alloc hbase _).grown hg (by simp;omega) (fun k hk=>(World.ownsRow.lt hown k hk).1);have hI:aV w' base v' (l++[z]):=by
   unfold aV;rw[Ge,List.map_append];exact hown'
  rcases hown'.2 with ⟨_,hz⟩|⟨g,cap,cur,rfl,hbg,_⟩
  ·simp at hz
  ·exact h _ _ w' hI hb hbg
theorem Bytes.drop {w:World} {b off len:Nat} {l:List Int} (h:Bytes w (some ⟨b,off,none⟩) len l) (A:Nat):Bytes w (some ⟨b,off+A,none⟩) (len-A) (l.drop A):=by
 obtain⟨h1,h2,h3,h4⟩:=h;refine⟨by rw[List.length_drop,h1],by omega,fun x hx=>h3 x (List.mem_of_mem_drop hx),fun hp=>⟨b,off+A,rfl,fun i hi=>?_⟩⟩;obtain⟨b',off',ha,hc⟩:=h4 (by omega);cases ha
 rw[pB,Nat.add_assoc];exact hc (A+i) (by omega)
theorem sR (b off len cap:Nat) (l:List Int) (w:World) (hl:Bytes w (some ⟨b,off,none⟩) len l) (h2:2≤len) (hlen:len≤2000) (hcap:len<cap) :
 Calls Tryz.prog 119 #[.slice (some ⟨b,off,none⟩) len cap] w fun e w'=>rn w w' l e:=by
 have HL:=aa hl.1;obtain⟨b',off',c0,hbb,hc0,hd0,hcell0,ht0⟩:=hl.at_ 0 (by omega);cases hbb
 obtain⟨b',off',c1,hbb,hc1,hd1,hcell1,ht1⟩:=hl.at_ 1 (by omega);cases hbb
 have hbs:=World.block_lt_of_cell? w _ hcell0;simp only[Nat.add_zero] at hcell0 hbs;have HB:=aa hl;have H0:=aa hd0;have H1:=aa hd1;clear hl hd0 hd1 ht0 ht1;have hp0:(0:Int)<len:=by omega
 have hp1:(1:Int)<len:=by omega
 have hp2:(2:Int)≤len:=by omega
 have hpc:(len:Int)<cap:=by omega
 have hpc2:2<cap:=by omega
 have hpc3:¬cap=2:=by omega
 by_cases hmany:(12:Int)<(c0:Int)%16∨(32:Int)<c1
 ·have HN:=aa (show ∀ kind al nb bs,¬Mx.eB l kind al nb bs by
   intro kind al nb bs hf;have hmf:=du hf.1;have e0:l.getD 0 0=16*kind+(al.length:Int):=by rw[←hf.2.2.2];rfl
   have e1:l.getD 1 0=(nb:Int):=by rw[←hf.2.2.2];rfl
   rw[H0.o] at e0;rw[H1.o] at e1;omega)
  have hfin:∀ W:World,Gq w W→rn w W l (.returned (.tuple #[.agg #[.int .i64 0,.slice none 0 0,.slice none 0 0],.bool false])):=fun W hW=>.inr ⟨rfl,HN.o,hW⟩
  by_cases hm1:(12:Int)<(c0:Int)%16;all_goals
   refine(callsIn_wide (n:=6)).1 ?_;refine callsIn_of_wp_marks Tryz.func119 rfl trivial ?_ rfl;simp only[Tryz.ntmps119,List.size_toArray,List.length_cons,List.length_nil,Nat.reduceAdd,Nat.reduceSub,Array.replicate_succ,Array.replicate_zero,List.push_toArray,List.append_toArray,List.nil_append,List.cons_append];first|(have hm2:(32:Int)<c1:=by omega)|skip
   gi_wp2
   gi_region
   gi_wp2
   refine⟨.tuple #[.agg #[.int .i64 0,.slice none 0 0,.slice none 0 0],.bool false],by simp[results,Tryz.results119,go_sem],hfin _ ?_⟩;exact(((Below.refl _ _).alloc (Gi _) _).alloc (by simp) _).drew
 ·have hm1:¬(12:Int)<(c0:Int)%16:=by omega
  have hm2:¬(32:Int)<c1:=by omega
  refine(callsIn_wide (n:=6)).1 ?_;refine callsIn_of_wp_marks Tryz.func119 rfl trivial ?_ rfl;simp only[Tryz.ntmps119,List.size_toArray,List.length_cons,List.length_nil,Nat.reduceAdd,Nat.reduceSub,Array.replicate_succ,Array.replicate_zero,List.push_toArray,List.append_toArray,List.nil_append,List.cons_append];gi_wp2
  gi_region
  gi_wp2
  gi_loopw [7,8,9,36] (fun r _ _ i wr=>∃ (A:Nat) (al:List Int) (v1:Value),(al.length:Int)≤(c0:Int)%16∧2≤A∧A≤len∧i=.int .i64 (al.length:Int)∧r=.slice (some ⟨b,off+A,none⟩) (len-A) (cap-A)∧Hid (Mx.ff l al A)∧Hid (aV wr (w.heap.size+2) v1 al)∧Hid (eI w wr (.int .i64 ((c0:Int)/16)) v1 (.slice none 0 0)))
   (fun _ _ _ i _=>16-(intOf i).toNat)
  case atStart=>exact⟨2,[],.slice none 0 0,by simp;omega,by omega,by omega,rfl,rfl,Mx.ff.start l (by rw[HL.o];omega),aV.nil _ _,(eI.start w _).drew⟩
  case round =>
   obtain⟨A,al,v1,hk,hA2,hA,rfl,rfl,hN,hO,hU⟩:=hrel;obtain⟨f0,f1,f2,fz,g0,g1,g2,gz,s1,s2⟩:=hU.o.facts;by_cases hlt:(al.length:Int)<(c0:Int)%16
   ·gi_wp2_with fail
    refine⟨trivial,?_⟩;refine(callsIn_wide.2 (oV _ _ _ (l.drop A) wr ((HB.o.drop A).later (hU.o.2.2.1)))).mono ?_;rintro e w1 ⟨n,size,rfl,hna,rfl⟩;rcases hna with ⟨hn1,hn2,hn3,hn4⟩|⟨rfl,rfl,hno⟩
    ·have HS:=aa (hN.o.step hn2 hn3 hn4)
     have hsz:size≤len-A:=by rw[List.length_drop,HL.o] at hn2;exact hn2
     have hne:((size:Int)==0)=false:=by simp;omega
     clear hn2 hn4;gi_wp2_with (gi_at_builtin;refine kX rfl _ _ rfl (w.heap.size+2) al hO.o (n:Int) rfl ?c1 ?c2 ?_);case c1=>omega
     case c2=>omega
     intro ad cc w' hown' hbel' had;have hU':=aa (hU.o.later hbel');obtain⟨f0',f1',f2',fz',g0',g1',g2',gz',s1',s2'⟩:=hU'.o.facts;have HO':=aa hown';clear hown' hbel';have hq1:(size:Int)≤(len:Int)-A:=by omega
     have hq2:¬cap-A=size:=by omega
     have hq3:size<cap-A:=by omega
     gi_wp2_with fail;go_roundw
     case rel =>
      refine⟨A+size,al++[(n:Int)],.slice (some ad) (al.length+1) cc,by simp;omega,by omega,by omega,by simp,by rw[Nat.add_assoc,Nat.sub_sub,Nat.sub_sub],HS,?_,hU'.o.mV _⟩;exact ownsRow_setCell_below HO'.o (a:=⟨w.heap.size+1,1,none⟩) (by simp) (.slice (some ad) (al.length+1) cc)
     case measure=>simp[intOf];omega
    ·have HN:=aa (hN.o.none (by rw[H0.o];exact hlt) hno)
     clear hno;gi_wp2_with fail;obtain⟨r0,r1,r2⟩:=hU.o.1.stored (.int .i64 0) (.slice none 0 0) (.slice none 0 0);exact⟨.tuple #[.agg #[.int .i64 0,.slice none 0 0,.slice none 0 0],.bool false],by simp[results,Tryz.results119,go_sem,r0,r1,r2],.inr ⟨rfl,HN.o,eC hU.o.2.2.1 (Gi _) _ _ _⟩⟩
   ·have hkd:(c0:Int)%16=(al.length:Int):=by omega
    have HD:=aa (hN.o.done (by rw[H0.o];exact hkd));have HKD:=aa hkd;clear hkd;by_cases hfit:len-A=8*c1
    ·have hfit2:(((len-A:Nat):Int) != (c1:Int)*8)=false:=by simp;omega
     have HG:=aa (hN.o.vN H0.o H1.o hc0 HKD.o (by omega) (by omega) (by rw[List.length_drop,HL.o];exact hfit) HB.o.2.2.1);gi_wp2_with fail;refine⟨trivial,?_⟩;refine(tt 5 _ _ _ wr).mono ?_;rintro e w1 ⟨rfl,rfl⟩;gi_wp2_with fail;have hC1:w.heap.size+2≤wr.heap.size:=hU.o.2.2.2;have HV1:=aa (show ∀ g,v1.ownBlock=some g→g<wr.heap.size+1 by
      intro g hg;have:=(World.ownsRow.lt hO.o g hg).2;omega)
     have hC:w.heap.size+2≤wr.heap.size+1:=by have:=hU.o.2.2.2;omega
     refine tX w (.int .i64 ((c0:Int)/16)) v1 al wr.heap.size b (off+A) (cap-A) c1 (l.drop A) rfl (by omega) (by omega) hbs (by simp) (by simpa using hC) ?hBs ?hc ?h0 ?assign ?body ?done;case hBs=>rw[World.cell?_alloc_new];rfl
     case hc =>
      intro j hj;have hby:=(HB.o.drop A).later (hU.o.2.2.1.alloc (by omega) (.cells #[.slice (some ⟨b,off+A,none⟩) (8*c1) (cap-A)] 78));obtain⟨b',off',ha,hcx⟩:=hby.2.2.2 (by omega);cases ha
      exact hcx j (by omega)
     case h0 =>
      refine⟨.slice none 0 0,hU.o.later ((Below.refl _ _).alloc (by omega) _),gK.nil _ _,World.ownsRow.alloc hO.o _,Gi _⟩
     case assign =>
      intro lp pre x W K hi hK;simp only[B8.iq,List.setIfInBounds_toArray,List.set_cons_succ,List.set_cons_zero];gi_wp2
      have hsz:wr.heap.size+1≤W.heap.size:=by obtain⟨_,_,_,_,hs⟩:=hi;simpa using hs
      exact hK _ _ ((KeepsOthers.alloc _ _).from _) ⟨(Below.refl _ _).alloc (by omega) _,Below.heap_alloc W _ _ (by omega)⟩ ((rZ w _ _ _ _ (by simpa using hC)).alloc _ hi) ⟨W.heap.size,by simpa using hsz,heap_alloc_new W _,rfl⟩
     case body =>
      rintro lp pre x a' W ⟨v2,hU2,hB2,hI2,hs2⟩ ⟨Bx,hBx,hcx,rfl⟩ hlt2;obtain⟨p0,p1,p2,pz,q0,q1,q2,qz,t1,t2⟩:=hU2.facts;have x0:=cD hcx 0;have x1:=cD hcx 1;have x2:=cD hcx 2;have x3:=cD hcx 3;have x4:=cD hcx 4;have x5:=cD hcx 5;have x6:=cD hcx 6;have x7:=cD hcx 7;have HU2:=aa hU2;have HB2:=aa hB2;have HI2:=aa hI2;have hs2':wr.heap.size+1≤W.heap.size:=by simpa using hs2
      clear hU2 hB2 hI2 hcx hs2;simp only[B8.iq,List.setIfInBounds_toArray,List.set_cons_succ,List.set_cons_zero] at x0 x1 x2 x3 x4 x5 x6 x7 ⊢;gi_wp2_with (gi_at_builtin;refine kP rfl _ _ rfl _ pre.length (flat pre) HB2.o x.list rfl _ rfl rfl ?c1 ?c2 ?_);case c1=>omega
      case c2=>simp;omega
      intro ad cc w' hown' hbel' hkeep;have hbel2:Below (w.heap.size+2) W w':=hbel'.mono hC;have HU':=aa (HU2.o.later hbel2);obtain⟨p0',p1',p2',pz',q0',q1',q2',qz',t1',t2'⟩:=HU'.o.facts;have HO':=aa hown';have HI':=aa (sZ HI2.o HV1.o hbel');have HBE:=aa hbel';have HKE:=aa hkeep;clear hown' hbel' hbel2 hkeep;gi_wp2
      refine⟨(HKE.o.trans (KeepsOthers.setCell _ _ _)).from _,⟨(HBE.o.mono (by omega)).setCell (by simp) _,?_⟩,.slice (some ad) (pre.length+1) cc,HU'.o.ew _,?_,ownsRow_setCell_below HI'.o (by simp) _,?_⟩
      ·rw[Below.heap_setCell _ _ _ _ (by show wr.heap.size≠w.heap.size+1;omega)]
       exact HBE.o.block wr.heap.size (by omega)
      ·have hlt3:w.heap.size+1<wr.heap.size+1:=by omega
       have hrow:=ownsRow_setCell_below HO'.o.2 (a:=⟨w.heap.size+1,2,none⟩) hlt3 (.slice (some ad) (pre.length+1) cc);refine⟨by rw[AQ],?_⟩;rw[World.size_alloc,pG,Ge];exact hrow
      ·have:=HBE.o.size
       simp[World.setCell];omega
     case done =>
      intro D W hD hi hK;obtain⟨v2,hU2,hB2,hI2,hs2⟩:=hi;have hD':wr.heap.size+1≤D:=by simpa using hD
      rw[tD _ _ (by rw[List.length_drop,HL.o];omega),m8,Gj (by rw[List.length_drop,HL.o];omega)] at hB2;obtain⟨a1,cc1,rfl,hJ1⟩:=hI2.ints;obtain⟨a2,cc2,rfl,hJ2⟩:=hB2.Aq HG.o.2.2.1;obtain⟨p0,p1,p2,pz,q0,q1,q2,qz,t1,t2⟩:=hU2.facts;have HA1:=aa hI2.vm;have HA2:=aa hB2.vm;have HC1:=aa hI2.cap;have HC2:=aa hB2.cap;have HU2:=aa hU2;have HJ1:=aa hJ1;have HJ2:=aa hJ2;have HK:=aa hK;clear hU2 hB2 hI2 hJ1 hJ2 hK hs2;gi_wp2
      have hKf:(((W.setCell ⟨w.heap.size,0,none⟩ (.int .i64 ((c0:Int)/16))).setCell ⟨w.heap.size,1,none⟩ (.slice a1 al.length cc1)).setCell ⟨w.heap.size,2,none⟩ (.slice a2 c1 cc2)).heap[D]?=some (.deferred (some [])):=by
       rw[jK W w.heap.size D (by omega)];exact HK.o
      have hgO:=grownBy_putObj' (((W.setCell ⟨w.heap.size,0,none⟩ (.int .i64 ((c0:Int)/16))).setCell ⟨w.heap.size,1,none⟩ (.slice a1 al.length cc1)).setCell ⟨w.heap.size,2,none⟩ (.slice a2 c1 cc2)) D (.deferred none);have hrO:∀ r,some D=some r→∃ o:Obj,(((W.setCell ⟨w.heap.size,0,none⟩ (.int .i64 ((c0:Int)/16))).setCell ⟨w.heap.size,1,none⟩ (.slice a1 al.length cc1)).setCell ⟨w.heap.size,2,none⟩ (.slice a2 c1 cc2)).heap[r]?=some o∧o.isCells=false:=fun r e=>by cases e;exact⟨_,hKf,rfl⟩
      have hbox:=bO (((HU2.o.1.tg (.int .i64 ((c0:Int)/16))).mV (.slice a1 al.length cc1)).ew (.slice a2 c1 cc2)) hgO hrO;have hbl:=(eC (g:=w.heap.size) HU2.o.2.2.1 (Gi _) (.int .i64 ((c0:Int)/16)) (.slice a1 al.length cc1) (.slice a2 c1 cc2)).grown hgO (by have:=t1;simp[World.setCell];omega) (fun k e=>by cases e;omega);have hin:=(HJ1.o.stored w.heap.size (fun p hp=>by have:=HA1.o p hp;omega) (.int .i64 ((c0:Int)/16)) (.slice a1 al.length cc1) (.slice a2 c1 cc2)).grow hgO hrO;have hbn:=(HJ2.o.stored w.heap.size (fun p hp=>by have:=HA2.o p hp;simp at this;omega) (.int .i64 ((c0:Int)/16)) (.slice a1 al.length cc1) (.slice a2 c1 cc2)).grow hgO hrO;refine⟨by simp,.inl ⟨_,_,rfl,run_takeDeferred hKf,?_⟩⟩;generalize (((W.setCell ⟨w.heap.size,0,none⟩ (.int .i64 ((c0:Int)/16))).setCell ⟨w.heap.size,1,none⟩ (.slice a1 al.length cc1)).setCell ⟨w.heap.size,2,none⟩ (.slice a2 c1 cc2)).putObj D (.deferred none)=WF at *;have y0:=aW.cell0 hbox;have y1:=aW.jo hbox;have y2:=aW.jq hbox;exact⟨.tuple #[.agg #[.int .i64 ((c0:Int)/16),.slice a1 al.length cc1,.slice a2 c1 cc2],.bool true],by simp[results,Tryz.results119,go_sem,y0,y1,y2],.inl ⟨_,al,c1,l.drop A,a1,cc1,a2,cc2,rfl,HG.o,hin,hbn,fun p hp=>by have:=HA1.o p hp;omega,fun p hp=>by have:=HA2.o p hp;simp at this;omega,HC1.o,HC2.o,hbl⟩⟩
    ·have hfit2:(((len-A:Nat):Int) != (c1:Int)*8)=true:=by simp;omega
     have HN:=aa (show ∀ kind al nb bs,¬Mx.eB l kind al nb bs by
      intro kind nums' nb bs hf;obtain⟨_,e2,e3,_⟩:=HD.o _ _ _ _ hf;have:=congrArg List.length e2;rw[List.length_drop,HL.o,hf.2.1] at this;rw[H1.o] at e3;omega)
     gi_wp2_with fail;obtain⟨r0,r1,r2⟩:=hU.o.1.stored (.int .i64 0) (.slice none 0 0) (.slice none 0 0);exact⟨.tuple #[.agg #[.int .i64 0,.slice none 0 0,.slice none 0 0],.bool false],by simp[results,Tryz.results119,go_sem,r0,r1,r2],.inr ⟨rfl,HN.o,eC hU.o.2.2.1 (Gi _) _ _ _⟩⟩
end
section
open Go.RowKit
theorem Bytes.cut {w:World} {b off len:Nat} {l:List Int} (h:Bytes w (some ⟨b,off,none⟩) len l) (A:Nat) (hA:A≤len):Bytes w (some ⟨b,off,none⟩) A (l.take A):=by
 obtain⟨h1,h2,h3,h4⟩:=h;refine⟨by rw[Gk,h1];omega,by omega,fun x hx=>h3 x (List.mem_of_mem_take hx),fun hp=>⟨b,off,rfl,fun i hi=>?_⟩⟩;obtain⟨b',off',ha,hc⟩:=h4 (by omega);cases ha
 rw[hc i (by omega)];simp[List.getD_eq_getElem?_getD,hi]
theorem cT (a:Option Addr) (len cap:Nat) (l:List Int) (w:World) (hl:Bytes w a len l) (hlen:len≤2000) (hcap:len≤cap) :
 Calls Tryz.prog 88 #[.slice a len cap] w fun e w'=>vk w w' l e .nilIface (.iface 28 (.int .i64 3)):=by
 have HL:=aa hl.1;by_cases h6:(len:Int)<6
 ·have HN:=aa (vM (l:=l) (by rw[HL.o];omega))
  clear hl;go_enter Tryz.func88,Tryz.ntmps88;go_wp2
  refine bodyPost_ret (v:=.tuple #[.agg #[.int .i64 0,.slice none 0 0,.slice none 0 0],.iface 28 (.int .i64 3)]) (by simp[results,Tryz.results88,go_sem]) rfl (.inr ⟨rfl,HN.o,af _ _⟩)
 ·obtain⟨L,rfl⟩:∃ L,len=L+4:=⟨len-4,by omega⟩
  obtain⟨b,off,c0,rfl,hc0,hd0,hcell0,ht0⟩:=hl.at_ 0 (by omega);have hbs:=World.block_lt_of_cell? w _ hcell0;simp only[Nat.add_zero] at hcell0 hbs;have HB:=aa hl;clear hl hd0 ht0 hcell0;have hq1:(L:Int)+4≤cap:=by omega
  have hq2:L<cap:=by omega
  have hq3:¬cap=L:=by omega
  go_enter Tryz.func88,Tryz.ntmps88;go_wp2_with fail;go_quiet (fail)
  go_wp2_with fail;obtain⟨W0,hW0,hBX,hB0,hS0⟩:∃ W0:World,Hid (W0=(w.alloc (.cells #[.int .i64 0,.slice none 0 0,.slice none 0 0] 173)).drewN nq)∧Hid (aW W0 w.heap.size (.int .i64 0) (.slice none 0 0) (.slice none 0 0))∧Hid (Gq w W0)∧W0.heap.size=w.heap.size+1 :=
   ⟨_,rfl,aW.new w _ _ _,below_drewN (af _ _) nq,by simp⟩
  rw[←hW0.o];have HLT:=aa (show l.take L=l.take (l.length-4) by rw[HL.o];simp);have HLD:=aa (show l.drop L=l.drop (l.length-4) by rw[HL.o];simp);refine(sR b off L cap (l.take L) W0 ((HB.o.cut L (by omega)).later hB0.o) (by omega) (by omega) (by omega)).mono ?_;rintro e w1 (⟨kind,al,nb,bs,a1,c1,a2,c2,rfl,hbody,hi,hbk,hab1,hab2,hcap1,hcap2,hbel⟩|⟨rfl,hno,hbel⟩)
  ·have HBD:=aa hbody
   have HI:=aa hi;have HK:=aa hbk;have HAB1:=aa hab1;have HAB2:=aa hab2;have hs1:=hbel.size;have HBX1:=aa (hBX.o.later hbel (by omega));have HB1:=aa (hB0.o.trans (hbel.mono (by omega)));clear hbody hi hbk hbel hab1 hab2;go_wp2_with fail;refine(sS b (off+L) (cap-L) (l.drop L) _ ?_).mono ?_
   ·have hx:=(HB.o.drop L).later (HB1.o.alloc (by omega) (.cells #[.int .i64 kind,.slice a1 al.length c1,.slice a2 nb c2] 173))
    rw[show L+4-L=4 by omega] at hx;exact hx
   rintro e w2 ⟨rfl,hbel2⟩;have hs2:=hbel2.size;rw[World.size_alloc] at hs2;have HW2:=aa ((Below.refl w1.heap.size w1).alloc (Gi _) (.cells #[.int .i64 kind,.slice a1 al.length c1,.slice a2 nb c2] 173) |>.trans (hbel2.mono (by simp)));have HF2:=aa (aW.later (aW.new w1 (.int .i64 kind) (.slice a1 al.length c1) (.slice a2 nb c2)) hbel2 (by simp));clear hbel2;obtain⟨X,hX⟩:∃ X:Array Value,Hid (X=((l.drop L).map (Value.int .u8)).toArray):=⟨_,rfl⟩
   rw[←hX.o];go_wp2_with fail;refine(ou (some ⟨b,off,none⟩) L cap (l.take L) w2 ((HB.o.cut L (by omega)).later (HB1.o.trans (HW2.o.mono (by omega))))).mono ?_;rintro e w3 ⟨rfl,hbel3⟩;have HW3:=aa (HW2.o.trans (hbel3.mono (by omega)));have HF3:=aa (HF2.o.later hbel3 (by omega));have hs3:=hbel3.size;clear hbel3;obtain⟨Y,hY⟩:∃ Y:Array Value,Hid (Y=((Mx.dL (Mx.crc (l.take L))).map (Value.int .u8)).toArray):=⟨_,rfl⟩
   rw[←hY.o];have heq:∀ W:World,Sem.run Tryz.prog (Op.equalIn 10000 225 (.agg X) (.agg Y)) W=.ok (decide (l.drop L=Mx.dL (Mx.crc (l.take L)))) W:=by
    intro W;obtain⟨i0,hi0,_⟩:=info_parts Tryz.info5;rw[hX.o,hY.o];exact jA W 225 5 4 i0 Tryz.underlying225 Tryz.underlying5 hi0 Tryz.cellsOf5 _ _ (by rw[List.length_drop,HL.o];omega) rfl
   have HBX3:=aa (HBX1.o.later HW3.o (by omega));have e0:=HF3.o.cell0;have e1:=HF3.o.jo;have e2:=HF3.o.jq;have g0:=HBX3.o.cell0;have g1:=HBX3.o.jo;have g2:=HBX3.o.jq;have gz:=HBX3.o.frozen;have hsw:w.heap.size<w3.heap.size:=by omega
   by_cases hse:l.drop L=Mx.dL (Mx.crc (l.take L))
   ·have HFR:=aa (show Mx.aE l kind al nb bs from Mx.eB.frame (by rw[←HLT.o];exact HBD.o) (by rw[←HLD.o,←HLT.o];exact hse))
    rw[decide_eq_true hse] at heq;clear hse;go_wp2_with fail;obtain⟨r0,r1,r2⟩:=HBX3.o.stored (.int .i64 kind) (.slice a1 al.length c1) (.slice a2 nb c2);refine bodyPost_ret (v:=.tuple #[.agg #[.int .i64 kind,.slice a1 al.length c1,.slice a2 nb c2],.nilIface]) (by simp[results,Tryz.results88,go_sem,r0,r1,r2]) rfl (.inl ⟨kind,al,nb,bs,a1,c1,a2,c2,rfl,HFR.o,?_,?_,fun p hp=>by have:=HAB1.o p hp;omega,fun p hp=>by have:=HAB2.o p hp;omega,hcap1,hcap2,eC (HB1.o.trans (HW3.o.mono (by omega))) (Gi _) _ _ _⟩)
    ·exact ay.stored (HI.o.later HW3.o) _ (fun p hp=>by have:=HAB1.o p hp;omega) _ _ _
    ·exact aS.stored (HK.o.later HW3.o) _ (fun p hp=>by have:=HAB2.o p hp;omega) _ _ _
   ·have HN:=aa (show ∀ kind al nb bs,¬Mx.aE l kind al nb bs by
     intro k' l' n' s' hf;have:=hf.body.2;rw[←HLD.o,←HLT.o] at this;exact hse this)
    rw[decide_eq_false hse] at heq;clear hse;go_wp2_with fail;obtain⟨r0,r1,r2⟩:=HBX3.o.stored (.int .i64 0) (.slice none 0 0) (.slice none 0 0);exact bodyPost_ret (v:=.tuple #[.agg #[.int .i64 0,.slice none 0 0,.slice none 0 0],.iface 28 (.int .i64 3)]) (by simp[results,Tryz.results88,go_sem,r0,r1,r2]) rfl (.inr ⟨rfl,HN.o,eC (HB1.o.trans (HW3.o.mono (by omega))) (Gi _) _ _ _⟩)
  ·have HN:=aa (show ∀ kind al nb bs,¬Mx.aE l kind al nb bs by
    intro k' l' n' s' hf;have:=hf.body.1;rw[←HLT.o] at this;exact hno _ _ _ _ this)
   have hs1:=hbel.size;have HBX1:=aa (hBX.o.later hbel (by omega));have HB1:=aa (hB0.o.trans (hbel.mono (by omega)));have g0:=HBX1.o.cell0;have g1:=HBX1.o.jo;have g2:=HBX1.o.jq;have gz:=HBX1.o.frozen;have hsw:w.heap.size<w1.heap.size:=by omega
   clear hno hbel;go_wp2_with fail;have hst:=eC (g:=w.heap.size) HB1.o (Gi _) (.int .i64 0) (.slice none 0 0) (.slice none 0 0);have hbf:=aW.later (((HBX1.o.tg (.int .i64 0)).mV (.slice none 0 0)).ew (.slice none 0 0)) (B:=w1.heap.size) ((Below.refl w1.heap.size _).alloc (by simp[World.setCell]) (.cells #[.int .i64 0,.slice none 0 0,.slice none 0 0] 173)) (by omega);have r0:=hbf.cell0;have r1:=hbf.jo;have r2:=hbf.jq;exact bodyPost_ret (v:=.tuple #[.agg #[.int .i64 0,.slice none 0 0,.slice none 0 0],.iface 28 (.int .i64 3)]) (by simp[results,Tryz.results88,go_sem,r0,r1,r2]) rfl (.inr ⟨rfl,HN.o,hst.alloc (by simp[World.setCell];omega) _⟩)
theorem xA (a:Option Addr) (len cap:Nat) (l:List Int) (w:World) (hl:Bytes w a len l) (hlen:len≤2000) (hcap:len≤cap) :
 Calls Tryz.prog 88 #[.slice a len cap] w fun e w'=>Told w w' l e .nilIface (.iface 28 (.int .i64 3)) :=
 (cT a len cap l w hl hlen hcap).mono fun _ _ h=>h.told
end
section
open Go.RowKit
theorem FR (w:World):ay w none 0 []:=⟨rfl,by unfold maxLen;omega,fun h=>absurd h (by omega)⟩
theorem fT (w:World):aS w none 0 []:=⟨rfl,by unfold maxLen;omega,by simp,fun h=>absurd h (by omega)⟩
end
section
open Go.RowKit
variable {α:Type} {w:World} {a:Option Addr} {n size base:Nat} {xs:List Value} {v:Value}
structure Pt where
 at_:Int
 d:B8
def B8.cs (x:B8):List Value:=[.int .u8 x.z0,.int .u8 x.z1,.int .u8 x.z2,.int .u8 x.z3,.int .u8 x.z4,.int .u8 x.z5,.int .u8 x.z6,.int .u8 x.z7]
def Pt.cs (p:Pt):List Value:=[.int .i64 p.at_,.int .u8 p.d.z0,.int .u8 p.d.z1,.int .u8 p.d.z2,.int .u8 p.d.z3,.int .u8 p.d.z4,.int .u8 p.d.z5,.int .u8 p.d.z6,.int .u8 p.d.z7]
def aT (l:List B8):List Value:=l.flatMap B8.cs
def fN (l:List Pt):List Value:=l.flatMap Pt.cs
def zB:B8:=⟨0,0,0,0,0,0,0,0⟩
theorem eo (f:α→List Value) (s:Nat) (h:∀ x,(f x).length=s) (l:List α):(l.flatMap f).length=l.length*s:=by
 induction l with
 | nil => simp
 | cons x l ih => rw [List.flatMap_cons, Ge, h, ih, List.length_cons, Nat.add_mul]; omega
theorem cQ (f:α→List Value) (s:Nat) (h:∀ x,(f x).length=s) (l:List α) (k j:Nat) (x:α) (hk:l[k]?=some x) (hj:j<s):(l.flatMap f)[k*s+j]?=(f x)[j]?:=by
 induction l generalizing k with
 | nil => simp at hk
 | cons y l ih =>
  rw[List.flatMap_cons];cases k with
  | zero =>
   simp at hk;subst hk;rw[Nat.zero_mul,Nat.zero_add,Gm (by rw[h];exact hj)]
  | succ k =>
   simp at hk;rw[Gl (by rw[h,Nat.add_mul];omega),h,show(k+1)*s+j-s=k*s+j by rw[Nat.add_mul];omega];exact ih k hk
theorem me (f:α→List Value) (s:Nat) (h:∀ x,(f x).length=s) (l:List α) (k:Nat) (x:α) (hk:k<l.length) :
 (l.set k x).flatMap f=(l.flatMap f).take (k*s)++f x++(l.flatMap f).drop (k*s+s):=by
 induction l generalizing k with
 | nil => simp at hk
 | cons y l ih =>
  cases k with
  | zero => simp [List.flatMap_cons, ← h y]
  | succ k =>
   rw[List.set_cons_succ,List.flatMap_cons,List.flatMap_cons,ih k (by simpa using hk),List.take_append,List.drop_append];rw[Gj (l:=f y) (i:=(k+1)*s) (by rw[h,Nat.add_mul];omega),List.drop_of_length_le (l:=f y) (i:=(k+1)*s+s) (by rw[h,Nat.add_mul];omega),h];rw[show(k+1)*s-s=k*s by rw[Nat.add_mul];omega,show(k+1)*s+s-s=k*s+s by rw[Nat.add_mul];omega];simp[List.append_assoc]
theorem cw (l:List B8):(aT l).length=l.length*8:=eo _ 8 (fun _=>rfl) l
theorem js {l:List B8}:∀ u∈aT l,u.oneCell'=true:=by
 intro u hu;obtain⟨x,_,hx⟩:=List.mem_flatMap.1 hu;simp[B8.cs] at hx;rcases hx with rfl|rfl|rfl|rfl|rfl|rfl|rfl|rfl<;>rfl
theorem pF {l:List Pt}:∀ u∈fN l,u.oneCell'=true:=by
 intro u hu;obtain⟨x,_,hx⟩:=List.mem_flatMap.1 hu;simp[Pt.cs] at hx;rcases hx with rfl|rfl|rfl|rfl|rfl|rfl|rfl|rfl|rfl<;>rfl
def cA (w:World) (a:Option Addr) (n size:Nat) (xs:List Value):Prop :=
 xs.length=n*size∧n≤maxLen∧(0<n→∃ b off,a=some ⟨b,off,none⟩∧b<w.heap.size∧∀ j u,xs[j]?=some u→w.cell? ⟨b,off+j,none⟩=some u)
def BL (w:World) (a:Option Addr) (n:Nat) (l:List B8):Prop:=l.length=n∧cA w a n 8 (aT l)
def PL (w:World) (a:Option Addr) (n:Nat) (l:List Pt):Prop:=l.length=n∧cA w a n 9 (fN l)
theorem cA.later {w':World} (h:cA w a n size xs) (hb:Gq w w'):cA w' a n size xs:=by
 obtain⟨h1,h2,h4⟩:=h;refine⟨h1,h2,fun hp=>?_⟩;obtain⟨b,off,ha,hlt,hc⟩:=h4 hp;exact⟨b,off,ha,by have:=hb.size;omega,fun j u hj=>(hb.cell (p:=⟨b,off+j,none⟩) hlt).trans (hc j u hj)⟩
theorem BL.later {w w':World} {a:Option Addr} {n:Nat} {l:List B8} (h:BL w a n l) (hb:Gq w w'):BL w' a n l:=⟨h.1,h.2.later hb⟩
theorem PL.later {w w':World} {a:Option Addr} {n:Nat} {l:List Pt} (h:PL w a n l) (hb:Gq w w'):PL w' a n l:=⟨h.1,h.2.later hb⟩
theorem BL.nil (w:World):BL w none 0 []:=⟨rfl,rfl,by unfold maxLen;omega,fun h=>absurd h (by omega)⟩
theorem PL.nil (w:World):PL w none 0 []:=⟨rfl,rfl,by unfold maxLen;omega,fun h=>absurd h (by omega)⟩
theorem BL.at_ {l:List B8} (h:BL w a n l) (k:Nat) (hk:k<n) :
 ∃ b off,∃ x:B8,a=some ⟨b,off,none⟩∧b<w.heap.size∧l[k]?=some x∧w.cell? ⟨b,off+k*8,none⟩=some (.int .u8 x.z0)∧w.cell? ⟨b,off+k*8+1,none⟩=some (.int .u8 x.z1)∧w.cell? ⟨b,off+k*8+2,none⟩=some (.int .u8 x.z2) ∧
  w.cell? ⟨b,off+k*8+3,none⟩=some (.int .u8 x.z3)∧w.cell? ⟨b,off+k*8+4,none⟩=some (.int .u8 x.z4)∧w.cell? ⟨b,off+k*8+5,none⟩=some (.int .u8 x.z5) ∧
  w.cell? ⟨b,off+k*8+6,none⟩=some (.int .u8 x.z6)∧w.cell? ⟨b,off+k*8+7,none⟩=some (.int .u8 x.z7):=by
 obtain⟨h0,h1,h2,h4⟩:=h;obtain⟨b,off,ha,hlt,hc⟩:=h4 (by omega);have hx:l[k]?=some l[k]:=F0 (by omega);have e:=fun j (hj:j<8)=>cQ B8.cs 8 (fun _=>rfl) l k j _ hx hj
 refine⟨b,off,l[k],ha,hlt,hx,?_,?_,?_,?_,?_,?_,?_,?_⟩
 ·exact hc (k*8) _ (e 0 (by omega))
 ·exact hc (k*8+1) _ (e 1 (by omega))
 ·exact hc (k*8+2) _ (e 2 (by omega))
 ·exact hc (k*8+3) _ (e 3 (by omega))
 ·exact hc (k*8+4) _ (e 4 (by omega))
 ·exact hc (k*8+5) _ (e 5 (by omega))
 ·exact hc (k*8+6) _ (e 6 (by omega))
 ·exact hc (k*8+7) _ (e 7 (by omega))
theorem PL.at_ {w:World} {a:Option Addr} {n:Nat} {l:List Pt} (h:PL w a n l) (k:Nat) (hk:k<n) :
 ∃ b off,∃ p:Pt,a=some ⟨b,off,none⟩∧b<w.heap.size∧l[k]?=some p∧w.cell? ⟨b,off+k*9,none⟩=some (.int .i64 p.at_)∧w.cell? ⟨b,off+k*9+1,none⟩=some (.int .u8 p.d.z0)∧w.cell? ⟨b,off+k*9+2,none⟩=some (.int .u8 p.d.z1) ∧
  w.cell? ⟨b,off+k*9+3,none⟩=some (.int .u8 p.d.z2)∧w.cell? ⟨b,off+k*9+4,none⟩=some (.int .u8 p.d.z3)∧w.cell? ⟨b,off+k*9+5,none⟩=some (.int .u8 p.d.z4) ∧
  w.cell? ⟨b,off+k*9+6,none⟩=some (.int .u8 p.d.z5)∧w.cell? ⟨b,off+k*9+7,none⟩=some (.int .u8 p.d.z6)∧w.cell? ⟨b,off+k*9+8,none⟩=some (.int .u8 p.d.z7):=by
 obtain⟨h0,h1,h2,h4⟩:=h;obtain⟨b,off,ha,hlt,hc⟩:=h4 (by omega);have hx:l[k]?=some l[k]:=F0 (by omega);have e:=fun j (hj:j<9)=>cQ Pt.cs 9 (fun _=>rfl) l k j _ hx hj
 refine⟨b,off,l[k],ha,hlt,hx,?_,?_,?_,?_,?_,?_,?_,?_,?_⟩
 ·exact hc (k*9) _ (e 0 (by omega))
 ·exact hc (k*9+1) _ (e 1 (by omega))
 ·exact hc (k*9+2) _ (e 2 (by omega))
 ·exact hc (k*9+3) _ (e 3 (by omega))
 ·exact hc (k*9+4) _ (e 4 (by omega))
 ·exact hc (k*9+5) _ (e 5 (by omega))
 ·exact hc (k*9+6) _ (e 6 (by omega))
 ·exact hc (k*9+7) _ (e 7 (by omega))
 ·exact hc (k*9+8) _ (e 8 (by omega))
def au (w:World) (base:Nat) (v:Value) (l:List B8):Prop:=w.ownsRow base 33 8 v l.length (aT l)
def bg (w:World) (base:Nat) (v:Value) (l:List Pt):Prop:=w.ownsRow base 114 9 v l.length (fN l)
theorem Tryz.info114:(Tryz.prog.info? 114).map (fun i=>(i.zero,i.size,i.bytes))=some (some (.agg #[.int .i64 0,.int .u8 0,.int .u8 0,.int .u8 0,.int .u8 0,.int .u8 0,.int .u8 0,.int .u8 0,.int .u8 0]),9,16):=by kernel_rfl
theorem aA {e:Nat} (h:w.ownsRow base e size v n xs):∃ a c,v=.slice a n c∧n≤c∧cA w a n size xs∧∀ p,a=some p→base≤p.block:=by
 rcases h.2 with ⟨hv,hz⟩|⟨g,cap,cur,hv,hb,hh,hle,hmx,_⟩
 ·subst hz
  exact⟨none,0,hv,Gi _,⟨h.1,by unfold maxLen;omega,fun h=>absurd h (by omega)⟩,fun p hp=>by cases hp⟩
 ·have hc:=World.ownsRow.cells h (g:=g) (by rw[hv];rfl)
  refine⟨_,cap,hv,hle,⟨h.1,by omega,fun _=>⟨g,0,rfl,(Array.getElem?_eq_some_iff.1 hh).1,fun i u hi=>?_⟩⟩,fun p hp=>by cases hp;exact hb⟩;have hadd:(⟨g,0,none⟩:Addr).add i=⟨g,0+i,none⟩:=by unfold Addr.add;split<;>simp_all
  rw[←hadd];exact hc i u hi
theorem au.bl {l:List B8} (h:au w base v l):∃ a c,v=.slice a l.length c∧BL w a l.length l∧∀ p,a=some p→base≤p.block:=by
 obtain⟨a,c,hv,_,hr,hp⟩:=aA h;exact⟨a,c,hv,⟨rfl,hr⟩,hp⟩
theorem bg.pl {l:List Pt} (h:bg w base v l):∃ a c,v=.slice a l.length c∧PL w a l.length l∧∀ p,a=some p→base≤p.block:=by
 obtain⟨a,c,hv,_,hr,hp⟩:=aA h;exact⟨a,c,hv,⟨rfl,hr⟩,hp⟩
namespace Mx
def outside (n:Nat) (p:Pt):Bool:=decide (p.at_<0) || decide ((n:Int)≤p.at_)
def cC (n:Nat) (ps:List Pt):Int :=
 if n<1∨200<n∨800<ps.length then 2 else if ps.any (outside n) then 1 else 0
theorem yd {ps:List Pt} (h:n<1∨200<n∨800<ps.length):cC n ps=2:=by unfold cC;rw[if_pos h]
theorem AG {ps:List Pt} (h:¬(n<1∨200<n∨800<ps.length)) (k:Nat) (p:Pt) (hk:ps[k]?=some p) (hp:outside n p=true):cC n ps=1:=by
 unfold cC;rw[if_neg h,if_pos];rw[List.any_eq_true];exact⟨p,Gp hk,hp⟩
theorem oH {ps:List Pt} (h:¬(n<1∨200<n∨800<ps.length)) (hp:∀ k p,k<ps.length→ps[k]?=some p→outside n p=false):cC n ps=0:=by
 unfold cC;rw[if_neg h,if_neg];rw[List.any_eq_true];rintro⟨p,hx,hb⟩;obtain⟨i,hi,rfl⟩:=List.getElem_of_mem hx;have:=hp i _ hi (F0 hi);rw[hb] at this;cases this
theorem ix {ps:List Pt} (h:cC n ps=0):1≤n∧n≤200∧ps.length≤800∧∀ p∈ps,0≤p.at_∧p.at_<n:=by
 unfold cC at h;split at h
 ·omega
 ·split at h
  ·omega
  ·rename_i h1 h2
   refine⟨by omega,by omega,by omega,fun p hp=>?_⟩;rw[List.any_eq_true] at h2;have:¬outside n p=true:=fun hb=>h2 ⟨p,hp,hb⟩
   simp[outside] at this;omega
end Mx
end
section
open Go.RowKit
variable {n:Nat} {x:Int}
def kZ (w wr:World) (g:Nat) (s0 s1 s2:Value):Prop:=wr.cell? ⟨g,0,none⟩=some s0∧wr.cell? ⟨g,1,none⟩=some s1∧wr.cell? ⟨g,2,none⟩=some s2∧Gq w wr∧g<wr.heap.size
theorem kZ.start (w:World) (s0 s1 s2:Value):kZ w (w.alloc (.cells #[s0,s1,s2] 130)) w.heap.size s0 s1 s2 :=
 ⟨by rw[World.cell?_alloc_new];rfl,by rw[World.cell?_alloc_new];rfl,by rw[World.cell?_alloc_new];rfl,af _ _,by simp⟩
theorem kZ.later {w wr w':World} {g:Nat} {s0 s1 s2:Value} (h:kZ w wr g s0 s1 s2) (hb:Gq wr w'):kZ w w' g s0 s1 s2 :=
 ⟨(hb.cell (p:=⟨g,0,none⟩) h.2.2.2.2).trans h.1,(hb.cell (p:=⟨g,1,none⟩) h.2.2.2.2).trans h.2.1,(hb.cell (p:=⟨g,2,none⟩) h.2.2.2.2).trans h.2.2.1,h.2.2.2.1.trans (hb.mono h.2.2.2.1.size),by have:=hb.size;have:=h.2.2.2.2;omega⟩
def Mx.inside (n:Nat) (x:Int):Bool:=decide (0≤x∧x<n)
theorem Mx.iG (h:0≤x∧x<n):Mx.inside n x=true:=decide_eq_true h
theorem Mx.ju (h:¬(0≤x∧x<n)):Mx.inside n x=false:=decide_eq_false h
theorem uH (sa pa:Option Addr) (n sc m pc:Nat) (left at_:Int) (w:World) (_hn:n≤maxLen) :
 Calls Tryz.prog 129 #[.agg #[.slice sa n sc,.slice pa m pc,.int .i64 left],.int .i64 at_] w fun e w'=>e=.returned (.bool (Mx.inside n at_))∧Gq w w':=by
 by_cases h0:0≤at_
 ·by_cases h1:at_<n
  ·have HR:=aa (Mx.iG (And.intro h0 h1))
   go_enter Tryz.func129,Tryz.ntmps129;go_wp2
   go_ret;exact⟨by rw[HR.o];rfl,af _ _⟩
  ·have HR:=aa (Mx.ju (n:=n) (x:=at_) (fun h=>h1 h.2))
   go_enter Tryz.func129,Tryz.ntmps129;go_wp2
   go_ret;exact⟨by rw[HR.o];rfl,af _ _⟩
 ·have HR:=aa (Mx.ju (n:=n) (x:=at_) (fun h=>h0 h.1))
  go_enter Tryz.func129,Tryz.ntmps129;go_wp2
  go_ret;exact⟨by rw[HR.o];rfl,af _ _⟩
theorem gm (sa pa:Option Addr) (n sc m pc:Nat) (left:Int) (ps:List Pt) (w:World) (hp:PL w pa m ps) (hn:n≤maxLen) :
 Calls Tryz.prog 94 #[.agg #[.slice sa n sc,.slice pa m pc,.int .i64 left]] w fun e w'=>e=.returned (bt (Mx.cC n ps))∧Gq w w':=by
 have hlen:m≤maxLen:=hp.2.2.1;have HNN:=aa hn;unfold maxLen at hlen hn;have HB:=aa hp;have HL:=aa hp.1;clear hp;by_cases h:n<1∨200<n∨800<m
 ·have HM:=aa (Mx.yd (n:=n) (ps:=ps) (by rw[HL.o];exact h))
  by_cases h1:(n:Int)<1
  ·clear h
   go_enter Tryz.func94,Tryz.ntmps94;go_wp2
   go_ret;exact⟨by rw[HM.o];rfl,af _ _⟩
  ·by_cases h2:(200:Int)<n
   ·clear h
    go_enter Tryz.func94,Tryz.ntmps94;go_wp2
    go_ret;exact⟨by rw[HM.o];rfl,af _ _⟩
   ·have h3:(800:Int)<m:=by omega
    clear h;go_enter Tryz.func94,Tryz.ntmps94;go_wp2
    go_ret;exact⟨by rw[HM.o];rfl,af _ _⟩
 ·have h1:¬(n:Int)<1:=by omega
  have h2:¬(200:Int)<n:=by omega
  have h3:¬(800:Int)<m:=by omega
  have HN:=aa (show ¬(n<1∨200<n∨800<ps.length) by rw[HL.o];exact h);clear h;go_enter Tryz.func94,Tryz.ntmps94;go_wp2
  go_loopw [4,25] (fun _ i wr=>∃ k:Nat,k≤m∧i=.int .i64 k∧Hid (∀ j p,j<k→ps[j]?=some p→Mx.outside n p=false)∧Hid (kZ w wr w.heap.size (.slice sa n sc) (.slice pa m pc) (.int .i64 left))) (fun _ i _=>m-(intOf i).toNat)
  case atStart=>exact⟨0,by omega,rfl,fun j p hj=>absurd hj (by omega),kZ.start w _ _ _⟩
  case round =>
   obtain⟨k,hk,rfl,hgood,hbx⟩:=hrel;by_cases hlt:k<m
   ·obtain⟨b,off,p,rfl,hb,hx,c0,c1,c2,c3,c4,c5,c6,c7,c8⟩:=(HB.o.later hbx.o.2.2.2.1).at_ k hlt
    obtain⟨f0,f1,f2,_,hg⟩:=hbx.o;obtain⟨x,hxe⟩:∃ x:Int,Hid (x=p.at_):=⟨_,rfl⟩
    rw[←hxe.o] at c0;have HX:=aa hx;clear hx;go_wp2_with fail;refine(uH sa (some ⟨b,off,none⟩) n sc m pc left x _ HNN.o).mono ?_;rintro e w1 ⟨rfl,hb1⟩;have HD:=aa (hbx.o.later ((af _ _).trans (hb1.mono (by simp))));by_cases hin:0≤x∧x<n
    ·have HG:=aa (show Mx.outside n p=false by simp[Mx.outside,←hxe.o];omega)
     rw[Mx.iG hin];clear hin;go_wp2
     go_roundw
     case rel =>
      refine⟨k+1,by omega,by go_num,fun j p' hj hp'=>?_,HD⟩;by_cases hjk:j=k
      ·subst hjk
       rw[HX.o] at hp';cases hp'
       exact HG.o
      ·exact hgood j p' (by omega) hp'
     case measure=>simp[intOf];omega
    ·have HM:=aa (Mx.AG HN.o k p HX.o (by simp[Mx.outside,←hxe.o];omega))
     rw[Mx.ju hin];clear hin;go_wp2
     go_ret;exact⟨by rw[HM.o];rfl,HD.o.2.2.2.1⟩
   ·have HM:=aa (Mx.oH HN.o (fun j p hj hp=>hgood j p (by rw[HL.o] at hj;omega) hp))
    go_wp2
    go_ret;exact⟨by rw[HM.o];rfl,hbx.o.2.2.2.1⟩
namespace Mx
def bR (n:Nat) (ps:List Pt) (at_:Int):Int:=if cC n ps=0 then (if 0≤at_∧at_<n then 0 else 1) else cC n ps
end Mx
theorem gN (sa pa:Option Addr) (n sc m pc:Nat) (left at_:Int) (ps:List Pt) (w:World) (hp:PL w pa m ps) (hn:n≤maxLen) :
 Calls Tryz.prog 99 #[.agg #[.slice sa n sc,.slice pa m pc,.int .i64 left],.int .i64 at_] w fun e w'=>e=.returned (bt (Mx.bR n ps at_))∧Gq w w':=by
 have HNN:=aa hn;have HB:=aa hp;clear hp hn;go_enter Tryz.func99,Tryz.ntmps99;go_wp2_with fail;refine(gm sa pa n sc m pc left ps _ (HB.o.later (af _ _)) HNN.o).mono ?_;rintro e w1 ⟨rfl,hb1⟩;have HD:=aa ((kZ.start w (.slice sa n sc) (.slice pa m pc) (.int .i64 left)).later hb1);obtain⟨f0,f1,f2,_,hg⟩:=HD.o;clear hb1;by_cases hm:Mx.cC n ps=0
 ·have HM:=aa hm
  rw[hm,aG];clear hm;go_wp2_with fail;refine(uH sa pa n sc m pc left at_ _ HNN.o).mono ?_;rintro e w2 ⟨rfl,hb2⟩;have HB2:=aa (HD.o.later hb2).2.2.2.1;by_cases hin:0≤at_∧at_<n
  ·have HR:=aa (show Mx.bR n ps at_=0 by unfold Mx.bR;rw[if_pos HM.o,if_pos hin])
   rw[Mx.iG hin];clear hin;go_wp2
   go_ret;exact⟨by rw[HR.o];rfl,HB2.o⟩
  ·have HR:=aa (show Mx.bR n ps at_=1 by unfold Mx.bR;rw[if_pos HM.o,if_neg hin])
   rw[Mx.ju hin];clear hin;go_wp2
   go_ret;exact⟨by rw[HR.o];rfl,HB2.o⟩
 ·have HR:=aa (show Mx.bR n ps at_=Mx.cC n ps by unfold Mx.bR;rw[if_neg hm])
  have HM:=aa hm;rw[aZ hm];clear hm;go_wp2
  go_ret;exact⟨by rw[HR.o,aZ HM.o];rfl,HD.o.2.2.2.1⟩
end
section
open Go.RowKit
namespace Mx
def bytesOf (x:B8):List Int:=[x.z0,x.z1,x.z2,x.z3,x.z4,x.z5,x.z6,x.z7]
end Mx
def B8.ok (x:B8):Prop:=∀ z∈Mx.bytesOf x,0≤z∧z≤255
end
section

variable {l bs:List Int} {kind:Int}
namespace Mx
theorem kW (x:Nat) (h:x<2147483648):2147483648≤x ^^^ im:=by
 rcases Nat.lt_or_ge (x ^^^ im) 2147483648 with hlt|hge
 ·exfalso
  have e:(x ^^^ im) ^^^ x=im:=by rw[Nat.xor_comm x im,Nat.xor_assoc,Nat.xor_self,Nat.xor_zero]
  have:=Nat.xor_lt_two_pow (n:=31) hlt h;rw[e] at this;unfold im at this;omega
 ·exact hge
theorem kR (a b c:Nat) (h:a ^^^ c=b ^^^ c):a=b:=by
 have e:∀ x:Nat,(x ^^^ c) ^^^ c=x:=fun x=>by rw[Nat.xor_assoc,Nat.xor_self,Nat.xor_zero]
 rw[←e a,←e b,h]
theorem vT (x y:Nat) (hx:x<4294967296) (hy:y<4294967296) (h:fH x=fH y):x=y:=by
 unfold fH at h;have h1:=kW (x/2) (by omega);have h2:=kW (y/2) (by omega);split at h<;>split at h
 ·have:=kR _ _ _ h
  omega
 ·omega
 ·omega
 ·omega
theorem mh (k x y:Nat) (hx:x<4294967296) (hy:y<4294967296) (h:dR x k=dR y k):x=y:=by
 induction k with
 | zero => exact h
 | succ k ih => exact ih (vT _ _ (nJ x k hx) (nJ y k hy) h)
theorem tZ (x y c:Nat) (hc:c<256) (hx:x<4294967296) (hy:y<4294967296) (h:dp x c 8=dp y c 8):x=y:=by
 rw[←eX x c hc,←eX y c hc] at h;exact kR x y c (mh 8 _ _ (ie _ _ hx (by omega)) (ie _ _ hy (by omega)) h)
theorem sU (x c d:Nat) (hc:c<256) (hd:d<256) (hx:x<4294967296) (h:dp x c 8=dp x d 8):c=d:=by
 rw[←eX x c hc,←eX x d hd] at h;have:=mh 8 _ _ (ie _ _ hx (by omega)) (ie _ _ hx (by omega)) h;rw[Nat.xor_comm x c,Nat.xor_comm x d] at this;exact kR c d x this
theorem DM (l:List Int) (x y:Nat) (hb:∀ c∈l,0≤c∧c≤255) (hx:x<4294967296) (hy:y<4294967296) (h:reg x l=reg y l):x=y:=by
 induction l generalizing x y with
 | nil => exact h
 | cons c l ih =>
  have hc:=hb c (by simp);exact tZ x y c.toNat (by omega) hx hy (ih _ _ (fun d hd=>hb d (by simp[hd])) (gG _ _ _ hx) (gG _ _ _ hy) h)
theorem AB (pre post:List Int) (c d:Int) (hc:0≤c∧c≤255) (hd:0≤d∧d≤255) (hp:∀ x∈post,0≤x∧x≤255) (h:crc (pre++c::post)=crc (pre++d::post)):c=d:=by
 unfold crc at h;have h1:=sV 4294967295 (pre++c::post) (by omega);have h2:=sV 4294967295 (pre++d::post) (by omega);have h3:reg 4294967295 (pre++c::post)=reg 4294967295 (pre++d::post):=by omega
 rw[od,od] at h3;have hr:=sV 4294967295 pre (by omega);have h4:dp (reg 4294967295 pre) c.toNat 8=dp (reg 4294967295 pre) d.toNat 8:=DM post _ _ hp (gG _ _ _ hr) (gG _ _ _ hr) h3;have:=sU _ _ _ (by omega) (by omega) hr h4;omega
theorem zX (a b:Nat) (h:dL a=dL b):a=b:=by
 unfold dL at h;simp only[List.cons.injEq,and_true] at h;omega
theorem aE.dV {al:List Int} {nb:Nat} (h:aE l kind al nb bs) (hb:∀ x∈l,0≤x∧x≤255) (r:Nat) (hr:r<l.length) (z:Int) (hz:0≤z∧z≤255) (hne:l.getD r 0≠z) :
 ∀ k' n' m' s',¬aE (l.set r z) k' n' m' s':=by
 intro k' n' m' s' hf;have e1:=h.body.2;have e2:=hf.body.2;rw[List.length_set] at e2;have hl6:=h.head.2.2.1;rcases Nat.lt_or_ge r (l.length-4) with hlt|hge
 ·rw[List.drop_set_of_lt hlt,e1] at e2
  have hcrc:=zX _ _ e2;have hlt':r<(l.take (l.length-4)).length:=by rw[Gk];omega
  have f1:l.take (l.length-4)=(l.take (l.length-4)).take r++l.getD r 0::(l.take (l.length-4)).drop (r+1):=by
   conv=>lhs;rw[←List.take_append_drop r (l.take (l.length-4)),List.drop_eq_getElem_cons hlt']
   simp[List.getD_eq_getElem?_getD,hr]
  have f2:(l.set r z).take (l.length-4)=(l.take (l.length-4)).take r++z::(l.take (l.length-4)).drop (r+1):=by
   rw[List.take_set,List.set_eq_take_append_cons_drop,if_pos hlt']
  rw[f1,f2] at hcrc;have hm:=hb (l.getD r 0) (mL l r hr);exact hne (AB _ _ _ _ hm hz (fun x hx=>hb x (List.mem_of_mem_take (List.mem_of_mem_drop hx))) hcrc)
 ·rw[List.take_set_of_le hge,←e1] at e2
  have:=congrArg (fun(m:List Int)=>m.getD (r-(l.length-4)) 0) e2;simp only[pB,show l.length-4+(r-(l.length-4))=r by omega] at this;rw[Ga,List.getElem?_set,if_pos rfl,if_pos hr] at this;simp only[Option.getD_some] at this;exact hne this.symm
end Mx
theorem wM {w:World} {a2:Option Addr} {n2:Nat} (h2:aS w a2 n2 bs) (hm:Mx.may kind l n2=0):(Mx.aY kind l n2 bs).length≤2000:=by
 obtain⟨_,_,hll,hn2,_⟩:=du hm;have h1:=Mx.kE l;have h3:=h2.1;rw[Mx.aY,Ge,Mx.ia];simp[Mx.db];omega
end
end Go.Proofs.YtbicgjafjjihdaaGreatDoor
