/- Part. -/
import Derived.Test.YtbicgjafjjihdaaGreatZ7
set_option maxHeartbeats 16000000
set_option maxRecDepth 100000
namespace Go.Proofs.YtbicgjafjjihdaaGreat
section
open Go.RowKit Go.Shelf
variable {n₀ Bs Bn:Nat}
attribute [local go_sem] Oper.semAt_some
def KpC (n₀ Bs Bn:Nat) (W W':World):Prop:=Below n₀ W W'∧W'.heap[Bs]?=W.heap[Bs]?∧W'.heap[Bn]?=W.heap[Bn]?
theorem EW {A B C:World} (h:KpC n₀ Bs Bn A B) (k:KpC n₀ Bs Bn B C):KpC n₀ Bs Bn A C:=⟨h.1.trans k.1,k.2.1.trans h.2.1,k.2.2.trans h.2.2⟩
theorem EU {w:World} (hn:n₀≤w.heap.size) (hB:Bs<w.heap.size) (hB2:Bn<w.heap.size) (W:World) (l:Nat) (o o':Obj) (hl:w.heap.size≤l) (h:W.heap[l]?=some o) (h1:o.isCells=false) (h2:o.isWalk=false):KpC n₀ Bs Bn W (W.putObj l o') :=
 ⟨(nL hn hB W l o o' hl h h1 h2).1,(nL hn hB W l o o' hl h h1 h2).2,(nL hn hB2 W l o o' hl h h1 h2).2⟩
end
section
open Go.RowKit Go.Shelf
attribute [local go_sem] Oper.semAt_some
structure Cn (m:Nat) where
 s:Nat
 q:Nat
 ok:s+q≤m∧q≤9
def fT (m k:Nat):Cn m:=⟨min (k*9) m,min 9 (m-min (k*9) m),by omega,by omega⟩
def cd (m k:Nat):List (Cn m):=(List.range k).map (fT m)
theorem nr (m k:Nat):cd m (k+1)=cd m k++[fT m k]:=by simp[cd,List.range_succ]
theorem jj (m k:Nat):(cd m k).length=k:=by simp[cd]
def oI (b off:Nat) {m:Nat} (x:Cn m):Array Value:=#[.slice (some ⟨b,off+x.s,none⟩) x.q x.q]
theorem yM (n:Nat) (hn:1≤n) (l Bs Bn n₀ b off cap m:Nat) (hm:m≤1000) (hcap:m≤cap) (J Jx:List (Cn m)→World→Prop)
 (W:World) (_hn₀:n₀≤W.heap.size) (hJ:AbidesFrom W.heap.size J)
 (hY:∀ pre x W,J pre W→pre.length<(m+8)/9→YieldAt Fence.wide (n-1) Tryz.prog l (oI b off x) W fun e W' =>
   (e=.returned (.bool true)∧J (pre++[x]) W'∧KpC n₀ Bs Bn W W')∨(e=.returned (.bool false)∧Jx (pre++[x]) W'))
 (hBs:W.cell? ⟨Bs,0,none⟩=some (.slice (some ⟨b,off,none⟩) m cap)) (hBn:W.cell? ⟨Bn,0,none⟩=some (.int .i64 9)) (h0:J [] W) :
 CallsIn Fence.wide n Tryz.prog 148 #[.func (.yield l) #[] #[],.pointer (some ⟨Bs,0,none⟩),.pointer (some ⟨Bn,0,none⟩)] W fun e W'=>(∃ v,e=.returned v) ∧
  ((∃ ys,ys=cd m ((m+8)/9)∧J ys W')∨(∃ pre,(∃ k,k≤(m+8)/9∧pre=cd m k)∧Jx pre W')):=by
 refine callsIn_of_wp Tryz.func148 rfl trivial ?_ rfl;simp only[Tryz.ntmps148,List.size_toArray,List.length_cons,List.length_nil,Nat.reduceAdd,Nat.reduceSub,Array.replicate_succ,Array.replicate_zero,List.push_toArray,List.append_toArray,List.nil_append,List.cons_append];gi_wp2
 gi_loopw [4] (fun i wr=>∃ (k I:Nat),Hid (I=k*9)∧Hid (k≤(m+8)/9)∧I≤m+8∧i=.int .i64 (I:Int)∧J (cd m k) wr∧Below n₀ W wr∧wr.heap[Bs]?=W.heap[Bs]?∧wr.heap[Bn]?=W.heap[Bn]?)
  (fun i _=>m+9-(intOf i).toNat)
 case atStart=>exact⟨0,0,rfl,Nat.zero_le _,by omega,rfl,h0,Below.refl _ _,rfl,rfl⟩
 case round =>
  obtain⟨k,I,hI,hkN,hIm,rfl,hJs,hnx,hbs,hbn⟩:=hrel;have HBS:=aa hbs;have HBN:=aa hbn;have hbx:wr.cell? ⟨Bs,0,none⟩=some (.slice (some ⟨b,off,none⟩) m cap):=(World.cell?_of_block (w:=W) (a:=⟨Bs,0,none⟩) hbs).trans hBs;have hby:wr.cell? ⟨Bn,0,none⟩=some (.int .i64 9):=(World.cell?_of_block (w:=W) (a:=⟨Bn,0,none⟩) hbn).trans hBn;clear hbs hbn;by_cases hlt:(I:Int)<m
  ·have hI2:(I:Int)≤cap:=by omega
   have hI3:(I:Int)≤m:=by omega
   obtain⟨x,hx⟩:∃ x:Cn m,Hid (x=fT m k):=⟨_,rfl⟩
   by_cases h4:(9:Int)≤(m:Int)-I
   ·have hxs:x.s=I∧x.q=9:=by
     have h1:=hI.o;rw[hx.o];constructor
     ·show min (k*9) m=I
      omega
     ·show min 9 (m-min (k*9) m)=9
      omega
    obtain⟨W1,hW1⟩:∃ W1:World,W1=wr.drew:=⟨_,rfl⟩
    have hg1:wr.grownBy W1 none:=by
     rw[hW1];exact⟨rfl,rfl,rfl,FG _,fun i hi _=>rfl⟩
    obtain⟨fn,tmps,assign,body,hy,hR⟩:=hY (cd m k) x W1 (hJ _ wr W1 none hJs hg1 (fun r h=>by cases h)) (by rw[jj];have:=hI.o;omega);unfold oI at hy;rw[hxs.1,hxs.2] at hy;rw[hW1] at hy hR;have hc4:(I:Int)+9≤cap:=by omega
    have e44:I+9-I=9:=by omega
    gi_wp2
    gi_region
    gi_wp2_with fail;refine hR.mono ?_;have HX:=aa (show cd m (k+1)=cd m k++[x] by rw[nr,hx.o]);have HK:=aa (show k+1≤(m+8)/9 by have:=hI.o;omega);rintro e W3 (⟨rfl,hJ3,hk3⟩|⟨rfl,hJx3⟩)
    ·rw[←HX.o] at hJ3
     have HB3:=aa (show Below n₀ W W3 from hnx.drew.trans hk3.1);have HS3:=aa (show W3.heap[Bs]?=W.heap[Bs]? from hk3.2.1.trans HBS.o);have HN3:=aa (show W3.heap[Bn]?=W.heap[Bn]? from hk3.2.2.trans HBN.o);have hby3:W3.cell? ⟨Bn,0,none⟩=some (.int .i64 9):=(World.cell?_of_block (w:=W) (a:=⟨Bn,0,none⟩) HN3.o).trans hBn;clear hk3;gi_wp2_with fail;go_roundw
     case rel=>exact⟨k+1,I+9,by have:=hI.o;unfold Hid;omega,HK,by omega,by go_num,hJ3,HB3.o,HS3.o,HN3.o⟩
     case measure=>simp[intOf];omega
    ·rw[←HX.o] at hJx3
     gi_wp2
     refine bodyPost_ret (results_none rfl _ _ _) rfl ?_;refine⟨⟨_,rfl⟩,.inr ?_⟩;first
      | exact ⟨_, ⟨k + 1, HK.o, rfl⟩, hJx3⟩
      | exact ⟨k + 1, HK.o, hJx3⟩
   ·obtain⟨d,hd⟩:∃ d:Nat,m-I=d:=⟨_,rfl⟩
    have hd0:(I:Int)+d=m:=by omega
    have hxs:x.s=I∧x.q=d:=by
     have h1:=hI.o;rw[hx.o];constructor
     ·show min (k*9) m=I
      omega
     ·show min 9 (m-min (k*9) m)=d
      omega
    obtain⟨W1,hW1⟩:∃ W1:World,W1=wr.drew:=⟨_,rfl⟩
    have hg1:wr.grownBy W1 none:=by
     rw[hW1];exact⟨rfl,rfl,rfl,FG _,fun i hi _=>rfl⟩
    obtain⟨fn,tmps,assign,body,hy,hR⟩:=hY (cd m k) x W1 (hJ _ wr W1 none hJs hg1 (fun r h=>by cases h)) (by rw[jj];have:=hI.o;omega);unfold oI at hy;rw[hxs.1,hxs.2] at hy;rw[hW1] at hy hR;have hc4:(I:Int)+d≤cap:=by omega
    have hd4:(d:Int)<9:=by omega
    have hd1:(0:Int)<d:=by omega
    have e44:I+d-I=d:=by omega
    gi_wp2
    gi_region
    gi_wp2_with fail;refine hR.mono ?_;have HX:=aa (show cd m (k+1)=cd m k++[x] by rw[nr,hx.o]);have HK:=aa (show k+1≤(m+8)/9 by have:=hI.o;omega);rintro e W3 (⟨rfl,hJ3,hk3⟩|⟨rfl,hJx3⟩)
    ·rw[←HX.o] at hJ3
     have HB3:=aa (show Below n₀ W W3 from hnx.drew.trans hk3.1);have HS3:=aa (show W3.heap[Bs]?=W.heap[Bs]? from hk3.2.1.trans HBS.o);have HN3:=aa (show W3.heap[Bn]?=W.heap[Bn]? from hk3.2.2.trans HBN.o);have hby3:W3.cell? ⟨Bn,0,none⟩=some (.int .i64 9):=(World.cell?_of_block (w:=W) (a:=⟨Bn,0,none⟩) HN3.o).trans hBn;clear hk3;gi_wp2_with fail;go_roundw
     case rel=>exact⟨k+1,I+9,by have:=hI.o;unfold Hid;omega,HK,by omega,by go_num,hJ3,HB3.o,HS3.o,HN3.o⟩
     case measure=>simp[intOf];omega
    ·rw[←HX.o] at hJx3
     gi_wp2
     refine bodyPost_ret (results_none rfl _ _ _) rfl ?_;refine⟨⟨_,rfl⟩,.inr ?_⟩;first
      | exact ⟨_, ⟨k + 1, HK.o, rfl⟩, hJx3⟩
      | exact ⟨k + 1, HK.o, hJx3⟩
  ·have HE:=aa (show k=(m+8)/9 by have:=hI.o;have:=hkN.o;omega)
   gi_wp2
   go_end0
   have hJe:J (cd m ((m+8)/9)) wr:=by rw[←HE.o];exact hJs
   refine⟨⟨_,rfl⟩,.inl ?_⟩;first
    | exact hJe
    | exact ⟨_, rfl, hJe⟩
theorem tL (n:Nat) (a:Option Addr) (len cap:Nat) (w:World) :
 CallsIn Fence.wide n Tryz.prog 130 #[.slice a len cap,.int .i64 9] w fun e w'=>e=.returned (.func (.func 148) #[] #[.pointer (some ⟨w.heap.size,0,none⟩),.pointer (some ⟨w.heap.size+1,0,none⟩)])∧w'=(w.alloc (.cells #[.slice a len cap] 46)).alloc (.cells #[.int .i64 9] 3):=by
 refine callsIn_of_wp Tryz.func130 rfl trivial ?_ rfl;simp only[Tryz.ntmps130,List.size_toArray,List.length_cons,List.length_nil,Nat.reduceAdd,Nat.reduceSub,Array.replicate_succ,Array.replicate_zero,List.push_toArray,List.append_toArray,List.nil_append,List.cons_append];gi_wp2
 go_ret;exact⟨rfl,rfl⟩
theorem sx (n:Nat) (hn:1≤n) (Bs Bn n₀ b off cap m:Nat) (hm:m≤1000) (hcap:m≤cap) (w:World) (hn₀:n₀≤w.heap.size) (hBsl:Bs<w.heap.size) (hBnl:Bn<w.heap.size)
 (hBs:w.cell? ⟨Bs,0,none⟩=some (.slice (some ⟨b,off,none⟩) m cap)) (hBn:w.cell? ⟨Bn,0,none⟩=some (.int .i64 9)) :
 SeqStopsK Fence.wide n Tryz.prog 148 #[.pointer (some ⟨Bs,0,none⟩),.pointer (some ⟨Bn,0,none⟩)] (oI b off (m:=m)) (KpC n₀ Bs Bn) (fun ys=>ys=cd m ((m+8)/9)) (fun pre=>∃ k,k≤(m+8)/9∧pre=cd m k) ((m+8)/9) w:=fun l J Jx W hW hJ _ hY h0 =>
 yM n hn l Bs Bn n₀ b off cap m hm hcap J Jx W (FM hn₀ hW.size) hJ hY ((hW.cell (p:=⟨Bs,0,none⟩) hBsl).trans hBs) ((hW.cell (p:=⟨Bn,0,none⟩) hBnl).trans hBn) h0
end
end Go.Proofs.YtbicgjafjjihdaaGreat
