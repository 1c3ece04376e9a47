/- Part. -/
import Derived.Test.YtbicgjafjjihdaaGreatDoorZ25
import Derived.Test.YtbicgjafjjihdaaGreatDoorZ27
set_option maxHeartbeats 16000000
set_option maxRecDepth 100000
namespace Go.Proofs.YtbicgjafjjihdaaGreatDoor
open Go.RowKit
section
structure Rp where
 e:Int
 d:B8
 hv:Nat
 sf:Nat
 bk:Nat
 q:Nat
 bl:List B8
def Rp.cs (n:Nat) (r:Rp):List Value:=[.int .i64 r.e,.int .u8 r.d.z0,.int .u8 r.d.z1,.int .u8 r.d.z2,.int .u8 r.d.z3,.int .u8 r.d.z4,.int .u8 r.d.z5,.int .u8 r.d.z6,.int .u8 r.d.z7,.int .i64 (r.hv:Int),.int .i64 (r.sf:Int),.int .i64 (r.bk:Int),.slice (some ⟨r.q,0,none⟩) n n]
def iE (n:Nat) (l:List Rp):List Value:=l.flatMap (Rp.cs n)
theorem yk (n:Nat) (l:List Rp):(iE n l).length=l.length*13:=eo _ 13 (fun _=>rfl) l
theorem Tryz.info40:(Tryz.prog.info? 40).map (fun i=>(i.zero,i.size,i.bytes))=some (some (.agg #[.int .i64 0,.int .u8 0,.int .u8 0,.int .u8 0,.int .u8 0,.int .u8 0,.int .u8 0,.int .u8 0,.int .u8 0,.int .i64 0,.int .i64 0,.int .i64 0,.slice none 0 0]),13,64):=by kernel_rfl
def gl (w:World) (g m n:Nat) (rs:List Rp):Prop :=
 ∃ cur,Bx w g cur 40∧rs.length≤m∧cur.size=m*13∧cur.toList.take (rs.length*13)=iE n rs∧∀ i v,cur[13*i]?≠some (.int .u8 v)
theorem gl.nby {w:World} {g m n:Nat} {rs:List Rp} (h:gl w g m n rs):Nby w g:=fun o=>by
 obtain⟨cur,hb,_,_,_,hn⟩:=h;refine⟨(13-o%13)%13,by omega,fun v=>?_⟩;rw[hb.cell,show o+(13-o%13)%13=13*((o+12)/13) by omega];exact hn _ v
theorem gl.ext {T:Nat→Prop} {w w':World} {g m n:Nat} {rs:List Rp} (h:gl w g m n rs) (hx:Ex T w w') (hT:¬T g):gl w' g m n rs:=by
 obtain⟨cur,hb,hr⟩:=h;exact⟨cur,Ex.bx hx hb hT,hr⟩
theorem sk (m n:Nat) (hn:m≤1000):∃ C:Array Value,(∀ w:World,(Instr.makeSlice 23 (.int .i64 0) (.int .i64 (m:Int))).run Tryz.prog w=.ok (.slice (some ⟨w.heap.size,0,none⟩) 0 m) (w.alloc (.cells C 40))) ∧
 Hid (∀ w:World,gl (w.alloc (.cells C 40)) w.heap.size m n []):=by
 obtain⟨i0,hi,hz0,hz1,hz2⟩:=info_parts Tryz.info40;refine⟨madeCells #[.int .i64 0,.int .u8 0,.int .u8 0,.int .u8 0,.int .u8 0,.int .u8 0,.int .u8 0,.int .u8 0,.int .u8 0,.int .i64 0,.int .i64 0,.int .i64 0,.slice none 0 0] (m*13),fun w=>?_,fun w=>⟨_,Bx.new w _ _,Nat.zero_le _,size_madeCells _ _,rfl,fun i v e=>?_⟩⟩
 ·have h:=run_makeSlice (P:=Tryz.prog) w 23 40 i0 _ Tryz.underlying23 hi hz0 .i64 .i64 (0:Int) (m:Int) (by omega) (by omega) (by rw[hz1];simp;omega) (by rw[hz2];omega) (by omega)
  rw[hz1] at h;simpa [Value.cells] using h
 ·have hlt:=(Array.getElem?_eq_some_iff.1 e).1
  rw[size_madeCells] at hlt;unfold madeCells at e;rw[Array.getElem?_map,Array.getElem?_range,if_pos hlt] at e;have e2:=Gg e;have h0:(13*i)%13=0:=by omega
  have e3:(#[.int .i64 0,.int .u8 0,.int .u8 0,.int .u8 0,.int .u8 0,.int .u8 0,.int .u8 0,.int .u8 0,.int .u8 0,.int .i64 0,.int .i64 0,.int .i64 0,.slice none 0 0]:Array Value)[(13*i)%13]! = .int .u8 v:=e2;rw[h0] at e3;cases e3
theorem qU {w:World} {g m n:Nat} {rs:List Rp} (ty:TypeId) (h:gl w g m n rs) (h0:Nat) (x:Rp) (hB:Bx w h0 (x.cs n).toArray 40) (hl:rs.length<m) :
 ∃ w',(Builtin.append_ #[23,23] ty #[.slice (some ⟨g,0,none⟩) rs.length m,.slice (some ⟨h0,0,none⟩) 1 1]).run Tryz.prog w=.ok (.slice (some ⟨g,0,none⟩) (rs.length+1) m) w'∧gl w' g m n (rs++[x])∧w.grownBy w' (some g):=by
 obtain⟨i0,hi0,hz0,hz1,hz2⟩:=info_parts Tryz.info40;obtain⟨cur,hg,hc,hs,ht,hn⟩:=h;have h13:(x.cs n).length=13:=rfl;have hlen:(x.cs n).length=1*i0.size:=by rw[hz1];rfl
 have hnews:∀ j u,(x.cs n)[j]?=some u→w.cell? ((⟨h0,0,none⟩:Addr).add j)=some u:=fun j u hj=>by
  rw[Addr.add_lit,Nat.zero_add,hB.cell j];simpa using hj
 have hone:∀ u∈x.cs n,u.oneCell'=true:=by
  intro u hu;simp[Rp.cs] at hu;rcases hu with rfl|rfl|rfl|rfl|rfl|rfl|rfl|rfl|rfl|rfl|rfl|rfl|rfl<;>rfl
 have hr:=_root_.Go.run_append_room (P:=Tryz.prog) w 23 ty 40 i0 Tryz.underlying23 hi0 g rs.length m cur hg ⟨h0,0,none⟩ 1 1 (x.cs n) hlen hnews hone (by omega) (by rw[hlen,hz1,hs];omega);rw[hz1] at hr;refine⟨_,hr,⟨_,setRow_heap w g cur _ _ _ hg,by rw[Ge];exact hl,?_,?_,?_⟩,⟨rfl,rfl,rfl,by simp,fun k _ hk=>setRow_other w g k _ (fun e=>hk (by simp[e]))⟩⟩
 ·simp only[List.size_toArray,Ge,Gk,List.length_drop,Array.length_toList,h13]
  omega
 ·have h5:iE n [x]=x.cs n:=by simp[iE]
  have h6:iE n (rs++[x])=iE n rs++x.cs n:=by rw[iE,List.flatMap_append];exact congrArg _ h5
  rw[h6,ht];have h4:(iE n rs++x.cs n).length=(rs++[x]).length*13:=by rw[←h6,yk]
  rw[←h4];exact List.take_left
 ·intro i v e
  have hk:(cur.toList.take (rs.length*13)).length=rs.length*13:=by have h9:cur.toList.length=m*13:=(Array.length_toList (xs:=cur)).trans hs;rw[Gk];omega
  have e':(cur.toList.take (rs.length*13)++x.cs n++cur.toList.drop (rs.length*13+(x.cs n).length))[13*i]?=some (.int .u8 v):=by simpa using e
  rcases Nat.lt_trichotomy i rs.length with hi|hi|hi
  ·rw[Gm (by rw[Ge,hk];omega),Gm (by omega),List.getElem?_take_of_lt (by omega),Array.getElem?_toList] at e'
   exact hn i v e'
  ·rw[Gm (by rw[Ge,hk,h13];omega),Gl (by omega),hk,show 13*i-rs.length*13=0 by omega] at e'
   cases e'
  ·rw[Gl (by rw[Ge,hk,h13];omega),Ge,hk,h13,List.getElem?_drop,Array.getElem?_toList,show rs.length*13+13+(13*i-(rs.length*13+13))=13*i by omega] at e'
   exact hn i v e'
def RL (w:World) (a:Option Addr) (m n:Nat) (rs:List Rp):Prop :=
 rs.length=m∧(∀ r∈rs,BL w (some ⟨r.q,0,none⟩) n r.bl)∧(0<m→∃ b off,a=some ⟨b,off,none⟩∧b<w.heap.size∧∀ i r,rs[i]?=some r→∀ j u,(r.cs n)[j]?=some u→w.cell? ⟨b,off+i*13+j,none⟩=some u)
theorem RL.later {w w':World} {a:Option Addr} {m n:Nat} {rs:List Rp} (h:RL w a m n rs) (hb:Gq w w'):RL w' a m n rs:=by
 obtain⟨h1,h2,h3⟩:=h;refine⟨h1,fun r hr=>(h2 r hr).later hb,fun h0=>?_⟩;obtain⟨b,off,ha,hlt,hc⟩:=h3 h0;exact⟨b,off,ha,Gf hlt hb.size,fun i r hr j u hu=>(hb.cell (p:=⟨b,off+i*13+j,none⟩) hlt).trans (hc i r hr j u hu)⟩
theorem gl.rl {w:World} {g n:Nat} {l:List Rp} (h:gl w g l.length n l) (ho:∀ r∈l,BL w (some ⟨r.q,0,none⟩) n r.bl):RL w (some ⟨g,0,none⟩) l.length n l:=by
 obtain⟨cur,hb,_,hs,ht,_⟩:=h;refine⟨rfl,ho,fun h0=>⟨g,0,rfl,hb.lt,fun i x hx j u hu=>?_⟩⟩;have hj:j<13:=(Gh.1 hu).1;have hi:=(Gh.1 hx).1;have hat:=cQ (Rp.cs n) 13 (fun _=>rfl) l i j x hx hj;have e:(iE n l)[i*13+j]?=some u:=hat.trans hu;rw[←ht,List.getElem?_take_of_lt (by omega),Array.getElem?_toList] at e;rw[Nat.zero_add,hb.cell];exact e
structure RpG (n:Nat) (ds:List De) (i:Nat) (r:Rp):Prop where
 x:∃ x,ds[i]?=some x∧r.e=Mx.doE n x∧r.d=Mx.doD n (Mx.aU n (ds.take i)).2 x
 len:(Mx.aU n (ds.take (i+1))).1.length=r.hv+1
 bk:r.bk≤r.hv
 sf:r.sf≤r.bk
 bl:(Mx.aU n (ds.take (i+1))).1[r.bk]?=some r.bl
def gL (n:Nat) (ds:List De) (rs:List Rp):Prop:=(∀ i r,rs[i]?=some r→RpG n ds i r)∧(∀ (i j:Nat) (r r':Rp),i≤j→rs[i]?=some r→rs[j]?=some r'→r.bk≤r'.bk)
theorem gL.snoc {n:Nat} {ds:List De} {rs:List Rp} {r:Rp} (h:gL n ds rs) (hr:RpG n ds rs.length r) (hb:∀ r'∈rs,r'.bk≤r.bk):gL n ds (rs++[r]):=by
 have key:∀ i y,(rs++[r])[i]?=some y→rs[i]?=some y∨(i=rs.length∧y=r):=fun i y hy=>by
  by_cases hi:i<rs.length
  ·rw[Gm hi] at hy
   exact .inl hy
  ·rw[Gl (by omega)] at hy
   have h0:i-rs.length=0:=by
    have:=(Gh.1 hy).1;simp at this;omega
   rw[h0] at hy;exact .inr ⟨by omega,(Gg hy).symm⟩
 refine⟨fun i y hy=>?_,fun i j y y' hij hy hy'=>?_⟩
 ·rcases key i y hy with h1|⟨rfl,rfl⟩
  ·exact h.1 i y h1
  ·exact hr
 ·rcases key j y' hy' with h1|⟨rfl,rfl⟩
  ·rcases key i y hy with h2|⟨rfl,rfl⟩
   ·exact h.2 i j y y' hij h2 h1
   ·have:=(Gh.1 h1).1
    omega
  ·rcases key i y hy with h2|⟨rfl,rfl⟩
   ·exact hb y (Gp h2)
   ·exact Gi _
section
variable {G S T:Nat→Prop} {w w':World} {B n c:Nat} {ae:List (List B8)} {now:List B8} {p:Pf_} {o:Of_} {r:Rc_} {ls:List Lt_}
theorem PaS.FN (h:PaS (fun _=>False) S w B n c ae now p o r ls) (o1:Obj) (hn:Nby (w.alloc o1) w.heap.size):PaS (fun x=>x=w.heap.size) (fun x=>S x∨x=w.heap.size) (w.alloc o1) B n c ae now p o r ls:=by
 obtain⟨A,D,C,P,O,b,X,I⟩:=h;have hb:=af w o1;have hw:Wd S (fun x=>S x∨x=w.heap.size) w:=(Wd.refl S w).add (Gi _);have ne:∀ x,S x→x≠w.heap.size:=fun x hx e=>by have:=X.mu.lt x hx;omega
 exact⟨A,D,C,P,O,b,⟨⟨fun x hx=>hx.elim (fun h=>(X.mu.later hb).lt x h) (fun e=>by rw[e,World.size_alloc];omega),fun x hx=>hx.elim ((X.mu.later hb).no x) (fun e=>by rw[e];exact hn)⟩,
  (X.pr.wd hw (fun x hx=>.inl (X.pr.sub x hx))).later hb,(X.ot.wd hw (fun x hx=>.inl (X.ot.sub x hx))).later hb,(X.ln.wd hw (fun x hx=>.inl (X.ln.sub x hx))).later hb,X.ab,X.ac,X.bc,
  fun x hx=>⟨.inr hx,fun h=>ne x (X.pr.sub x h) hx,fun h=>ne x (X.ot.sub x h) hx,fun h=>ne x (X.ln.sub x h) hx⟩⟩,I⟩
theorem PaS.inG (h:PaS G S w B n c ae now p o r ls) (hx:Ex T w w') (hT:∀ x,T x→G x) (hn:∀ x,T x→Nby w' x):PaS G S w' B n c ae now p o r ls:=by
 obtain⟨A,D,C,P,O,b,X,I⟩:=h;have hs:∀ x,T x→S x:=fun x ht=>(X.gg x (hT x ht)).1
 exact⟨A,D,C,P,O,b,⟨⟨fun x h=>Gf (X.mu.lt x h) hx.size,fun x h=>by
  by_cases ht:T x
  ·exact hn x ht
  ·exact(X.mu.no x h).same fun _=>hx.cell (X.mu.lt x h) ht⟩,
  X.pr.frame hx hs (fun x ha ht=>(X.gg x (hT x ht)).2.1 ha),X.ot.frame hx hs (fun x ha ht=>(X.gg x (hT x ht)).2.2.1 ha),X.ln.frame hx hs (fun x ha ht=>(X.gg x (hT x ht)).2.2.2 ha),X.ab,X.ac,X.bc,X.gg⟩,I⟩
end
def StR (W0 wr:World) (B n k g m:Nat) (ds:List De) (rs:List Rp) (p:Pf_) (o:Of_):Prop :=
 ∃ S r ls,PaS (fun x=>x=g) S wr B n (1+k) (Mx.aU n (ds.take k)).1 (Mx.aU n (ds.take k)).2 p o r ls∧(∀ x,S x→W0.heap.size≤x)∧Gq W0 wr∧gL n ds rs∧(∀ y∈rs,W0.heap.size≤y.q∧BLo S wr (some ⟨y.q,0,none⟩) n y.bl∧y.bk≤o.back)∧gl wr g m n rs
theorem StR.did {W0 w v w':World} {B n k g m:Nat} {ds:List De} {rs:List Rp} {o:Of_} {S:Nat→Prop} {x:De} (hx:ds[k]?=some x) (h2:∀ x,S x→W0.heap.size≤x) (h3:Gq W0 w) (h4:gL n ds rs) (h5:∀ y∈rs,W0.heap.size≤y.q∧BLo S w (some ⟨y.q,0,none⟩) n y.bl∧y.bk≤o.back) (h6:gl w g m n rs) (hb:Gq w v)
 (hd:DoD (fun x=>x=g) S v w' B n (1+k+1) (Mx.doS (Mx.aU n (ds.take k)).1 (Mx.aU n (ds.take k)).2 x) (Mx.doN n (Mx.aU n (ds.take k)).1 (Mx.aU n (ds.take k)).2 x) o.back):∃ p' o',StR W0 w' B n (k+1) g m ds rs p' o':=by
 obtain⟨S',p',o',r',ls',q1,q2,q3⟩:=hd;have mv:=(Mv.below hb).trans q3;have q4:=mv.Ao h3.size h2;have e1:ds.take (k+1)=ds.take k++[x]:=by rw[List.take_add_one,hx];rfl
 refine⟨p',o',S',r',ls',?_,q4.2,h3.trans q4.1,h4,fun y hy=>⟨(h5 y hy).1,⟨((h5 y hy).2.1.ext (mv.ext.mono fun _ _ h=>h.1)).1,((h5 y hy).2.1.wd mv.wd).2⟩,Gn (h5 y hy).2.2 q2⟩,h6.ext mv.ext (fun h=>h.2 rfl)⟩;rw[e1,Mx.gI];exact q1
theorem StR.told {W0 w:World} {B n k g m:Nat} {ds:List De} {rs:List Rp} {p:Pf_} {o:Of_} (h:StR W0 w B n k g m ds rs p o):(Mx.aU n (ds.take k)).1.length=p.ar+1∧p.safe≤o.back∧o.back≤p.ar∧∃ bl,(Mx.aU n (ds.take k)).1[o.back]?=some bl:=by
 obtain⟨S,r,ls,h1,_⟩:=h;have hl:=h1.len;obtain⟨A,D,C,P,O,b,X,I⟩:=h1;have h9:=I.bA.1.safe;have h8:=I.bA.1.back;exact⟨hl,by omega,by omega,_,F0 (by omega)⟩
theorem StR.rep {W0 v w w':World} {B n k g m:Nat} {ds:List De} {rs:List Rp} {p:Pf_} {o:Of_} (h:StR W0 v B n (k+1) g m ds rs p o) (hb:Gq v w) {y:Rp} (hl:rs.length=k) (hy:RpG n ds k y) (hk:y.bk=o.back) (hq:v.heap.size≤y.q) (hbl:BL w (some ⟨y.q,0,none⟩) n y.bl) (hr:gl w' g m n (rs++[y])) (hg:w.grownBy w' (some g)):StR W0 w' B n (k+1) g m ds (rs++[y]) p o:=by
 obtain⟨S,r,ls,h1,h2,h3,h4,h5,h6⟩:=h;have hh:(∀ x,S x→x<v.heap.size)∧S g:=by
  obtain⟨A,D,C,P,O,b,X,I⟩:=h1;exact⟨X.mu.lt,(X.gg g rfl).1⟩
 have hx:=Ex.one hg;have hxS:Ex S w w':=hx.mono fun b _ e=>by rw[e];exact hh.2
 have nq:¬S y.q:=fun hs=>by have:=hh.1 _ hs;omega
 have bw:Gq W0 w:=h3.trans (hb.mono h3.size);refine⟨S,r,ls,(h1.later hb).inG hx (fun x e=>e) (fun x e=>by rw[e];exact hr.nby),h2,aM bw hg (h2 g hh.2),h4.snoc (by rw[hl];exact hy) (fun z hz=>by rw[hk];exact(h5 z hz).2.2),fun z hz=>?_,hr⟩;rcases List.mem_append.1 hz with hz|hz
 ·exact⟨(h5 z hz).1,((h5 z hz).2.1.ext (Ex.below hb)).ext hxS,(h5 z hz).2.2⟩
 ·obtain rfl:=List.mem_singleton.1 hz
  exact⟨Gn h3.size hq,BLo.ext ⟨hbl,fun _ p hp=>by cases hp;exact nq⟩ hxS,by rw[hk];exact Gi _⟩
end
theorem DS (n:Int) (a:Option Addr) (m c:Nat) (w:World) (h:eh n m≠0) :
 Calls Tryz.prog 7 #[.int .i64 n,.slice a m c] w fun e w'=>e=.returned (.tuple #[.slice none 0 0,.iface 28 (.int .i64 (eh n m))])∧w'=w:=by
 have HH:=aa h;obtain⟨E,hE⟩:∃ E:Int,Hid (E=eh n m):=⟨_,rfl⟩
 rw[←hE.o];clear h;go_enter Tryz.func7,Tryz.ntmps7;go_wp2_with fail;refine(tN n a m c w HH.o).mono ?_;rintro e w1 ⟨rfl,hw1⟩;rw[hw1,←hE.o];clear hw1;go_wp2_with fail;exact bodyPost_ret (v:=.tuple #[.slice none 0 0,.iface 28 (.int .i64 E)]) (by simp[results,Tryz.results7,go_sem]) rfl ⟨rfl,rfl⟩
theorem zT (n:Nat) (a:Option Addr) (m c:Nat) (ds:List De) (w:World) (h1:1≤n) (h2:n≤32) (h3:m≤300) (hd:DL w a m ds) (hg:Hnd w) :
 Calls Tryz.prog 7 #[.int .i64 (n:Int),.slice a m c] w fun e w'=>∃ a' c' rs,e=.returned (.tuple #[.slice a' m c',.nilIface])∧Hid (RL w' a' m n rs∧gL n ds rs)∧Hid (Gq w w'):=by
 obtain⟨C,hC,HC⟩:=sk m n (by omega);have HD:=aa hd;have HND:=aa hg;clear hd hg;go_enter Tryz.func7,Tryz.ntmps7;go_wp2_with fail;refine(wo n a m c w h1 h2 h3).mono ?_;rintro e w1 ⟨B,rfl,K1,D1⟩;obtain⟨W0,hW0⟩:∃ W0:World,Hid (W0=w1.alloc (.cells C 40)):=⟨_,rfl⟩
 obtain⟨g,hgg⟩:∃ g:Nat,Hid (g=w1.heap.size):=⟨_,rfl⟩
 have D0:=aa (show Gq w W0 by rw[hW0.o];exact D1.o.alloc D1.o.size _);have L1:=aa (show ∃p o,StR w W0 B n 0 g m ds [] p o by
  obtain⟨S,p,o,r,hp,hs⟩:=K1.o;have hr:=HC.o w1;refine⟨p,o,fun x=>S x∨x=g,r,[],?_,?_,D0.o,⟨fun i r h=>by simp at h,fun i j r r' _ h=>by simp at h⟩,(by intro y hy;cases hy),?_⟩
  ·have h9:=hp.FN (.cells C 40) hr.nby
   rw[hW0.o,hgg.o];exact h9
  ·intro x hx
   rcases hx with hx|hx
   ·exact hs x hx
   ·rw[hx,hgg.o];exact D1.o.size
  ·rw[hW0.o,hgg.o]
   exact hr)
 have HD0:=aa HD.o;have HAV:=aa (show Av (fun b=>b<w.heap.size) a m from HD0.o.av);clear K1 HC;go_upto_region 6 with fail
 rw[←hW0.o,←hgg.o];clear hC;go_loopw [8,29] (fun vl t wr=>∃ (k:Nat) (rs:List Rp),k≤m∧t=.int .i64 (k:Int)∧vl=.slice (some ⟨g,0,none⟩) k m∧Hid (rs.length=k∧∃ p o,StR w wr B n k g m ds rs p o)) (fun _ t _=>m-(intOf t).toNat)
 case atStart=>exact⟨0,[],Nat.zero_le _,rfl,rfl,aa ⟨rfl,L1.o⟩⟩
 case round =>
  obtain⟨k,rs,hk,rfl,rfl,hL⟩:=hrel;by_cases hlt:k<m
  ·have hlti:(k:Int)<(m:Int):=by omega
   obtain⟨hrl,p,o,S,r,ls,hP,hS,hB,hG,hY,hR⟩:=hL.o;have HRL:=aa hrl;have HP:=aa hP;have HS:=aa hS;have HB:=aa hB;have HG:=aa hG;have HY:=aa hY;have HR:=aa hR;obtain⟨b,off,x,ha,hx,hok,hbl,x0,x1,x2,x3,x4,x5,x6,x7,x8,x9,x10⟩:=(HD0.o.later HB.o HAV.o).at_ k hlt;subst ha;have HXK:=aa hx;have HOK:=aa hok;clear hx hok hrl hP hS hB hG hY hR hL;obtain⟨kd,at_,fr,d⟩:=x;simp only at x0 x1 x2 x3 x4 x5 x6 x7 x8 x9 x10;obtain⟨W2,hW2⟩:∃ W2:World,Hid (W2=wr.alloc (.cells #[.int .i64 kd,.int .i64 at_,.int .i64 fr,.int .u8 d.z0,.int .u8 d.z1,.int .u8 d.z2,.int .u8 d.z3,.int .u8 d.z4,.int .u8 d.z5,.int .u8 d.z6,.int .u8 d.z7] 37)):=⟨_,rfl⟩
   have D2:=beA hW2;have B2:=bxA hW2;go_upto_region 8 with fail
   rw[←hW2.o];clear x0 x1 x2 x3 x4 x5 x6 x7 x8 x9 x10;have y0:=B2.o.cell 0;have y1:=B2.o.cell 1;have y2:=B2.o.cell 2;have y3:=B2.o.cell 3;have y4:=B2.o.cell 4;have y5:=B2.o.cell 5;have y6:=B2.o.cell 6;have y7:=B2.o.cell 7;have y8:=B2.o.cell 8;have y9:=B2.o.cell 9;have y10:=B2.o.cell 10;simp only[Gd,Gc,Gb] at y0 y1 y2 y3 y4 y5 y6 y7 y8 y9 y10;obtain⟨dx,hdx⟩:∃ dx:B8,Hid (dx=Mx.doD n (Mx.aU n (ds.take k)).2 ⟨kd,at_,fr,d⟩):=⟨_,rfl⟩
   obtain⟨E,hE⟩:∃ E:Int,Hid (E=Mx.doE n ⟨kd,at_,fr,d⟩):=⟨_,rfl⟩
   have HDO:=Dv S B n (1+k) _ _ p o r ls W2 (HP.o.later D2.o) (by omega) kd at_ fr d HOK.o dx hdx.o;rw[←hE.o] at HDO;have HDD:=aa HDO;clear HDO;go_wp2_with fail;refine HDD.o.mono ?_;clear HDD;rintro e w3 ⟨rfl,K3⟩;obtain⟨p3,o3,hst⟩:=StR.did HXK.o HS.o HB.o HG.o HY.o HR.o D2.o K3.o;have T3:=aa hst;clear hst K3 y0 y1 y2 y3 y4 y5 y6 y7 y8 y9 y10;obtain⟨tl,tsf,tbk,bl,tbl⟩:=T3.o.told;have HTB:=aa tbl;have HTL:=aa (And.intro tl (And.intro tsf tbk));clear tl tsf tbk tbl;obtain⟨S3,r3,ls3,hP3,_⟩:=T3.o;have P3:=aa hP3;clear hP3;obtain⟨W4,hW4⟩:∃ W4:World,Hid (W4=w3.alloc (.cells #[.int .u8 dx.z0,.int .u8 dx.z1,.int .u8 dx.z2,.int .u8 dx.z3,.int .u8 dx.z4,.int .u8 dx.z5,.int .u8 dx.z6,.int .u8 dx.z7] 33)):=⟨_,rfl⟩
   obtain⟨ga,hga⟩:∃ ga:Nat,Hid (ga=w3.heap.size):=⟨_,rfl⟩
   have D4:=beA hW4;have B4:=aa (show Gs W4 ga dx by rw[hW4.o,hga.o];exact Bx.new w3 _ _);go_upto_region 9 with fail
   rw[←hW4.o,←hga.o];go_wp2_with fail;refine(xd S3 B n _ _ _ p3 o3 r3 ls3 W4 (P3.o.later D4.o) bl HTB.o).mono ?_;rintro e w5 ⟨q,rfl,O5,D5⟩;obtain⟨hv,hhv⟩:∃ hv:Nat,Hid (hv=p3.ar):=⟨_,rfl⟩
   obtain⟨sf,hsf⟩:∃ sf:Nat,Hid (sf=p3.safe):=⟨_,rfl⟩
   obtain⟨bk,hbk⟩:∃ bk:Nat,Hid (bk=o3.back):=⟨_,rfl⟩
   rw[←hhv.o,←hsf.o,←hbk.o];obtain⟨W6,hW6⟩:∃ W6:World,Hid (W6=w5.alloc (.cells #[.int .i64 0,.int .u8 0,.int .u8 0,.int .u8 0,.int .u8 0,.int .u8 0,.int .u8 0,.int .u8 0,.int .u8 0,.int .i64 (hv:Int),.int .i64 (sf:Int),.int .i64 (bk:Int),.slice (some ⟨q,0,none⟩) n n] 40)):=⟨_,rfl⟩
   obtain⟨gr,hgr⟩:∃ gr:Nat,Hid (gr=w5.heap.size):=⟨_,rfl⟩
   have D6:=beA hW6;have B6:=aa (show Bx W6 gr #[.int .i64 0,.int .u8 0,.int .u8 0,.int .u8 0,.int .u8 0,.int .u8 0,.int .u8 0,.int .u8 0,.int .u8 0,.int .i64 (hv:Int),.int .i64 (sf:Int),.int .i64 (bk:Int),.slice (some ⟨q,0,none⟩) n n] 40 by rw[hW6.o,hgr.o];exact Bx.new w5 _ _);have F6:=aa (show Gq W4 W6 from D5.o.trans (D6.o.mono D5.o.size));have A6:=aa (B4.o.later F6.o B4.o.lt);have Q6:=aa (show BL W6 (some ⟨q,0,none⟩) n bl∧W4.heap.size≤q from by
    obtain⟨a9,c9,hv9,_,hr9,hp9⟩:=aA O5.o;injection hv9 with e1 e2 _
    subst e1;rw[←e2] at hr9;exact⟨⟨e2.symm,hr9.later D6.o⟩,hp9 _ rfl⟩)
   have F36:=aa (show Gq w3 W6 from D4.o.trans (F6.o.mono D4.o.size));have FB6:=aa (show Gq w W6 from by
    obtain⟨_,_,_,_,_,h9,_⟩:=T3.o;exact h9.trans (F36.o.mono h9.size))
   have HG6:=aa (show Hnd W6.drew from(HND.o.later FB6.o.drew HND.o.lt));have hne:¬gr=ga:=by
    have h9:=D4.o.size;have h8:=D5.o.size;rw[hga.o,hgr.o];have h7:W4.heap.size=w3.heap.size+1:=by rw[hW4.o,World.size_alloc]
    omega
   have hgl:ga<W6.heap.size:=A6.o.lt;have hrl6:gr<W6.heap.size:=B6.o.lt;go_upto_region 12 with fail
   rw[←hW6.o,←hgr.o];obtain⟨z0,z1,z2,z3,z4,z5,z6,z7⟩:=Bx.eight A6.o;go_region_held3 (fun w'=>w'.cell? ⟨ga,0,none⟩=some (.int .u8 dx.z0)∧w'.cell? ⟨ga,1,none⟩=some (.int .u8 dx.z1)∧w'.cell? ⟨ga,2,none⟩=some (.int .u8 dx.z2)∧w'.cell? ⟨ga,3,none⟩=some (.int .u8 dx.z3)∧w'.cell? ⟨ga,4,none⟩=some (.int .u8 dx.z4)∧w'.cell? ⟨ga,5,none⟩=some (.int .u8 dx.z5)∧w'.cell? ⟨ga,6,none⟩=some (.int .u8 dx.z6)∧w'.cell? ⟨ga,7,none⟩=some (.int .u8 dx.z7))
    (first
      | with_reducible exact ⟨z0, z1, z2, z3, z4, z5, z6, z7⟩
      |(simp only[an];with_reducible exact⟨z0,z1,z2,z3,z4,z5,z6,z7⟩)
      | with_reducible exact ⟨y0, y1, y2, y3, y4, y5, y6, y7⟩
      |(simp only[aw hne];with_reducible exact⟨y0,y1,y2,y3,y4,y5,y6,y7⟩))
    (first
      |(go_at_call 19;(with_reducible refine(Cg E W6.drew HG6.o).mono ?_);rintro e w7 ⟨rfl,D7⟩;have F7:=aa (show Gq W6 w7 from(Below.refl _ _).drew.trans D7.o);have A7:=aa (A6.o.later F7.o hgl);have B7:=aa (B6.o.later F7.o hrl6);obtain⟨y0,y1,y2,y3,y4,y5,y6,y7⟩:=Bx.eight A7.o;have r0:=B7.o.cell 0;have r1:=B7.o.cell 1;have r2:=B7.o.cell 2;have r3:=B7.o.cell 3;have r4:=B7.o.cell 4;have r5:=B7.o.cell 5;have r6:=B7.o.cell 6;have r7:=B7.o.cell 7;have r8:=B7.o.cell 8;simp only[Gd,Gc,Gb] at r0 r1 r2 r3 r4 r5 r6 r7 r8;have rz:=B7.o.frozen))
   all_goals
    obtain⟨W8,hW8⟩:∃ W8:World,Hid (W8=((((((((w7.setCell ⟨gr,0,none⟩ (.int .i64 E)).setCell ⟨gr,1,none⟩ (.int .u8 dx.z0)).setCell ⟨gr,2,none⟩ (.int .u8 dx.z1)).setCell ⟨gr,3,none⟩ (.int .u8 dx.z2)).setCell ⟨gr,4,none⟩ (.int .u8 dx.z3)).setCell ⟨gr,5,none⟩ (.int .u8 dx.z4)).setCell ⟨gr,6,none⟩ (.int .u8 dx.z5)).setCell ⟨gr,7,none⟩ (.int .u8 dx.z6)).setCell ⟨gr,8,none⟩ (.int .u8 dx.z7)):=⟨_,rfl⟩
    have G8:=aa (show w7.grownBy W8 (some gr) by rw[hW8.o];exact ak (ak (ak (ak (ak (ak (ak (ak (ak (aq w7 (some gr)) _ _) _ _) _ _) _ _) _ _) _ _) _ _) _ _) _ _);have B8:=aa (show Bx W8 gr #[.int .i64 E,.int .u8 dx.z0,.int .u8 dx.z1,.int .u8 dx.z2,.int .u8 dx.z3,.int .u8 dx.z4,.int .u8 dx.z5,.int .u8 dx.z6,.int .u8 dx.z7,.int .i64 (hv:Int),.int .i64 (sf:Int),.int .i64 (bk:Int),.slice (some ⟨q,0,none⟩) n n] 40 by
     rw[hW8.o];have h8:=((((((((B7.o.set 0 (.int .i64 E)).set 1 (.int .u8 dx.z0)).set 2 (.int .u8 dx.z1)).set 3 (.int .u8 dx.z2)).set 4 (.int .u8 dx.z3)).set 5 (.int .u8 dx.z4)).set 6 (.int .u8 dx.z5)).set 7 (.int .u8 dx.z6)).set 8 (.int .u8 dx.z7);simp only[List.setIfInBounds_toArray,List.set_cons_succ,List.set_cons_zero] at h8;exact h8)
    have hq5:q<gr:=by rw[hgr.o];exact(World.ownsRow.lt O5.o q rfl).2
    have hg3:w3.heap.size≤gr:=by rw[hgr.o];exact Gn D4.o.size D5.o.size
    have D8:=aa (show Gq w3 W8 from aM (F36.o.trans (F7.o.mono F36.o.size)) G8.o hg3);have Q8:=aa (show BL W8 (some ⟨q,0,none⟩) n bl from(Q6.o.1.later F7.o).gT G8.o (fun _ p hp=>by cases hp;show q≠gr;omega));rw[←hW8.o];clear r0 r1 r2 r3 r4 r5 r6 r7 r8 rz y0 y1 y2 y3 y4 y5 y6 y7 z0 z1 z2 z3 z4 z5 z6 z7;have D9:=aa (show Gq w3 (W8.alloc (.cells #[.int .i64 E,.int .u8 dx.z0,.int .u8 dx.z1,.int .u8 dx.z2,.int .u8 dx.z3,.int .u8 dx.z4,.int .u8 dx.z5,.int .u8 dx.z6,.int .u8 dx.z7,.int .i64 (hv:Int),.int .i64 (sf:Int),.int .i64 (bk:Int),.slice (some ⟨q,0,none⟩) n n] 40)) from D8.o.alloc D8.o.size _);have R9:=aa (show gl (W8.alloc (.cells #[.int .i64 E,.int .u8 dx.z0,.int .u8 dx.z1,.int .u8 dx.z2,.int .u8 dx.z3,.int .u8 dx.z4,.int .u8 dx.z5,.int .u8 dx.z6,.int .u8 dx.z7,.int .i64 (hv:Int),.int .i64 (sf:Int),.int .i64 (bk:Int),.slice (some ⟨q,0,none⟩) n n] 40)) g m n rs from by
     obtain⟨_,_,_,_,_,_,_,_,h9⟩:=T3.o;exact h9.ext (T:=fun _=>False) (Ex.below D9.o) id)
    obtain⟨w10,hrun,hr10,hg10⟩:=qU 23 R9.o W8.heap.size ⟨E,dx,hv,sf,bk,q,bl⟩ (Bx.new W8 _ _) (by rw[HRL.o];exact hlt);rw[HRL.o] at hrun;have HRUN:=aa hrun;have T10:=aa (show StR w w10 B n (k+1) g m ds (rs++[⟨E,dx,hv,sf,bk,q,bl⟩]) p3 o3 from StR.rep T3.o D9.o HRL.o ⟨⟨_,HXK.o,hE.o,hdx.o⟩,by rw[hhv.o];exact HTL.o.1,by rw[hbk.o,hhv.o];exact HTL.o.2.2,by rw[hsf.o,hbk.o];exact HTL.o.2.1,by rw[hbk.o];exact HTB.o⟩ hbk.o (Gn D4.o.size Q6.o.2) (Q8.o.later (af W8 _)) hr10 hg10);clear hrun hr10 hg10;have r0:=B8.o.cell 0;have r1:=B8.o.cell 1;have r2:=B8.o.cell 2;have r3:=B8.o.cell 3;have r4:=B8.o.cell 4;have r5:=B8.o.cell 5;have r6:=B8.o.cell 6;have r7:=B8.o.cell 7;have r8:=B8.o.cell 8;have r9:=B8.o.cell 9;have r10:=B8.o.cell 10;have r11:=B8.o.cell 11;have r12:=B8.o.cell 12;simp only[Gd,Gc,Gb] at r0 r1 r2 r3 r4 r5 r6 r7 r8 r9 r10 r11 r12;go_wp2_with (at_builtin;refine Go.Lib.wpList_append_run _ rfl _ _ 23 23 rfl (.slice (some ⟨g,0,none⟩) k m) (.slice (some ⟨W8.heap.size,0,none⟩) 1 1) rfl rfl _ _ HRUN.o ?_);clear r0 r1 r2 r3 r4 r5 r6 r7 r8 r9 r10 r11 r12;go_wp2_with fail;go_roundw
    case rel=>exact⟨k+1,rs++[⟨E,dx,hv,sf,bk,q,bl⟩],by omega,by go_num,rfl,aa ⟨by rw[Ge,HRL.o];rfl,p3,o3,T10.o⟩⟩
    case measure=>simp[intOf];omega
  ·obtain rfl:k=m:=by omega
   obtain⟨hrl,p,o,S,r,ls,hP,hS,hB,hG,hY,hR⟩:=hL.o;rw[Gj (by have:=HD.o.1;omega)] at hP;have HB:=aa hB;have HE:=aa (show RL wr (some ⟨g,0,none⟩) k n rs∧gL n ds rs from⟨by
    rw[←hrl] at hR ⊢;exact hR.rl (fun y hy=>(hY y hy).2.1.1),hG⟩)
   clear hrl hP hS hB hG hY hR hL;go_wp2_with fail;exact bodyPost_ret (v:=.tuple #[.slice (some ⟨g,0,none⟩) k k,.nilIface]) (by simp[results,Tryz.results7,go_sem]) rfl ⟨_,_,rs,rfl,HE,HB⟩
end Go.Proofs.YtbicgjafjjihdaaGreatDoor
