/- Part. -/
import Derived.Test.YtbicgjafjjihdaaGreatDoorZ25
import Derived.Test.YtbicgjafjjihdaaGreatDoorZ33
set_option maxHeartbeats 16000000
set_option maxRecDepth 100000
namespace Go.Proofs.YtbicgjafjjihdaaGreatDoor
section
open Go.ChangeShapes Go.WideShapes Go.ChangeAt Go.RowKit
variable {H:Type} {W:World} {fuel:Nat}
theorem Tryz.cells37:Tryz.prog.cellsOf 37=11:=by kernel_rfl
theorem Tryz.fieldsDe : (Tryz.prog.fieldsOf 37).toList.map (fun f => (f.name, f.type, f.offset)) = [("Kind", 3, 0), ("At", 3, 1), ("From", 3, 2), ("Data", 33, 3)] := by kernel_rfl
theorem Tryz.underDe:Tryz.prog.underlying 37=some (.struct (Tryz.prog.fieldsOf 37)):=by kernel_rfl
theorem xY:∃ f0 f1 f2 f3:Field,Tryz.prog.underlying 37=some (.struct #[f0,f1,f2,f3])∧(f0.type=3∧f0.offset=0)∧(f1.type=3∧f1.offset=1)∧(f2.type=3∧f2.offset=2)∧f3.type=33∧f3.offset=3:=by
 obtain⟨f0,f1,f2,f3,hfs,g0,g1,g2,g3⟩:=tF Tryz.fieldsDe;simp only[Prod.mk.injEq] at g0 g1 g2 g3;refine⟨f0,f1,f2,f3,?_,g0.2,g1.2,g2.2,g3.2⟩;have key:∀ (a:Array Field),a.toList=[f0,f1,f2,f3]→a=#[f0,f1,f2,f3]:=fun a h=>Array.ext' h
 rw[Tryz.underDe,key _ hfs]
theorem Fl:De.ok ⟨0,0,0,zB⟩:=⟨by show(-9223372036854775808:Int)≤0;omega,by show(0:Int)≤_;omega,by show(-9223372036854775808:Int)≤0;omega,by show(0:Int)≤_;omega,Mx.iX⟩
instance:Inhabited {y:De // y.ok}:=⟨⟨⟨0,0,0,zB⟩,Fl⟩⟩
theorem Dr {enc:TypeId × Value→H} {cs:List Value} {x:DataW H × List MemPlace} (h:DataW.trod enc Tryz.prog W 0 (fun _=>true) true fuel 37 cs=some x) :
 ∃ y:De,y.ok∧∀ (j:Nat) (u:Value),y.cs[j]?=some u→cs[j]?=some u:=by
 obtain⟨f0,f1,f2,f3,hu,⟨ht0,ho0⟩,⟨ht1,ho1⟩,⟨ht2,ho2⟩,ht3,ho3⟩:=xY;obtain⟨y0,y1,y2,y3,n,_,hl,h0,h1,h2,h3⟩:=Joins.trod_struct4 hu h;rw[Tryz.cells37] at hl;rw[ht0,ho0,Tryz.cells3] at h0;rw[ht1,ho1,Tryz.cells3] at h1;rw[ht2,ho2,Tryz.cells3] at h2;rw[ht3,ho3,Tryz.cells33] at h3;obtain⟨k0,hk0,_,_⟩:=DataW.trod_int Tryz.underlying3 h0;obtain⟨k1,hk1,_,w1⟩:=DataW.trod_int Tryz.underlying3 h1;obtain⟨k2,hk2,_,w2⟩:=DataW.trod_int Tryz.underlying3 h2;have e:=nW h3;obtain⟨_,y,hy⟩:=Dq h3;have hb:∀ (j:Nat) (z:Int),j<8→y.cs[j]?=some (.int .u8 z)→0≤z∧z≤255:=by
  intro j z hj hz;obtain⟨z',h1,h2,h3⟩:=e j hj;have h4:=hy j _ hz;rw[h1] at h4;cases h4
  exact⟨h2,h3⟩
 have one:∀ (o:Nat) (k:Int),(cs.drop o).take 1=[.int .i64 k]→cs[o]?=some (.int .i64 k):=by
  intro o k hk;have:=congrArg (fun l=>l[0]?) hk;simpa using this
 have b1:=bounds_i64 w1;have b2:=bounds_i64 w2;refine⟨⟨k0,k1,k2,y⟩,⟨b1.1,b1.2,b2.1,b2.2,⟨hb 0 _ (by omega) rfl,hb 1 _ (by omega) rfl,hb 2 _ (by omega) rfl,hb 3 _ (by omega) rfl,hb 4 _ (by omega) rfl,hb 5 _ (by omega) rfl,hb 6 _ (by omega) rfl,hb 7 _ (by omega) rfl⟩⟩,fun j u hj=>?_⟩
 match j,hj with
 | 0, hj =>
  simp[De.cs] at hj;subst hj;exact one 0 k0 hk0
 | 1, hj =>
  simp[De.cs] at hj;subst hj;exact one 1 k1 hk1
 | 2, hj =>
  simp[De.cs] at hj;subst hj;exact one 2 k2 hk2
 | j + 3, hj =>
  have h4:=hy j u (by simpa [De.cs,B8.cs] using hj);have hj8:j<8:=by
   have:=(Gh.1 hj).1;simp[De.cs] at this;omega
  rw[List.getElem?_take_of_lt hj8,List.getElem?_drop,Nat.add_comm] at h4;exact h4
theorem Dp {enc:TypeId × Value→H} {v:Value} {x:DataW H × List MemPlace} (h:DataW.trod enc Tryz.prog W 0 (fun _=>true) true fuel 22 [v]=some x) :
 ∃ a len cap l,v=.slice a len cap∧DL W a len l:=by
 rcases Deep.open_slice Tryz.underlying22 h with ⟨hcs,_⟩|⟨x,len,cap,m,n,D,Pl,hcs,_,hl,hm,hmm,_,hcell⟩
 ·simp at hcs
  exact⟨none,0,0,[],hcs,rfl,fun x hx=>by simp at hx,fun h=>absurd h (by omega)⟩
 ·simp at hcs hmm
  obtain⟨l,h1,h2⟩:=zd (W:=W) (fun y:{y:De // y.ok}=>y.1.cs) 11 (fun _=>rfl) (by omega) (x:=x) (len:=len) (by omega) (fun i hi=>by
   obtain⟨cs',h1,h2⟩:=hcell i (by omega);rw[Tryz.cells37] at h1;obtain⟨y,hok,hy⟩:=Dr h2;refine⟨⟨y,hok⟩,fun j u hj=>?_⟩;have hj9:j<11:=(Gh.1 hj).1;have:=(World.cells?_some h1).2.2 j hj9;rw[Deep.add_add] at this;rw[this];exact hy j u hj)
  refine⟨some x,len,cap,l.map (·.1),hcs,by rw[List.length_map];exact h1,fun y hy=>?_,fun h0=>?_⟩
  ·obtain⟨z,_,rfl⟩:=List.mem_map.1 hy
   exact z.2
  ·obtain⟨b,off,ha,hlt,hc⟩:=h2.2.2 h0
   refine⟨b,off,ha,hlt,fun i y hy j u hu=>?_⟩;rw[List.getElem?_map] at hy;cases e:l[i]? with
   | none => rw [e] at hy; simp at hy
   | some z =>
    rw[e] at hy;simp at hy;subst hy;have hj9:j<11:=(Gh.1 hu).1;rw[show off+i*11+j=off+(i*11+j) by omega];refine hc (i*11+j) u ?_;have hi:=(Gh.1 e).1;have e2:l=l.take i++z::l.drop (i+1):=by
     conv=>lhs;rw[←List.take_append_drop i l,List.drop_eq_getElem_cons hi]
     rw[F0 hi] at e;rw[Gg e]
    rw[e2,List.flatMap_append,List.flatMap_cons];have hlen:((l.take i).flatMap fun y:{y:De // y.ok}=>y.1.cs).length=i*11:=by
     rw[eo (fun y:{y:De // y.ok}=>y.1.cs) 11 (fun _=>rfl),Gk,Nat.min_eq_left (by omega)]
    rw[Gl (by omega),hlen,show i*11+j-i*11=j by omega,Gm (by exact hj9)];exact hu
end
section
open Go.RowKit
variable {w v:World} {vl u4 u5 u6 u7 u8 Il Ik Ho Gv Gw Gx Gy Gz GC GD GH GI GJ GK GL GM GO GP GQ GR GS GU GV GX GY GZ Ha Hb Hc He Hf Hg Hh Hi Hj Hk Hl Hm Hn Hp Hq Hr Hs Ht Ia Ib Ic Ie Ig Ih Ii Ij Iw Ix Iz IA IB IC ID IE IG IH II IJ IK IL IM IN IP IQ IS IT IU IV IY IZ I9 Ja Jb Jc Jd Je Jf Jg Jh Ji Jj Jk Gu Hu Hv Hw Hx Hy Hz H7 Kb Jo:Value} {k g N c i m n:Nat} {a:Option Addr} {l:List Int}
def jt (l:List De):List Value:=l.flatMap De.cs
def kh (w:World) (base:Nat) (v:Value) (l:List De):Prop:=w.ownsRow base 37 11 v l.length (jt l)
theorem Tryz.info37:(Tryz.prog.info? 37).map (fun i=>(i.zero,i.size,i.bytes))=some (some (.agg #[.int .i64 0,.int .i64 0,.int .i64 0,.int .u8 0,.int .u8 0,.int .u8 0,.int .u8 0,.int .u8 0,.int .u8 0,.int .u8 0,.int .u8 0]),11,32):=by kernel_rfl
theorem kh.dl {base:Nat} {v:Value} {l:List De} (h:kh w base v l) (ho:∀ x∈l,x.ok):∃ a c,v=.slice a l.length c∧DL w a l.length l∧∀ p,a=some p→base≤p.block:=by
 obtain⟨a,c,hv,_,hr,hp⟩:=aA h;refine⟨a,c,hv,⟨rfl,ho,fun h0=>?_⟩,hp⟩;obtain⟨b,off,ha,hlt,hc⟩:=hr.2.2 h0;refine⟨b,off,ha,hlt,fun i x hx j u hu=>?_⟩;have hj:j<11:=(Gh.1 hu).1;rw[Nat.add_assoc];exact hc (i*11+j) u (by rw[jt,cQ De.cs 11 (fun _=>rfl) l i j x hx hj];exact hu)
theorem m5 {ops:Array Oper} {rest:List Oper} {o:Oper} {a:Act} {Q:Exit→Act→World→Prop} (hgd:o.guard=none) (s x:Operand)
 (ho:o.op=.call {callee:=.builtin .append,args:=#[s,x],argTypes:=#[22,22]}) (base:Nat) (l:List De) (hown:kh w base (a.eval s) l)
 (p:De) (hx:a.eval x=.slice (some ⟨w.heap.size,0,none⟩) 1 1) (h63:l.length≤1000000) (hbase:base≤w.heap.size)
 (h:∀ ad c w',kh w' base (.slice (some ad) (l.length+1) c) (l++[p])→w.grownBy w' (a.eval s).ownBlock→wpList Tryz.prog ops Q rest (a.put o.dst (.slice (some ad) (l.length+1) c)) w') :
 wpList Tryz.prog ops Q (o::rest) a (w.alloc (.cells #[.int .i64 p.kind,.int .i64 p.at_,.int .i64 p.from_,.int .u8 p.d.z0,.int .u8 p.d.z1,.int .u8 p.d.z2,.int .u8 p.d.z3,.int .u8 p.d.z4,.int .u8 p.d.z5,.int .u8 p.d.z6,.int .u8 p.d.z7] 37)):=by
 obtain⟨i0,hi,hz0,hz1,hz2⟩:=info_parts Tryz.info37;refine wpList_append_own _ hgd s x 22 ho base 37 i0 _ 11 32 Tryz.underlying22 hi hz0 hz1 hz2 rfl (by decide) (a.eval s) l.length (jt l) rfl (World.ownsRow.alloc hown _) ⟨w.heap.size,0,none⟩ 1 1 (jt [p]) hx (by simp[jt,De.cs]) (fun j u hj=>by
  have hadd:(⟨w.heap.size,0,none⟩:Addr).add j=⟨w.heap.size,j,none⟩:=by unfold Addr.add;split<;>simp_all
  rw[hadd,World.cell?_alloc_new];simpa [jt,De.cs] using hj) (by intro u hu;simp[jt,De.cs] at hu;rcases hu with rfl|rfl|rfl|rfl|rfl|rfl|rfl|rfl|rfl|rfl|rfl<;>rfl) (by unfold maxLen;omega) (by omega) (by simp;omega) ?_
 intro v' w' hown' hg _;have hI:kh w' base v' (l++[p]):=by
  unfold kh;rw[Ge,jt,List.flatMap_append];exact hown'
 have hg':w.grownBy w' (a.eval s).ownBlock:=⟨hg.os,hg.tape,hg.output,by have:=hg.size;simp at this;omega,fun k hk hne=>(hg.block k (by simp;omega) hne).trans (Below.heap_alloc w _ k hk)⟩
 rcases hown'.2 with ⟨_,hz⟩|⟨g,cap,cur,rfl,hbg,_⟩
 ·simp at hz
 ·exact h _ _ w' hI hg'
def ScI (w v:World) (vl:Value) (k:Nat):Prop:=∃ ds:List De,ds.length=k∧(∀ x∈ds,x.ok)∧kh v w.heap.size vl ds∧Gq w v
theorem ScI.later {v':World} (h:ScI w v vl k) (hb:Gq v v'):ScI w v' vl k:=by
 obtain⟨ds,h1,h2,h3,h4⟩:=h;exact⟨ds,h1,h2,bm h3 hb,h4.trans (hb.mono h4.size)⟩
theorem ScI.bel (h:ScI w v vl k):Gq w v:=by
 obtain⟨_,_,_,_,h⟩:=h;exact h
theorem B8.ok.by8 {y:B8} (h:y.ok):Mx.by8 y:=⟨h _ (by simp[Mx.bytesOf]),h _ (by simp[Mx.bytesOf]),h _ (by simp[Mx.bytesOf]),h _ (by simp[Mx.bytesOf]),h _ (by simp[Mx.bytesOf]),h _ (by simp[Mx.bytesOf]),h _ (by simp[Mx.bytesOf]),h _ (by simp[Mx.bytesOf])⟩
def De.arr (x:De):Array Value:=#[.int .i64 x.kind,.int .i64 x.at_,.int .i64 x.from_,.int .u8 x.d.z0,.int .u8 x.d.z1,.int .u8 x.d.z2,.int .u8 x.d.z3,.int .u8 x.d.z4,.int .u8 x.d.z5,.int .u8 x.d.z6,.int .u8 x.d.z7]
def ScB (w v:World) (vl:Value) (k g:Nat) (x:De):Prop:=ScI w v vl k∧Bx v g x.arr 37∧vl.ownBlock≠some g∧w.heap.size≤g
theorem ScB.later {w v v':World} {vl:Value} {k g:Nat} {x:De} (h:ScB w v vl k g x) (hb:Gq v v'):ScB w v' vl k g x:=⟨h.1.later hb,h.2.1.later hb h.2.1.lt,h.2.2⟩
theorem ScI.set (h:ScI w v vl k) (j:Nat) (u:Value) (h1:vl.ownBlock≠some g) (h2:w.heap.size≤g):ScI w (v.setCell ⟨g,j,none⟩ u) vl k:=by
 obtain⟨ds,h3,h4,h5,h6⟩:=h;exact⟨ds,h3,h4,az h5 ⟨g,j,none⟩ u h1,h6.setCell (p:=⟨g,j,none⟩) h2 u⟩
theorem ScB.kind {w v:World} {vl:Value} {k g:Nat} {x:De} (h:ScB w v vl k g x) (y:Int):ScB w (v.setCell ⟨g,0,none⟩ (.int .i64 y)) vl k g {x with kind:=y}:=⟨h.1.set _ _ h.2.2.1 h.2.2.2,h.2.1.set 0 _,h.2.2⟩
theorem ScB.at_ {w v:World} {vl:Value} {k g:Nat} {x:De} (h:ScB w v vl k g x) (y:Int):ScB w (v.setCell ⟨g,1,none⟩ (.int .i64 y)) vl k g {x with at_:=y}:=⟨h.1.set _ _ h.2.2.1 h.2.2.2,h.2.1.set 1 _,h.2.2⟩
theorem ScB.data {x:De} (h:ScB w v vl k g x) (y:B8):ScB w (aR v g 3 y) vl k g {x with d:=y}:=by
 obtain⟨h1,h2,h3⟩:=h;have q:∀ (v:World) (j:Nat) (u:Value),ScI w v vl k→ScI w (v.setCell ⟨g,j,none⟩ u) vl k:=fun v j u h=>h.set j u h3.1 h3.2
 refine⟨?_,?_,h3⟩
 ·unfold aR
  iterate 8 refine q _ _ _ ?_
  exact h1
 ·have h8:=(((((((h2.set 3 (.int .u8 y.z0)).set 4 (.int .u8 y.z1)).set 5 (.int .u8 y.z2)).set 6 (.int .u8 y.z3)).set 7 (.int .u8 y.z4)).set 8 (.int .u8 y.z5)).set 9 (.int .u8 y.z6)).set 10 (.int .u8 y.z7)
  simp only[De.arr,List.setIfInBounds_toArray,List.set_cons_succ,List.set_cons_zero] at h8;exact h8
theorem sc3 {P:Ending→World→Prop} {Kn Kr K0:Act→World→Prop} {x:De} (HB:Hid (ScB w v vl k g x)) (ho:x.ok) (hk:k≤1000) (hQ:∀ (vl':Value) (x':World) (Jm Jn KJ KK KL KM Km Ko Kp Kg Kq Ks Kt Ku Kv Kw Kx Ky Kz KA KC KD KO KP KQ KR KS KT KU KW KX KY KZ La Lb Kh Ki Kj Kk Kl Jq Jr Js Jt Ju Jv Jw Jy Jz JA JB JC JD JE JF JG JH JI JJ JK JL JM JN JO JP JQ JR JS JT JU JV JW JX JY JZ J0 J2 J4 J5 J6 J7 J8 J9 Ka Im Io Ip Iq Ir Is It Iu Jl:Value),Hid (ScI w x' vl' (k+1))→Kn ⟨#[.slice a N c,.int .i64 (i:Int),.int .i64 (m:Int),.int .i64 (n:Int),u4,u5,u6,u7,u8,vl',.int .i64 (k:Int),Jm,Jn,Ik,Ho,Gv,Gw,Gx,KJ,KK,KL,KM,Km,Ko,Kp,Kg,Kq,Ks,Kt,Ku,Kv,Kw,Kx,Ky,Kz,KA,KC,KD,KO,KP,KQ,KR,KS,KT,KU,KW,KX,KY,KZ,La,Lb,Kh,Ki,Kj,Kk,Kl,Jq,Jr,Js,Jt,Ju,Jv,Jw,Jy,Jz,JA,JB,JC,JD,JE,JF,JG,JH,JI,JJ,JK,JL,JM,JN,JO,JP,JQ,JR,JS,JT,JU,JV,JW,JX,JY,JZ,J0,J2,J4,J5,J6,J7,J8,J9,Ka,Im,Io,Ip,Iq,Ir,Is,It,Iu,Jl,Jo],[]⟩ x') :
 cO (fu (fG (dH 2 (Tryz.f14.body.getD .skip)))) (Exit.inBlock 1 (Exit.then Kn (Exit.then Kr (Exit.inBlock 0 (Exit.then K0 (bodyPost Tryz.prog Tryz.f14 P)))))) 3 ⟨#[.slice a N c,.int .i64 (i:Int),.int .i64 (m:Int),.int .i64 (n:Int),u4,u5,u6,u7,u8,vl,.int .i64 (k:Int),Il,.pointer (some ⟨g,0,none⟩),Ik,Ho,Gv,Gw,Gx,Gy,Gz,GC,GD,GH,GI,GJ,GK,GL,GM,GO,GP,GQ,GR,GS,GU,GV,GX,GY,GZ,Ha,Hb,Hc,He,Hf,Hg,Hh,Hi,Hj,Hk,Hl,Hm,Hn,Hp,Hq,Hr,Hs,Ht,Ia,Ib,Ic,Ie,Ig,Ih,Ii,Ij,Iw,Ix,Iz,IA,IB,IC,ID,IE,IG,IH,II,IJ,IK,IL,IM,IN,IP,IQ,IS,IT,IU,IV,IY,IZ,I9,Ja,Jb,Jc,Jd,Je,Jf,Jg,Jh,Ji,Jj,Jk,Gu,Hu,Hv,Hw,Hx,Hy,Hz,H7,Kb,Jo],[]⟩ v:=by
 have HO:=aa ho;obtain⟨⟨ds,h1,h2,h3,h4⟩,hx,h6⟩:=HB.o;have O1:=aa h3;have D1:=aa h4;have H2:=aa h2;have H1:=aa h1;have S1:=aa h4.size;have y0:=hx.cell 0;have y1:=hx.cell 1;have y2:=hx.cell 2;have y3:=hx.cell 3;have y4:=hx.cell 4;have y5:=hx.cell 5;have y6:=hx.cell 6;have y7:=hx.cell 7;have y8:=hx.cell 8;have y9:=hx.cell 9;have y10:=hx.cell 10;simp only[De.arr,Gd,Gc,Gb] at y0 y1 y2 y3 y4 y5 y6 y7 y8 y9 y10;have HQ:=aa @hQ;clear hx h1 h2 h3 h4 h6 ho hQ;refine iQ (c':=.region _ _ _) rfl ?_;go_wp2_with (at_builtin;refine m5 rfl _ _ rfl w.heap.size ds ?o1 x ?o2 ?o3 ?o4 ?_);case o1=>exact O1.o
 case o3=>have:=H1.o;omega
 case o4=>exact S1.o
 intro ad c2 w3 hown hgr;have R3:=aa (show ScI w w3 (.slice (some ad) (ds.length+1) c2) (k+1) from⟨ds++[x],by rw[Ge,H1.o];rfl,fun y hy=>by
  rcases List.mem_append.1 hy with h|h
  ·exact H2.o y h
  ·rw[List.mem_singleton.1 h];exact HO.o,hown,D1.o.grown hgr S1.o (fun k hk=>(World.ownsRow.lt O1.o k hk).1)⟩)
 clear hown hgr y0 y1 y2 y3 y4 y5 y6 y7 y8 y9 y10;go_wp2_with fail;exact HQ.o _ _ _ _ _ _ _ _ _ _ _ _ _ _ _ _ _ _ _ _ _ _ _ _ _ _ _ _ _ _ _ _ _ _ _ _ _ _ _ _ _ _ _ _ _ _ _ _ _ _ _ _ _ _ _ _ _ _ _ _ _ _ _ _ _ _ _ _ _ _ _ _ _ _ _ _ _ _ _ _ _ _ _ _ _ _ _ _ _ _ _ _ _ _ _ R3
theorem sc2 {P:Ending→World→Prop} {Kn Kr K0:Act→World→Prop} {x:Nat} {at_ fr:Int} (HL:Hid (ay w a N l∧I64 l)) (HB:Hid (ScB w v vl k g ⟨0,at_,fr,zB⟩)) (ho:De.ok ⟨0,at_,fr,zB⟩) (hk:k≤1000) (hn:N≤1000) (hi:i≤10000) (hx:(x:Int)≤1000000000) (hQ:∀ (vl':Value) (x':World) (Jm Jn KJ KK KL KM Km Ko Kp Kg Kq Ks Kt Ku Kv Kw Kx Ky Kz KA KC KD KO KP KQ KR KS KT KU KW KX KY KZ La Lb Kh Ki Kj Kk Kl Jq Jr Js Jt Ju Jv Jw Jy Jz JA JB JC JD JE JF JG JH JI JJ JK JL JM JN JO JP JQ JR JS JT JU JV JW JX JY JZ J0 J2 J4 J5 J6 J7 J8 J9 Ka Im Io Ip Iq Ir Is It Iu Jl:Value),Hid (ScI w x' vl' (k+1))→Kn ⟨#[.slice a N c,.int .i64 (i:Int),.int .i64 (m:Int),.int .i64 (n:Int),u4,u5,u6,u7,u8,vl',.int .i64 (k:Int),Jm,Jn,Ik,Ho,Gv,Gw,Gx,KJ,KK,KL,KM,Km,Ko,Kp,Kg,Kq,Ks,Kt,Ku,Kv,Kw,Kx,Ky,Kz,KA,KC,KD,KO,KP,KQ,KR,KS,KT,KU,KW,KX,KY,KZ,La,Lb,Kh,Ki,Kj,Kk,Kl,Jq,Jr,Js,Jt,Ju,Jv,Jw,Jy,Jz,JA,JB,JC,JD,JE,JF,JG,JH,JI,JJ,JK,JL,JM,JN,JO,JP,JQ,JR,JS,JT,JU,JV,JW,JX,JY,JZ,J0,J2,J4,J5,J6,J7,J8,J9,Ka,Im,Io,Ip,Iq,Ir,Is,It,Iu,Jl,Jo],[]⟩ x') :
 cO (fu (fG (dH 2 (Tryz.f14.body.getD .skip)))) (Exit.inBlock 1 (Exit.then Kn (Exit.then Kr (Exit.inBlock 0 (Exit.then K0 (bodyPost Tryz.prog Tryz.f14 P)))))) 2 ⟨#[.slice a N c,.int .i64 (i:Int),.int .i64 (m:Int),.int .i64 (n:Int),u4,u5,u6,u7,u8,vl,.int .i64 (k:Int),.int .i64 (x:Int),.pointer (some ⟨g,0,none⟩),Ik,Ho,Gv,Gw,Gx,Gy,Gz,GC,GD,GH,GI,GJ,GK,GL,GM,GO,GP,GQ,GR,GS,GU,GV,GX,GY,GZ,Ha,Hb,Hc,He,Hf,Hg,Hh,Hi,Hj,Hk,Hl,Hm,Hn,Hp,Hq,Hr,Hs,Ht,Ia,Ib,Ic,Ie,Ig,Ih,Ii,Ij,Iw,Ix,Iz,IA,IB,IC,ID,IE,IG,IH,II,IJ,IK,IL,IM,IN,IP,IQ,IS,IT,IU,IV,IY,IZ,I9,Ja,Jb,Jc,Jd,Je,Jf,Jg,Jh,Ji,Jj,Jk,Gu,Hu,Hv,Hw,Hx,Hy,Hz,H7,Kb,Jo],[]⟩ v:=by
 have HO:=aa ho;have HBX:=aa HB.o.2.1;have y0:=HBX.o.cell 0;have y1:=HBX.o.cell 1;have y3:=HBX.o.cell 3;have y4:=HBX.o.cell 4;have y5:=HBX.o.cell 5;have y6:=HBX.o.cell 6;have y7:=HBX.o.cell 7;have y8:=HBX.o.cell 8;have y9:=HBX.o.cell 9;have y10:=HBX.o.cell 10;simp only[De.arr,zB,Gd,Gc,Gb] at y0 y1 y3 y4 y5 y6 y7 y8 y9 y10;have yz:=HBX.o.frozen;have HQ:=aa @hQ;clear ho hQ;refine bJ rfl ?_;intro K hK;have h20:((x:Int)%20=0∨(x:Int)%20=1∨(x:Int)%20=2∨(x:Int)%20=3∨(x:Int)%20=4)∨((x:Int)%20=5)∨((x:Int)%20=6)∨((x:Int)%20=7∨(x:Int)%20=8∨(x:Int)%20=9)∨((x:Int)%20=10∨(x:Int)%20=11∨(x:Int)%20=12)∨((x:Int)%20=19)∨((x:Int)%20=13∨(x:Int)%20=14∨(x:Int)%20=15)∨((x:Int)%20=16)∨((x:Int)%20=17)∨(x:Int)%20=18:=by omega
 have OK:=aa (show ∀ q,De.ok ⟨q,at_,fr,zB⟩ from fun _=>⟨HO.o.a0,HO.o.a1,HO.o.f0,HO.o.f1,HO.o.b8⟩);have OA:=aa (show ∀ q,De.ok ⟨q,(x:Int)/40%7,fr,zB⟩ from fun _=>⟨by show _≤(x:Int)/40%7;omega,by show(x:Int)/40%7≤_;omega,HO.o.f0,HO.o.f1,HO.o.b8⟩);have dat:∀ (v' w2:World) (q:De) (y:B8),ScB w v' vl k g q→Gq v' w2→∃ z0 z1 z2 z3 z4 z5 z6 z7:Value,w2.cell? ⟨g,3,none⟩=some z0∧w2.cell? ⟨g,4,none⟩=some z1∧w2.cell? ⟨g,5,none⟩=some z2∧w2.cell? ⟨g,6,none⟩=some z3∧w2.cell? ⟨g,7,none⟩=some z4∧w2.cell? ⟨g,8,none⟩=some z5∧w2.cell? ⟨g,9,none⟩=some z6∧w2.cell? ⟨g,10,none⟩=some z7∧(∀ o,w2.frozen? ⟨g,o,none⟩=false)∧Hid (ScB w (aR w2 g 3 y) vl k g {q with d:=y}):=fun v' w2 q y h hb=>by
  have h2:=h.later hb;exact⟨_,_,_,_,_,_,_,_,h2.2.1.cell 3,h2.2.1.cell 4,h2.2.1.cell 5,h2.2.1.cell 6,h2.2.1.cell 7,h2.2.1.cell 8,h2.2.1.cell 9,h2.2.1.cell 10,h2.2.1.frozen,aa (h2.data y)⟩
 have DAT:=aa dat;clear dat;rcases h20 with h|h|h|h|h|h|h|h|h|h
 ·rcases h with h|h|h|h|h
  all_goals
   go_wp2_with fail;refine(kS a N c l (i+3*k) _ (HL.o.1.later (HB.o.kind 0).1.bel) HL.o.2 hn (by omega)).mono ?_;rintro e w2 ⟨y,hy,rfl,hb2⟩;have HY:=aa hy;obtain⟨z0,z1,z2,z3,z4,z5,z6,z7,c0,c1,c2,c3,c4,c5,c6,c7,cz,B2⟩:=DAT.o _ w2 _ y (HB.o.kind 0) hb2.o;clear hb2 hy yz y0 y1 y3 y4 y5 y6 y7 y8 y9 y10;unfold aR at B2;go_wp2_with fail;exact Met.intro (sc3 B2 ⟨HO.o.a0,HO.o.a1,HO.o.f0,HO.o.f1,HY.o.by8⟩ hk HQ.o)
 ·go_wp2_with fail
  exact Met.intro (sc3 (aa (HB.o.kind 1)) (OK.o _) hk HQ.o)
 ·go_wp2_with fail
  exact Met.intro (sc3 (aa (HB.o.kind 2)) (OK.o _) hk HQ.o)
 ·rcases h with h|h|h
  all_goals
   go_wp2_with fail;exact Met.intro (sc3 (aa (HB.o.kind 3)) (OK.o _) hk HQ.o)
 ·rcases h with h|h|h
  all_goals
   go_wp2_with fail;exact Met.intro (sc3 (aa (HB.o.kind 4)) (OK.o _) hk HQ.o)
 ·go_wp2_with fail
  exact Met.intro (sc3 (aa (HB.o.kind (8+(x:Int)/40%2))) (OK.o _) hk HQ.o)
 ·rcases h with h|h|h
  all_goals
   go_wp2_with fail;exact Met.intro (sc3 (aa ((HB.o.kind 5).at_ ((x:Int)/40%7))) (OA.o _) hk HQ.o)
 ·go_wp2_with fail
  exact Met.intro (sc3 (aa ((HB.o.kind 6).at_ ((x:Int)/40%7))) (OA.o _) hk HQ.o)
 ·go_wp2_with fail
  exact Met.intro (sc3 (aa ((HB.o.kind 7).at_ ((x:Int)/40%7))) (OA.o _) hk HQ.o)
 ·go_wp2_with fail
  have HK:=aa ((HB.o.kind 10).at_ ((x:Int)/40%7));refine(kS a N c l (i+2*k) _ (HL.o.1.later HK.o.1.bel) HL.o.2 hn (by omega)).mono ?_;rintro e w2 ⟨y,hy,rfl,hb2⟩;have HY:=aa hy;obtain⟨z0,z1,z2,z3,z4,z5,z6,z7,c0,c1,c2,c3,c4,c5,c6,c7,cz,B2⟩:=DAT.o _ w2 _ y HK.o hb2.o;clear hb2 hy yz y0 y1 y3 y4 y5 y6 y7 y8 y9 y10 HK;unfold aR at B2;go_wp2_with fail;exact Met.intro (sc3 B2 ⟨by show _≤(x:Int)/40%7;omega,by show(x:Int)/40%7≤_;omega,HO.o.f0,HO.o.f1,HY.o.by8⟩ hk HQ.o)
theorem sc0 {P:Ending→World→Prop} {Kn Kr K0:Act→World→Prop} (HL:Hid (ay w a N l∧I64 l)) (HI:Hid (ScI w v vl k)) (hk:k≤1000) (hn:N≤1000) (hi:i≤10000) (h1:1≤n) (h2:n≤1000) {Iv:Value} (hQ:∀ (vl':Value) (x':World) (Jm Jn KJ KK KL KM Km Ko Kp Kg Kq Ks Kt Ku Kv Kw Kx Ky Kz KA KC KD KO KP KQ KR KS KT KU KW KX KY KZ La Lb Kh Ki Kj Kk Kl Jq Jr Js Jt Ju Jv Jw Jy Jz JA JB JC JD JE JF JG JH JI JJ JK JL JM JN JO JP JQ JR JS JT JU JV JW JX JY JZ J0 J2 J4 J5 J6 J7 J8 J9 Ka Im Io Ip Iq Ir Is It Iu Jl:Value),Hid (ScI w x' vl' (k+1))→Kn ⟨#[.slice a N c,.int .i64 (i:Int),.int .i64 (m:Int),.int .i64 (n:Int),u4,u5,u6,u7,u8,vl',.int .i64 (k:Int),Jm,Jn,Ik,Ho,Gv,Gw,Gx,KJ,KK,KL,KM,Km,Ko,Kp,Kg,Kq,Ks,Kt,Ku,Kv,Kw,Kx,Ky,Kz,KA,KC,KD,KO,KP,KQ,KR,KS,KT,KU,KW,KX,KY,KZ,La,Lb,Kh,Ki,Kj,Kk,Kl,Jq,Jr,Js,Jt,Ju,Jv,Jw,Jy,Jz,JA,JB,JC,JD,JE,JF,JG,JH,JI,JJ,JK,JL,JM,JN,JO,JP,JQ,JR,JS,JT,JU,JV,JW,JX,JY,JZ,J0,J2,J4,J5,J6,J7,J8,J9,Ka,Im,Io,Ip,Iq,Ir,Is,It,Iu,Jl,Jo],[]⟩ x') :
 cO (fu (fG (dH 2 (Tryz.f14.body.getD .skip)))) (Exit.inBlock 1 (Exit.then Kn (Exit.then Kr (Exit.inBlock 0 (Exit.then K0 (bodyPost Tryz.prog Tryz.f14 P)))))) 0 ⟨#[.slice a N c,.int .i64 (i:Int),.int .i64 (m:Int),.int .i64 (n:Int),u4,u5,u6,u7,u8,vl,.int .i64 (k:Int),Il,Iv,Ik,Ho,Gv,Gw,Gx,Gy,Gz,GC,GD,GH,GI,GJ,GK,GL,GM,GO,GP,GQ,GR,GS,GU,GV,GX,GY,GZ,Ha,Hb,Hc,He,Hf,Hg,Hh,Hi,Hj,Hk,Hl,Hm,Hn,Hp,Hq,Hr,Hs,Ht,Ia,Ib,Ic,Ie,Ig,Ih,Ii,Ij,Iw,Ix,Iz,IA,IB,IC,ID,IE,IG,IH,II,IJ,IK,IL,IM,IN,IP,IQ,IS,IT,IU,IV,IY,IZ,I9,Ja,Jb,Jc,Jd,Je,Jf,Jg,Jh,Ji,Jj,Jk,Gu,Hu,Hv,Hw,Hx,Hy,Hz,H7,Kb,Jo],[]⟩ v:=by
 have HQ:=aa @hQ;clear hQ;refine bJ rfl ?_;intro K hK;go_wp2_with fail;refine(oU a N c l (i+k) v (HL.o.1.later HI.o.bel) HL.o.2 hn (by omega)).mono ?_;rintro e w1 ⟨x,hx,rfl,q,rfl⟩;have I1:=aa (HI.o.later (below_drewN (Below.refl _ _) q));obtain⟨w1,hw1⟩:∃ w1:World,Hid (w1=v.drewN q):=⟨_,rfl⟩
 rw[←hw1.o] at I1 ⊢;go_wp2_with fail;refine Met.intro (bJ rfl ?_);intro K2 hK2;have hn0:¬n=0:=by omega
 have hni:¬(n:Int)=0:=by omega
 have e1:=Int.emod_nonneg ((x:Int)/40) hni;have e2:=Int.emod_lt_of_pos ((x:Int)/40) (show(0:Int)<n by omega);have OK:=aa (show De.ok ⟨0,(x:Int)/40%(n:Int),(x:Int)/7%90,zB⟩ from⟨by show _≤(x:Int)/40%(n:Int);omega,by show(x:Int)/40%(n:Int)≤_;omega,by show _≤(x:Int)/7%90;omega,by show(x:Int)/7%90≤_;omega,Mx.iX⟩);have B2:=aa (show ScB w (w1.alloc (.cells #[.int .i64 0,.int .i64 ((x:Int)/40%(n:Int)),.int .i64 ((x:Int)/7%90),.int .u8 0,.int .u8 0,.int .u8 0,.int .u8 0,.int .u8 0,.int .u8 0,.int .u8 0,.int .u8 0] 37)) vl k w1.heap.size ⟨0,(x:Int)/40%(n:Int),(x:Int)/7%90,zB⟩ from⟨I1.o.later (af _ _),Bx.new w1 _ _,fun e=>by obtain⟨ds,_,_,h,_⟩:=I1.o;have h9:=(World.ownsRow.lt h _ e).2;omega,I1.o.bel.size⟩);clear e1 e2;go_wp2_with fail;exact Met.intro (sc2 HL B2 OK.o hk hn hi hx HQ.o)
theorem j7 (a:Option Addr) (N c:Nat) (l:List Int) (i m n:Nat) (w:World) (hl:ay w a N l) (hb:I64 l) (hn:N≤1000) (hi:i≤10000) (hm:m≤1000) (h1:1≤n) (h2:n≤1000) :
 Calls Tryz.prog 14 #[.slice a N c,.int .i64 (i:Int),.int .i64 (m:Int),.int .i64 (n:Int)] w fun e w'=>∃ a' c' ds,e=.returned (.slice a' m c')∧Hid (DL w' a' m ds)∧Hid (∀ p,a'=some p→w.heap.size≤p.block)∧Hid (Gq w w'):=by
 have HL:=aa (And.intro hl hb);clear hl hb;go_enter Tryz.func14,Tryz.ntmps14;go_wp2_with fail;go_loopw [9,10] (fun vl t wr=>∃ k:Nat,t=.int .i64 (k:Int)∧k≤m∧Hid (ScI w wr vl k)) (fun _ t _=>m-(intOf t).toNat)
 case atStart=>exact⟨0,rfl,Nat.zero_le _,⟨[],rfl,(by intro x h;cases h),World.ownsRow_nil w w.heap.size 37 11,Below.refl _ _⟩⟩
 case round =>
  rename_i vl _ _;obtain⟨k,rfl,hk,HI⟩:=hrel;by_cases hlt:(k:Int)<m
  ·obtain⟨v,hv⟩:∃ v:World,Hid (v=wr):=⟨_,rfl⟩
   rw[←hv.o] at HI ⊢;refine gS ?_;intro K1 hK1;go_wp2_with fail;refine Met.intro (gS ?_);intro K2 hK2;refine wp_block ?_;refine(show cO (fu (fG (dH 2 (Tryz.f14.body.getD .skip)))) _ 0 _ v from sc0 HL HI (by omega) hn hi h1 h2 ?_);intro vl' x' Jm Jn KJ KK KL KM Km Ko Kp Kg Kq Ks Kt Ku Kv Kw Kx Ky Kz KA KC KD KO KP KQ KR KS KT KU KW KX KY KZ La Lb Kh Ki Kj Kk Kl Jq Jr Js Jt Ju Jv Jw Jy Jz JA JB JC JD JE JF JG JH JI JJ JK JL JM JN JO JP JQ JR JS JT JU JV JW JX JY JZ J0 J2 J4 J5 J6 J7 J8 J9 Ka Im Io Ip Iq Ir Is It Iu Jl V';refine hK2 _ _ (Met.intro ?_);clear hK2;show Code.wp _ _ _ _ _
   go_wp2_with fail;go_roundw
   case rel=>exact⟨k+1,by go_num,by omega,V'⟩
   case measure=>simp[intOf];omega
  ·obtain rfl:k=m:=by omega
   obtain⟨ds,g1,g2,g3,g4⟩:=HI.o;obtain⟨a',c',rfl,g5,g6⟩:=g3.dl g2;rw[g1] at g5 ⊢;have H5:=aa g5;have H6:=aa g6;have H4:=aa g4;clear g1 g2 g3 g4 g5 g6 HI;go_wp2_with fail;go_ret;exact⟨a',⟨c',rfl⟩,⟨ds,H5⟩,H6,H4⟩
end
end Go.Proofs.YtbicgjafjjihdaaGreatDoor
