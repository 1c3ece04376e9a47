/- Part. -/
import Derived.Test.YtbicgjafjjihdaaGreatDoorZ26
import Derived.Test.YtbicgjafjjihdaaGreatDoorZ28
import Derived.Test.YtbicgjafjjihdaaGreatDoorZ34
set_option maxHeartbeats 16000000
set_option maxRecDepth 100000
namespace Go.Proofs.YtbicgjafjjihdaaGreatDoor
open Go.RowKit
section
variable {w w1 v:World} {n m c rc K j bk:Nat} {a ra:Option Addr} {u0 u2 u3 u4 u5 u6 u7 u8 Gv Gw Gx Gy Gz GC GD GH GI GJ GK GL GM GO GP GQ GR GS GU GV GX GY GZ Ha Hb Hc He Hf Hg Hh Hi Hj Hk Hl Hm Hn Hp Hq Hr Hs Ht Ia Ib Ic Ie Ig Ih Ii Ij Iw Ix Iz IA IB IC ID IE IG IH II IJ IK IL IM IN IP IQ IS IT IU IV IY IZ I9 Ja Jb Jc Jd Je Jf Jg Jh Ji Jj Jk Gu Hu Hv Hw Hx Hy Hz H7 Kb Jo KG KI:Value}
theorem tm2 {ds:List De} {rs:List Rp} {y:Rp} {Kn Kr K0:Act→World→Prop} (HR:Hid (RL w1 ra m n rs∧gL n ds rs)) (HY:Hid (rs[j]?=some y)) (hlt:j<m) (HC:Hid (StC w1 v n K (j+1) ds)) (hQ:∀ (Kh Ki Kj Kk Kl Jq Jr Js Jt Ju Jv Jw Jy Jz JA JB JC JD JE JF JG JH JI JJ JK JL JM JN JO JP JQ JR JS JT JU JV JW JX JY JZ J0 J2 J4 J5 J6 J7 J8 J9 Ka Im Io Ip Iq Ir Is It Iu Jl Kc Kd Ke:Value) (x':World),Hid (StC w1 x' n K (j+1) ds)→Kn ⟨#[u0,.int .i64 (n:Int),u2,u3,u4,u5,u6,u7,u8,.slice a m c,.slice ra m rc,.nilIface,.pointer (some ⟨K,0,none⟩),.int .i64 (y.bk:Int),.int .i64 (j:Int),Gv,Gw,Gx,Gy,Gz,GC,GD,GH,GI,GJ,GK,GL,GM,GO,GP,GQ,GR,GS,GU,GV,GX,GY,GZ,Ha,Hb,Hc,He,Hf,Hg,Hh,Hi,Hj,Hk,Hl,Hm,Hn,Kh,Ki,Kj,Kk,Kl,Jq,Jr,Js,Jt,Ju,Jv,Jw,Jy,Jz,JA,JB,JC,JD,JE,JF,JG,JH,JI,JJ,JK,JL,JM,JN,JO,JP,JQ,JR,JS,JT,JU,JV,JW,JX,JY,JZ,J0,J2,J4,J5,J6,J7,J8,J9,Ka,Im,Io,Ip,Iq,Ir,Is,It,Iu,Jl,Kc,Kd,Ke],[]⟩ x') :
 cO (fu (fG (dH 8 (Tryz.f5.body.getD .skip)))) (Exit.inBlock 1 (Exit.then Kn (Exit.then Kr (Exit.inBlock 0 (Exit.then K0 (bodyPost Tryz.prog Tryz.f5 (fun e w'=>e=.returned (.bool true)∧Gq w w'))))))) 2 ⟨#[u0,.int .i64 (n:Int),u2,u3,u4,u5,u6,u7,u8,.slice a m c,.slice ra m rc,.nilIface,.pointer (some ⟨K,0,none⟩),.int .i64 (bk:Int),.int .i64 (j:Int),Gv,Gw,Gx,Gy,Gz,GC,GD,GH,GI,GJ,GK,GL,GM,GO,GP,GQ,GR,GS,GU,GV,GX,GY,GZ,Ha,Hb,Hc,He,Hf,Hg,Hh,Hi,Hj,Hk,Hl,Hm,Hn,Hp,Hq,Hr,Hs,Ht,Ia,Ib,Ic,Ie,Ig,Ih,Ii,Ij,Iw,Ix,Iz,IA,IB,IC,ID,IE,IG,IH,II,IJ,IK,IL,IM,IN,IP,IQ,IS,IT,IU,IV,IY,IZ,I9,Ja,Jb,Jc,Jd,Je,Jf,Jg,Jh,Ji,Jj,Jk,Gu,Hu,Hv,Hw,Hx,Hy,Hz,H7,Kb,Jo,KG,KI],[]⟩ v:=by
 have HQ:=aa @hQ;clear hQ;obtain⟨rb,ro,hra,hrb,hcs⟩:=(HR.o.1.later HC.o.2.1).2.2 (by omega);subst hra;have hh:=hcs j y HY.o;have t11:=hh 11 _ rfl;have hlti:(j:Int)<(m:Int):=by omega
 clear hh hcs;refine iQ (c':=.region _ _ _) rfl ?_;go_wp2_with fail;exact HQ.o _ _ _ _ _ _ _ _ _ _ _ _ _ _ _ _ _ _ _ _ _ _ _ _ _ _ _ _ _ _ _ _ _ _ _ _ _ _ _ _ _ _ _ _ _ _ _ _ _ _ _ _ _ _ _ _ _ _ _ _ _ _ (aa HC.o)
theorem tm1 {ds:List De} {rs:List Rp} {y:Rp} {Kn Kr K0:Act→World→Prop} (HR:Hid (RL w1 ra m n rs∧gL n ds rs)) (HY:Hid (rs[j]?=some y)) (hlt:j<m) (HC:Hid (StC w1 v n K (j+1) ds)) (HB:Hid (bk≤y.bk)) (h3:m≤300) (hQ:∀ (Kh Ki Kj Kk Kl Jq Jr Js Jt Ju Jv Jw Jy Jz JA JB JC JD JE JF JG JH JI JJ JK JL JM JN JO JP JQ JR JS JT JU JV JW JX JY JZ J0 J2 J4 J5 J6 J7 J8 J9 Ka Im Io Ip Iq Ir Is It Iu Jl Kc Kd Ke:Value) (x':World),Hid (StC w1 x' n K (j+1) ds)→Kn ⟨#[u0,.int .i64 (n:Int),u2,u3,u4,u5,u6,u7,u8,.slice a m c,.slice ra m rc,.nilIface,.pointer (some ⟨K,0,none⟩),.int .i64 (y.bk:Int),.int .i64 (j:Int),Gv,Gw,Gx,Gy,Gz,GC,GD,GH,GI,GJ,GK,GL,GM,GO,GP,GQ,GR,GS,GU,GV,GX,GY,GZ,Ha,Hb,Hc,He,Hf,Hg,Hh,Hi,Hj,Hk,Hl,Hm,Hn,Kh,Ki,Kj,Kk,Kl,Jq,Jr,Js,Jt,Ju,Jv,Jw,Jy,Jz,JA,JB,JC,JD,JE,JF,JG,JH,JI,JJ,JK,JL,JM,JN,JO,JP,JQ,JR,JS,JT,JU,JV,JW,JX,JY,JZ,J0,J2,J4,J5,J6,J7,J8,J9,Ka,Im,Io,Ip,Iq,Ir,Is,It,Iu,Jl,Kc,Kd,Ke],[]⟩ x') :
 cO (fu (fG (dH 8 (Tryz.f5.body.getD .skip)))) (Exit.inBlock 1 (Exit.then Kn (Exit.then Kr (Exit.inBlock 0 (Exit.then K0 (bodyPost Tryz.prog Tryz.f5 (fun e w'=>e=.returned (.bool true)∧Gq w w'))))))) 1 ⟨#[u0,.int .i64 (n:Int),u2,u3,u4,u5,u6,u7,u8,.slice a m c,.slice ra m rc,.nilIface,.pointer (some ⟨K,0,none⟩),.int .i64 (bk:Int),.int .i64 (j:Int),Gv,Gw,Gx,Gy,Gz,GC,GD,GH,GI,GJ,GK,GL,GM,GO,GP,GQ,GR,GS,GU,GV,GX,GY,GZ,Ha,Hb,Hc,He,Hf,Hg,Hh,Hi,Hj,Hk,Hl,Hm,Hn,Hp,Hq,Hr,Hs,Ht,Ia,Ib,Ic,Ie,Ig,Ih,Ii,Ij,Iw,Ix,Iz,IA,IB,IC,ID,IE,IG,IH,II,IJ,IK,IL,IM,IN,IP,IQ,IS,IT,IU,IV,IY,IZ,I9,Ja,Jb,Jc,Jd,Je,Jf,Jg,Jh,Ji,Jj,Jk,Gu,Hu,Hv,Hw,Hx,Hy,Hz,H7,Kb,Jo,KG,KI],[]⟩ v:=by
 have HQ:=aa @hQ;clear hQ;have HG:=aa (HR.o.2.1 j y HY.o);have HQB:=aa ((HR.o.1.later HC.o.2.1).2.1 y (Gp HY.o));have hcl:=HC.o.1;have HCL:=aa hcl;obtain⟨g,cc,vv,X⟩:=hcl;obtain⟨ga,gcap,la,lc,hvv,hgl,hcell,hbl,hlc⟩:=X.sn.at_ HG.o.bl;obtain⟨x0,x1⟩:=Bx.two X.bx;rw[hvv] at x1;have HBL:=aa hbl;obtain⟨L,hL⟩:∃ L:Nat,Hid (L=(Mx.aU n (ds.take (j+1))).1.length):=⟨_,rfl⟩
 rw[←hL.o] at x1;have h1:=HG.o.len;have h2:=HG.o.bk;have h5:=HG.o.sf;have h4:=HB.o;have h6:=HC.o.2.2.1;rw[←hL.o] at h1 h6;have b1:(y.bk:Int)<(L:Int):=by omega
 have b1n:y.bk<L:=by omega
 have b2:¬(y.bk:Int)<(bk:Int):=by omega
 have b2n:¬y.bk<bk:=by omega
 have b3:¬(y.hv:Int)<(y.bk:Int):=by omega
 have b3n:¬y.hv<y.bk:=by omega
 have b5:¬(y.bk:Int)<(y.sf:Int):=by omega
 have b5n:¬y.bk<y.sf:=by omega
 have hh6:y.hv≤1000000:=by omega
 have hlti:(j:Int)<(m:Int):=by omega
 obtain⟨rb,ro,hra,hrb,hcs⟩:=(HR.o.1.later HC.o.2.1).2.2 (by omega);have hh:=hcs j y HY.o;have t10:=hh 10 _ rfl;have t11:=hh 11 _ rfl;have t12:=hh 12 _ rfl;have HRA:=aa hra;subst hra;clear X hvv hbl x0 h1 h2 h4 h5 h6 hh hcs;refine bJ rfl ?_;intro K9 hK9;go_wp2_with fail;go_quiet (first
  |(go_at_call 11;refine Calls.quiet_of_same (v:=.int .i64 (y.hv:Int)) ?_;exact ko w1.heap.size K n _ _ _ (HCL.o.later (bdn _)) y.hv HG.o.len hh6)
  |(go_at_call 12;refine Calls.quiet_of (v:=.bool true) ?_;exact td (some ⟨y.q,0,none⟩) la n n n lc y.bl _ (HQB.o.later (bdn _)) (HBL.o.later (bdn _))))
 go_wp2_with fail;exact Met.intro (tm2 HR HY hlt (aa ⟨HC.o.1.later (bdn _),HC.o.2.1.trans ((bdn _).mono HC.o.2.1.size),HC.o.2.2⟩) HQ.o)
theorem tm0 {ds:List De} {rs:List Rp} {y:Rp} {Kn Kr K0:Act→World→Prop} (HR:Hid (RL w1 ra m n rs∧gL n ds rs)) (HY:Hid (rs[j]?=some y)) (hlt:j<m) (h1:1≤n) (h2:n≤32) (h3:m≤300) (HD:Hid (DL w1 a m ds)) (HC:Hid (StC w1 v n K j ds)) (HB:Hid (bk≤y.bk)) (hQ:∀ (Kh Ki Kj Kk Kl Jq Jr Js Jt Ju Jv Jw Jy Jz JA JB JC JD JE JF JG JH JI JJ JK JL JM JN JO JP JQ JR JS JT JU JV JW JX JY JZ J0 J2 J4 J5 J6 J7 J8 J9 Ka Im Io Ip Iq Ir Is It Iu Jl Kc Kd Ke:Value) (x':World),Hid (StC w1 x' n K (j+1) ds)→Kn ⟨#[u0,.int .i64 (n:Int),u2,u3,u4,u5,u6,u7,u8,.slice a m c,.slice ra m rc,.nilIface,.pointer (some ⟨K,0,none⟩),.int .i64 (y.bk:Int),.int .i64 (j:Int),Gv,Gw,Gx,Gy,Gz,GC,GD,GH,GI,GJ,GK,GL,GM,GO,GP,GQ,GR,GS,GU,GV,GX,GY,GZ,Ha,Hb,Hc,He,Hf,Hg,Hh,Hi,Hj,Hk,Hl,Hm,Hn,Kh,Ki,Kj,Kk,Kl,Jq,Jr,Js,Jt,Ju,Jv,Jw,Jy,Jz,JA,JB,JC,JD,JE,JF,JG,JH,JI,JJ,JK,JL,JM,JN,JO,JP,JQ,JR,JS,JT,JU,JV,JW,JX,JY,JZ,J0,J2,J4,J5,J6,J7,J8,J9,Ka,Im,Io,Ip,Iq,Ir,Is,It,Iu,Jl,Kc,Kd,Ke],[]⟩ x') :
 cO (fu (fG (dH 8 (Tryz.f5.body.getD .skip)))) (Exit.inBlock 1 (Exit.then Kn (Exit.then Kr (Exit.inBlock 0 (Exit.then K0 (bodyPost Tryz.prog Tryz.f5 (fun e w'=>e=.returned (.bool true)∧Gq w w'))))))) 0 ⟨#[u0,.int .i64 (n:Int),u2,u3,u4,u5,u6,u7,u8,.slice a m c,.slice ra m rc,.nilIface,.pointer (some ⟨K,0,none⟩),.int .i64 (bk:Int),.int .i64 (j:Int),Gv,Gw,Gx,Gy,Gz,GC,GD,GH,GI,GJ,GK,GL,GM,GO,GP,GQ,GR,GS,GU,GV,GX,GY,GZ,Ha,Hb,Hc,He,Hf,Hg,Hh,Hi,Hj,Hk,Hl,Hm,Hn,Hp,Hq,Hr,Hs,Ht,Ia,Ib,Ic,Ie,Ig,Ih,Ii,Ij,Iw,Ix,Iz,IA,IB,IC,ID,IE,IG,IH,II,IJ,IK,IL,IM,IN,IP,IQ,IS,IT,IU,IV,IY,IZ,I9,Ja,Jb,Jc,Jd,Je,Jf,Jg,Jh,Ji,Jj,Jk,Gu,Hu,Hv,Hw,Hx,Hy,Hz,H7,Kb,Jo,KG,KI],[]⟩ v:=by
 have HQ:=aa @hQ;clear hQ;have hlti:(j:Int)<(m:Int):=by omega
 obtain⟨b,off,x,ha,hx,hok,hbl,x0,x1,x2,x3,x4,x5,x6,x7,x8,x9,x10⟩:=(HD.o.later HC.o.2.1 HD.o.av).at_ j hlt;subst ha;obtain⟨kd,at_,fr,d⟩:=x;have HXK:=aa hx;clear hx hok;simp only at x0 x1 x2 x3 x4 x5 x6 x7 x8 x9 x10;obtain⟨hw,hhw⟩:∃ hw:Nat,Hid ((Mx.aU n (ds.take j)).1.length=hw+1):=⟨(Mx.aU n (ds.take j)).1.length-1,by have:=HC.o.2.2;show _=_;omega⟩
 refine bJ rfl ?_;intro K9 hK9;go_wp2_with fail;refine(rF w1.heap.size K n _ _ v HC.o.1 h1 h2 hw hhw.o (by have h9:=HC.o.2.2;have h8:=hhw.o;omega) kd at_ fr d _ rfl).mono ?_;rintro e w3 ⟨rfl,K3,D3⟩;have L3:=aa (show StC w1 w3 n K (j+1) ds by
  have e1:ds.take (j+1)=ds.take j++[⟨kd,at_,fr,d⟩]:=by rw[List.take_add_one,HXK.o];rfl
  refine⟨?_,HC.o.2.1.trans D3.o,tf HXK.o HC.o.2.2⟩;rw[e1,Mx.gI];exact K3.o)
 clear x0 x1 x2 x3 x4 x5 x6 x7 x8 x9 x10 K3 D3;go_wp2_with fail;exact Met.intro (tm1 HR HY hlt L3 HB h3 HQ.o)
theorem tm8 {ds:List De} {rs:List Rp} (h1:1≤n) (h2:n≤32) (h3:m≤300) (HD:Hid (DL w1 a m ds)) (HR:Hid (RL w1 ra m n rs∧gL n ds rs)) (HC:Hid (StC w1 v n K 0 ds)) (DW:Hid (Gq w w1)) {Ho:Value} :
 aB Tryz.f5 (fun e w'=>e=.returned (.bool true)∧Gq w w') 8 ⟨#[u0,.int .i64 (n:Int),u2,u3,u4,u5,u6,u7,u8,.slice a m c,.slice ra m rc,.nilIface,.pointer (some ⟨K,0,none⟩),.int .i64 0,Ho,Gv,Gw,Gx,Gy,Gz,GC,GD,GH,GI,GJ,GK,GL,GM,GO,GP,GQ,GR,GS,GU,GV,GX,GY,GZ,Ha,Hb,Hc,He,Hf,Hg,Hh,Hi,Hj,Hk,Hl,Hm,Hn,Hp,Hq,Hr,Hs,Ht,Ia,Ib,Ic,Ie,Ig,Ih,Ii,Ij,Iw,Ix,Iz,IA,IB,IC,ID,IE,IG,IH,II,IJ,IK,IL,IM,IN,IP,IQ,IS,IT,IU,IV,IY,IZ,I9,Ja,Jb,Jc,Jd,Je,Jf,Jg,Jh,Ji,Jj,Jk,Gu,Hu,Hv,Hw,Hx,Hy,Hz,H7,Kb,Jo,KG,KI],[]⟩ v:=by
 refine aL (c:=.seq _ (.seq _ .ret)) rfl ?_;go_upto_region 11 with fail
 go_loopw [13,14] (fun s9 s10 wr=>∃ (j bk:Nat),j≤m∧s10=.int .i64 (j:Int)∧s9=.int .i64 (bk:Int)∧Hid (StC w1 wr n K j ds∧∀ r,rs[j]?=some r→bk≤r.bk)) (fun _ t _=>m-(intOf t).toNat)
 case atStart=>exact⟨0,0,Nat.zero_le _,rfl,rfl,aa ⟨HC.o,fun _ _=>Nat.zero_le _⟩⟩
 case round =>
  obtain⟨j,bk,hj,rfl,rfl,hR⟩:=hrel;by_cases hlt:j<m
  ·have hlti:(j:Int)<(m:Int):=by omega
   obtain⟨y,hy⟩:∃ y,rs[j]?=some y:=⟨_,F0 (by rw[HR.o.1.1];exact hlt)⟩
   have HY:=aa hy;have HC2:=aa hR.o.1;have HB:=aa (hR.o.2 y hy);clear hy hR;obtain⟨x,hx⟩:∃ x:World,Hid (x=wr):=⟨_,rfl⟩
   rw[←hx.o] at HC2 ⊢;refine gS ?_;intro K1 hK1;go_wp2_with fail;refine Met.intro (gS ?_);intro K2 hK2;refine wp_block ?_;refine(show cO (fu (fG (dH 8 (Tryz.f5.body.getD .skip)))) _ 0 _ x from tm0 HR HY hlt h1 h2 h3 HD HC2 HB ?_);intro Kh Ki Kj Kk Kl Jq Jr Js Jt Ju Jv Jw Jy Jz JA JB JC JD JE JF JG JH JI JJ JK JL JM JN JO JP JQ JR JS JT JU JV JW JX JY JZ J0 J2 J4 J5 J6 J7 J8 J9 Ka Im Io Ip Iq Ir Is It Iu Jl Kc Kd Ke x' V';refine hK2 _ _ (Met.intro ?_);clear hK2;show Code.wp _ _ _ _ _
   go_wp2_with fail;go_roundw
   case rel=>exact⟨j+1,y.bk,by omega,by go_num,rfl,aa ⟨V'.o,fun r hr=>HR.o.2.2 j (j+1) y r (by omega) HY.o hr⟩⟩
   case measure=>simp[intOf];omega
  ·obtain rfl:j=m:=by omega
   have FF:=aa (show Gq w wr from DW.o.trans (hR.o.1.2.1.mono DW.o.size));go_wp2_with fail;exact bodyPost_ret (v:=.bool true) (by simp[results,Tryz.results5,go_sem]) rfl ⟨rfl,FF.o⟩
theorem uj (a:Option Addr) (n c:Nat) (l:List Int) (x1 x2 x3:Int) (w:World) (hl:ay w a n l) (hb:I64 l) (h1:mC x1) (h2:mC x2) (h3:mC x3) (hg:Hnd w) :
 Calls Tryz.prog 5 #[.slice a n c,.int .i64 x1,.int .i64 x2,.int .i64 x3] w (fun e w'=>e=.returned (.bool true)∧Gq w w'):=by
 by_cases h:128<n
 ·have h9:(128:Int)<n:=by omega
  clear hg;go_enter Tryz.func5,Tryz.ntmps5;go_wp2
  go_ret;exact⟨rfl,Below.refl _ _⟩
 obtain⟨N,hN1,hN2,hN⟩:∃ N:Nat,1≤N∧N≤32∧Hid (1+Mx.pick x1 32=(N:Int)):=⟨(1+Mx.pick x1 32).toNat,by have:=Mx.cH x1 32 (by omega);omega,by have:=Mx.cH x1 32 (by omega);omega,by unfold Hid;have:=Mx.cH x1 32 (by omega);omega⟩
 obtain⟨A,hA1,hA⟩:∃ A:Nat,A≤1000∧Hid (Mx.pick x2 1000=(A:Int)):=⟨(Mx.pick x2 1000).toNat,by have:=Mx.cH x2 1000 (by omega);omega,by unfold Hid;have:=Mx.cH x2 1000 (by omega);omega⟩
 obtain⟨M,hM1,hM⟩:∃ M:Nat,M≤300∧Hid (Mx.pick x3 150=(M:Int)):=⟨(Mx.pick x3 150).toNat,by have:=Mx.cH x3 150 (by omega);omega,by unfold Hid;have:=Mx.cH x3 150 (by omega);omega⟩
 have H1:=aa h1;have H2:=aa h2;have H3:=aa h3;have hnb:¬(128:Int)<n:=by omega
 clear h1 h2 h3;have HLI:=aa (And.intro hl hb);have HN:=aa hg;clear hl hb hg;go_enter Tryz.func5,Tryz.ntmps5;change aB Tryz.f5 (fun e w'=>e=.returned (.bool true)∧Gq w w') 0 _ w;refine aj rfl ?_;intro K0 hK0;go_wp2_with fail;refine Met.intro (aj rfl ?_);intro K1 hK1;go_wp2_with fail;refine Met.intro (aj rfl ?_);intro K2 hK2;go_wp2_with fail;refine(fo x1 32 w H1.o.1 H1.o.2 (by omega) (by omega)).mono ?_;rintro e w1 ⟨rfl,rfl⟩;obtain⟨Q,hQ⟩:∃ Q:Int,Hid (Q=Mx.pick x1 32):=⟨_,rfl⟩
 rw[←hQ.o] at hN ⊢;have hQN:1+Q=(N:Int):=hN.o;go_wp2_with fail;refine Met.intro (aj rfl ?_);intro K3 hK3;go_wp2_with fail;refine(fo x2 1000 w1 H2.o.1 H2.o.2 (by omega) (by omega)).mono ?_;rintro e w2 ⟨rfl,rfl⟩;rw[hA.o];go_wp2_with fail;refine(fo x3 150 w2 H3.o.1 H3.o.2 (by omega) (by omega)).mono ?_;rintro e w3 ⟨rfl,rfl⟩;rw[hM.o];go_wp2_with fail;refine(j7 a n c l A M N w3 HLI.o.1 HLI.o.2 (by omega) (by omega) (by omega) hN1 (by omega)).mono ?_;rintro e w4 ⟨a4,c4,ds,rfl,D4,_,B4⟩;clear hQN;go_wp2_with fail;refine Met.intro (aj rfl ?_);intro K4 hK4;go_wp2_with fail;refine(zT N a4 M c4 ds w4 hN1 hN2 hM1 D4.o (HN.o.later B4.o HN.o.lt)).mono ?_;rintro e w5 ⟨ra,rc,rs,rfl,R5,D5⟩;have HD5:=aa (D4.o.later D5.o D4.o.av);go_wp2_with fail;refine Met.intro (aj rfl ?_);intro K5 hK5;go_wp2_with fail;refine Met.intro (aj rfl ?_);intro K6 hK6;go_wp2_with fail;refine(lI N w5 hN1 hN2).mono ?_;rintro e w6 ⟨K,rfl,C6,D6⟩;have S6:=aa (show StC w5 w6 N K 0 ds from⟨C6.o,D6.o,by simp[Mx.aU],by simp[Mx.aU]⟩);go_wp2_with fail;refine Met.intro (aj rfl ?_);intro K7 hK7;go_wp2_with fail;exact Met.intro (tm8 hN1 hN2 hM1 HD5 R5 S6 (aa (B4.o.trans (D5.o.mono B4.o.size))))
end
end Go.Proofs.YtbicgjafjjihdaaGreatDoor
