/- Part. -/
import Derived.Test.YtbicgjafjjihdaaGreatDoorZ25
set_option maxHeartbeats 16000000
set_option maxRecDepth 100000
namespace Go.Proofs.YtbicgjafjjihdaaGreatDoor
open Go.RowKit
section
variable {W:World} {K n g c h0 h1:Nat} {kd at_ fr:Int} {u1 u2 u6 u7 u8 u9 Iy Il Iv Ik Ho Gv Gw Gx Gy Gz GC GD GH GI GJ GK GL GM GO GP GQ GR GS GU GV GX GY GZ Ha Hb Hc He Hf Hg Hh Hi Hj Hk Hl Hm Hn Hp Hq Hr Hs Ht Ia Ib Ic Ie Ig Ih Ii Ij Iw Ix Iz IA IB IC ID IE IG IH II IJ IK IL IM IN IP IQ IS IT IU IV IY IZ I9 Ja Jb Jc Jd Je Jf Jg Jh Ji Jj Jk Gu Hu Hv Hw Hx Hy Hz H7 v:Value}
theorem CT {base:Nat} {V0:World} {ae:List (List B8)} {now:List B8} {va:Option Addr} {vl vc:Nat} (HX:Hid (ClX base W K n ae now g c (.slice va vl vc))) (_hn1:1≤n) (_hn2:n≤32) {d:B8} (B0:Hid (Gt W h0 kd at_ fr d)) (B1:Hid (Gr W h1)) (DV:Hid (Below base V0 W)) (NE:Hid (h0≠g∧h0≠K∧h1≠g∧h1≠K∧h0≠h1∧base≤h1∧(∀ k,Value.ownBlock (.slice va vl vc)=some k→k≠h0∧k≠h1)∧h1<W.heap.size)) (hk:Hid (kd<0∨11≤kd)) :
 aB Tryz.f10 (fun e w'=>e=.returned (.tuple #[.int .i64 3,.agg #[.int .u8 0,.int .u8 0,.int .u8 0,.int .u8 0,.int .u8 0,.int .u8 0,.int .u8 0,.int .u8 0]])∧Hid (ClW base w' K n ae now)∧Hid (Below base V0 w')) 1 ⟨#[.pointer (some ⟨K,0,none⟩),u1,u2,.pointer (some ⟨h0,0,none⟩),.int .i64 0,.pointer (some ⟨h1,0,none⟩),u6,u7,u8,u9,Iy,Il,Iv,Ik,Ho,Gv,Gw,Gx,Gy,Gz,GC,GD,GH,GI,GJ,GK,GL,GM,GO,GP,GQ,GR,GS,GU,GV,GX,GY,GZ,Ha,Hb,Hc,He,Hf,Hg,Hh,Hi,Hj,Hk,Hl,Hm,Hn,Hp,Hq,Hr,Hs,Ht,Ia,Ib,Ic,Ie,Ig,Ih,Ii,Ij,Iw,Ix,Iz,IA,IB,IC,ID,IE,IG,IH,II,IJ,IK,IL,IM,IN,IP,IQ,IS,IT,IU,IV,IY,IZ,I9,Ja,Jb,Jc,Jd,Je,Jf,Jg,Jh,Ji,Jj,Jk,Gu,Hu,Hv,Hw,Hx,Hy,Hz,H7],[]⟩ W:=by
 have HID:=aa (gM (x:=zB) B1.o);obtain⟨r0,r1,r2,r3,r4,r5,r6,r7,rf⟩:=jb B1.o;have z0:=B0.o.cell 0;have z1:=B0.o.cell 1;simp only[Gd,Gc,Gb] at z0 z1;obtain⟨x0,x1⟩:=Bx.two HX.o.bx;have hne:=NE.o.1;clear hne x0 x1;refine aj rfl ?_;intro K9 hK9;rcases hk.o with hk1|hk1
 ·go_wp2_with fail
  rw[show(((((((W.setCell ⟨h1,0,none⟩ (.int .u8 0)).setCell ⟨h1,1,none⟩ (.int .u8 0)).setCell ⟨h1,2,none⟩ (.int .u8 0)).setCell ⟨h1,3,none⟩ (.int .u8 0)).setCell ⟨h1,4,none⟩ (.int .u8 0)).setCell ⟨h1,5,none⟩ (.int .u8 0)).setCell ⟨h1,6,none⟩ (.int .u8 0)).setCell ⟨h1,7,none⟩ (.int .u8 0)=W from HID.o];exact bodyPost_ret (v:=.tuple #[.int .i64 3,.agg #[.int .u8 0,.int .u8 0,.int .u8 0,.int .u8 0,.int .u8 0,.int .u8 0,.int .u8 0,.int .u8 0]]) (by simp[results,Tryz.results10,go_sem,r0,r1,r2,r3,r4,r5,r6,r7]) rfl ⟨rfl,aa ⟨g,c,_,HX.o⟩,DV⟩
 ·have hk2:¬kd<0:=by omega
  go_wp2_with fail;rw[show(((((((W.setCell ⟨h1,0,none⟩ (.int .u8 0)).setCell ⟨h1,1,none⟩ (.int .u8 0)).setCell ⟨h1,2,none⟩ (.int .u8 0)).setCell ⟨h1,3,none⟩ (.int .u8 0)).setCell ⟨h1,4,none⟩ (.int .u8 0)).setCell ⟨h1,5,none⟩ (.int .u8 0)).setCell ⟨h1,6,none⟩ (.int .u8 0)).setCell ⟨h1,7,none⟩ (.int .u8 0)=W from HID.o];exact bodyPost_ret (v:=.tuple #[.int .i64 3,.agg #[.int .u8 0,.int .u8 0,.int .u8 0,.int .u8 0,.int .u8 0,.int .u8 0,.int .u8 0,.int .u8 0]]) (by simp[results,Tryz.results10,go_sem,r0,r1,r2,r3,r4,r5,r6,r7]) rfl ⟨rfl,aa ⟨g,c,_,HX.o⟩,DV⟩
theorem vA {Q:Ending→World→Prop} (HX:Hid (Bx W K #[.slice (some ⟨g,0,none⟩) n c,v] 45)) {d:B8} (B0:Hid (Gt W h0 kd at_ fr d)) (hk:Hid (0≤kd∧kd≤10∧¬kd=0∧¬kd=1∧¬kd=2)) (h3:Hid (∀ {v1 v2 v6 v7 v8 v9 Kf Jm Jn Jp Lq Lr Ls Lu KJ KK KL KM Km Ko Kp Kg Kq Ks Kt Ku Kv Kw Kx Ky Kz KA KC KD KO KP KQ KR KS KT KU KW KX KY KZ La Lb Kh Ki Kj Kk Kl Jq Jr Js Jt Ju Jv Jw Jy Jz JA JB JC JD JE JF JG JH JI JJ JK JL JM JN JO JP JQ JR JS JT JU JV JW JX JY JZ J0 J2 J4 J5 J6 J7 J8 J9 Ka Im Io Ip Iq Ir Is It Iu:Value},aB Tryz.f10 Q 3 ⟨#[.pointer (some ⟨K,0,none⟩),v1,v2,.pointer (some ⟨h0,0,none⟩),.int .i64 0,.pointer (some ⟨h1,0,none⟩),v6,v7,v8,v9,Kf,Jm,Jn,Jp,Lq,Lr,Ls,Lu,KJ,KK,KL,KM,Km,Ko,Kp,Kg,Kq,Ks,Kt,Ku,Kv,Kw,Kx,Ky,Kz,KA,KC,KD,KO,KP,KQ,KR,KS,KT,KU,KW,KX,KY,KZ,La,Lb,Kh,Ki,Kj,Kk,Kl,Jq,Jr,Js,Jt,Ju,Jv,Jw,Jy,Jz,JA,JB,JC,JD,JE,JF,JG,JH,JI,JJ,JK,JL,JM,JN,JO,JP,JQ,JR,JS,JT,JU,JV,JW,JX,JY,JZ,J0,J2,J4,J5,J6,J7,J8,J9,Ka,Im,Io,Ip,Iq,Ir,Is,It,Iu],[]⟩ W.drew)) :
 aB Tryz.f10 Q 1 ⟨#[.pointer (some ⟨K,0,none⟩),u1,u2,.pointer (some ⟨h0,0,none⟩),.int .i64 0,.pointer (some ⟨h1,0,none⟩),u6,u7,u8,u9,Iy,Il,Iv,Ik,Ho,Gv,Gw,Gx,Gy,Gz,GC,GD,GH,GI,GJ,GK,GL,GM,GO,GP,GQ,GR,GS,GU,GV,GX,GY,GZ,Ha,Hb,Hc,He,Hf,Hg,Hh,Hi,Hj,Hk,Hl,Hm,Hn,Hp,Hq,Hr,Hs,Ht,Ia,Ib,Ic,Ie,Ig,Ih,Ii,Ij,Iw,Ix,Iz,IA,IB,IC,ID,IE,IG,IH,II,IJ,IK,IL,IM,IN,IP,IQ,IS,IT,IU,IV,IY,IZ,I9,Ja,Jb,Jc,Jd,Je,Jf,Jg,Jh,Ji,Jj,Jk,Gu,Hu,Hv,Hw,Hx,Hy,Hz,H7],[]⟩ W:=by
 have z0:=B0.o.cell 0;have z1:=B0.o.cell 1;simp only[Gd,Gc,Gb] at z0 z1;obtain⟨x0,x1⟩:=Bx.two HX.o;obtain⟨k0,k1,q0,q1,q2⟩:=hk.o;have k0':¬kd<0:=by omega
 have k1':¬11≤kd:=by omega
 have e0:(kd==0)=false:=by simpa using q0
 have e1:(kd==1)=false:=by simpa using q1
 have e2:(kd==2)=false:=by simpa using q2
 have f0:decide (kd=0)=false:=by simpa using q0
 have f1:decide (kd=1)=false:=by simpa using q1
 have f2:decide (kd=2)=false:=by simpa using q2
 refine aj rfl ?_;intro K9 hK9;go_wp2_with fail;refine Met.intro (aj rfl ?_);intro K8 hK8;go_wp2_with fail;go_region
 go_wp2_with fail;exact Met.intro h3.o
theorem Es {Q:Ending→World→Prop} (HX:Hid (Bx W K #[.slice (some ⟨g,0,none⟩) n c,v] 45)) {d:B8} (B0:Hid (Gt W h0 kd at_ fr d)) (hk:kd=0) (hr:Hid (0≤at_∧at_<(n:Int))) (h3:Hid (∀ {v1 v2 v6 v7 v8 v9 Kf Jm Jn Jp Lq Lr Ls Lu KJ KK KL KM Km Ko Kp Kg Kq Ks Kt Ku Kv Kw Kx Ky Kz KA KC KD KO KP KQ KR KS KT KU KW KX KY KZ La Lb Kh Ki Kj Kk Kl Jq Jr Js Jt Ju Jv Jw Jy Jz JA JB JC JD JE JF JG JH JI JJ JK JL JM JN JO JP JQ JR JS JT JU JV JW JX JY JZ J0 J2 J4 J5 J6 J7 J8 J9 Ka Im Io Ip Iq Ir Is It Iu:Value},aB Tryz.f10 Q 3 ⟨#[.pointer (some ⟨K,0,none⟩),v1,v2,.pointer (some ⟨h0,0,none⟩),.int .i64 0,.pointer (some ⟨h1,0,none⟩),v6,v7,v8,v9,Kf,Jm,Jn,Jp,Lq,Lr,Ls,Lu,KJ,KK,KL,KM,Km,Ko,Kp,Kg,Kq,Ks,Kt,Ku,Kv,Kw,Kx,Ky,Kz,KA,KC,KD,KO,KP,KQ,KR,KS,KT,KU,KW,KX,KY,KZ,La,Lb,Kh,Ki,Kj,Kk,Kl,Jq,Jr,Js,Jt,Ju,Jv,Jw,Jy,Jz,JA,JB,JC,JD,JE,JF,JG,JH,JI,JJ,JK,JL,JM,JN,JO,JP,JQ,JR,JS,JT,JU,JV,JW,JX,JY,JZ,J0,J2,J4,J5,J6,J7,J8,J9,Ka,Im,Io,Ip,Iq,Ir,Is,It,Iu],[]⟩ W.drew)) :
 aB Tryz.f10 Q 1 ⟨#[.pointer (some ⟨K,0,none⟩),u1,u2,.pointer (some ⟨h0,0,none⟩),.int .i64 0,.pointer (some ⟨h1,0,none⟩),u6,u7,u8,u9,Iy,Il,Iv,Ik,Ho,Gv,Gw,Gx,Gy,Gz,GC,GD,GH,GI,GJ,GK,GL,GM,GO,GP,GQ,GR,GS,GU,GV,GX,GY,GZ,Ha,Hb,Hc,He,Hf,Hg,Hh,Hi,Hj,Hk,Hl,Hm,Hn,Hp,Hq,Hr,Hs,Ht,Ia,Ib,Ic,Ie,Ig,Ih,Ii,Ij,Iw,Ix,Iz,IA,IB,IC,ID,IE,IG,IH,II,IJ,IK,IL,IM,IN,IP,IQ,IS,IT,IU,IV,IY,IZ,I9,Ja,Jb,Jc,Jd,Je,Jf,Jg,Jh,Ji,Jj,Jk,Gu,Hu,Hv,Hw,Hx,Hy,Hz,H7],[]⟩ W:=by
 subst hk;have z0:=B0.o.cell 0;have z1:=B0.o.cell 1;simp only[Gd,Gc,Gb] at z0 z1;obtain⟨x0,x1⟩:=Bx.two HX.o;obtain⟨a0,a1⟩:=hr.o;have a0':¬at_<0:=by omega
 have a1':¬(n:Int)≤at_:=by omega
 have f0:decide (at_<0)=false:=by simpa using a0'
 have f1:decide ((n:Int)≤at_)=false:=by simpa using a1'
 refine aj rfl ?_;intro K9 hK9;go_wp2_with fail;refine Met.intro (aj rfl ?_);intro K8 hK8;go_wp2_with fail;go_region
 go_wp2_with fail;exact Met.intro h3.o
theorem Et {Q:Ending→World→Prop} (HX:Hid (Bx W K #[.slice (some ⟨g,0,none⟩) n c,v] 45)) {d:B8} (B0:Hid (Gt W h0 kd at_ fr d)) (hk:kd=1) (hr:Hid (0≤at_∧at_<(n:Int))) (h3:Hid (∀ {v1 v2 v6 v7 v8 v9 Kf Jm Jn Jp Lq Lr Ls Lu KJ KK KL KM Km Ko Kp Kg Kq Ks Kt Ku Kv Kw Kx Ky Kz KA KC KD KO KP KQ KR KS KT KU KW KX KY KZ La Lb Kh Ki Kj Kk Kl Jq Jr Js Jt Ju Jv Jw Jy Jz JA JB JC JD JE JF JG JH JI JJ JK JL JM JN JO JP JQ JR JS JT JU JV JW JX JY JZ J0 J2 J4 J5 J6 J7 J8 J9 Ka Im Io Ip Iq Ir Is It Iu:Value},aB Tryz.f10 Q 3 ⟨#[.pointer (some ⟨K,0,none⟩),v1,v2,.pointer (some ⟨h0,0,none⟩),.int .i64 0,.pointer (some ⟨h1,0,none⟩),v6,v7,v8,v9,Kf,Jm,Jn,Jp,Lq,Lr,Ls,Lu,KJ,KK,KL,KM,Km,Ko,Kp,Kg,Kq,Ks,Kt,Ku,Kv,Kw,Kx,Ky,Kz,KA,KC,KD,KO,KP,KQ,KR,KS,KT,KU,KW,KX,KY,KZ,La,Lb,Kh,Ki,Kj,Kk,Kl,Jq,Jr,Js,Jt,Ju,Jv,Jw,Jy,Jz,JA,JB,JC,JD,JE,JF,JG,JH,JI,JJ,JK,JL,JM,JN,JO,JP,JQ,JR,JS,JT,JU,JV,JW,JX,JY,JZ,J0,J2,J4,J5,J6,J7,J8,J9,Ka,Im,Io,Ip,Iq,Ir,Is,It,Iu],[]⟩ W.drew)) :
 aB Tryz.f10 Q 1 ⟨#[.pointer (some ⟨K,0,none⟩),u1,u2,.pointer (some ⟨h0,0,none⟩),.int .i64 0,.pointer (some ⟨h1,0,none⟩),u6,u7,u8,u9,Iy,Il,Iv,Ik,Ho,Gv,Gw,Gx,Gy,Gz,GC,GD,GH,GI,GJ,GK,GL,GM,GO,GP,GQ,GR,GS,GU,GV,GX,GY,GZ,Ha,Hb,Hc,He,Hf,Hg,Hh,Hi,Hj,Hk,Hl,Hm,Hn,Hp,Hq,Hr,Hs,Ht,Ia,Ib,Ic,Ie,Ig,Ih,Ii,Ij,Iw,Ix,Iz,IA,IB,IC,ID,IE,IG,IH,II,IJ,IK,IL,IM,IN,IP,IQ,IS,IT,IU,IV,IY,IZ,I9,Ja,Jb,Jc,Jd,Je,Jf,Jg,Jh,Ji,Jj,Jk,Gu,Hu,Hv,Hw,Hx,Hy,Hz,H7],[]⟩ W:=by
 subst hk;have z0:=B0.o.cell 0;have z1:=B0.o.cell 1;simp only[Gd,Gc,Gb] at z0 z1;obtain⟨x0,x1⟩:=Bx.two HX.o;obtain⟨a0,a1⟩:=hr.o;have a0':¬at_<0:=by omega
 have a1':¬(n:Int)≤at_:=by omega
 have f0:decide (at_<0)=false:=by simpa using a0'
 have f1:decide ((n:Int)≤at_)=false:=by simpa using a1'
 refine aj rfl ?_;intro K9 hK9;go_wp2_with fail;refine Met.intro (aj rfl ?_);intro K8 hK8;go_wp2_with fail;go_region
 go_wp2_with fail;exact Met.intro h3.o
theorem Eu {Q:Ending→World→Prop} (HX:Hid (Bx W K #[.slice (some ⟨g,0,none⟩) n c,v] 45)) {d:B8} (B0:Hid (Gt W h0 kd at_ fr d)) (hk:kd=2) (hr:Hid (0≤at_∧at_<(n:Int))) (h3:Hid (∀ {v1 v2 v6 v7 v8 v9 Kf Jm Jn Jp Lq Lr Ls Lu KJ KK KL KM Km Ko Kp Kg Kq Ks Kt Ku Kv Kw Kx Ky Kz KA KC KD KO KP KQ KR KS KT KU KW KX KY KZ La Lb Kh Ki Kj Kk Kl Jq Jr Js Jt Ju Jv Jw Jy Jz JA JB JC JD JE JF JG JH JI JJ JK JL JM JN JO JP JQ JR JS JT JU JV JW JX JY JZ J0 J2 J4 J5 J6 J7 J8 J9 Ka Im Io Ip Iq Ir Is It Iu:Value},aB Tryz.f10 Q 3 ⟨#[.pointer (some ⟨K,0,none⟩),v1,v2,.pointer (some ⟨h0,0,none⟩),.int .i64 0,.pointer (some ⟨h1,0,none⟩),v6,v7,v8,v9,Kf,Jm,Jn,Jp,Lq,Lr,Ls,Lu,KJ,KK,KL,KM,Km,Ko,Kp,Kg,Kq,Ks,Kt,Ku,Kv,Kw,Kx,Ky,Kz,KA,KC,KD,KO,KP,KQ,KR,KS,KT,KU,KW,KX,KY,KZ,La,Lb,Kh,Ki,Kj,Kk,Kl,Jq,Jr,Js,Jt,Ju,Jv,Jw,Jy,Jz,JA,JB,JC,JD,JE,JF,JG,JH,JI,JJ,JK,JL,JM,JN,JO,JP,JQ,JR,JS,JT,JU,JV,JW,JX,JY,JZ,J0,J2,J4,J5,J6,J7,J8,J9,Ka,Im,Io,Ip,Iq,Ir,Is,It,Iu],[]⟩ W.drew)) :
 aB Tryz.f10 Q 1 ⟨#[.pointer (some ⟨K,0,none⟩),u1,u2,.pointer (some ⟨h0,0,none⟩),.int .i64 0,.pointer (some ⟨h1,0,none⟩),u6,u7,u8,u9,Iy,Il,Iv,Ik,Ho,Gv,Gw,Gx,Gy,Gz,GC,GD,GH,GI,GJ,GK,GL,GM,GO,GP,GQ,GR,GS,GU,GV,GX,GY,GZ,Ha,Hb,Hc,He,Hf,Hg,Hh,Hi,Hj,Hk,Hl,Hm,Hn,Hp,Hq,Hr,Hs,Ht,Ia,Ib,Ic,Ie,Ig,Ih,Ii,Ij,Iw,Ix,Iz,IA,IB,IC,ID,IE,IG,IH,II,IJ,IK,IL,IM,IN,IP,IQ,IS,IT,IU,IV,IY,IZ,I9,Ja,Jb,Jc,Jd,Je,Jf,Jg,Jh,Ji,Jj,Jk,Gu,Hu,Hv,Hw,Hx,Hy,Hz,H7],[]⟩ W:=by
 subst hk;have z0:=B0.o.cell 0;have z1:=B0.o.cell 1;simp only[Gd,Gc,Gb] at z0 z1;obtain⟨x0,x1⟩:=Bx.two HX.o;obtain⟨a0,a1⟩:=hr.o;have a0':¬at_<0:=by omega
 have a1':¬(n:Int)≤at_:=by omega
 have f0:decide (at_<0)=false:=by simpa using a0'
 have f1:decide ((n:Int)≤at_)=false:=by simpa using a1'
 refine aj rfl ?_;intro K9 hK9;go_wp2_with fail;refine Met.intro (aj rfl ?_);intro K8 hK8;go_wp2_with fail;go_region
 go_wp2_with fail;exact Met.intro h3.o
end
section
variable {V V0:World} {h1 base K n g c vl vc h0 j:Nat} {u1 u2 u6 u7 u8 u9 Iy Il Iv Ik Ho Gv Gw Gx Gy Gz GC GD GH GI GJ GK GL GM GO GP GQ GR GS GU GV GX GY GZ Ha Hb Hc He Hf Hg Hh Hi Hj Hk Hl Hm Hn Hp Hq Hr Hs Ht Ia Ib Ic Ie Ig Ih Ii Ij Iw Ix Iz IA IB IC ID IE IG IH II IJ IK IL IM IN IP IQ IS IT IU IV IY IZ I9 Ja Jb Jc Jd Je Jf Jg Jh Ji Jj Jk Gu Hu Hv Hw Hx Hy Hz H7:Value} {va:Option Addr} {kd at_ fr:Int}
theorem jW {Q:Ending→World→Prop} (B1:Hid (Gr V h1)) (hQ:Hid (Q (.returned (.tuple #[.int .i64 0,.agg #[.int .u8 0,.int .u8 0,.int .u8 0,.int .u8 0,.int .u8 0,.int .u8 0,.int .u8 0,.int .u8 0]])) V)) {u0 u3 u4:Value} :
 aB Tryz.f10 Q 4 ⟨#[u0,u1,u2,u3,u4,.pointer (some ⟨h1,0,none⟩),u6,u7,u8,u9,Iy,Il,Iv,Ik,Ho,Gv,Gw,Gx,Gy,Gz,GC,GD,GH,GI,GJ,GK,GL,GM,GO,GP,GQ,GR,GS,GU,GV,GX,GY,GZ,Ha,Hb,Hc,He,Hf,Hg,Hh,Hi,Hj,Hk,Hl,Hm,Hn,Hp,Hq,Hr,Hs,Ht,Ia,Ib,Ic,Ie,Ig,Ih,Ii,Ij,Iw,Ix,Iz,IA,IB,IC,ID,IE,IG,IH,II,IJ,IK,IL,IM,IN,IP,IQ,IS,IT,IU,IV,IY,IZ,I9,Ja,Jb,Jc,Jd,Je,Jf,Jg,Jh,Ji,Jj,Jk,Gu,Hu,Hv,Hw,Hx,Hy,Hz,H7],[]⟩ V:=by
 refine aL (c:=.seq _ .ret) rfl ?_;have HI:=aa (show(((((((V.setCell ⟨h1,0,none⟩ (.int .u8 0)).setCell ⟨h1,1,none⟩ (.int .u8 0)).setCell ⟨h1,2,none⟩ (.int .u8 0)).setCell ⟨h1,3,none⟩ (.int .u8 0)).setCell ⟨h1,4,none⟩ (.int .u8 0)).setCell ⟨h1,5,none⟩ (.int .u8 0)).setCell ⟨h1,6,none⟩ (.int .u8 0)).setCell ⟨h1,7,none⟩ (.int .u8 0)=V from gM (x:=zB) B1.o);obtain⟨r0,r1,r2,r3,r4,r5,r6,r7,rf⟩:=jb B1.o;go_wp2_with fail;rw[HI.o];exact bodyPost_ret (v:=.tuple #[.int .i64 0,.agg #[.int .u8 0,.int .u8 0,.int .u8 0,.int .u8 0,.int .u8 0,.int .u8 0,.int .u8 0,.int .u8 0]]) (by simp[results,Tryz.results10,go_sem,r0,r1,r2,r3,r4,r5,r6,r7]) rfl hQ.o
theorem xN {ae:List (List B8)} {now:List B8} (HX:Hid (ClX base V K n ae now g c (.slice va vl vc))) (hn1:1≤n) (hn2:n≤32) {d:B8} (B0:Hid (Gt V h0 kd at_ fr d)) (B1:Hid (Gr V h1)) (DV:Hid (Below base V0 V)) (NE:Hid (h0≠g∧h0≠K∧h1≠g∧h1≠K∧h0≠h1∧base≤h1∧(∀ k,Value.ownBlock (.slice va vl vc)=some k→k≠h0∧k≠h1)∧base≤V0.heap.size)) (hk:Hid (¬kd=0∧¬kd=1∧¬kd=2∧¬kd=3∧¬kd=8)) :
 aB Tryz.f10 (fun e w'=>e=.returned (.tuple #[.int .i64 0,.agg #[.int .u8 0,.int .u8 0,.int .u8 0,.int .u8 0,.int .u8 0,.int .u8 0,.int .u8 0,.int .u8 0]])∧Hid (ClW base w' K n ae now)∧Hid (Below base V0 w')) 3 ⟨#[.pointer (some ⟨K,0,none⟩),u1,u2,.pointer (some ⟨h0,0,none⟩),.int .i64 0,.pointer (some ⟨h1,0,none⟩),u6,u7,u8,u9,Iy,Il,Iv,Ik,Ho,Gv,Gw,Gx,Gy,Gz,GC,GD,GH,GI,GJ,GK,GL,GM,GO,GP,GQ,GR,GS,GU,GV,GX,GY,GZ,Ha,Hb,Hc,He,Hf,Hg,Hh,Hi,Hj,Hk,Hl,Hm,Hn,Hp,Hq,Hr,Hs,Ht,Ia,Ib,Ic,Ie,Ig,Ih,Ii,Ij,Iw,Ix,Iz,IA,IB,IC,ID,IE,IG,IH,II,IJ,IK,IL,IM,IN,IP,IQ,IS,IT,IU,IV,IY,IZ,I9,Ja,Jb,Jc,Jd,Je,Jf,Jg,Jh,Ji,Jj,Jk,Gu,Hu,Hv,Hw,Hx,Hy,Hz,H7],[]⟩ V:=by
 have z0:=B0.o.cell 0;simp only[Gd,Gb] at z0;have hn12:1≤n∧n≤32:=⟨hn1,hn2⟩
 clear hn12;have hne:=NE.o.1;clear hne;obtain⟨q0,q1,q2,q3,q8⟩:=hk.o;refine aj rfl ?_;intro K9 hK9;go_wp2_with fail;exact Met.intro (jW B1 (aa ⟨rfl,aa ⟨g,c,_,HX.o⟩,DV⟩))
theorem mJ {l:List B8} {y:B8} (h:l[j]?=some y) {i:Nat} (hi:i<8):(aT l)[j*8+i]?=y.cs[i]?:=by
 have hj:=(Gh.1 h).1;have h1:l=l.take j++l.drop j:=(List.take_append_drop j l).symm;have h2:l.drop j=y::l.drop (j+1):=by
  rw[List.drop_eq_getElem_cons hj];rw[F0 hj] at h;rw[Gg h]
 have h3:aT l=aT (l.take j)++(y.cs++aT (l.drop (j+1))):=by
  conv=>lhs;rw[h1,h2]
  unfold aT;rw[List.flatMap_append,List.flatMap_cons]
 have h4:(aT (l.take j)).length=j*8:=by rw[cw,Gk,Nat.min_eq_left (by omega)]
 have h5:y.cs.length=8:=rfl;rw[h3,Gl (by omega),h4,show j*8+i-j*8=i by omega,Gm (by omega)]
theorem nY {w:World} {v:Value} {l:List B8} (h:au w base v l):au w.drew base v l:=h
theorem uE (w:World) (g o:Nat) (x:B8):Ex (fun b=>b=g) w (aR w g o x):=Ex.one (ak (ak (ak (ak (ak (ak (ak (ak (aq _ _) _ _) _ _) _ _) _ _) _ _) _ _) _ _) _ _)
theorem vy {ae:List (List B8)} {now:List B8} (HX:Hid (ClX base V K n ae now g c (.slice va vl vc))) (hn1:1≤n) (hn2:n≤32) {d:B8} (B0:Hid (Gt V h0 kd at_ fr d)) (B1:Hid (Gr V h1)) (DV:Hid (Below base V0 V)) (NE:Hid (h0≠g∧h0≠K∧h1≠g∧h1≠K∧h0≠h1∧base≤h1∧(∀ k,Value.ownBlock (.slice va vl vc)=some k→k≠h0∧k≠h1)∧base≤V0.heap.size)) (hk:kd=0) (hj:at_=(j:Int)) (hjl:Hid (j<n)) :
 aB Tryz.f10 (fun e w'=>e=.returned (.tuple #[.int .i64 0,.agg #[.int .u8 0,.int .u8 0,.int .u8 0,.int .u8 0,.int .u8 0,.int .u8 0,.int .u8 0,.int .u8 0]])∧Hid (ClW base w' K n ae (now.set j d))∧Hid (Below base V0 w')) 3 ⟨#[.pointer (some ⟨K,0,none⟩),u1,u2,.pointer (some ⟨h0,0,none⟩),.int .i64 0,.pointer (some ⟨h1,0,none⟩),u6,u7,u8,u9,Iy,Il,Iv,Ik,Ho,Gv,Gw,Gx,Gy,Gz,GC,GD,GH,GI,GJ,GK,GL,GM,GO,GP,GQ,GR,GS,GU,GV,GX,GY,GZ,Ha,Hb,Hc,He,Hf,Hg,Hh,Hi,Hj,Hk,Hl,Hm,Hn,Hp,Hq,Hr,Hs,Ht,Ia,Ib,Ic,Ie,Ig,Ih,Ii,Ij,Iw,Ix,Iz,IA,IB,IC,ID,IE,IG,IH,II,IJ,IK,IL,IM,IN,IP,IQ,IS,IT,IU,IV,IY,IZ,I9,Ja,Jb,Jc,Jd,Je,Jf,Jg,Jh,Ji,Jj,Jk,Gu,Hu,Hv,Hw,Hx,Hy,Hz,H7],[]⟩ V:=by
 have z0:=B0.o.cell 0;simp only[Gd,Gb] at z0;have hn12:1≤n∧n≤32:=⟨hn1,hn2⟩
 clear hn12;subst hk;subst hj;obtain⟨x0,x1⟩:=Bx.two HX.o.bx;have z1:=B0.o.cell 1;simp only[Gd,Gc,Gb] at z1;have c3:=B0.o.cell 3;have c4:=B0.o.cell 4;have c5:=B0.o.cell 5;have c6:=B0.o.cell 6;have c7:=B0.o.cell 7;have c8:=B0.o.cell 8;have c9:=B0.o.cell 9;have c10:=B0.o.cell 10;simp only[Gd,Gc,Gb] at c3 c4 c5 c6 c7 c8 c9 c10;have hjn:=hjl.o;have hjI:(j:Int)<(n:Int):=by omega
 have NG:=aa HX.o.ng;obtain⟨y,hy⟩:∃ y,now[j]?=some y:=⟨_,F0 (by rw[HX.o.nl];exact hjn)⟩
 have gc:∀ i u,y.cs[i]?=some u→V.cell? ⟨g,j*8+i,none⟩=some u:=fun i u hu=>by
  obtain⟨a9,c9,hv9,_,hr9,_⟩:=aA HX.o.nw;obtain⟨b9,o9,ha9,_,hc9⟩:=hr9.2.2 (by rw[HX.o.nl];omega);have e9:a9=some ⟨g,0,none⟩:=by injection hv9 with e9;exact e9.symm
  rw[e9] at ha9;injection ha9 with ha9
  injection ha9 with hb9 ho9
  subst hb9 ho9;have h9:=hc9 (j*8+i) u (by rw[mJ hy (by have:=(Gh.1 hu).1;exact this)];exact hu);rw[Nat.zero_add] at h9;exact h9
 have g0:=gc 0 _ rfl;have g1:=gc 1 _ rfl;have g2:=gc 2 _ rfl;have g3:=gc 3 _ rfl;have g4:=gc 4 _ rfl;have g5:=gc 5 _ rfl;have g6:=gc 6 _ rfl;have g7:=gc 7 _ rfl;rw[Nat.add_zero] at g0;have gf:=NG.o.2.2.2.2;clear gc;refine aj rfl ?_;intro K9 hK9;go_upto_region 7 with fail
 go_region
 obtain⟨W5,hW5⟩:∃ W5:World,Hid (W5=(aR V g (j*8) d).drew):=⟨_,rfl⟩
 have O5:=aa (show au W5 base (.slice (some ⟨g,0,none⟩) n c) (now.set j d) by rw[hW5.o];exact nY (HX.o.nw.put j (by rw[HX.o.nl];exact hjn) d));have E5:=aa (show Ex (fun b=>b=g) V W5 by rw[hW5.o];exact(uE V g (j*8) d).trans (Ex.below (Below.refl _ _).drew));unfold aR at hW5;rw[←hW5.o];clear hW5;have NEo:=NE.o;have B5:=aa (Ex.bx E5.o B1.o NEo.2.2.1);have X5:=aa (show ClX base W5 K n ae (now.set j d) g c (.slice va vl vc) from⟨Ex.bx E5.o HX.o.bx (fun e=>NG.o.1 e.symm),HX.o.kb,O5.o,HX.o.sn.ex E5.o (fun b hb _=>.inr hb) (fun k hk e=>(NG.o.2.2.2.1 k hk).2 e),by rw[List.length_set];exact HX.o.nl,Gn HX.o.bs E5.o.size⟩);have F5:=aa (show Below base V0 W5 from DV.o.trans (E5.o.toBelow_of HX.o.bs (fun b hb=>by rw[hb];exact NG.o.2.1)));clear x0 x1 z1 c3 c4 c5 c6 c7 c8 c9 c10 g0 g1 g2 g3 g4 g5 g6 g7 gf NEo;go_wp2_with fail;exact Met.intro (jW B5 (aa ⟨rfl,aa ⟨g,c,_,X5.o⟩,F5⟩))
theorem xP {ae:List (List B8)} {now:List B8} (HX:Hid (ClX base V K n ae now g c (.slice va vl vc))) (hn1:1≤n) (hn2:n≤32) {d:B8} (B0:Hid (Gt V h0 kd at_ fr d)) (B1:Hid (Gr V h1)) (DV:Hid (Below base V0 V)) (NE:Hid (h0≠g∧h0≠K∧h1≠g∧h1≠K∧h0≠h1∧base≤h1∧(∀ k,Value.ownBlock (.slice va vl vc)=some k→k≠h0∧k≠h1)∧base≤V0.heap.size)) (hk:kd=1) (hj:at_=(j:Int)) (hjl:Hid (j<n)) :
 aB Tryz.f10 (fun e w'=>e=.returned (.tuple #[.int .i64 0,.agg #[.int .u8 0,.int .u8 0,.int .u8 0,.int .u8 0,.int .u8 0,.int .u8 0,.int .u8 0,.int .u8 0]])∧Hid (ClW base w' K n ae (now.set j zB))∧Hid (Below base V0 w')) 3 ⟨#[.pointer (some ⟨K,0,none⟩),u1,u2,.pointer (some ⟨h0,0,none⟩),.int .i64 0,.pointer (some ⟨h1,0,none⟩),u6,u7,u8,u9,Iy,Il,Iv,Ik,Ho,Gv,Gw,Gx,Gy,Gz,GC,GD,GH,GI,GJ,GK,GL,GM,GO,GP,GQ,GR,GS,GU,GV,GX,GY,GZ,Ha,Hb,Hc,He,Hf,Hg,Hh,Hi,Hj,Hk,Hl,Hm,Hn,Hp,Hq,Hr,Hs,Ht,Ia,Ib,Ic,Ie,Ig,Ih,Ii,Ij,Iw,Ix,Iz,IA,IB,IC,ID,IE,IG,IH,II,IJ,IK,IL,IM,IN,IP,IQ,IS,IT,IU,IV,IY,IZ,I9,Ja,Jb,Jc,Jd,Je,Jf,Jg,Jh,Ji,Jj,Jk,Gu,Hu,Hv,Hw,Hx,Hy,Hz,H7],[]⟩ V:=by
 have z0:=B0.o.cell 0;simp only[Gd,Gb] at z0;have hn12:1≤n∧n≤32:=⟨hn1,hn2⟩
 clear hn12;subst hk;subst hj;obtain⟨x0,x1⟩:=Bx.two HX.o.bx;have z1:=B0.o.cell 1;simp only[Gd,Gc,Gb] at z1;have hjn:=hjl.o;have hjI:(j:Int)<(n:Int):=by omega
 have NG:=aa HX.o.ng;obtain⟨y,hy⟩:∃ y,now[j]?=some y:=⟨_,F0 (by rw[HX.o.nl];exact hjn)⟩
 have gc:∀ i u,y.cs[i]?=some u→V.cell? ⟨g,j*8+i,none⟩=some u:=fun i u hu=>by
  obtain⟨a9,c9,hv9,_,hr9,_⟩:=aA HX.o.nw;obtain⟨b9,o9,ha9,_,hc9⟩:=hr9.2.2 (by rw[HX.o.nl];omega);have e9:a9=some ⟨g,0,none⟩:=by injection hv9 with e9;exact e9.symm
  rw[e9] at ha9;injection ha9 with ha9
  injection ha9 with hb9 ho9
  subst hb9 ho9;have h9:=hc9 (j*8+i) u (by rw[mJ hy (by have:=(Gh.1 hu).1;exact this)];exact hu);rw[Nat.zero_add] at h9;exact h9
 have g0:=gc 0 _ rfl;have g1:=gc 1 _ rfl;have g2:=gc 2 _ rfl;have g3:=gc 3 _ rfl;have g4:=gc 4 _ rfl;have g5:=gc 5 _ rfl;have g6:=gc 6 _ rfl;have g7:=gc 7 _ rfl;rw[Nat.add_zero] at g0;have gf:=NG.o.2.2.2.2;clear gc;refine aj rfl ?_;intro K9 hK9;go_upto_region 9 with fail
 go_region
 obtain⟨W5,hW5⟩:∃ W5:World,Hid (W5=(aR V g (j*8) zB).drew):=⟨_,rfl⟩
 have O5:=aa (show au W5 base (.slice (some ⟨g,0,none⟩) n c) (now.set j zB) by rw[hW5.o];exact nY (HX.o.nw.put j (by rw[HX.o.nl];exact hjn) zB));have E5:=aa (show Ex (fun b=>b=g) V W5 by rw[hW5.o];exact(uE V g (j*8) zB).trans (Ex.below (Below.refl _ _).drew));have hW6:Hid (W5=((((((((V.setCell ⟨g,j*8,none⟩ (.int .u8 0)).setCell ⟨g,j*8+1,none⟩ (.int .u8 0)).setCell ⟨g,j*8+2,none⟩ (.int .u8 0)).setCell ⟨g,j*8+3,none⟩ (.int .u8 0)).setCell ⟨g,j*8+4,none⟩ (.int .u8 0)).setCell ⟨g,j*8+5,none⟩ (.int .u8 0)).setCell ⟨g,j*8+6,none⟩ (.int .u8 0)).setCell ⟨g,j*8+7,none⟩ (.int .u8 0)).drew):=hW5;clear hW5;have hW5:=hW6;clear hW6;rw[←hW5.o];clear hW5;have NEo:=NE.o;have B5:=aa (Ex.bx E5.o B1.o NEo.2.2.1);have X5:=aa (show ClX base W5 K n ae (now.set j zB) g c (.slice va vl vc) from⟨Ex.bx E5.o HX.o.bx (fun e=>NG.o.1 e.symm),HX.o.kb,O5.o,HX.o.sn.ex E5.o (fun b hb _=>.inr hb) (fun k hk e=>(NG.o.2.2.2.1 k hk).2 e),by rw[List.length_set];exact HX.o.nl,Gn HX.o.bs E5.o.size⟩);have F5:=aa (show Below base V0 W5 from DV.o.trans (E5.o.toBelow_of HX.o.bs (fun b hb=>by rw[hb];exact NG.o.2.1)));clear x0 x1 z1  g0 g1 g2 g3 g4 g5 g6 g7 gf NEo;go_wp2_with fail;exact Met.intro (jW B5 (aa ⟨rfl,aa ⟨g,c,_,X5.o⟩,F5⟩))
theorem xO {ae:List (List B8)} {now:List B8} (HX:Hid (ClX base V K n ae now g c (.slice va vl vc))) (hn1:1≤n) (hn2:n≤32) {d:B8} (B0:Hid (Gt V h0 kd at_ fr d)) (B1:Hid (Gr V h1)) (DV:Hid (Below base V0 V)) (NE:Hid (h0≠g∧h0≠K∧h1≠g∧h1≠K∧h0≠h1∧base≤h1∧(∀ k,Value.ownBlock (.slice va vl vc)=some k→k≠h0∧k≠h1)∧base≤V0.heap.size)) {y:B8} (hk:kd=2) (hj:at_=(j:Int)) (hjl:Hid (j<n)) (HY:Hid (now[j]?=some y)) (HZ:Hid (cu base V (.slice va vl vc) n ae (fun b=>(b=K∨b=g)∨b=h1))) :
 aB Tryz.f10 (fun e w'=>e=.returned (.tuple #[.int .i64 0,.agg #[.int .u8 y.z0,.int .u8 y.z1,.int .u8 y.z2,.int .u8 y.z3,.int .u8 y.z4,.int .u8 y.z5,.int .u8 y.z6,.int .u8 y.z7]])∧Hid (ClW base w' K n ae now)∧Hid (Below base V0 w')) 3 ⟨#[.pointer (some ⟨K,0,none⟩),u1,u2,.pointer (some ⟨h0,0,none⟩),.int .i64 0,.pointer (some ⟨h1,0,none⟩),u6,u7,u8,u9,Iy,Il,Iv,Ik,Ho,Gv,Gw,Gx,Gy,Gz,GC,GD,GH,GI,GJ,GK,GL,GM,GO,GP,GQ,GR,GS,GU,GV,GX,GY,GZ,Ha,Hb,Hc,He,Hf,Hg,Hh,Hi,Hj,Hk,Hl,Hm,Hn,Hp,Hq,Hr,Hs,Ht,Ia,Ib,Ic,Ie,Ig,Ih,Ii,Ij,Iw,Ix,Iz,IA,IB,IC,ID,IE,IG,IH,II,IJ,IK,IL,IM,IN,IP,IQ,IS,IT,IU,IV,IY,IZ,I9,Ja,Jb,Jc,Jd,Je,Jf,Jg,Jh,Ji,Jj,Jk,Gu,Hu,Hv,Hw,Hx,Hy,Hz,H7],[]⟩ V:=by
 have z0:=B0.o.cell 0;simp only[Gd,Gb] at z0;have hn12:1≤n∧n≤32:=⟨hn1,hn2⟩
 clear hn12;subst hk;subst hj;obtain⟨x0,x1⟩:=Bx.two HX.o.bx;have z1:=B0.o.cell 1;simp only[Gd,Gc,Gb] at z1;have hjn:=hjl.o;have hjI:(j:Int)<(n:Int):=by omega
 have NG:=aa HX.o.ng;have hy:=HY.o;obtain⟨w0,w1,w2,w3,w4,w5,w6,w7,wf⟩:=jb B1.o;have gc:∀ i u,y.cs[i]?=some u→V.cell? ⟨g,j*8+i,none⟩=some u:=fun i u hu=>by
  obtain⟨a9,c9,hv9,_,hr9,_⟩:=aA HX.o.nw;obtain⟨b9,o9,ha9,_,hc9⟩:=hr9.2.2 (by rw[HX.o.nl];omega);have e9:a9=some ⟨g,0,none⟩:=by injection hv9 with e9;exact e9.symm
  rw[e9] at ha9;injection ha9 with ha9
  injection ha9 with hb9 ho9
  subst hb9 ho9;have h9:=hc9 (j*8+i) u (by rw[mJ hy (by have:=(Gh.1 hu).1;exact this)];exact hu);rw[Nat.zero_add] at h9;exact h9
 have g0:=gc 0 _ rfl;have g1:=gc 1 _ rfl;have g2:=gc 2 _ rfl;have g3:=gc 3 _ rfl;have g4:=gc 4 _ rfl;have g5:=gc 5 _ rfl;have g6:=gc 6 _ rfl;have g7:=gc 7 _ rfl;rw[Nat.add_zero] at g0;have gf:=NG.o.2.2.2.2;clear gc;refine aj rfl ?_;intro K9 hK9;go_upto_region 11 with fail
 go_region
 obtain⟨W5,hW5⟩:∃ W5:World,Hid (W5=(mF V h1 y).drew):=⟨_,rfl⟩
 have B5:=aa (show Gs W5 h1 y by rw[hW5.o];exact(uw B1.o y).cd);have E5:=aa (show Ex (fun b=>b=h1) V W5 by rw[hW5.o];exact(Ex.one (nj V h1 y)).trans (Ex.below (Below.refl _ _).drew));unfold mF at hW5;rw[←hW5.o];clear hW5;have NEo:=NE.o;have X5:=aa (show ClX base W5 K n ae now g c (.slice va vl vc) from⟨Ex.bx E5.o HX.o.bx (fun e=>NEo.2.2.2.1 e.symm),HX.o.kb,World.ownsRow.kept HX.o.nw ⟨E5.o.os,E5.o.tape,E5.o.output,E5.o.size,fun b hb hn=>E5.o.block b hb (fun e=>hn (by rw[e]))⟩ (.inr (fun e=>NEo.2.2.1 (Gg e).symm)),(HZ.o.ex E5.o (fun b hb _=>.inr hb) (fun k hk e=>(NEo.2.2.2.2.2.2.1 k hk).2 e)).wd (fun b _ hb=>.inl hb),HX.o.nl,Gn HX.o.bs E5.o.size⟩);have F5:=aa (show Below base V0 W5 from DV.o.trans (E5.o.toBelow_of HX.o.bs (fun b hb=>by rw[hb];exact NEo.2.2.2.2.2.1)));clear x0 x1 z1 g0 g1 g2 g3 g4 g5 g6 g7 gf NEo w0 w1 w2 w3 w4 w5 w6 w7 wf;obtain⟨r0,r1,r2,r3,r4,r5,r6,r7⟩:=B5.o.eight;go_wp2_with fail;exact bodyPost_ret (v:=.tuple #[.int .i64 0,.agg #[.int .u8 y.z0,.int .u8 y.z1,.int .u8 y.z2,.int .u8 y.z3,.int .u8 y.z4,.int .u8 y.z5,.int .u8 y.z6,.int .u8 y.z7]]) (by simp[results,Tryz.results10,go_sem,r0,r1,r2,r3,r4,r5,r6,r7]) rfl ⟨rfl,aa ⟨g,c,_,X5.o⟩,F5⟩
end
section
variable {n c base K g vl vc h0 h1:Nat} {a va:Option Addr} {V V0 W:World} {kd at_ fr:Int} {u1 u2 u6 u7 u8 u9 Iy Il Iv Ik Ho Gv Gw Gx Gy Gz GC GD GH GI GJ GK GL GM GO GP GQ GR GS GU GV GX GY GZ Ha Hb Hc He Hf Hg Hh Hi Hj Hk Hl Hm Hn Hp Hq Hr Hs Ht Ia Ib Ic Ie Ig Ih Ii Ij Iw Ix Iz IA IB IC ID IE IG IH II IJ IK IL IM IN IP IQ IS IT IU IV IY IZ I9 Ja Jb Jc Jd Je Jf Jg Jh Ji Jj Jk Gu Hu Hv Hw Hx Hy Hz H7:Value}
theorem au.bl_ {w:World} {B:Nat} {l:List B8} (h:au w B (.slice a n c) l):BL w a n l∧n≤c∧∀ p,a=some p→B≤p.block:=by
 obtain⟨a',c',hv,hc,hr,hp⟩:=aA h;cases hv
 exact⟨⟨rfl,hr⟩,hc,hp⟩
structure Eh (V w5:World) (n:Nat) (l:List B8) (a:Option Addr) (c:Nat):Prop where
 d:Gq V w5
 bl:BL w5 a n l
 nc:n≤c
 lo:∀ p,a=some p→V.heap.size≤p.block∧p.block<w5.heap.size
 ow:au w5 V.heap.size (.slice a n c) l
theorem zl (V:World) (a:Option Addr) (n c:Nat) (l:List B8) (hl:BL V a n l) (hp:0<n) (hn:n≤1000) :
 Calls Tryz.prog 20 #[.slice a n c] V.drew fun e w5=>∃ a5 c5,e=.returned (.slice a5 n c5)∧Hid (Eh V w5 n l a5 c5):=by
 have DD:Gq V V.drew:=(Below.refl _ _).drew;refine(qK a n c l V.drew (hl.later DD) (by omega)).mono ?_;rintro e w5 ⟨v5,rfl,o5,d5⟩;obtain⟨a5,c5,hv5,hc5,hr5,hp5⟩:=aA o5;rw[hl.1] at hv5 hc5 hr5;subst hv5;refine⟨a5,c5,rfl,aa ⟨DD.trans d5,⟨hl.1,hr5⟩,hc5,fun p hpa=>⟨hp5 p hpa,?_⟩,o5⟩⟩;obtain⟨b,off,ha,hlt,_⟩:=hr5.2.2 hp;rw[ha] at hpa;cases hpa
 exact hlt
structure FJ (base:Nat) (V w5 w6:World) (K n:Nat) (ae:List (List B8)) (now:List B8) (g c:Nat) (v:Value) (l:List B8) (a:Option Addr) (c5:Nat):Prop where
 d:Gq V w6
 bx:Bx w6 w5.heap.size #[.slice a n c5] 38
 bl:BL w6 a n l
 sn:cu base w6 v n ae (fun b=>b=K∨b=g)
 kx:Bx w6 K #[.slice (some ⟨g,0,none⟩) n c,v] 45
 lo:∀ p,a=some p→base≤p.block∧p.block<w6.heap.size∧¬(p.block=K∨p.block=g)∧v.ownBlock≠some p.block
 hb:base≤w6.heap.size
theorem FU {w5:World} {ae:List (List B8)} {now:List B8} {v:Value} {l:List B8} {c5:Nat} (X:ClX base V K n ae now g c v) (h:Eh V w5 n l a c5):FJ base V w5 (w5.alloc (.cells #[.slice a n c5] 38)) K n ae now g c v l a c5:=by
 have d6:Gq V (w5.alloc (.cells #[.slice a n c5] 38)):=h.d.alloc h.d.size _;have hK:=Bx.lt X.bx;refine⟨d6,Bx.new w5 _ _,h.bl.later (af _ _),X.sn.later d6,Bx.later X.bx d6 hK,fun p hp=>?_,Gn X.bs d6.size⟩;obtain⟨h1,h2⟩:=h.lo p hp;have h3:=X.bs;have h4:=X.ng.2.2.1;refine⟨by omega,by simp;omega,by omega,fun e=>?_⟩;have h5:=(X.sn.lt _ e).2;omega
theorem Ev {ae:List (List B8)} {now:List B8} (HX:Hid (ClX base W K n ae now g c (.slice va vl vc))) (hn1:1≤n) (hn2:n≤32) {d:B8} (B0:Hid (Gt W h0 kd at_ fr d)) (B1:Hid (Gr W h1)) (DV:Hid (Below base V0 W)) (NE:Hid (h0≠g∧h0≠K∧h1≠g∧h1≠K∧h0≠h1∧base≤h1∧(∀ k,Value.ownBlock (.slice va vl vc)=some k→k≠h0∧k≠h1)∧base≤V0.heap.size)) (hk:kd=0) (hr:Hid (at_<0∨(n:Int)≤at_)) :
 aB Tryz.f10 (fun e w'=>e=.returned (.tuple #[.int .i64 1,.agg #[.int .u8 0,.int .u8 0,.int .u8 0,.int .u8 0,.int .u8 0,.int .u8 0,.int .u8 0,.int .u8 0]])∧Hid (ClW base w' K n ae now)∧Hid (Below base V0 w')) 1 ⟨#[.pointer (some ⟨K,0,none⟩),u1,u2,.pointer (some ⟨h0,0,none⟩),.int .i64 0,.pointer (some ⟨h1,0,none⟩),u6,u7,u8,u9,Iy,Il,Iv,Ik,Ho,Gv,Gw,Gx,Gy,Gz,GC,GD,GH,GI,GJ,GK,GL,GM,GO,GP,GQ,GR,GS,GU,GV,GX,GY,GZ,Ha,Hb,Hc,He,Hf,Hg,Hh,Hi,Hj,Hk,Hl,Hm,Hn,Hp,Hq,Hr,Hs,Ht,Ia,Ib,Ic,Ie,Ig,Ih,Ii,Ij,Iw,Ix,Iz,IA,IB,IC,ID,IE,IG,IH,II,IJ,IK,IL,IM,IN,IP,IQ,IS,IT,IU,IV,IY,IZ,I9,Ja,Jb,Jc,Jd,Je,Jf,Jg,Jh,Ji,Jj,Jk,Gu,Hu,Hv,Hw,Hx,Hy,Hz,H7],[]⟩ W:=by
 have z0:=B0.o.cell 0;simp only[Gd,Gb] at z0;have hn12:1≤n∧n≤32:=⟨hn1,hn2⟩
 clear hn12;subst hk;have z1:=B0.o.cell 1;simp only[Gd,Gc,Gb] at z1;obtain⟨x0,x1⟩:=Bx.two HX.o.bx;have hne:=NE.o.1;clear hne;have HI:=aa (show(((((((W.drew.setCell ⟨h1,0,none⟩ (.int .u8 0)).setCell ⟨h1,1,none⟩ (.int .u8 0)).setCell ⟨h1,2,none⟩ (.int .u8 0)).setCell ⟨h1,3,none⟩ (.int .u8 0)).setCell ⟨h1,4,none⟩ (.int .u8 0)).setCell ⟨h1,5,none⟩ (.int .u8 0)).setCell ⟨h1,6,none⟩ (.int .u8 0)).setCell ⟨h1,7,none⟩ (.int .u8 0)=W.drew from gM (x:=zB) B1.o.cd);obtain⟨WD,hWD⟩:∃ WD:World,Hid (WD=W.drew):=⟨_,rfl⟩
 have BD:=aa (show Gr WD h1 by rw[hWD.o];exact B1.o.cd);have DD:=aa (show Gq W WD by rw[hWD.o];exact(Below.refl _ _).drew);have XD:=aa (HX.o.later DD.o);have FD:=aa (show Below base V0 WD from DV.o.trans (DD.o.mono HX.o.bs));rw[←hWD.o] at HI;obtain⟨r0,r1,r2,r3,r4,r5,r6,r7,rf⟩:=jb BD.o;refine aj rfl ?_;intro K9 hK9;go_wp2_with fail;refine Met.intro (aj rfl ?_);intro K8 hK8;rcases hr.o with a0|a0
 ·have f0:decide (at_<0)=true:=by simpa using a0
  go_upto_region 3 with fail
  go_region
  rw[←hWD.o];go_wp2_with fail;rw[HI.o];exact bodyPost_ret (v:=.tuple #[.int .i64 1,.agg #[.int .u8 0,.int .u8 0,.int .u8 0,.int .u8 0,.int .u8 0,.int .u8 0,.int .u8 0,.int .u8 0]]) (by simp[results,Tryz.results10,go_sem,r0,r1,r2,r3,r4,r5,r6,r7]) rfl ⟨rfl,aa ⟨g,c,_,XD.o⟩,FD⟩
 ·have a1:¬at_<0:=by omega
  have f0:decide (at_<0)=false:=by simpa using a1
  have f1:decide ((n:Int)≤at_)=true:=by simpa using a0
  go_upto_region 3 with fail
  go_region
  rw[←hWD.o];go_wp2_with fail;rw[HI.o];exact bodyPost_ret (v:=.tuple #[.int .i64 1,.agg #[.int .u8 0,.int .u8 0,.int .u8 0,.int .u8 0,.int .u8 0,.int .u8 0,.int .u8 0,.int .u8 0]]) (by simp[results,Tryz.results10,go_sem,r0,r1,r2,r3,r4,r5,r6,r7]) rfl ⟨rfl,aa ⟨g,c,_,XD.o⟩,FD⟩
theorem Ew {ae:List (List B8)} {now:List B8} (HX:Hid (ClX base W K n ae now g c (.slice va vl vc))) (hn1:1≤n) (hn2:n≤32) {d:B8} (B0:Hid (Gt W h0 kd at_ fr d)) (B1:Hid (Gr W h1)) (DV:Hid (Below base V0 W)) (NE:Hid (h0≠g∧h0≠K∧h1≠g∧h1≠K∧h0≠h1∧base≤h1∧(∀ k,Value.ownBlock (.slice va vl vc)=some k→k≠h0∧k≠h1)∧base≤V0.heap.size)) (hk:kd=1) (hr:Hid (at_<0∨(n:Int)≤at_)) :
 aB Tryz.f10 (fun e w'=>e=.returned (.tuple #[.int .i64 1,.agg #[.int .u8 0,.int .u8 0,.int .u8 0,.int .u8 0,.int .u8 0,.int .u8 0,.int .u8 0,.int .u8 0]])∧Hid (ClW base w' K n ae now)∧Hid (Below base V0 w')) 1 ⟨#[.pointer (some ⟨K,0,none⟩),u1,u2,.pointer (some ⟨h0,0,none⟩),.int .i64 0,.pointer (some ⟨h1,0,none⟩),u6,u7,u8,u9,Iy,Il,Iv,Ik,Ho,Gv,Gw,Gx,Gy,Gz,GC,GD,GH,GI,GJ,GK,GL,GM,GO,GP,GQ,GR,GS,GU,GV,GX,GY,GZ,Ha,Hb,Hc,He,Hf,Hg,Hh,Hi,Hj,Hk,Hl,Hm,Hn,Hp,Hq,Hr,Hs,Ht,Ia,Ib,Ic,Ie,Ig,Ih,Ii,Ij,Iw,Ix,Iz,IA,IB,IC,ID,IE,IG,IH,II,IJ,IK,IL,IM,IN,IP,IQ,IS,IT,IU,IV,IY,IZ,I9,Ja,Jb,Jc,Jd,Je,Jf,Jg,Jh,Ji,Jj,Jk,Gu,Hu,Hv,Hw,Hx,Hy,Hz,H7],[]⟩ W:=by
 have z0:=B0.o.cell 0;simp only[Gd,Gb] at z0;have hn12:1≤n∧n≤32:=⟨hn1,hn2⟩
 clear hn12;subst hk;have z1:=B0.o.cell 1;simp only[Gd,Gc,Gb] at z1;obtain⟨x0,x1⟩:=Bx.two HX.o.bx;have hne:=NE.o.1;clear hne;have HI:=aa (show(((((((W.drew.setCell ⟨h1,0,none⟩ (.int .u8 0)).setCell ⟨h1,1,none⟩ (.int .u8 0)).setCell ⟨h1,2,none⟩ (.int .u8 0)).setCell ⟨h1,3,none⟩ (.int .u8 0)).setCell ⟨h1,4,none⟩ (.int .u8 0)).setCell ⟨h1,5,none⟩ (.int .u8 0)).setCell ⟨h1,6,none⟩ (.int .u8 0)).setCell ⟨h1,7,none⟩ (.int .u8 0)=W.drew from gM (x:=zB) B1.o.cd);obtain⟨WD,hWD⟩:∃ WD:World,Hid (WD=W.drew):=⟨_,rfl⟩
 have BD:=aa (show Gr WD h1 by rw[hWD.o];exact B1.o.cd);have DD:=aa (show Gq W WD by rw[hWD.o];exact(Below.refl _ _).drew);have XD:=aa (HX.o.later DD.o);have FD:=aa (show Below base V0 WD from DV.o.trans (DD.o.mono HX.o.bs));rw[←hWD.o] at HI;obtain⟨r0,r1,r2,r3,r4,r5,r6,r7,rf⟩:=jb BD.o;refine aj rfl ?_;intro K9 hK9;go_wp2_with fail;refine Met.intro (aj rfl ?_);intro K8 hK8;rcases hr.o with a0|a0
 ·have f0:decide (at_<0)=true:=by simpa using a0
  go_upto_region 3 with fail
  go_region
  rw[←hWD.o];go_wp2_with fail;rw[HI.o];exact bodyPost_ret (v:=.tuple #[.int .i64 1,.agg #[.int .u8 0,.int .u8 0,.int .u8 0,.int .u8 0,.int .u8 0,.int .u8 0,.int .u8 0,.int .u8 0]]) (by simp[results,Tryz.results10,go_sem,r0,r1,r2,r3,r4,r5,r6,r7]) rfl ⟨rfl,aa ⟨g,c,_,XD.o⟩,FD⟩
 ·have a1:¬at_<0:=by omega
  have f0:decide (at_<0)=false:=by simpa using a1
  have f1:decide ((n:Int)≤at_)=true:=by simpa using a0
  go_upto_region 3 with fail
  go_region
  rw[←hWD.o];go_wp2_with fail;rw[HI.o];exact bodyPost_ret (v:=.tuple #[.int .i64 1,.agg #[.int .u8 0,.int .u8 0,.int .u8 0,.int .u8 0,.int .u8 0,.int .u8 0,.int .u8 0,.int .u8 0]]) (by simp[results,Tryz.results10,go_sem,r0,r1,r2,r3,r4,r5,r6,r7]) rfl ⟨rfl,aa ⟨g,c,_,XD.o⟩,FD⟩
theorem Ey {ae:List (List B8)} {now:List B8} (HX:Hid (ClX base W K n ae now g c (.slice va vl vc))) (hn1:1≤n) (hn2:n≤32) {d:B8} (B0:Hid (Gt W h0 kd at_ fr d)) (B1:Hid (Gr W h1)) (DV:Hid (Below base V0 W)) (NE:Hid (h0≠g∧h0≠K∧h1≠g∧h1≠K∧h0≠h1∧base≤h1∧(∀ k,Value.ownBlock (.slice va vl vc)=some k→k≠h0∧k≠h1)∧base≤V0.heap.size)) (hk:kd=2) (hr:Hid (at_<0∨(n:Int)≤at_)) :
 aB Tryz.f10 (fun e w'=>e=.returned (.tuple #[.int .i64 1,.agg #[.int .u8 0,.int .u8 0,.int .u8 0,.int .u8 0,.int .u8 0,.int .u8 0,.int .u8 0,.int .u8 0]])∧Hid (ClW base w' K n ae now)∧Hid (Below base V0 w')) 1 ⟨#[.pointer (some ⟨K,0,none⟩),u1,u2,.pointer (some ⟨h0,0,none⟩),.int .i64 0,.pointer (some ⟨h1,0,none⟩),u6,u7,u8,u9,Iy,Il,Iv,Ik,Ho,Gv,Gw,Gx,Gy,Gz,GC,GD,GH,GI,GJ,GK,GL,GM,GO,GP,GQ,GR,GS,GU,GV,GX,GY,GZ,Ha,Hb,Hc,He,Hf,Hg,Hh,Hi,Hj,Hk,Hl,Hm,Hn,Hp,Hq,Hr,Hs,Ht,Ia,Ib,Ic,Ie,Ig,Ih,Ii,Ij,Iw,Ix,Iz,IA,IB,IC,ID,IE,IG,IH,II,IJ,IK,IL,IM,IN,IP,IQ,IS,IT,IU,IV,IY,IZ,I9,Ja,Jb,Jc,Jd,Je,Jf,Jg,Jh,Ji,Jj,Jk,Gu,Hu,Hv,Hw,Hx,Hy,Hz,H7],[]⟩ W:=by
 have z0:=B0.o.cell 0;simp only[Gd,Gb] at z0;have hn12:1≤n∧n≤32:=⟨hn1,hn2⟩
 clear hn12;subst hk;have z1:=B0.o.cell 1;simp only[Gd,Gc,Gb] at z1;obtain⟨x0,x1⟩:=Bx.two HX.o.bx;have hne:=NE.o.1;clear hne;have HI:=aa (show(((((((W.drew.setCell ⟨h1,0,none⟩ (.int .u8 0)).setCell ⟨h1,1,none⟩ (.int .u8 0)).setCell ⟨h1,2,none⟩ (.int .u8 0)).setCell ⟨h1,3,none⟩ (.int .u8 0)).setCell ⟨h1,4,none⟩ (.int .u8 0)).setCell ⟨h1,5,none⟩ (.int .u8 0)).setCell ⟨h1,6,none⟩ (.int .u8 0)).setCell ⟨h1,7,none⟩ (.int .u8 0)=W.drew from gM (x:=zB) B1.o.cd);obtain⟨WD,hWD⟩:∃ WD:World,Hid (WD=W.drew):=⟨_,rfl⟩
 have BD:=aa (show Gr WD h1 by rw[hWD.o];exact B1.o.cd);have DD:=aa (show Gq W WD by rw[hWD.o];exact(Below.refl _ _).drew);have XD:=aa (HX.o.later DD.o);have FD:=aa (show Below base V0 WD from DV.o.trans (DD.o.mono HX.o.bs));rw[←hWD.o] at HI;obtain⟨r0,r1,r2,r3,r4,r5,r6,r7,rf⟩:=jb BD.o;refine aj rfl ?_;intro K9 hK9;go_wp2_with fail;refine Met.intro (aj rfl ?_);intro K8 hK8;rcases hr.o with a0|a0
 ·have f0:decide (at_<0)=true:=by simpa using a0
  go_upto_region 3 with fail
  go_region
  rw[←hWD.o];go_wp2_with fail;rw[HI.o];exact bodyPost_ret (v:=.tuple #[.int .i64 1,.agg #[.int .u8 0,.int .u8 0,.int .u8 0,.int .u8 0,.int .u8 0,.int .u8 0,.int .u8 0,.int .u8 0]]) (by simp[results,Tryz.results10,go_sem,r0,r1,r2,r3,r4,r5,r6,r7]) rfl ⟨rfl,aa ⟨g,c,_,XD.o⟩,FD⟩
 ·have a1:¬at_<0:=by omega
  have f0:decide (at_<0)=false:=by simpa using a1
  have f1:decide ((n:Int)≤at_)=true:=by simpa using a0
  go_upto_region 3 with fail
  go_region
  rw[←hWD.o];go_wp2_with fail;rw[HI.o];exact bodyPost_ret (v:=.tuple #[.int .i64 1,.agg #[.int .u8 0,.int .u8 0,.int .u8 0,.int .u8 0,.int .u8 0,.int .u8 0,.int .u8 0,.int .u8 0]]) (by simp[results,Tryz.results10,go_sem,r0,r1,r2,r3,r4,r5,r6,r7]) rfl ⟨rfl,aa ⟨g,c,_,XD.o⟩,FD⟩
theorem rE {ae:List (List B8)} {now:List B8} (HX:Hid (ClX base V K n ae now g c (.slice va vl vc))) (hn1:1≤n) (hn2:n≤32) {d:B8} (B0:Hid (Gt V h0 kd at_ fr d)) (B1:Hid (Gr V h1)) (DV:Hid (Below base V0 V)) (NE:Hid (h0≠g∧h0≠K∧h1≠g∧h1≠K∧h0≠h1∧base≤h1∧(∀ k,Value.ownBlock (.slice va vl vc)=some k→k≠h0∧k≠h1)∧base≤V0.heap.size)) (hk:kd=3) (hlen:ae.length≤1000) :
 aB Tryz.f10 (fun e w'=>e=.returned (.tuple #[.int .i64 0,.agg #[.int .u8 0,.int .u8 0,.int .u8 0,.int .u8 0,.int .u8 0,.int .u8 0,.int .u8 0,.int .u8 0]])∧Hid (ClW base w' K n (ae++[now]) now)∧Hid (Below base V0 w')) 3 ⟨#[.pointer (some ⟨K,0,none⟩),u1,u2,.pointer (some ⟨h0,0,none⟩),.int .i64 0,.pointer (some ⟨h1,0,none⟩),u6,u7,u8,u9,Iy,Il,Iv,Ik,Ho,Gv,Gw,Gx,Gy,Gz,GC,GD,GH,GI,GJ,GK,GL,GM,GO,GP,GQ,GR,GS,GU,GV,GX,GY,GZ,Ha,Hb,Hc,He,Hf,Hg,Hh,Hi,Hj,Hk,Hl,Hm,Hn,Hp,Hq,Hr,Hs,Ht,Ia,Ib,Ic,Ie,Ig,Ih,Ii,Ij,Iw,Ix,Iz,IA,IB,IC,ID,IE,IG,IH,II,IJ,IK,IL,IM,IN,IP,IQ,IS,IT,IU,IV,IY,IZ,I9,Ja,Jb,Jc,Jd,Je,Jf,Jg,Jh,Ji,Jj,Jk,Gu,Hu,Hv,Hw,Hx,Hy,Hz,H7],[]⟩ V:=by
 have z0:=B0.o.cell 0;simp only[Gd,Gb] at z0;have hn12:1≤n∧n≤32:=⟨hn1,hn2⟩
 clear hn12;subst hk;have hne:=NE.o;have NG:=aa HX.o.ng;obtain⟨x0,x1⟩:=Bx.two HX.o.bx;have xf:=Bx.frozen HX.o.bx;have HBL:=aa (au.bl_ HX.o.nw);have hKV:K<V.heap.size:=Bx.lt HX.o.bx;have HLEN:=aa hlen;have hKv:Hid (∀ k,Value.ownBlock (.slice va vl vc)=some k→¬k=K):=fun k hk e=>(NG.o.2.2.2.1 k hk).1 e
 refine aj rfl ?_;intro K9 hK9;go_upto_region 13 with fail
 go_region_law (first
  |(rw[←hw6.o];refine jC (w:=w6) rfl (.tmp 83) (.tmp 89) rfl base (v:=.slice va vl vc) (n:=n) (ae:=ae) (Z:=fun b=>b=K∨b=g) rfl S6.o.sn w5.heap.size (ad:=a5) (c:=c5) (l:=now) rfl S6.o.bx S6.o.bl Q5.o.nc S6.o.lo HLEN.o S6.o.hb ?_;intro ya yn yc w7 g1 g2 g3;have X7:=aa (Bx.grow S6.o.kx g2.o (fun e=>hKv.o K e.symm rfl));obtain⟨y0,y1⟩:=X7.o.two;have yf:=X7.o.frozen)
  |(go_simp;go_at_call 20;refine(zl V (some ⟨g,0,none⟩) n c now HBL.o.1 (by omega) (by omega)).mono ?_;rintro e w5 ⟨a5,c5,rfl,Q5⟩;obtain⟨w6,hw6⟩:∃ w6:World,Hid (w6=w5.alloc (.cells #[.slice a5 n c5] 38)):=⟨_,rfl⟩;have S6:=aa (FU HX.o Q5.o);rw[←hw6.o] at S6;obtain⟨m0,m1⟩:=(Bx.later HX.o.bx Q5.o.d hKV).two;have hK5:K<w5.heap.size:=Gf hKV Q5.o.d.size))
 all_goals
  obtain⟨w8,hw8⟩:∃ w8:World,Hid (w8=w7.setCell ⟨K,1,none⟩ (.slice ya yn yc)):=⟨_,rfl⟩
  have X8:=aa (show Bx w8 K #[.slice (some ⟨g,0,none⟩) n c,.slice ya yn yc] 45 by rw[hw8.o];exact X7.o.set 1 _);have E8:=aa (show Ex (fun b=>b=K) w7 w8 by rw[hw8.o];exact Ex.one (ak (aq _ _) _ _));have h7s:w6.heap.size≤w7.heap.size:=g2.o.size;have h6s:V.heap.size≤w6.heap.size:=S6.o.d.size;have E7:=aa (show Ex (fun b=>b=K∨Value.ownBlock (.slice va vl vc)=some b) V w8 from(Ex.below S6.o.d).trans (((show Ex (fun b=>Value.ownBlock (.slice va vl vc)=some b) w6 w7 from⟨⟨g2.o.size,fun b hb hn=>g2.o.block b hb (fun e=>hn e.symm)⟩,g2.o.os,g2.o.tape,g2.o.output⟩).mono fun b _ hb=>.inr hb).trans (E8.o.mono fun b _ hb=>.inl hb)));have hbK:base≤K:=HX.o.kb;have hya:∀ k,Value.ownBlock (.slice ya yn yc)=some k→¬k=K:=fun k hk e=>by
   rcases g3.o with h9|h9
   ·rw[hk] at h9
    exact hKv.o k h9.symm e
   ·rw[hk] at h9
    have h8:=Gg h9;omega
  have C8:=aa (show ClX base w8 K n (ae++[now]) now g c (.slice ya yn yc) from⟨X8.o,hbK,World.ownsRow.kept (World.ownsRow.kept (bm HX.o.nw S6.o.d) g2.o (.inr (fun e=>by
   have h9:Value.ownBlock (.slice va vl vc)=some g:=e.symm;exact(NG.o.2.2.2.1 g h9).2 rfl))) ⟨E8.o.os,E8.o.tape,E8.o.output,E8.o.size,fun b hb hn=>E8.o.block b hb (fun e=>hn (by rw[e]))⟩ (.inr (fun e=>NG.o.1 (Gg e))),g1.o.ex E8.o (fun b hb _=>.inl hb) (fun k hk e=>hya k hk e),HX.o.nl,by have:=HX.o.bs;have:=E8.o.size;omega⟩)
  have B8:=aa (show Gr w8 h1 from Ex.bx E7.o B1.o (fun e=>by
   rcases e with e|e
   ·exact hne.2.2.2.1 e
   ·exact(hne.2.2.2.2.2.2.1 h1 e).2 rfl))
  have F8:=aa (show Below base V0 w8 from DV.o.trans (E7.o.toBelow_of HX.o.bs (fun b hb=>by
   rcases hb with hb|hb
   ·rw[hb];exact hbK
   ·exact(HX.o.sn.lt b hb).1)))
  rw[←hw8.o];clear x0 x1 xf y0 y1 yf m0 m1 hne;go_wp2_with fail;exact Met.intro (jW B8 (aa ⟨rfl,aa ⟨g,c,_,C8.o⟩,F8⟩))
end
theorem vx {base:Nat} {V0 V:World} {K n:Nat} {ae:List (List B8)} {now:List B8} {g c:Nat} {va:Option Addr} {vl vc:Nat} (HX:Hid (ClX base V K n ae now g c (.slice va vl vc))) (hn1:1≤n) (hn2:n≤32) {h0 h1:Nat} {kd at_ fr:Int} {d:B8} (B0:Hid (Gt V h0 kd at_ fr d)) (B1:Hid (Gr V h1)) (DV:Hid (Below base V0 V)) (NE:Hid (h0≠g∧h0≠K∧h1≠g∧h1≠K∧h0≠h1∧base≤h1∧(∀ k,Value.ownBlock (.slice va vl vc)=some k→k≠h0∧k≠h1)∧base≤V0.heap.size)) {hv:Nat} {l:List B8} (hk:kd=8) (hlen:ae.length=hv+1) (hv6:hv≤1000000) (HL:Hid (ae[hv]?=some l)) {u1 u2 u6 u7 u8 u9 Iy Il Iv Ik Ho Gv Gw Gx Gy Gz GC GD GH GI GJ GK GL GM GO GP GQ GR GS GU GV GX GY GZ Ha Hb Hc He Hf Hg Hh Hi Hj Hk Hl Hm Hn Hp Hq Hr Hs Ht Ia Ib Ic Ie Ig Ih Ii Ij Iw Ix Iz IA IB IC ID IE IG IH II IJ IK IL IM IN IP IQ IS IT IU IV IY IZ I9 Ja Jb Jc Jd Je Jf Jg Jh Ji Jj Jk Gu Hu Hv Hw Hx Hy Hz H7:Value} :
 aB Tryz.f10 (fun e w'=>e=.returned (.tuple #[.int .i64 0,.agg #[.int .u8 0,.int .u8 0,.int .u8 0,.int .u8 0,.int .u8 0,.int .u8 0,.int .u8 0,.int .u8 0]])∧Hid (ClW base w' K n ae l)∧Hid (Below base V0 w')) 3 ⟨#[.pointer (some ⟨K,0,none⟩),u1,u2,.pointer (some ⟨h0,0,none⟩),.int .i64 0,.pointer (some ⟨h1,0,none⟩),u6,u7,u8,u9,Iy,Il,Iv,Ik,Ho,Gv,Gw,Gx,Gy,Gz,GC,GD,GH,GI,GJ,GK,GL,GM,GO,GP,GQ,GR,GS,GU,GV,GX,GY,GZ,Ha,Hb,Hc,He,Hf,Hg,Hh,Hi,Hj,Hk,Hl,Hm,Hn,Hp,Hq,Hr,Hs,Ht,Ia,Ib,Ic,Ie,Ig,Ih,Ii,Ij,Iw,Ix,Iz,IA,IB,IC,ID,IE,IG,IH,II,IJ,IK,IL,IM,IN,IP,IQ,IS,IT,IU,IV,IY,IZ,I9,Ja,Jb,Jc,Jd,Je,Jf,Jg,Jh,Ji,Jj,Jk,Gu,Hu,Hv,Hw,Hx,Hy,Hz,H7],[]⟩ V:=by
 have z0:=B0.o.cell 0;simp only[Gd,Gb] at z0;have hn12:1≤n∧n≤32:=⟨hn1,hn2⟩
 clear hn12;subst hk;have hne:=NE.o;have NG:=aa HX.o.ng;obtain⟨ga,gcap,la,lc,hvv,hgl,hcell,hbl,hlc⟩:=HX.o.sn.at_ HL.o;have hva:va=some ⟨ga,0,none⟩:=by injection hvv
 have hvl:vl=ae.length:=by injection hvv
 clear hvv;subst hva;obtain⟨x0,x1⟩:=Bx.two HX.o.bx;have xf:=Bx.frozen HX.o.bx;have hKV:K<V.heap.size:=Bx.lt HX.o.bx;have HBL:=aa hbl;have HLL:=aa hlen;have hhl:(hv:Int)<(vl:Int):=by rw[hvl,hlen];omega
 have HCW:=aa (show ClW base V.drew K n ae now from ClW.later ⟨g,c,_,HX.o⟩ (Below.refl _ _).drew);have hgK:¬K=ga:=fun e=>(NG.o.2.2.2.1 ga rfl).1 e.symm
 clear hbl hlc hlen hvl;refine aj rfl ?_;intro K9 hK9;go_upto_region 15 with fail
 go_region_with (first
  |(go_at_call 11;(with_reducible refine(ko base K n ae now V.drew HCW.o hv HLL.o hv6).mono ?_);rintro e w4 ⟨rfl,hw4⟩;rw[hw4];clear hw4)
  |(go_at_call 20;(with_reducible refine(zl V la n lc l HBL.o (by omega) (by omega)).mono ?_);rintro e w5 ⟨a5,c5,rfl,Q5⟩;have X5:=aa (Bx.later HX.o.bx Q5.o.d hKV);obtain⟨m0,m1⟩:=X5.o.two;have mf:=X5.o.frozen))
 all_goals
  obtain⟨g5,ha5,hbg5,hg5,_,_⟩:=Q5.o.ow.form (by omega);subst ha5;obtain⟨w8,hw8⟩:∃ w8:World,Hid (w8=w5.setCell ⟨K,0,none⟩ (.slice (some ⟨g5,0,none⟩) n c5)):=⟨_,rfl⟩
  have X8:=aa (show Bx w8 K #[.slice (some ⟨g5,0,none⟩) n c5,.slice (some ⟨ga,0,none⟩) vl vc] 45 by rw[hw8.o];exact X5.o.set 0 _);have E8:=aa (show Ex (fun b=>b=K) w5 w8 by rw[hw8.o];exact Ex.one (ak (aq _ _) _ _));have hbK:base≤K:=HX.o.kb;have hVb:=HX.o.bs;have E7:=aa (show Ex (fun b=>b=K) V w8 from(Ex.below Q5.o.d).trans E8.o);have C8:=aa (show ClX base w8 K n ae l g5 c5 (.slice (some ⟨ga,0,none⟩) vl vc) from⟨X8.o,hbK,World.ownsRow.mono (World.ownsRow.kept Q5.o.ow ⟨E8.o.os,E8.o.tape,E8.o.output,E8.o.size,fun b hb hn=>E8.o.block b hb (fun e=>hn (by rw[e]))⟩ (.inr (fun e=>by have h9:=Gg e;simp at h9;omega))) hVb,((HX.o.sn.wd (Z':=fun b=>b=K∨b=g5) (fun b hb he=>by
   rcases he with he|he
   ·exact .inl he
   ·omega)).later Q5.o.d).ex E8.o (fun b hb _=>.inl hb) (fun k hk e=>(NG.o.2.2.2.1 k hk).1 e),HBL.o.1,Gn hVb E7.o.size⟩)
  have B8:=aa (show Gr w8 h1 from Ex.bx E7.o B1.o hne.2.2.2.1);have F8:=aa (show Below base V0 w8 from DV.o.trans (E7.o.toBelow_of hVb (fun b hb=>by rw[hb];exact hbK)));rw[←hw8.o];clear x0 x1 xf m0 m1 mf hne hcell;go_wp2_with fail;exact Met.intro (jW B8 (aa ⟨rfl,aa ⟨g5,c5,_,C8.o⟩,F8⟩))
theorem eY (Q:Ending→World→Prop) (K:Nat) (w:World) (kd at_ fr:Int) (d:B8)
 (h:∀ (W:World) {v1 v2 v6 v7 v8 v9 Kf Jm Jn Jp Lq Lr Ls Lu KJ KK KL KM Km Ko Kp Kg Kq Ks Kt Ku Kv Kw Kx Ky Kz KA KC KD KO KP KQ KR KS KT KU KW KX KY KZ La Lb Kh Ki Kj Kk Kl Jq Jr Js Jt Ju Jv Jw Jy Jz JA JB JC JD JE JF JG JH JI JJ JK JL JM JN JO JP JQ JR JS JT JU JV JW JX JY JZ J0 J2 J4 J5 J6 J7 J8 J9 Ka Im Io Ip Iq Ir Is It Iu:Value},Hid (Gt W w.heap.size kd at_ fr d)→Hid (Gr W (w.heap.size+1))→Hid (Gq w W)→aB Tryz.f10 Q 1 ⟨#[.pointer (some ⟨K,0,none⟩),v1,v2,.pointer (some ⟨w.heap.size,0,none⟩),.int .i64 0,.pointer (some ⟨w.heap.size+1,0,none⟩),v6,v7,v8,v9,Kf,Jm,Jn,Jp,Lq,Lr,Ls,Lu,KJ,KK,KL,KM,Km,Ko,Kp,Kg,Kq,Ks,Kt,Ku,Kv,Kw,Kx,Ky,Kz,KA,KC,KD,KO,KP,KQ,KR,KS,KT,KU,KW,KX,KY,KZ,La,Lb,Kh,Ki,Kj,Kk,Kl,Jq,Jr,Js,Jt,Ju,Jv,Jw,Jy,Jz,JA,JB,JC,JD,JE,JF,JG,JH,JI,JJ,JK,JL,JM,JN,JO,JP,JQ,JR,JS,JT,JU,JV,JW,JX,JY,JZ,J0,J2,J4,J5,J6,J7,J8,J9,Ka,Im,Io,Ip,Iq,Ir,Is,It,Iu],[]⟩ W) :
 Calls Tryz.prog 10 #[.pointer (some ⟨K,0,none⟩),.agg #[.int .i64 kd,.int .i64 at_,.int .i64 fr,.int .u8 d.z0,.int .u8 d.z1,.int .u8 d.z2,.int .u8 d.z3,.int .u8 d.z4,.int .u8 d.z5,.int .u8 d.z6,.int .u8 d.z7]] w Q:=by
 have H:=aa @h;clear h;obtain⟨W,hW⟩:∃ W:World,Hid (W=(w.alloc (.cells #[.int .i64 kd,.int .i64 at_,.int .i64 fr,.int .u8 d.z0,.int .u8 d.z1,.int .u8 d.z2,.int .u8 d.z3,.int .u8 d.z4,.int .u8 d.z5,.int .u8 d.z6,.int .u8 d.z7] 37)).alloc (.cells #[.int .u8 0,.int .u8 0,.int .u8 0,.int .u8 0,.int .u8 0,.int .u8 0,.int .u8 0,.int .u8 0] 33)):=⟨_,rfl⟩
 have D0:=aa (show Gq w W by rw[hW.o];exact(af _ _).alloc (by simp) _);have B0:=aa (show Gt W w.heap.size kd at_ fr d by rw[hW.o];exact(Bx.new w _ _).alloc _);have B1:=aa (show Gr W (w.heap.size+1) by
  rw[hW.o];have h9:=Bx.new (w.alloc (.cells #[.int .i64 kd,.int .i64 at_,.int .i64 fr,.int .u8 d.z0,.int .u8 d.z1,.int .u8 d.z2,.int .u8 d.z3,.int .u8 d.z4,.int .u8 d.z5,.int .u8 d.z6,.int .u8 d.z7] 37)) #[.int .u8 0,.int .u8 0,.int .u8 0,.int .u8 0,.int .u8 0,.int .u8 0,.int .u8 0,.int .u8 0] 33;rw[World.size_alloc] at h9;exact h9)
 go_enter Tryz.func10,Tryz.ntmps10;change aB Tryz.f10 Q 0 _ w;refine aj rfl ?_;intro K9 hK9;go_wp2_with fail;rw[←hW.o];exact Met.intro (H.o W B0 B1 D0)
theorem rF (base K n:Nat) (ae:List (List B8)) (now:List B8) (w:World) (hX:ClW base w K n ae now) (h1:1≤n) (h2:n≤32) (hv:Nat) (hl:ae.length=hv+1) (hv6:hv≤900) (kd at_ fr:Int) (d x:B8) (hx:x=Mx.doD n now ⟨kd,at_,fr,d⟩) :
 Calls Tryz.prog 10 #[.pointer (some ⟨K,0,none⟩),.agg #[.int .i64 kd,.int .i64 at_,.int .i64 fr,.int .u8 d.z0,.int .u8 d.z1,.int .u8 d.z2,.int .u8 d.z3,.int .u8 d.z4,.int .u8 d.z5,.int .u8 d.z6,.int .u8 d.z7]] w fun e w'=>e=.returned (.tuple #[.int .i64 (Mx.doE n ⟨kd,at_,fr,d⟩),.agg #[.int .u8 x.z0,.int .u8 x.z1,.int .u8 x.z2,.int .u8 x.z3,.int .u8 x.z4,.int .u8 x.z5,.int .u8 x.z6,.int .u8 x.z7]])∧Hid (ClW base w' K n (Mx.doS ae now ⟨kd,at_,fr,d⟩) (Mx.doN n ae now ⟨kd,at_,fr,d⟩))∧Hid (Below base w w'):=by
 obtain⟨g,c,v,X⟩:=hX;obtain⟨va,vc,hvv,hvc⟩:=X.sn.len;obtain⟨vl,hvl⟩:∃ vl:Nat,vl=ae.length:=⟨_,rfl⟩
 rw[←hvl] at hvv;subst hvv;obtain⟨ng1,ng2,ng3,ng4,_⟩:=X.ng;have hbs:=X.bs;have hKw:=Bx.lt X.bx;have XW:∀ {W:World},Gq w W→ClX base W K n ae now g c (.slice va vl vc):=fun hb=>X.later hb
 have DW:∀ {W:World},Gq w W→Gq w W.drew:=fun hb=>hb.trans ((Below.refl _ _).drew.mono hb.size)
 have XD:∀ {W:World},Gq w W→ClX base W.drew K n ae now g c (.slice va vl vc):=fun hb=>X.later (DW hb)
 have DVd:∀ {W:World},Gq w W→Below base w W.drew:=fun hb=>(DW hb).mono hbs
 have NE:Hid (w.heap.size≠g∧w.heap.size≠K∧w.heap.size+1≠g∧w.heap.size+1≠K∧w.heap.size≠w.heap.size+1∧base≤w.heap.size+1∧(∀ k,Value.ownBlock (.slice va vl vc)=some k→k≠w.heap.size∧k≠w.heap.size+1)∧base≤w.heap.size):=aa ⟨by omega,by omega,by omega,by omega,by omega,by omega,fun k hk=>by have:=(X.sn.lt k hk).2;omega,hbs⟩;by_cases hbad:kd<0∨11≤kd
 ·have e1:Mx.doE n ⟨kd,at_,fr,d⟩=3:=by unfold Mx.doE;simp only;rw[if_neg (by omega),if_neg (by omega)]
  have e2:Mx.doS ae now ⟨kd,at_,fr,d⟩=ae:=by unfold Mx.doS;simp only;rw[if_neg (by omega)]
  have e3:Mx.doN n ae now ⟨kd,at_,fr,d⟩=now:=by unfold Mx.doN;simp only;rw[if_neg (by omega),if_neg (by omega),if_neg (by omega)]
  have e4:x=zB:=by rw[hx];unfold Mx.doD;simp only;rw[if_neg (by omega)]
  rw[e1,e2,e3];subst e4;exact eY _ K w kd at_ fr d (by intro W;intros;rename_i b0 b1 dw;exact CT (aa (XW dw.o)) h1 h2 b0 b1 (aa (dw.o.mono hbs)) (aa ⟨NE.o.1,NE.o.2.1,NE.o.2.2.1,NE.o.2.2.2.1,NE.o.2.2.2.2.1,NE.o.2.2.2.2.2.1,NE.o.2.2.2.2.2.2.1,b1.o.lt⟩) (aa hbad))
 have hk0:0≤kd∧kd≤10:=by omega
 have rest:¬kd=0→¬kd=1→¬kd=2→Calls Tryz.prog 10 #[.pointer (some ⟨K,0,none⟩),.agg #[.int .i64 kd,.int .i64 at_,.int .i64 fr,.int .u8 d.z0,.int .u8 d.z1,.int .u8 d.z2,.int .u8 d.z3,.int .u8 d.z4,.int .u8 d.z5,.int .u8 d.z6,.int .u8 d.z7]] w fun e w'=>e=.returned (.tuple #[.int .i64 (Mx.doE n ⟨kd,at_,fr,d⟩),.agg #[.int .u8 x.z0,.int .u8 x.z1,.int .u8 x.z2,.int .u8 x.z3,.int .u8 x.z4,.int .u8 x.z5,.int .u8 x.z6,.int .u8 x.z7]])∧Hid (ClW base w' K n (Mx.doS ae now ⟨kd,at_,fr,d⟩) (Mx.doN n ae now ⟨kd,at_,fr,d⟩))∧Hid (Below base w w'):=by
  intro k0 k1 k2;have hp:Hid (0≤kd∧kd≤10∧¬kd=0∧¬kd=1∧¬kd=2):=aa ⟨hk0.1,hk0.2,k0,k1,k2⟩;have e1:Mx.doE n ⟨kd,at_,fr,d⟩=0:=by unfold Mx.doE;simp only;rw[if_neg (by omega),if_pos (by omega)]
  have e4:x=zB:=by rw[hx];unfold Mx.doD;simp[k2]
  subst e4;clear hx;by_cases k3:kd=3
  ·have e2:Mx.doS ae now ⟨kd,at_,fr,d⟩=ae++[now]:=by unfold Mx.doS;simp[k3]
   have e3:Mx.doN n ae now ⟨kd,at_,fr,d⟩=now:=by unfold Mx.doN;simp[k3]
   rw[e1,e2,e3];exact eY _ K w kd at_ fr d (by intro W;intros;rename_i b0 b1 dw;exact vA (aa (XW dw.o).bx) b0 hp (by refine aa ?_;intros;exact(rE (aa (XD dw.o)) h1 h2 (aa b0.o.cd) (aa b1.o.cd) (aa (DVd dw.o)) NE k3 (by omega))))
  by_cases k8:kd=8
  ·obtain⟨l,hl2⟩:∃ l,ae[hv]?=some l:=⟨_,F0 (by omega)⟩
   have e2:Mx.doS ae now ⟨kd,at_,fr,d⟩=ae:=by unfold Mx.doS;simp[k8]
   have e3:Mx.doN n ae now ⟨kd,at_,fr,d⟩=l:=by
    unfold Mx.doN;simp only[k8];rw[if_neg (by decide),if_neg (by decide),if_pos trivial,hl,Nat.add_sub_cancel,Ga,hl2];rfl
   rw[e1,e2,e3];exact eY _ K w kd at_ fr d (by intro W;intros;rename_i b0 b1 dw;exact vA (aa (XW dw.o).bx) b0 hp (by refine aa ?_;intros;exact(vx (aa (XD dw.o)) h1 h2 (aa b0.o.cd) (aa b1.o.cd) (aa (DVd dw.o)) NE k8 hl (by omega) (aa hl2))))
  have e2:Mx.doS ae now ⟨kd,at_,fr,d⟩=ae:=by unfold Mx.doS;simp[k3]
  have e3:Mx.doN n ae now ⟨kd,at_,fr,d⟩=now:=by unfold Mx.doN;simp[k0,k1,k8]
  rw[e1,e2,e3];exact eY _ K w kd at_ fr d (by intro W;intros;rename_i b0 b1 dw;exact vA (aa (XW dw.o).bx) b0 hp (by refine aa ?_;intros;exact(xN (aa (XD dw.o)) h1 h2 (aa b0.o.cd) (aa b1.o.cd) (aa (DVd dw.o)) NE (aa ⟨k0,k1,k2,k3,k8⟩))))
 by_cases hr:Mx.inP n at_
 ·obtain⟨j,hj⟩:∃ j:Nat,at_=(j:Int):=⟨at_.toNat,by unfold Mx.inP at hr;omega⟩
  have hjl:j<n:=by unfold Mx.inP at hr;omega
  have er:Mx.cJ n at_=0:=by unfold Mx.cJ;rw[if_pos hr]
  have hset:∀ y:B8,Mx.dG n now at_ y=now.set j y:=fun y=>by
   unfold Mx.dG;rw[if_pos hr,hj];rfl
  by_cases k0:kd=0
  ·have e1:Mx.doE n ⟨kd,at_,fr,d⟩=0:=by unfold Mx.doE;simp[k0,er]
   have e2:Mx.doS ae now ⟨kd,at_,fr,d⟩=ae:=by unfold Mx.doS;simp[k0]
   have e3:Mx.doN n ae now ⟨kd,at_,fr,d⟩=now.set j d:=by unfold Mx.doN;simp[k0,hset]
   have e4:x=zB:=by rw[hx];unfold Mx.doD;simp[k0]
   rw[e1,e2,e3];subst e4;exact eY _ K w kd at_ fr d (by intro W;intros;rename_i b0 b1 dw;exact Es (aa (XW dw.o).bx) b0 k0 (aa hr) (by refine aa ?_;intros;exact(vy (aa (XD dw.o)) h1 h2 (aa b0.o.cd) (aa b1.o.cd) (aa (DVd dw.o)) NE k0 hj (aa hjl))))
  by_cases k1:kd=1
  ·have e1:Mx.doE n ⟨kd,at_,fr,d⟩=0:=by unfold Mx.doE;simp[k1,er]
   have e2:Mx.doS ae now ⟨kd,at_,fr,d⟩=ae:=by unfold Mx.doS;simp[k1]
   have e3:Mx.doN n ae now ⟨kd,at_,fr,d⟩=now.set j zB:=by unfold Mx.doN;simp[k1,hset]
   have e4:x=zB:=by rw[hx];unfold Mx.doD;simp[k1]
   rw[e1,e2,e3];subst e4;exact eY _ K w kd at_ fr d (by intro W;intros;rename_i b0 b1 dw;exact Et (aa (XW dw.o).bx) b0 k1 (aa hr) (by refine aa ?_;intros;exact(xP (aa (XD dw.o)) h1 h2 (aa b0.o.cd) (aa b1.o.cd) (aa (DVd dw.o)) NE k1 hj (aa hjl))))
  by_cases k2:kd=2
  ·have hjn:j<now.length:=by rw[X.nl];exact hjl
   have e1:Mx.doE n ⟨kd,at_,fr,d⟩=0:=by unfold Mx.doE;simp[k2,er]
   have e2:Mx.doS ae now ⟨kd,at_,fr,d⟩=ae:=by unfold Mx.doS;simp[k2]
   have e3:Mx.doN n ae now ⟨kd,at_,fr,d⟩=now:=by unfold Mx.doN;simp[k2]
   have e4:now[j]?=some x:=by
    rw[hx];unfold Mx.doD Mx.gh;simp only[k2,if_pos];rw[if_pos hr,hj,Int.toNat_natCast,Ga,F0 hjn];rfl
   rw[e1,e2,e3];clear hx;exact eY _ K w kd at_ fr d (by intro W;intros;rename_i b0 b1 dw;exact Eu (aa (XW dw.o).bx) b0 k2 (aa hr) (by refine aa ?_;intros;exact(xO (aa (XD dw.o)) h1 h2 (aa b0.o.cd) (aa b1.o.cd) (aa (DVd dw.o)) NE k2 hj (aa hjl) (aa e4) (aa ((X.sn.wd (Z':=fun b=>(b=K∨b=g)∨b=w.heap.size+1) (fun b hb he=>by
    rcases he with he|he
    ·exact he
    ·omega)).later (DW dw.o))))))
  exact rest k0 k1 k2
 ·have hr':at_<0∨(n:Int)≤at_:=by unfold Mx.inP at hr;omega
  have er:Mx.cJ n at_=1:=by unfold Mx.cJ;rw[if_neg hr]
  have hset:∀ y:B8,Mx.dG n now at_ y=now:=fun y=>by unfold Mx.dG;rw[if_neg hr]
  by_cases k0:kd=0
  ·have e1:Mx.doE n ⟨kd,at_,fr,d⟩=1:=by unfold Mx.doE;simp[k0,er]
   have e2:Mx.doS ae now ⟨kd,at_,fr,d⟩=ae:=by unfold Mx.doS;simp[k0]
   have e3:Mx.doN n ae now ⟨kd,at_,fr,d⟩=now:=by unfold Mx.doN;simp[k0,hset]
   have e4:x=zB:=by rw[hx];unfold Mx.doD;simp[k0]
   rw[e1,e2,e3];subst e4;exact eY _ K w kd at_ fr d (by intro W;intros;rename_i b0 b1 dw;exact Ev (aa (XW dw.o)) h1 h2 b0 b1 (aa (dw.o.mono hbs)) NE k0 (aa hr'))
  by_cases k1:kd=1
  ·have e1:Mx.doE n ⟨kd,at_,fr,d⟩=1:=by unfold Mx.doE;simp[k1,er]
   have e2:Mx.doS ae now ⟨kd,at_,fr,d⟩=ae:=by unfold Mx.doS;simp[k1]
   have e3:Mx.doN n ae now ⟨kd,at_,fr,d⟩=now:=by unfold Mx.doN;simp[k1,hset]
   have e4:x=zB:=by rw[hx];unfold Mx.doD;simp[k1]
   rw[e1,e2,e3];subst e4;exact eY _ K w kd at_ fr d (by intro W;intros;rename_i b0 b1 dw;exact Ew (aa (XW dw.o)) h1 h2 b0 b1 (aa (dw.o.mono hbs)) NE k1 (aa hr'))
  by_cases k2:kd=2
  ·have e1:Mx.doE n ⟨kd,at_,fr,d⟩=1:=by unfold Mx.doE;simp[k2,er]
   have e2:Mx.doS ae now ⟨kd,at_,fr,d⟩=ae:=by unfold Mx.doS;simp[k2]
   have e3:Mx.doN n ae now ⟨kd,at_,fr,d⟩=now:=by unfold Mx.doN;simp[k2]
   have e4:x=zB:=by rw[hx];unfold Mx.doD Mx.gh;simp only[k2,if_pos];rw[if_neg hr]
   rw[e1,e2,e3];subst e4;exact eY _ K w kd at_ fr d (by intro W;intros;rename_i b0 b1 dw;exact Ey (aa (XW dw.o)) h1 h2 b0 b1 (aa (dw.o.mono hbs)) NE k2 (aa hr'))
  exact rest k0 k1 k2
theorem td (a1 a2:Option Addr) (n1 c1 n2 c2:Nat) (l:List B8) (w:World) (h1:BL w a1 n1 l) (h2:BL w a2 n2 l) :
 Calls Tryz.prog 12 #[.slice a1 n1 c1,.slice a2 n2 c2] w fun e w'=>e=.returned (.bool true)∧∃ n,w'=w.drewN n:=by
 refine(xq a1 a2 n1 c1 n2 c2 l l w h1 h2).mono ?_;rintro e w' ⟨r,rfl,hr,hw⟩;exact⟨by rw[hr.2 rfl],hw⟩
theorem bdn {w:World} (n:Nat):Gq w (w.drewN n):=⟨rfl,rfl,rfl,Gi _,fun _ _=>rfl⟩
def StC (w1 v:World) (n K k:Nat) (ds:List De):Prop:=ClW w1.heap.size v K n (Mx.aU n (ds.take k)).1 (Mx.aU n (ds.take k)).2∧Gq w1 v∧(Mx.aU n (ds.take k)).1.length≤k+1∧1≤(Mx.aU n (ds.take k)).1.length
theorem tf {n:Nat} {ds:List De} {k:Nat} {x:De} (hx:ds[k]?=some x) (h:(Mx.aU n (ds.take k)).1.length≤k+1∧1≤(Mx.aU n (ds.take k)).1.length):(Mx.aU n (ds.take (k+1))).1.length≤k+1+1∧1≤(Mx.aU n (ds.take (k+1))).1.length:=by
 have e1:ds.take (k+1)=ds.take k++[x]:=by rw[List.take_add_one,hx];rfl
 rw[e1,Mx.gI];unfold Mx.te Mx.doS;simp only;split
 ·rw[Ge]
  simp;omega
 ·omega
end Go.Proofs.YtbicgjafjjihdaaGreatDoor
