/- Part. -/
import Derived.Test.YtbicgjafjjihdaaGreatDoorZ29
set_option maxHeartbeats 16000000
set_option maxRecDepth 100000
namespace Go.Proofs.YtbicgjafjjihdaaGreatDoor
open Go.RowKit
theorem ms8 {w w1 v:World} {n m c rc K:Nat} {a ra:Option Addr} {ds:List De} {rs:List Rp} (h1:1≤n) (h2:n≤32) (h3:m≤300) (HD:Hid (DL w1 a m ds)) (HR:Hid (RL w1 ra m n rs∧gL n ds rs)) (HC:Hid (StC w1 v n K 0 ds)) (DW:Hid (Gq w w1)) {u2 u3 u4 u7 Iy Il Iv Ik Ho Gv Gw Gx Gy Gz GC GD GH GI GJ GK GL GM GO GP GQ GR GS GU GV GX GY GZ Ha Hb Hc He Hf Hg Hh Hi Hj Hk Hl Hm Hn Hp Hq Hr Hs Ht Ia Ib Ic Ie Ig Ih Ii Ij Iw Ix Iz IA IB IC ID IE IG IH II IJ IK IL IM IN IP IQ IS IT IU IV IY IZ I9 Ja Jb Jc Jd Je Jf Jg Jh Ji Jj Jk Gu Hu Hv Hw Hx Hy Hz H7 Kb Jo KG KI Lv Lw Lx Ly Lz LA LC LD LG LH LJ LK LL:Value} :
 aB Tryz.f3 (fun e w'=>e=.returned (.bool true)∧Gq w w') 8 ⟨#[.int .i64 (n:Int),.slice a m c,u2,u3,u4,.slice ra m rc,.nilIface,u7,.pointer (some ⟨K,0,none⟩),.int .i64 0,Iy,Il,Iv,Ik,Ho,Gv,Gw,Gx,Gy,Gz,GC,GD,GH,GI,GJ,GK,GL,GM,GO,GP,GQ,GR,GS,GU,GV,GX,GY,GZ,Ha,Hb,Hc,He,Hf,Hg,Hh,Hi,Hj,Hk,Hl,Hm,Hn,Hp,Hq,Hr,Hs,Ht,Ia,Ib,Ic,Ie,Ig,Ih,Ii,Ij,Iw,Ix,Iz,IA,IB,IC,ID,IE,IG,IH,II,IJ,IK,IL,IM,IN,IP,IQ,IS,IT,IU,IV,IY,IZ,I9,Ja,Jb,Jc,Jd,Je,Jf,Jg,Jh,Ji,Jj,Jk,Gu,Hu,Hv,Hw,Hx,Hy,Hz,H7,Kb,Jo,KG,KI,Lv,Lw,Lx,Ly,Lz,LA,LC,LD,LG,LH,LJ,LK,LL],[]⟩ v:=by
 refine aL (c:=.seq _ (.seq _ .ret)) rfl ?_;go_upto_region 14 with fail
 go_loopw [9,10] (fun s9 s10 wr=>∃ (j bk:Nat),j≤m∧s10=.int .i64 (j:Int)∧s9=.int .i64 (bk:Int)∧Hid (StC w1 wr n K j ds∧∀ r,rs[j]?=some r→bk≤r.bk)) (fun _ t _=>m-(intOf t).toNat)
 case atStart=>exact⟨0,0,Nat.zero_le _,rfl,rfl,aa ⟨HC.o,fun _ _=>Nat.zero_le _⟩⟩
 case round =>
  obtain⟨j,bk,hj,rfl,rfl,hR⟩:=hrel;by_cases hlt:j<m
  ·have hlti:(j:Int)<(m:Int):=by omega
   obtain⟨y,hy⟩:∃ y,rs[j]?=some y:=⟨_,F0 (by rw[HR.o.1.1];exact hlt)⟩
   have HY:=aa hy;have HC2:=aa hR.o.1;have HB:=aa (hR.o.2 y hy);clear hy hR;obtain⟨x,hx⟩:∃ x:World,Hid (x=wr):=⟨_,rfl⟩
   rw[←hx.o] at HC2 ⊢;refine gS ?_;intro K1 hK1;go_wp2_with fail;refine Met.intro (gS ?_);intro K2 hK2;refine wp_block ?_;refine(show cO (fu (fG (dH 8 (Tryz.f3.body.getD .skip)))) _ 0 _ x from ms0 h1 h2 h3 HD HR HC2 HY HB hlt ?_);intro Jm Jn Jp Jq Jr Js Jt Ju Jv Jw Jy Jz JA JB JC JD JE JF JG JH JI JJ JK JL JM JN JO JP JQ JR JS JT JU JV JW JX JY JZ J0 J2 J4 J5 J6 J7 J8 J9 Ka Im Io Ip Iq Ir Is It Iu Jl Kc Kd Ke Lc Ld Lf Lg Lh Li Lj Lk Ll Lm Ln Lo Lp x' V';refine hK2 _ _ (Met.intro ?_);clear hK2;show Code.wp _ _ _ _ _
   go_wp2_with fail;go_roundw
   case rel=>exact⟨j+1,y.bk,by omega,by go_num,rfl,aa ⟨V'.o,fun r hr=>HR.o.2.2 j (j+1) y r (by omega) HY.o hr⟩⟩
   case measure=>simp[intOf];omega
  ·obtain rfl:j=m:=by omega
   have FF:=aa (show Gq w wr from DW.o.trans (hR.o.1.2.1.mono DW.o.size));go_wp2_with fail;exact bodyPost_ret (v:=.bool true) (by simp[results,Tryz.results3,go_sem]) rfl ⟨rfl,FF.o⟩
theorem qH (n:Nat) (a:Option Addr) (m c:Nat) (ds:List De) (w:World) (h1:1≤n) (h2:n≤32) (h3:m≤300) (hd:DL w a m ds) (hg:Hnd w) :
 Calls Tryz.prog 3 #[.int .i64 (n:Int),.slice a m c] w (fun e w'=>e=.returned (.bool true)∧Gq w w'):=by
 have HD:=aa hd;have HN:=aa hg;have hn1:¬(n:Int)<1:=by omega
 have hn2:¬(32:Int)<(n:Int):=by omega
 have hm3:¬(300:Int)<(m:Int):=by omega
 clear hd hg;go_enter Tryz.func3,Tryz.ntmps3;change aB Tryz.f3 (fun e w'=>e=.returned (.bool true)∧Gq w w') 0 _ w;refine aj rfl ?_;intro K0 hK0;go_wp2_with fail;refine Met.intro (aj rfl ?_);intro K1 hK1;go_wp2_with fail;refine(zT n a m c ds w h1 h2 h3 HD.o HN.o).mono ?_;rintro e w1 ⟨ra,rc,rs,rfl,R1,D1⟩;have HD1:=aa (HD.o.later D1.o HD.o.av);go_wp2_with fail;refine Met.intro (aj rfl ?_);intro K2 hK2;go_wp2_with fail;refine Met.intro (aj rfl ?_);intro K3 hK3;go_wp2_with fail;refine Met.intro (aj rfl ?_);intro K4 hK4;go_wp2_with fail;refine Met.intro (aj rfl ?_);intro K5 hK5;go_wp2_with fail;refine Met.intro (aj rfl ?_);intro K6 hK6;go_wp2_with fail;refine(lI n w1 h1 h2).mono ?_;rintro e w2 ⟨K,rfl,C2,D2⟩;have S2:=aa (show StC w1 w2 n K 0 ds from⟨C2.o,D2.o,by simp[Mx.aU],by simp[Mx.aU]⟩);go_wp2_with fail;refine Met.intro (aj rfl ?_);intro K7 hK7;go_wp2_with fail;exact Met.intro (ms8 h1 h2 h3 HD1 R1 S2 D1)
theorem oP (n:Int) (a:Option Addr) (m c:Nat) (w:World) (h:eh n m≠0) :
 Calls Tryz.prog 3 #[.int .i64 n,.slice a m c] w (fun e w'=>e=.returned (.bool true)∧Gq w w'):=by
 have HH:=aa h;obtain⟨E,hE⟩:∃ E:Int,Hid (E=eh n m):=⟨_,rfl⟩
 have hEn:¬E=0:=by rw[hE.o];exact h
 have HI:=fun W=>ER E E W
 rw[aZ hEn] at HI;have HIS:=aa HI;have hcase:(E=1∧(n<1∨(¬n<1∧32<n)))∨(E=2∧¬n<1∧¬32<n∧300<m):=by
  have h9:=hE.o;unfold eh at h9;split at h9
  ·left
   exact⟨h9,by omega⟩
  ·split at h9
   ·right
    exact⟨h9,by omega,by omega,by omega⟩
   ·exact absurd h9 hEn
 have HC:=aa hcase;clear h HI hcase;go_enter Tryz.func3,Tryz.ntmps3;change aB Tryz.f3 (fun e w'=>e=.returned (.bool true)∧Gq w w') 0 _ w;refine aj rfl ?_;intro K0 hK0;go_wp2_with fail;refine Met.intro (aj rfl ?_);intro K1 hK1;go_wp2_with fail;refine(DS n a m c w HH.o).mono ?_;rintro e w1 ⟨rfl,hw1⟩;rw[hw1,←hE.o];clear hw1;go_wp2_with fail;refine Met.intro (aj rfl ?_);intro K2 hK2;go_wp2_with fail;refine Met.intro (aj rfl ?_);intro K3 hK3;rcases HC.o with ⟨rfl,hc⟩|⟨rfl,hc1,hc2,hc3⟩
 ·rcases hc with hc|⟨hc,hc2⟩
  ·go_wp2_with fail
   refine Met.intro (aj rfl ?_);intro K4 hK4;go_wp2_with fail;refine(HIS.o w).mono ?_;rintro e w3 ⟨rfl,hw3⟩;rw[hw3];clear hw3;go_wp2_with fail;exact bodyPost_ret (v:=.bool true) (by simp[results,Tryz.results3,go_sem]) rfl ⟨rfl,Below.refl _ _⟩
  ·go_wp2_with fail
   refine Met.intro (aj rfl ?_);intro K4 hK4;go_wp2_with fail;refine(HIS.o w).mono ?_;rintro e w3 ⟨rfl,hw3⟩;rw[hw3];clear hw3;go_wp2_with fail;exact bodyPost_ret (v:=.bool true) (by simp[results,Tryz.results3,go_sem]) rfl ⟨rfl,Below.refl _ _⟩
 ·have hc3i:(300:Int)<(m:Int):=by omega
  go_wp2_with fail;refine Met.intro (aj rfl ?_);intro K4 hK4;go_wp2_with fail;refine(HIS.o w).mono ?_;rintro e w3 ⟨rfl,hw3⟩;rw[hw3];clear hw3;go_wp2_with fail;exact bodyPost_ret (v:=.bool true) (by simp[results,Tryz.results3,go_sem]) rfl ⟨rfl,Below.refl _ _⟩
theorem j4 (n:Int) (a:Option Addr) (m c:Nat) (ds:List De) (w:World) (hd:DL w a m ds) (hg:Hnd w) :
 Calls Tryz.prog 3 #[.int .i64 n,.slice a m c] w (fun e w'=>e=.returned (.bool true)∧Gq w w'):=by
 by_cases h:eh n m=0
 ·have h1:1≤n∧n≤32∧m≤300:=by
   unfold eh at h;split at h
   ·omega
   ·split at h
    ·omega
    ·omega
  obtain⟨n',rfl⟩:∃ n':Nat,n=(n':Int):=⟨n.toNat,by omega⟩
  exact qH n' a m c ds w (by omega) (by omega) h1.2.2 hd hg
 ·exact oP n a m c w h
end Go.Proofs.YtbicgjafjjihdaaGreatDoor
