/- Part. -/
import Derived.Test.YtbicgjafjjihdaaGreatZ8
set_option maxHeartbeats 16000000
set_option maxRecDepth 100000
namespace Go.Proofs.YtbicgjafjjihdaaGreat
open Go.RowKit
section
variable {x:Int} {nm:List Int}
namespace Mx
def Msg (l:List Int) (ses x kd:Int) (nm:List Int) (nb:Nat) (bs:List Int):Prop:=aE l 1 (ses::x::kd::nm) nb bs∧kd≤15
theorem Bg {l:List Int} {ses kd:Int} {nb:Nat} {bs:List Int} (h:aE l 1 (ses::x::kd::nm) nb bs):ca ⟨kd,nm,nb,bs⟩=if kd≤15 then 0 else 1:=by
 have h1:=h.1;unfold may at h1;split at h1
 ·omega
 ·split at h1
  ·omega
  ·next h2 =>
   split at h1
   ·omega
   ·next h3 =>
    simp only[List.length_cons] at h2;simp only[List.any_cons,Bool.or_eq_true,not_or] at h3;have hk:bw kd=false:=by simpa using h3.2.2.1
    have hn:nm.any bw=false:=by simpa using h3.2.2.2
    have hk0:0≤kd:=by unfold bw at hk;simp at hk;omega
    by_cases h15:kd≤15
    ·rw[if_pos h15]
     refine su (f:=⟨kd,nm,nb,bs⟩) ?_ (by show ¬9<nm.length;omega);show may kd nm nb=0
     unfold may;rw[if_neg (by omega),if_neg (by omega),if_neg (by rw[hn];simp)]
    ·rw[if_neg h15]
     have h4:may kd nm nb=1:=by unfold may;rw[if_pos (by omega)]
     rw[uN (f:=⟨kd,nm,nb,bs⟩) (by show may kd nm nb≠0;omega)];exact h4
end Mx
theorem ay.Cp {w:World} {b off m:Nat} {y z:Int} (h:ay w (some ⟨b,off,none⟩) (m+3) (x::y::z::nm)):ay w (some ⟨b,off+3,none⟩) m nm:=by
 obtain⟨h1,h2,h3⟩:=h;refine⟨by simpa using h1,by omega,fun hp=>?_⟩;obtain⟨b',off',ha,hlt,hc⟩:=h3 (by omega);simp only[Option.some.injEq,Addr.mk.injEq,and_true] at ha;obtain⟨rfl,rfl⟩:=ha;refine⟨b,off+3,rfl,hlt,fun i hi=>?_⟩;have h4:=hc (i+3) (by omega);rw[show off+(i+3)=off+3+i by omega] at h4;rw[h4];rfl
def Fh (w w':World) (l:List Int) (ses:Int) (e:Ending):Prop :=
 ∃ (x:Int) (v:Value) (ok:Bool),e=.returned (.tuple #[.int .i64 x,v,.bool ok])∧Hid ((ok=true∧∃ kd nm nb bs,Mx.Msg l ses x kd nm nb bs∧FrA w.heap.size w' v ⟨kd,nm,nb,bs⟩)∨(ok=false∧x=0∧v=.agg #[.int .i64 0,.slice none 0 0,.slice none 0 0]∧∀ y kd nm nb bs,¬Mx.Msg l ses y kd nm nb bs))∧Hid (Below w.heap.size w w')
theorem tK (ses:Int) (a:Option Addr) (len cap:Nat) (l:List Int) (w:World) (hl:Bytes w a len l) (hlen:len≤2000) (hcap:len≤cap) :
 Calls Tryz.prog 139 #[.int .i64 ses,.slice a len cap] w fun e w'=>Fh w w' l ses e:=by
 obtain⟨W0,hW0⟩:∃ W0:World,Hid (W0=w.alloc (.cells #[.int .i64 0,.slice none 0 0,.slice none 0 0] 157)):=⟨_,rfl⟩
 have R0:=bxA hW0;have D0:=beA hW0;have HL:=aa (hl.later D0.o);have S0:=aa (show W0.heap.size=w.heap.size+1 by rw[hW0.o];simp);clear hl;go_enter Tryz.func139,Tryz.ntmps139;go_wp2_with fail;rw[←hW0.o];refine(cT a len cap l W0 HL.o hlen hcap).mono ?_;rintro e w1 (⟨kd,ak,nb,bs,a1,c1,a2,c2,rfl,hF,hI,hK,hA1,hA2,hC1,hC2,hB⟩|⟨rfl,hno,hB⟩)
 ·have HF:=aa hF
  have HU:=aa (show ∀ y kd' nm' nb' bs',Mx.Msg l ses y kd' nm' nb' bs'→kd=1∧ak=ses::y::kd'::nm' from fun y kd' nm' nb' bs' hy=>by
   obtain⟨h1,h2,_⟩:=Mx.aE.one HF.o hy.1;exact⟨h1,h2⟩)
  obtain⟨n1,hn1⟩:∃ n1:Nat,Hid (n1=ak.length):=⟨_,rfl⟩
  rw[←hn1.o] at hI hC1 ⊢;have hnb:nb≤maxLen:=hK.2.1;have hnl:n1≤maxLen:=hI.2.1;rw[aC] at hnb hnl;obtain⟨W2,hW2⟩:∃ W2:World,Hid (W2=w1.alloc (.cells #[.int .i64 kd,.slice a1 n1 c1,.slice a2 nb c2] 157)):=⟨_,rfl⟩
  have D2:=beA hW2;have F2:=bxA hW2;have R2:=aa ((R0.o.later hB R0.o.lt).later D2.o (R0.o.later hB R0.o.lt).lt);have hB2:=D0.o.trans (hB.mono D0.o.size);have B2:=aa (hB2.trans (D2.o.mono hB2.size));have HI:=aa (hI.later D2.o);have HK:=aa (hK.later D2.o);have HA1:=aa hA1;have HA2:=aa hA2;have HC1:=aa hC1;have HC2:=aa hC2;have hs01':=hB.size;clear hF hI hK hA1 hA2 hC1 hC2 hB hB2;have hs01:W0.heap.size≤w1.heap.size:=hs01';go_upto_region 2 with fail
  rw[←hW2.o];by_cases h1:kd=1
  ·subst h1
   by_cases h2:(n1:Int)<3
   ·have d2:decide ((n1:Int)<3)=true:=by simpa using h2
    have d2n:decide (n1<3)=true:=by simpa using (show n1<3 by omega)
    have HNM:=aa (show ∀ y kd nm nb bs,¬Mx.Msg l ses y kd nm nb bs from fun y kd' nm' nb' bs' hy=>by
     have h3:=(HU.o y kd' nm' nb' bs' hy).2;have h4:=hn1.o;rw[h3] at h4;simp at h4;omega)
    obtain⟨r0,r1,r2⟩:=R2.o.three;have rz:=R2.o.frozen;obtain⟨f0,f1,f2⟩:=F2.o.three;go_wp2_with fail;obtain⟨t0,t1,t2⟩:=(R2.o.aG (.int .i64 0) (.slice none 0 0) (.slice none 0 0)).three;exact bodyPost_ret (v:=.tuple #[.int .i64 0,.agg #[.int .i64 0,.slice none 0 0,.slice none 0 0],.bool false]) (by simp[results,Tryz.results139,go_sem,t0,t1,t2]) rfl ⟨0,_,false,rfl,.inr ⟨rfl,rfl,rfl,HNM.o⟩,aF B2.o (FG _) _ _ _⟩
   ·have d2:decide ((n1:Int)<3)=false:=by simpa using h2
    have d2n:decide (n1<3)=false:=by simpa using (show ¬n1<3 by omega)
    obtain⟨y0,y1,y2,nm,hnums⟩:∃ y0 y1 y2 nm,ak=y0::y1::y2::nm:=by
     match ak,hn1.o with
     | [], h => simp at h; omega
     | [_], h => simp at h; omega
     | [_, _], h => simp at h; omega
     | y0 :: y1 :: y2 :: nm, _ => exact ⟨y0, y1, y2, nm, rfl⟩
    subst hnums;obtain⟨m,hm⟩:∃ m:Nat,n1=m+3:=⟨n1-3,by omega⟩
    subst hm;obtain⟨b,off,z0,hab,hblt,hx0,e0⟩:=HI.o.at_ 0 (by omega);obtain⟨b',off',z1,hab',_,hx1,e1⟩:=HI.o.at_ 1 (by omega);obtain⟨b'',off'',z2,hab'',_,hx2,e2⟩:=HI.o.at_ 2 (by omega);rw[hab] at hab' hab'';cases hab'
    cases hab''
    subst hab;have hx0':y0=z0:=hx0;have hx1':y1=z1:=hx1;have hx2':y2=z2:=hx2;subst hx0' hx1' hx2';rw[Nat.add_zero] at e0;clear hx0 hx1 hx2;have hbA:W0.heap.size≤b:=HA1.o _ rfl;by_cases h3:y0=ses
    ·subst h3
     have d3:(y0 != y0)=false:=by simp
     have HMM:=aa (Mx.Bg HF.o);have hwf:¬w.heap.size=w1.heap.size:=by have h1:=S0.o;have h2:=R0.o.lt;have h3:=F2.o.lt;have h4:=D2.o.size;intro e;have h5:W0.heap.size≤w1.heap.size:=hs01;omega
     have hwb:¬w.heap.size=b:=by have h1:=S0.o;omega
     have h03:(3:Int)≤c1:=by have h1:=HC1.o;omega
     have hi2:(2:Int)<(m:Int)+3:=by omega
     have hi1:(1:Int)<(m:Int)+3:=by omega
     have hi3:(3:Int)≤(m:Int)+3:=by omega
     obtain⟨f0,f1,f2⟩:=F2.o.three;obtain⟨r0,r1,r2⟩:=R2.o.three;have rz:=R2.o.frozen;by_cases h15:y2≤15
     ·have HM0:=aa (show Mx.ca ⟨y2,nm,nb,bs⟩=0 by rw[HMM.o,if_pos h15])
      have HMSG:=aa (show Mx.Msg l y0 y1 y2 nm nb bs from⟨HF.o,h15⟩);clear h15;by_cases hc3:c1=3
      ·subst hc3
       obtain rfl:m=0:=by have h1:=HC1.o;omega
       have IX:=aa (show ay W2 (some ⟨b,off,none⟩) 0 nm from⟨by have h1:=HI.o.1;simpa using h1,by rw[aC];omega,fun h=>absurd h (by omega)⟩);go_upto_region 4 with fail
       go_region_held3 (fun w'=>w'.cell? ⟨w1.heap.size,1,none⟩=some (.slice (some ⟨b,off,none⟩) (0+3) 3)∧w'.cell? ⟨w1.heap.size,2,none⟩=some (.slice a2 nb c2)∧w'.cell? ⟨b,off+2,none⟩=some (.int .i64 y2))
        (first
          | with_reducible exact ⟨f1, f2, e2⟩
          |(simp only[an];with_reducible exact⟨f1,f2,e2⟩)
          |(simp only[aw hwf,aw hwb,an];with_reducible exact⟨f1,f2,e2⟩))
        (fail)
       all_goals go_upto_region 5 with fail
       all_goals
        obtain⟨W3,hW3⟩:∃ W3:World,Hid (W3=(cb W2 w.heap.size (.int .i64 y2) (.slice (some ⟨b,off,none⟩) 0 0) (.slice a2 nb c2)).drew):=⟨_,rfl⟩
        have G3:=aa (show W2.grownBy W3 (some w.heap.size) by rw[hW3.o];exact cC (bA (ar _ _) _ _ _));have R3:=aa (show Bx W3 w.heap.size #[.int .i64 y2,(.slice (some ⟨b,off,none⟩) 0 0),.slice a2 nb c2] 157 by rw[hW3.o];exact R2.o.aG _ _ _);have F3:=aa (show Bx W3 w1.heap.size #[.int .i64 1,(.slice (some ⟨b,off,none⟩) (0+3) 3),.slice a2 nb c2] 157 from(G3.o.block _ F2.o.lt (fun e=>hwf (FC e).symm)).trans F2.o);have I3:=aa (IX.o.grownBy G3.o (fun _ p hp e=>by cases hp;exact hwb (FC e)));have K3:=aa (HK.o.grownBy G3.o (fun _ p hp e=>by have h1:=HA2.o p hp;have h2:=S0.o;have h3:w.heap.size=p.block:=FC e;omega));have B3:=aa (show Below w.heap.size w W3 by rw[hW3.o];exact(aF B2.o (FG _) _ _ _).drew);have E1:=aa (G3.o.cell (a:=⟨b,off+1,none⟩) e1 (fun e=>hwb (FC e).symm));have hbl3:b<W3.heap.size:=Fz hblt G3.o.size;unfold cb at hW3;rw[←hW3.o];clear f0 f1 f2 r0 r1 r2 rz e0 e1 e2;obtain⟨r0,r1,r2⟩:=R3.o.three;go_wp2_with fail;refine(de y2 (some ⟨b,off,none⟩) a2 0 0 nb c2 nm bs W3 I3.o K3.o.2.1).mono ?_;rintro e w4 ⟨rfl,D4⟩;have R4:=aa (R3.o.later D4 R3.o.lt);have F4:=aa (F3.o.later D4 F3.o.lt);have B4:=aa (B3.o.trans (D4.mono B3.o.size));have I4:=aa (I3.o.later D4);have K4:=aa (K3.o.later D4);have e1:=(D4.cell (p:=⟨b,off+1,none⟩) hbl3).trans E1.o;clear r0 r1 r2;obtain⟨f0,f1,f2⟩:=F4.o.three;obtain⟨r0,r1,r2⟩:=R4.o.three;have rz:=R4.o.frozen;rw[HM0.o,aH];go_upto_region 7 with fail
        go_region_held3 (fun w'=>w'.cell? ⟨w1.heap.size,1,none⟩=some (.slice (some ⟨b,off,none⟩) (0+3) 3)∧w'.cell? ⟨b,off+1,none⟩=some (.int .i64 y1)∧w'.cell? ⟨w.heap.size,0,none⟩=some (.int .i64 y2)∧w'.cell? ⟨w.heap.size,1,none⟩=some (.slice (some ⟨b,off,none⟩) 0 0)∧w'.cell? ⟨w.heap.size,2,none⟩=some (.slice a2 nb c2))
         (first
           | with_reducible exact ⟨f1, e1, r0, r1, r2⟩
           |(simp only[an];with_reducible exact⟨f1,e1,r0,r1,r2⟩)
           | exact ⟨by simp only [aw hwf, an]; exact f1, by simp only [aw hwb, an]; exact e1, (R4.o.aG _ _ _).three⟩)
         (fail)
        all_goals
         have GF:=aa (bA (ar w4 (some w.heap.size)) (.int .i64 y2) (.slice (some ⟨b,off,none⟩) 0 0) (.slice a2 nb c2));have IF:=aa (I4.o.grownBy GF.o (fun _ p hp e=>by cases hp;exact hwb (FC e)));have KF:=aa (K4.o.grownBy GF.o (fun _ p hp e=>by have h1:=HA2.o p hp;have h2:=S0.o;have h3:w.heap.size=p.block:=FC e;omega));have BF:=aa (aF B4.o (FG _) (.int .i64 y2) (.slice (some ⟨b,off,none⟩) 0 0) (.slice a2 nb c2));have DR:=aa (show Below (cb w4 w.heap.size (.int .i64 y2) (.slice (some ⟨b,off,none⟩) 0 0) (.slice a2 nb c2)).heap.size (cb w4 w.heap.size (.int .i64 y2) (.slice (some ⟨b,off,none⟩) 0 0) (.slice a2 nb c2)) (cb w4 w.heap.size (.int .i64 y2) (.slice (some ⟨b,off,none⟩) 0 0) (.slice a2 nb c2)).drew from(Below.refl _ _).drew);go_wp2_with fail;obtain⟨t0,t1,t2⟩:=(R4.o.aG (.int .i64 y2) (.slice (some ⟨b,off,none⟩) 0 0) (.slice a2 nb c2)).three;exact bodyPost_ret (v:=.tuple #[.int .i64 y1,.agg #[.int .i64 y2,(.slice (some ⟨b,off,none⟩) 0 0),.slice a2 nb c2],.bool true]) (by simp[results,Tryz.results139,go_sem,t0,t1,t2]) rfl ⟨y1,_,true,rfl,.inl ⟨rfl,y2,nm,nb,bs,HMSG.o,(some ⟨b,off,none⟩),0,0,a2,c2,rfl,IF.o.later DR.o,KF.o.later DR.o,by have:=HC1.o;omega,HC2.o,fun _ p hp=>by cases hp;show w.heap.size≤b;have h9:=S0.o;omega,fun _ p hp=>by have h1:=HA2.o p hp;have h2:=S0.o;omega⟩,BF.o.drew⟩
      ·have IX:=aa HI.o.Cp
       go_upto_region 4 with fail
       go_region_held3 (fun w'=>w'.cell? ⟨w1.heap.size,1,none⟩=some (.slice (some ⟨b,off,none⟩) (m+3) c1)∧w'.cell? ⟨w1.heap.size,2,none⟩=some (.slice a2 nb c2)∧w'.cell? ⟨b,off+2,none⟩=some (.int .i64 y2))
        (first
          | with_reducible exact ⟨f1, f2, e2⟩
          |(simp only[an];with_reducible exact⟨f1,f2,e2⟩)
          |(simp only[aw hwf,aw hwb,an];with_reducible exact⟨f1,f2,e2⟩))
        (fail)
       all_goals go_upto_region 5 with fail
       all_goals
        obtain⟨W3,hW3⟩:∃ W3:World,Hid (W3=(cb W2 w.heap.size (.int .i64 y2) (.slice (some ⟨b,off+3,none⟩) m (c1-3)) (.slice a2 nb c2)).drew):=⟨_,rfl⟩
        have G3:=aa (show W2.grownBy W3 (some w.heap.size) by rw[hW3.o];exact cC (bA (ar _ _) _ _ _));have R3:=aa (show Bx W3 w.heap.size #[.int .i64 y2,(.slice (some ⟨b,off+3,none⟩) m (c1-3)),.slice a2 nb c2] 157 by rw[hW3.o];exact R2.o.aG _ _ _);have F3:=aa (show Bx W3 w1.heap.size #[.int .i64 1,(.slice (some ⟨b,off,none⟩) (m+3) c1),.slice a2 nb c2] 157 from(G3.o.block _ F2.o.lt (fun e=>hwf (FC e).symm)).trans F2.o);have I3:=aa (IX.o.grownBy G3.o (fun _ p hp e=>by cases hp;exact hwb (FC e)));have K3:=aa (HK.o.grownBy G3.o (fun _ p hp e=>by have h1:=HA2.o p hp;have h2:=S0.o;have h3:w.heap.size=p.block:=FC e;omega));have B3:=aa (show Below w.heap.size w W3 by rw[hW3.o];exact(aF B2.o (FG _) _ _ _).drew);have E1:=aa (G3.o.cell (a:=⟨b,off+1,none⟩) e1 (fun e=>hwb (FC e).symm));have hbl3:b<W3.heap.size:=Fz hblt G3.o.size;unfold cb at hW3;rw[←hW3.o];clear f0 f1 f2 r0 r1 r2 rz e0 e1 e2;obtain⟨r0,r1,r2⟩:=R3.o.three;go_wp2_with fail;refine(de y2 (some ⟨b,off+3,none⟩) a2 m (c1-3) nb c2 nm bs W3 I3.o K3.o.2.1).mono ?_;rintro e w4 ⟨rfl,D4⟩;have R4:=aa (R3.o.later D4 R3.o.lt);have F4:=aa (F3.o.later D4 F3.o.lt);have B4:=aa (B3.o.trans (D4.mono B3.o.size));have I4:=aa (I3.o.later D4);have K4:=aa (K3.o.later D4);have e1:=(D4.cell (p:=⟨b,off+1,none⟩) hbl3).trans E1.o;clear r0 r1 r2;obtain⟨f0,f1,f2⟩:=F4.o.three;obtain⟨r0,r1,r2⟩:=R4.o.three;have rz:=R4.o.frozen;rw[HM0.o,aH];go_upto_region 7 with fail
        go_region_held3 (fun w'=>w'.cell? ⟨w1.heap.size,1,none⟩=some (.slice (some ⟨b,off,none⟩) (m+3) c1)∧w'.cell? ⟨b,off+1,none⟩=some (.int .i64 y1)∧w'.cell? ⟨w.heap.size,0,none⟩=some (.int .i64 y2)∧w'.cell? ⟨w.heap.size,1,none⟩=some (.slice (some ⟨b,off+3,none⟩) m (c1-3))∧w'.cell? ⟨w.heap.size,2,none⟩=some (.slice a2 nb c2))
         (first
           | with_reducible exact ⟨f1, e1, r0, r1, r2⟩
           |(simp only[an];with_reducible exact⟨f1,e1,r0,r1,r2⟩)
           | exact ⟨by simp only [aw hwf, an]; exact f1, by simp only [aw hwb, an]; exact e1, (R4.o.aG _ _ _).three⟩)
         (fail)
        all_goals
         have GF:=aa (bA (ar w4 (some w.heap.size)) (.int .i64 y2) (.slice (some ⟨b,off+3,none⟩) m (c1-3)) (.slice a2 nb c2));have IF:=aa (I4.o.grownBy GF.o (fun _ p hp e=>by cases hp;exact hwb (FC e)));have KF:=aa (K4.o.grownBy GF.o (fun _ p hp e=>by have h1:=HA2.o p hp;have h2:=S0.o;have h3:w.heap.size=p.block:=FC e;omega));have BF:=aa (aF B4.o (FG _) (.int .i64 y2) (.slice (some ⟨b,off+3,none⟩) m (c1-3)) (.slice a2 nb c2));have DR:=aa (show Below (cb w4 w.heap.size (.int .i64 y2) (.slice (some ⟨b,off+3,none⟩) m (c1-3)) (.slice a2 nb c2)).heap.size (cb w4 w.heap.size (.int .i64 y2) (.slice (some ⟨b,off+3,none⟩) m (c1-3)) (.slice a2 nb c2)) (cb w4 w.heap.size (.int .i64 y2) (.slice (some ⟨b,off+3,none⟩) m (c1-3)) (.slice a2 nb c2)).drew from(Below.refl _ _).drew);go_wp2_with fail;obtain⟨t0,t1,t2⟩:=(R4.o.aG (.int .i64 y2) (.slice (some ⟨b,off+3,none⟩) m (c1-3)) (.slice a2 nb c2)).three;exact bodyPost_ret (v:=.tuple #[.int .i64 y1,.agg #[.int .i64 y2,(.slice (some ⟨b,off+3,none⟩) m (c1-3)),.slice a2 nb c2],.bool true]) (by simp[results,Tryz.results139,go_sem,t0,t1,t2]) rfl ⟨y1,_,true,rfl,.inl ⟨rfl,y2,nm,nb,bs,HMSG.o,(some ⟨b,off+3,none⟩),m,(c1-3),a2,c2,rfl,IF.o.later DR.o,KF.o.later DR.o,by have:=HC1.o;omega,HC2.o,fun _ p hp=>by cases hp;show w.heap.size≤b;have h9:=S0.o;omega,fun _ p hp=>by have h1:=HA2.o p hp;have h2:=S0.o;omega⟩,BF.o.drew⟩
     ·have HM1:=aa (show Mx.ca ⟨y2,nm,nb,bs⟩=1 by rw[HMM.o,if_neg h15])
      have HNM:=aa (show ∀ y kd nm nb bs,¬Mx.Msg l y0 y kd nm nb bs from fun y kd' nm' nb' bs' hy=>by
       have h4:=(HU.o y kd' nm' nb' bs' hy).2;simp at h4;have h5:=hy.2;omega)
      clear h15;by_cases hc3:c1=3
      ·subst hc3
       obtain rfl:m=0:=by have h1:=HC1.o;omega
       have IX:=aa (show ay W2 (some ⟨b,off,none⟩) 0 nm from⟨by have h1:=HI.o.1;simpa using h1,by rw[aC];omega,fun h=>absurd h (by omega)⟩);go_upto_region 4 with fail
       go_region_held3 (fun w'=>w'.cell? ⟨w1.heap.size,1,none⟩=some (.slice (some ⟨b,off,none⟩) (0+3) 3)∧w'.cell? ⟨w1.heap.size,2,none⟩=some (.slice a2 nb c2)∧w'.cell? ⟨b,off+2,none⟩=some (.int .i64 y2))
        (first
          | with_reducible exact ⟨f1, f2, e2⟩
          |(simp only[an];with_reducible exact⟨f1,f2,e2⟩)
          |(simp only[aw hwf,aw hwb,an];with_reducible exact⟨f1,f2,e2⟩))
        (fail)
       all_goals go_upto_region 5 with fail
       all_goals
        obtain⟨W3,hW3⟩:∃ W3:World,Hid (W3=(cb W2 w.heap.size (.int .i64 y2) (.slice (some ⟨b,off,none⟩) 0 0) (.slice a2 nb c2)).drew):=⟨_,rfl⟩
        have G3:=aa (show W2.grownBy W3 (some w.heap.size) by rw[hW3.o];exact cC (bA (ar _ _) _ _ _));have R3:=aa (show Bx W3 w.heap.size #[.int .i64 y2,(.slice (some ⟨b,off,none⟩) 0 0),.slice a2 nb c2] 157 by rw[hW3.o];exact R2.o.aG _ _ _);have F3:=aa (show Bx W3 w1.heap.size #[.int .i64 1,(.slice (some ⟨b,off,none⟩) (0+3) 3),.slice a2 nb c2] 157 from(G3.o.block _ F2.o.lt (fun e=>hwf (FC e).symm)).trans F2.o);have I3:=aa (IX.o.grownBy G3.o (fun _ p hp e=>by cases hp;exact hwb (FC e)));have K3:=aa (HK.o.grownBy G3.o (fun _ p hp e=>by have h1:=HA2.o p hp;have h2:=S0.o;have h3:w.heap.size=p.block:=FC e;omega));have B3:=aa (show Below w.heap.size w W3 by rw[hW3.o];exact(aF B2.o (FG _) _ _ _).drew);have E1:=aa (G3.o.cell (a:=⟨b,off+1,none⟩) e1 (fun e=>hwb (FC e).symm));have hbl3:b<W3.heap.size:=Fz hblt G3.o.size;unfold cb at hW3;rw[←hW3.o];clear f0 f1 f2 r0 r1 r2 rz e0 e1 e2;obtain⟨r0,r1,r2⟩:=R3.o.three;go_wp2_with fail;refine(de y2 (some ⟨b,off,none⟩) a2 0 0 nb c2 nm bs W3 I3.o K3.o.2.1).mono ?_;rintro e w4 ⟨rfl,D4⟩;have R4:=aa (R3.o.later D4 R3.o.lt);have F4:=aa (F3.o.later D4 F3.o.lt);have B4:=aa (B3.o.trans (D4.mono B3.o.size));have I4:=aa (I3.o.later D4);have K4:=aa (K3.o.later D4);have e1:=(D4.cell (p:=⟨b,off+1,none⟩) hbl3).trans E1.o;clear r0 r1 r2;obtain⟨f0,f1,f2⟩:=F4.o.three;obtain⟨r0,r1,r2⟩:=R4.o.three;have rz:=R4.o.frozen;have he1:bD 1=.iface 23 (.int .i64 1):=rfl;rw[HM1.o,he1];go_wp2_with fail;obtain⟨t0,t1,t2⟩:=(R4.o.aG (.int .i64 0) (.slice none 0 0) (.slice none 0 0)).three;exact bodyPost_ret (v:=.tuple #[.int .i64 0,.agg #[.int .i64 0,.slice none 0 0,.slice none 0 0],.bool false]) (by simp[results,Tryz.results139,go_sem,t0,t1,t2]) rfl ⟨0,_,false,rfl,.inr ⟨rfl,rfl,rfl,HNM.o⟩,aF B4.o (FG _) _ _ _⟩
      ·have IX:=aa HI.o.Cp
       go_upto_region 4 with fail
       go_region_held3 (fun w'=>w'.cell? ⟨w1.heap.size,1,none⟩=some (.slice (some ⟨b,off,none⟩) (m+3) c1)∧w'.cell? ⟨w1.heap.size,2,none⟩=some (.slice a2 nb c2)∧w'.cell? ⟨b,off+2,none⟩=some (.int .i64 y2))
        (first
          | with_reducible exact ⟨f1, f2, e2⟩
          |(simp only[an];with_reducible exact⟨f1,f2,e2⟩)
          |(simp only[aw hwf,aw hwb,an];with_reducible exact⟨f1,f2,e2⟩))
        (fail)
       all_goals go_upto_region 5 with fail
       all_goals
        obtain⟨W3,hW3⟩:∃ W3:World,Hid (W3=(cb W2 w.heap.size (.int .i64 y2) (.slice (some ⟨b,off+3,none⟩) m (c1-3)) (.slice a2 nb c2)).drew):=⟨_,rfl⟩
        have G3:=aa (show W2.grownBy W3 (some w.heap.size) by rw[hW3.o];exact cC (bA (ar _ _) _ _ _));have R3:=aa (show Bx W3 w.heap.size #[.int .i64 y2,(.slice (some ⟨b,off+3,none⟩) m (c1-3)),.slice a2 nb c2] 157 by rw[hW3.o];exact R2.o.aG _ _ _);have F3:=aa (show Bx W3 w1.heap.size #[.int .i64 1,(.slice (some ⟨b,off,none⟩) (m+3) c1),.slice a2 nb c2] 157 from(G3.o.block _ F2.o.lt (fun e=>hwf (FC e).symm)).trans F2.o);have I3:=aa (IX.o.grownBy G3.o (fun _ p hp e=>by cases hp;exact hwb (FC e)));have K3:=aa (HK.o.grownBy G3.o (fun _ p hp e=>by have h1:=HA2.o p hp;have h2:=S0.o;have h3:w.heap.size=p.block:=FC e;omega));have B3:=aa (show Below w.heap.size w W3 by rw[hW3.o];exact(aF B2.o (FG _) _ _ _).drew);have E1:=aa (G3.o.cell (a:=⟨b,off+1,none⟩) e1 (fun e=>hwb (FC e).symm));have hbl3:b<W3.heap.size:=Fz hblt G3.o.size;unfold cb at hW3;rw[←hW3.o];clear f0 f1 f2 r0 r1 r2 rz e0 e1 e2;obtain⟨r0,r1,r2⟩:=R3.o.three;go_wp2_with fail;refine(de y2 (some ⟨b,off+3,none⟩) a2 m (c1-3) nb c2 nm bs W3 I3.o K3.o.2.1).mono ?_;rintro e w4 ⟨rfl,D4⟩;have R4:=aa (R3.o.later D4 R3.o.lt);have F4:=aa (F3.o.later D4 F3.o.lt);have B4:=aa (B3.o.trans (D4.mono B3.o.size));have I4:=aa (I3.o.later D4);have K4:=aa (K3.o.later D4);have e1:=(D4.cell (p:=⟨b,off+1,none⟩) hbl3).trans E1.o;clear r0 r1 r2;obtain⟨f0,f1,f2⟩:=F4.o.three;obtain⟨r0,r1,r2⟩:=R4.o.three;have rz:=R4.o.frozen;have he1:bD 1=.iface 23 (.int .i64 1):=rfl;rw[HM1.o,he1];go_wp2_with fail;obtain⟨t0,t1,t2⟩:=(R4.o.aG (.int .i64 0) (.slice none 0 0) (.slice none 0 0)).three;exact bodyPost_ret (v:=.tuple #[.int .i64 0,.agg #[.int .i64 0,.slice none 0 0,.slice none 0 0],.bool false]) (by simp[results,Tryz.results139,go_sem,t0,t1,t2]) rfl ⟨0,_,false,rfl,.inr ⟨rfl,rfl,rfl,HNM.o⟩,aF B4.o (FG _) _ _ _⟩
    ·have d3:(y0 != ses)=true:=by simpa using h3
     have HNM:=aa (show ∀ y kd nm nb bs,¬Mx.Msg l ses y kd nm nb bs from fun y kd' nm' nb' bs' hy=>by
      have h4:=(HU.o y kd' nm' nb' bs' hy).2;simp at h4;exact h3 h4.1)
     obtain⟨r0,r1,r2⟩:=R2.o.three;have rz:=R2.o.frozen;obtain⟨f0,f1,f2⟩:=F2.o.three;go_wp2_with fail;obtain⟨t0,t1,t2⟩:=(R2.o.aG (.int .i64 0) (.slice none 0 0) (.slice none 0 0)).three;exact bodyPost_ret (v:=.tuple #[.int .i64 0,.agg #[.int .i64 0,.slice none 0 0,.slice none 0 0],.bool false]) (by simp[results,Tryz.results139,go_sem,t0,t1,t2]) rfl ⟨0,_,false,rfl,.inr ⟨rfl,rfl,rfl,HNM.o⟩,aF B2.o (FG _) _ _ _⟩
  ·have d1:(kd != 1)=true:=by simpa using h1
   have HNM:=aa (show ∀ y kd nm nb bs,¬Mx.Msg l ses y kd nm nb bs from fun y kd' nm' nb' bs' hy=>h1 (HU.o y kd' nm' nb' bs' hy).1);obtain⟨r0,r1,r2⟩:=R2.o.three;have rz:=R2.o.frozen;obtain⟨f0,f1,f2⟩:=F2.o.three;go_wp2_with fail;obtain⟨t0,t1,t2⟩:=(R2.o.aG (.int .i64 0) (.slice none 0 0) (.slice none 0 0)).three;exact bodyPost_ret (v:=.tuple #[.int .i64 0,.agg #[.int .i64 0,.slice none 0 0,.slice none 0 0],.bool false]) (by simp[results,Tryz.results139,go_sem,t0,t1,t2]) rfl ⟨0,_,false,rfl,.inr ⟨rfl,rfl,rfl,HNM.o⟩,aF B2.o (FG _) _ _ _⟩
 ·have HNM:=aa (show ∀ y kd nm nb bs,¬Mx.Msg l ses y kd nm nb bs from fun y kd' nm' nb' bs' hy=>hno _ _ _ _ hy.1)
  obtain⟨W2,hW2⟩:∃ W2:World,Hid (W2=w1.alloc (.cells #[.int .i64 0,.slice none 0 0,.slice none 0 0] 157)):=⟨_,rfl⟩
  have D2:=beA hW2;have F2:=bxA hW2;have R2:=aa ((R0.o.later hB R0.o.lt).later D2.o (R0.o.later hB R0.o.lt).lt);have hB2:=D0.o.trans (hB.mono D0.o.size);have B2:=aa (hB2.trans (D2.o.mono hB2.size));clear hno hB hB2;go_upto_region 2 with fail
  rw[←hW2.o];obtain⟨r0,r1,r2⟩:=R2.o.three;have rz:=R2.o.frozen;obtain⟨f0,f1,f2⟩:=F2.o.three;go_wp2_with fail;obtain⟨t0,t1,t2⟩:=(R2.o.aG (.int .i64 0) (.slice none 0 0) (.slice none 0 0)).three;exact bodyPost_ret (v:=.tuple #[.int .i64 0,.agg #[.int .i64 0,.slice none 0 0,.slice none 0 0],.bool false]) (by simp[results,Tryz.results139,go_sem,t0,t1,t2]) rfl ⟨0,_,false,rfl,.inr ⟨rfl,rfl,rfl,HNM.o⟩,aF B2.o (FG _) _ _ _⟩
end
end Go.Proofs.YtbicgjafjjihdaaGreat
