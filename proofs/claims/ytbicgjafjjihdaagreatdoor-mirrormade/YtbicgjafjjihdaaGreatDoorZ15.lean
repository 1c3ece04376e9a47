/- Part. -/
import Derived.Test.YtbicgjafjjihdaaGreatDoorZ8
import Derived.Test.YtbicgjafjjihdaaGreatDoorZ11
import Derived.Test.YtbicgjafjjihdaaGreatDoorZ14
set_option maxHeartbeats 16000000
set_option maxRecDepth 100000
namespace Go.Proofs.YtbicgjafjjihdaaGreatDoor
open Go.RowKit
section
variable {w w':World} {n g B m:Nat} {a1 a2:Option Addr}
structure DK (B:Nat) (w:World) (a1:Option Addr) (n:Nat) (ls:List B8) (a2:Option Addr) (m:Nat) (ps:List Pt):Prop where
 bl:BL w a1 n ls
 pl:PL w a2 m ps
 b1:0<n→∀ p,a1=some p→B≤p.block
 b2:0<m→∀ p,a2=some p→B≤p.block
theorem DK.later {B:Nat} {w w':World} {a1:Option Addr} {n:Nat} {ls:List B8} {a2:Option Addr} {m:Nat} {ps:List Pt} (h:DK B w a1 n ls a2 m ps) (hb:Gq w w'):DK B w' a1 n ls a2 m ps:=⟨h.bl.later hb,h.pl.later hb,h.b1,h.b2⟩
theorem cA.dZ {a:Option Addr} {size:Nat} {xs:List Value} (h:cA w a n size xs) (hg:w.grownBy w' (some g)) (hne:0<n→∀ p,a=some p→p.block≠g):cA w' a n size xs:=by
 refine⟨h.1,h.2.1,fun hn=>?_⟩;obtain⟨b,off,ha,hlt,hc⟩:=h.2.2 hn;refine⟨b,off,ha,Gf hlt hg.size,fun j u hu=>?_⟩;exact hg.cell (a:=⟨b,off+j,none⟩) (hc j u hu) (fun e=>hne hn _ ha (Gg e))
theorem DK.grown {ls:List B8} {ps:List Pt} (h:DK B w a1 n ls a2 m ps) (hg:w.grownBy w' (some g)) (hB:g<B):DK B w' a1 n ls a2 m ps :=
 ⟨⟨h.bl.1,h.bl.2.dZ hg (fun hn p hp=>by have:=h.b1 hn p hp;omega)⟩,⟨h.pl.1,h.pl.2.dZ hg (fun hn p hp=>by have:=h.b2 hn p hp;omega)⟩,h.b1,h.b2⟩
theorem DK.low {B':Nat} {ls:List B8} {ps:List Pt} (h:DK B w a1 n ls a2 m ps) (hB:B'≤B):DK B' w a1 n ls a2 m ps:=⟨h.bl,h.pl,fun hn p hp=>Gn hB (h.b1 hn p hp),fun hn p hp=>Gn hB (h.b2 hn p hp)⟩
theorem oz (sa pa:Option Addr) (n sc m pc:Nat) (left:Int) (ls:List B8) (ps:List Pt) (w:World) (hs:BL w sa n ls) (hp:PL w pa m ps) (hn:n≤1000) (hm:m≤1000) :
 Calls Tryz.prog 97 #[.agg #[.slice sa n sc,.slice pa m pc,.int .i64 left]] w fun e w'=>∃ a1 c1 a2 c2,e=.returned (.agg #[.slice a1 n c1,.slice a2 m c2,.int .i64 left])∧Hid (DK w.heap.size w' a1 n ls a2 m ps)∧Hid (Gq w w'):=by
 obtain⟨W0,hW0⟩:∃ W0:World,Hid (W0=(w.alloc (.cells #[.slice sa n sc,.slice pa m pc,.int .i64 left] 130)).alloc (.cells #[.slice none 0 0,.slice none 0 0,.int .i64 0] 130)):=⟨_,rfl⟩
 have X0:=aa (show Bx W0 w.heap.size #[.slice sa n sc,.slice pa m pc,.int .i64 left] 130 by rw[hW0.o];exact(Bx.new w _ _).alloc _);have R0:=aa (show Bx W0 (w.heap.size+1) #[.slice none 0 0,.slice none 0 0,.int .i64 0] 130 by
  rw[hW0.o];have h:=Bx.new (w.alloc (.cells #[.slice sa n sc,.slice pa m pc,.int .i64 left] 130)) #[.slice none 0 0,.slice none 0 0,.int .i64 0] 130;rw[World.size_alloc] at h;exact h)
 have D0:=aa (show Gq w W0 by rw[hW0.o];exact(af _ _).alloc (by simp) _);have S0:=aa (show W0.heap.size=w.heap.size+2 by rw[hW0.o];simp);have HS:=aa (hs.later D0.o);have HP:=aa (hp.later D0.o);have HL:=aa hs.1;have HM:=aa hp.1;clear hs hp;go_enter Tryz.func97,Tryz.ntmps97;change aB Tryz.f97 _ 0 _ w;refine aj rfl ?_;intro K hK;go_wp2_with fail;rw[←hW0.o];refine Met.intro (aL (c:=.seq _ .ret) rfl ?_);try clear hK
 try clear K
 obtain⟨x0,x1,x2⟩:=X0.o.three;have hrg:¬w.heap.size+1=w.heap.size:=by omega
 go_upto_region 1 with fail
 go_region_held3 (fun w'=>w'.cell? ⟨w.heap.size,0,none⟩=some (.slice sa n sc)∧w'.cell? ⟨w.heap.size,1,none⟩=some (.slice pa m pc)∧w'.cell? ⟨w.heap.size,2,none⟩=some (.int .i64 left))
  (first
    | with_reducible exact ⟨x0, x1, x2⟩
    |(simp only[an];with_reducible exact⟨x0,x1,x2⟩)
    | with_reducible exact ⟨y0, y1, y2⟩
    | with_reducible exact ⟨z0, z1, z2⟩
    |(simp only[aw hrg];with_reducible exact⟨z0,z1,z2⟩))
  (first
    |(go_at_call 95;(with_reducible refine(iv sa n sc ls W0.drew (HS.o.later (Below.refl _ _).drew) (by omega)).mono ?_);rintro e w1 ⟨v1,rfl,O1,D1⟩;have E1:=aa (show Gq W0 w1 from(Below.refl _ _).drew.trans D1);obtain⟨a1,c1,hv1,hb1,hp1⟩:=O1.bl;rw[HL.o] at hv1 hb1;subst hv1;have HB1:=aa hb1;have HP1:=aa hp1;obtain⟨y0,y1,y2⟩:=(X0.o.later E1.o X0.o.lt).three;clear O1 D1 hb1 hp1)
    |(go_at_call 72;(with_reducible refine(kp pa m pc ps w1 (HP.o.later E1.o) (by omega)).mono ?_);rintro e w2 ⟨v2,rfl,O2,D2⟩;have E2:=aa (E1.o.trans (D2.mono E1.o.size));have HB2:=aa (HB1.o.later D2);obtain⟨a2,c2,hv2,hb2,hp2⟩:=O2.pl;rw[HM.o] at hv2 hb2;subst hv2;have HB3:=aa hb2;have HP2:=aa hp2;obtain⟨z0,z1,z2⟩:=(X0.o.later E2.o X0.o.lt).three;have R2:=aa (R0.o.later E2.o R0.o.lt);obtain⟨r0,r1,r2⟩:=R2.o.three;have rz:=R2.o.frozen;have hs1:W0.heap.size≤w1.heap.size:=E1.o.size;clear O2 D2 hb2 hp2))
 all_goals
  go_wp2_with fail;have KF:=aa (show DK w.heap.size w2 a1 n ls a2 m ps from⟨HB2.o,HB3.o,fun _ p hp=>by have h1:=HP1.o p hp;have h2:=S0.o;have h3:W0.heap.size≤p.block:=h1;omega,fun _ p hp=>by have h1:=HP2.o p hp;have h2:=S0.o;omega⟩);have KH:=aa (show DK (w.heap.size+2) w2 a1 n ls a2 m ps from⟨HB2.o,HB3.o,fun _ p hp=>by have h1:=HP1.o p hp;have h2:=S0.o;have h3:W0.heap.size≤p.block:=h1;omega,fun _ p hp=>by have h1:=HP2.o p hp;have h2:=S0.o;omega⟩);have BF:=aa (aF (D0.o.trans (E2.o.mono D0.o.size)) (show w.heap.size≤w.heap.size+1 by omega) (.slice a1 n c1) (.slice a2 m c2) (.int .i64 left));obtain⟨t0,t1,t2⟩:=(R2.o.aH (.slice a1 n c1) (.slice a2 m c2) (.int .i64 left)).three;exact bodyPost_ret (v:=.agg #[.slice a1 n c1,.slice a2 m c2,.int .i64 left]) (by simp[results,Tryz.results97,go_sem,t0,t1,t2]) rfl ⟨a1,c1,a2,c2,rfl,(KH.o.grown (bp (aq w2 (some (w.heap.size+1))) (.slice a1 n c1) (.slice a2 m c2) (.int .i64 left)) (by omega)).low (by omega),BF.o⟩
end
namespace Mx
def rC (a b:Int):Nat→B8
 | 0 => ⟨0, 0, 0, 0, 0, 0, 0, 0⟩
 | 1 => ⟨(a / 16777216), 0, 0, 0, (b / 16777216), 0, 0, 0⟩
 | 2 => ⟨(a / 16777216), (a / 65536 % 256), 0, 0, (b / 16777216), (b / 65536 % 256), 0, 0⟩
 | 3 => ⟨(a / 16777216), (a / 65536 % 256), (a / 256 % 256), 0, (b / 16777216), (b / 65536 % 256), (b / 256 % 256), 0⟩
 | _ => dK a b
end Mx
theorem Bx.bC {w:World} {g:Nat} {a0 a1 a2 a3 a4 a5 a6 a7:Value} {t:TypeId} (h:Bx w g #[a0,a1,a2,a3,a4,a5,a6,a7] t):w.cell? ⟨g,0,none⟩=some a0∧w.cell? ⟨g,1,none⟩=some a1∧w.cell? ⟨g,2,none⟩=some a2∧w.cell? ⟨g,3,none⟩=some a3∧w.cell? ⟨g,4,none⟩=some a4∧w.cell? ⟨g,5,none⟩=some a5∧w.cell? ⟨g,6,none⟩=some a6∧w.cell? ⟨g,7,none⟩=some a7 :=
 ⟨h.cell 0,h.cell 1,h.cell 2,h.cell 3,h.cell 4,h.cell 5,h.cell 6,h.cell 7⟩
def B8.rv (x:B8):Array Value:=#[.int .u8 x.z0,.int .u8 x.z1,.int .u8 x.z2,.int .u8 x.z3,.int .u8 x.z4,.int .u8 x.z5,.int .u8 x.z6,.int .u8 x.z7]
theorem oj (a b:Int) (w:World) (ha0:0≤a) (ha1:a≤2147483647) (hb0:0≤b) (hb1:b≤2147483647) (x:B8) (hx:x=Mx.dK a b) :
 Calls Tryz.prog 79 #[.int .i64 a,.int .i64 b] w fun e w'=>e=.returned (.agg #[.int .u8 x.z0,.int .u8 x.z1,.int .u8 x.z2,.int .u8 x.z3,.int .u8 x.z4,.int .u8 x.z5,.int .u8 x.z6,.int .u8 x.z7])∧Gq w w':=by
 obtain⟨W0,hW0⟩:∃ W0:World,Hid (W0=(w.alloc (.cells #[.int .u8 0,.int .u8 0,.int .u8 0,.int .u8 0,.int .u8 0,.int .u8 0,.int .u8 0,.int .u8 0] 33)).alloc (.cells #[.int .u8 0,.int .u8 0,.int .u8 0,.int .u8 0,.int .u8 0,.int .u8 0,.int .u8 0,.int .u8 0] 33)):=⟨_,rfl⟩
 have X0:=aa (show Gr W0 w.heap.size by rw[hW0.o];exact(Bx.new w _ _).alloc _);have R0:=aa (show Gr W0 (w.heap.size+1) by
  rw[hW0.o];have h:=Bx.new (w.alloc (.cells #[.int .u8 0,.int .u8 0,.int .u8 0,.int .u8 0,.int .u8 0,.int .u8 0,.int .u8 0,.int .u8 0] 33)) #[.int .u8 0,.int .u8 0,.int .u8 0,.int .u8 0,.int .u8 0,.int .u8 0,.int .u8 0,.int .u8 0] 33;rw[World.size_alloc] at h;exact h)
 have D0:=aa (show Gq w W0 by rw[hW0.o];exact(af _ _).alloc (by simp) _);go_enter Tryz.func79,Tryz.ntmps79;change aB Tryz.f79 _ 0 _ w;refine aj rfl ?_;intro K hK;go_wp2_with fail;refine Met.intro (aj rfl ?_);try clear hK K
 intro K hK;go_wp2_with fail;rw[←hW0.o];refine Met.intro (aj rfl ?_);try clear hK K
 intro K hK;go_wp2_with fail;go_loopw [8] (fun t wr=>∃ k:Nat,k≤4∧t=.int .i64 (k:Int)∧Hid (Gr wr w.heap.size)∧Hid (Bx wr (w.heap.size+1) (Mx.rC a b k).rv 33)∧Hid (Gq w wr)) (fun t _=>4-(intOf t).toNat)
 case atStart=>exact⟨0,by omega,rfl,X0,R0,D0⟩
 case round =>
  obtain⟨k,hk,rfl,hX,hR,hD⟩:=hrel
  match k,hk with
  | 0, _ =>
   have hR':Gr wr (w.heap.size+1):=hR.o;have HR:=aa hR';clear hR';obtain⟨r0,r1,r2,r3,r4,r5,r6,r7⟩:=Bx.bC HR.o;have rz:=HR.o.frozen;rw[show((0:Nat):Int)=0 from rfl];go_upto_region 6 with fail
   go_region
   all_goals
    obtain⟨W5,hW5⟩:∃ W5:World,Hid (W5=((wr.setCell ⟨w.heap.size+1,0,none⟩ (.int .u8 (a/16777216))).setCell ⟨w.heap.size+1,4,none⟩ (.int .u8 (b/16777216))).drew):=⟨_,rfl⟩
    have R5:=aa (show Bx W5 (w.heap.size+1) (Mx.rC a b (0+1)).rv 33 by rw[hW5.o];exact(HR.o.set 0 _).set 4 _);have X5:=aa (show Gr W5 w.heap.size by rw[hW5.o];exact(hX.o.other _ _ (by simp)).other _ _ (by simp));have D5:=aa (show Gq w W5 by rw[hW5.o];exact((hD.o.setCell (p:=⟨w.heap.size+1,0,none⟩) (by simp) _).setCell (p:=⟨w.heap.size+1,4,none⟩) (by simp) _).drew);rw[←hW5.o];clear r0 r1 r2 r3 r4 r5 r6 r7 rz;go_wp2_with fail;go_roundw
    case rel=>exact⟨0+1,by omega,rfl,X5,R5,D5⟩
    case measure=>simp[intOf]
  | 1, _ =>
   have hR':Bx wr (w.heap.size+1) #[.int .u8 (a/16777216),.int .u8 0,.int .u8 0,.int .u8 0,.int .u8 (b/16777216),.int .u8 0,.int .u8 0,.int .u8 0] 33:=hR.o;have HR:=aa hR';clear hR';obtain⟨r0,r1,r2,r3,r4,r5,r6,r7⟩:=Bx.bC HR.o;have rz:=HR.o.frozen;rw[show((1:Nat):Int)=1 from rfl];go_upto_region 6 with fail
   go_region
   all_goals
    obtain⟨W5,hW5⟩:∃ W5:World,Hid (W5=((wr.setCell ⟨w.heap.size+1,1,none⟩ (.int .u8 (a/65536%256))).setCell ⟨w.heap.size+1,5,none⟩ (.int .u8 (b/65536%256))).drew):=⟨_,rfl⟩
    have R5:=aa (show Bx W5 (w.heap.size+1) (Mx.rC a b (1+1)).rv 33 by rw[hW5.o];exact(HR.o.set 1 _).set 5 _);have X5:=aa (show Gr W5 w.heap.size by rw[hW5.o];exact(hX.o.other _ _ (by simp)).other _ _ (by simp));have D5:=aa (show Gq w W5 by rw[hW5.o];exact((hD.o.setCell (p:=⟨w.heap.size+1,1,none⟩) (by simp) _).setCell (p:=⟨w.heap.size+1,5,none⟩) (by simp) _).drew);rw[←hW5.o];clear r0 r1 r2 r3 r4 r5 r6 r7 rz;go_wp2_with fail;go_roundw
    case rel=>exact⟨1+1,by omega,rfl,X5,R5,D5⟩
    case measure=>simp[intOf]
  | 2, _ =>
   have hR':Bx wr (w.heap.size+1) #[.int .u8 (a/16777216),.int .u8 (a/65536%256),.int .u8 0,.int .u8 0,.int .u8 (b/16777216),.int .u8 (b/65536%256),.int .u8 0,.int .u8 0] 33:=hR.o;have HR:=aa hR';clear hR';obtain⟨r0,r1,r2,r3,r4,r5,r6,r7⟩:=Bx.bC HR.o;have rz:=HR.o.frozen;rw[show((2:Nat):Int)=2 from rfl];go_upto_region 6 with fail
   go_region
   all_goals
    obtain⟨W5,hW5⟩:∃ W5:World,Hid (W5=((wr.setCell ⟨w.heap.size+1,2,none⟩ (.int .u8 (a/256%256))).setCell ⟨w.heap.size+1,6,none⟩ (.int .u8 (b/256%256))).drew):=⟨_,rfl⟩
    have R5:=aa (show Bx W5 (w.heap.size+1) (Mx.rC a b (2+1)).rv 33 by rw[hW5.o];exact(HR.o.set 2 _).set 6 _);have X5:=aa (show Gr W5 w.heap.size by rw[hW5.o];exact(hX.o.other _ _ (by simp)).other _ _ (by simp));have D5:=aa (show Gq w W5 by rw[hW5.o];exact((hD.o.setCell (p:=⟨w.heap.size+1,2,none⟩) (by simp) _).setCell (p:=⟨w.heap.size+1,6,none⟩) (by simp) _).drew);rw[←hW5.o];clear r0 r1 r2 r3 r4 r5 r6 r7 rz;go_wp2_with fail;go_roundw
    case rel=>exact⟨2+1,by omega,rfl,X5,R5,D5⟩
    case measure=>simp[intOf]
  | 3, _ =>
   have hR':Bx wr (w.heap.size+1) #[.int .u8 (a/16777216),.int .u8 (a/65536%256),.int .u8 (a/256%256),.int .u8 0,.int .u8 (b/16777216),.int .u8 (b/65536%256),.int .u8 (b/256%256),.int .u8 0] 33:=hR.o;have HR:=aa hR';clear hR';obtain⟨r0,r1,r2,r3,r4,r5,r6,r7⟩:=Bx.bC HR.o;have rz:=HR.o.frozen;rw[show((3:Nat):Int)=3 from rfl];go_upto_region 6 with fail
   go_region
   all_goals
    obtain⟨W5,hW5⟩:∃ W5:World,Hid (W5=((wr.setCell ⟨w.heap.size+1,3,none⟩ (.int .u8 (a%256))).setCell ⟨w.heap.size+1,7,none⟩ (.int .u8 (b%256))).drew):=⟨_,rfl⟩
    have R5:=aa (show Bx W5 (w.heap.size+1) (Mx.rC a b (3+1)).rv 33 by rw[hW5.o];exact(HR.o.set 3 _).set 7 _);have X5:=aa (show Gr W5 w.heap.size by rw[hW5.o];exact(hX.o.other _ _ (by simp)).other _ _ (by simp));have D5:=aa (show Gq w W5 by rw[hW5.o];exact((hD.o.setCell (p:=⟨w.heap.size+1,3,none⟩) (by simp) _).setCell (p:=⟨w.heap.size+1,7,none⟩) (by simp) _).drew);rw[←hW5.o];clear r0 r1 r2 r3 r4 r5 r6 r7 rz;go_wp2_with fail;go_roundw
    case rel=>exact⟨3+1,by omega,rfl,X5,R5,D5⟩
    case measure=>simp[intOf]
  | 4, _ =>
   have hR':Bx wr (w.heap.size+1) #[.int .u8 (a/16777216),.int .u8 (a/65536%256),.int .u8 (a/256%256),.int .u8 (a%256),.int .u8 (b/16777216),.int .u8 (b/65536%256),.int .u8 (b/256%256),.int .u8 (b%256)] 33:=hR.o;have HR:=aa hR';clear hR';rw[show((4:Nat):Int)=4 from rfl];obtain⟨r0,r1,r2,r3,r4,r5,r6,r7⟩:=Bx.bC HR.o;obtain⟨x0,x1,x2,x3,x4,x5,x6,x7⟩:=Bx.bC hX.o;have xz:=hX.o.frozen;go_wp2_with fail;refine Met.intro (aL (c:=.seq _ .ret) rfl ?_);try clear hK
   try clear K
   subst hx;go_wp2_with fail;obtain⟨W6,hW6⟩:∃ W6:World,Hid (W6=aR wr w.heap.size 0 (Mx.dK a b)):=⟨_,rfl⟩
   have XF:=aa (show Bx W6 w.heap.size #[.int .u8 (a/16777216),.int .u8 (a/65536%256),.int .u8 (a/256%256),.int .u8 (a%256),.int .u8 (b/16777216),.int .u8 (b/65536%256),.int .u8 (b/256%256),.int .u8 (b%256)] 33 by rw[hW6.o];exact eg hX.o (Mx.dK a b));have BF:=aa (show Gq w W6 by rw[hW6.o];exact bP hD.o (Gi _) _ _);unfold aR Mx.dK at hW6;simp only[Nat.zero_add] at hW6;rw[←hW6.o];obtain⟨t0,t1,t2,t3,t4,t5,t6,t7⟩:=Bx.bC XF.o;exact bodyPost_ret (v:=.agg #[.int .u8 (a/16777216),.int .u8 (a/65536%256),.int .u8 (a/256%256),.int .u8 (a%256),.int .u8 (b/16777216),.int .u8 (b/65536%256),.int .u8 (b/256%256),.int .u8 (b%256)]) (by simp[results,Tryz.results79,go_sem,t0,t1,t2,t3,t4,t5,t6,t7]) rfl ⟨rfl,BF.o⟩
theorem yp (n:Nat) (w:World) (h0:1≤n) (h1:n≤32) :
 Calls Tryz.prog 65 #[.int .i64 (n:Int)] w fun e w'=>∃ a c,e=.returned (.tuple #[.agg #[.slice a (Mx.sz n) c,.slice none 0 0,.int .i64 (-1)],.nilIface])∧Hid (BL w' a (Mx.sz n) (List.replicate (Mx.sz n) zB))∧Hid (Gq w w'):=by
 have hz:Mx.sz n≤67∧1≤Mx.sz n:=by unfold Mx.sz;omega
 obtain⟨N,hN⟩:∃ N:Nat,Hid (N=Mx.sz n):=⟨_,rfl⟩
 rw[←hN.o] at hz ⊢;obtain⟨hz1,hz2⟩:=hz;obtain⟨W0,hW0⟩:∃ W0:World,Hid (W0=w.alloc (.cells #[.slice none 0 0,.slice none 0 0,.int .i64 0] 130)):=⟨_,rfl⟩
 have X0:=bxA hW0;have D0:=beA hW0;go_enter Tryz.func65,Tryz.ntmps65;go_wp2_with fail;rw[←hW0.o];refine(uT n W0 h0 h1).mono ?_;rintro e wz ⟨rfl,hz⟩;obtain rfl:=hz.symm;clear hz;rw[←hN.o];go_wp2_with fail;refine(Dj N W0 (by omega) (by omega)).mono ?_;rintro e w2 ⟨a,c,rfl,hb,hpa,hB⟩;have X2:=aa (X0.o.later hB.o X0.o.lt);have B2:=aa (D0.o.trans (hB.o.mono D0.o.size));obtain⟨x0,x1,x2⟩:=X2.o.three;have xz:=X2.o.frozen;go_wp2_with fail;obtain⟨t0,t1,t2⟩:=(X2.o.aH (.slice a N c) (.slice none 0 0) (.int .i64 (-1))).three;have BF:=aa (aF B2.o (Gi _) (.slice a N c) (.slice none 0 0) (.int .i64 (-1)));have GF:=aa (bp (aq w2 (some w.heap.size)) (.slice a N c) (.slice none 0 0) (.int .i64 (-1)));exact bodyPost_ret (v:=.tuple #[.agg #[.slice a N c,.slice none 0 0,.int .i64 (-1)],.nilIface]) (by simp[results,Tryz.results65,go_sem,t0,t1,t2]) rfl ⟨a,c,rfl,⟨hb.o.1,hb.o.2.dZ GF.o (fun hn p hp=>by have h1:=hpa.o p hp;have h2:=X0.o.lt;omega)⟩,BF.o⟩
structure StW (w:World) (g n h:Nat) (ls:List B8) (ps:List Pt) (left:Int) (sa:Option Addr) (sc:Nat) (pa:Option Addr) (pn pc:Nat):Prop where
 bx:Sbx w g n h sa (Mx.sz n) sc pa pn pc left
 bl:BL w sa (Mx.sz n) ls
 pl:PL w pa pn ps
 a1:0<Mx.sz n→∀ p,sa=some p→p.block≠g
 a2:0<pn→∀ p,pa=some p→p.block≠g
 n1:1≤n
 n2:n≤32
 h1:h≤1
 l1:-9223372036854775808≤left
 l2:left≤9223372036854775807
theorem StW.later {w w':World} {g n h:Nat} {ls:List B8} {ps:List Pt} {left:Int} {sa:Option Addr} {sc:Nat} {pa:Option Addr} {pn pc:Nat} (hs:StW w g n h ls ps left sa sc pa pn pc) (hb:Gq w w'):StW w' g n h ls ps left sa sc pa pn pc :=
 {hs with bx:=Bx.later hs.bx hb (Bx.lt hs.bx),bl:=hs.bl.later hb,pl:=hs.pl.later hb}
theorem Mx.lU {n:Nat} (h:n≤32):Mx.cC (Mx.sz n) []=0:=Mx.oH (by unfold Mx.sz;simp;omega) (fun k p hk=>by simp at hk)
theorem Ds (sa pa:Option Addr) (n sc m pc:Nat) (left:Int) (k:Nat) (ls:List B8) (ps:List Pt) (w:World) (hs:BL w sa n ls) (hp:PL w pa m ps) (hk0:1≤k) (hk1:k≤32) (hn:n=Mx.sz k) (hm:Mx.cC n ps=0) (hm0:m=0) (hl0:left≠0) (hl1:-9223372036854775808≤left) (hl2:left≤9223372036854775807) (x:B8) (hx:x=ls.getD 0 zB) (h:Nat) (hz:x.z0%2=(h:Int)) (hz0:0≤x.z0) :
 Calls Tryz.prog 98 #[.agg #[.slice sa n sc,.slice pa m pc,.int .i64 left],.int .i64 (k:Int)] w fun e w'=>∃ g a1 c1 a2 c2,e=.returned (.tuple #[.pointer (some ⟨g,0,none⟩),.nilIface])∧Hid (w.heap.size≤g)∧Hid (StW w' g k h ls [] left a1 c1 a2 0 c2)∧Hid (Gq w w'):=by
 have HR4:=aa (show Mx.iy n ps left 0=0 by
  have hz:Mx.bR n ps 0=0:=by unfold Mx.bR;rw[if_pos hm,if_pos (by rw[hn];unfold Mx.sz;omega)]
  unfold Mx.iy;rw[if_pos hz,if_neg hl0])
 have HPS:=aa (show ps=[] from List.eq_nil_of_length_eq_zero (by rw[hp.1,hm0]));have HRX:=aa (show x=Mx.dC ls ps 0 by rw[HPS.o,Mx.jx];exact hx);have d2:decide ((0:Int)<m)=false:=by rw[hm0];simp
 have d2n:decide (0<m)=false:=by rw[hm0];simp
 have HM2:=aa hm0;have HL0:=aa hl0;have hh:(h:Int)≤1:=by omega
 have HZ:=aa hz;have hn1000:n≤1000:=by rw[hn];unfold Mx.sz;omega
 have hm1000:m≤1000:=by rw[hm0];omega
 have HMM:=aa hm;have HNN:=aa hn;clear hm0 hl0 hx hm hn hz;obtain⟨W0,hW0⟩:∃ W0:World,Hid (W0=w.alloc (.cells #[.slice sa n sc,.slice pa m pc,.int .i64 left] 130)):=⟨_,rfl⟩
 have X0:=bxA hW0;have D0:=beA hW0;have HS:=aa (hs.later D0.o);have HP:=aa (hp.later D0.o);have HPL:=aa hp.1;clear hs hp;go_enter Tryz.func98,Tryz.ntmps98;change aB Tryz.f98 _ 0 _ w;refine aj rfl ?_;intro K hK;go_wp2_with fail;rw[←hW0.o];refine Met.intro (aj rfl ?_);try clear hK K
 intro K hK;go_wp2_with fail;refine(uT k W0 hk0 hk1).mono ?_;rintro e wz ⟨rfl,hz⟩;obtain rfl:=hz.symm;clear hz;obtain⟨N,hN⟩:∃ N:Nat,Hid (N=Mx.sz k):=⟨_,rfl⟩
 rw[←hN.o];go_wp2_with fail;refine Met.intro (aj rfl ?_);try clear hK K
 intro K hK;go_wp2_with fail;refine Met.intro (aj rfl ?_);try clear hK K
 intro K hK;obtain⟨x0,x1,x2⟩:=X0.o.three;go_wp2_with fail;refine(gm sa pa n sc m pc left ps W0 HP.o HS.o.2.2.1).mono ?_;rintro e w1 ⟨rfl,D1⟩;have X1:=aa (X0.o.later D1 X0.o.lt);have B1:=aa (D0.o.trans (D1.mono D0.o.size));have HS1:=aa (HS.o.later D1);have HP1:=aa (HP.o.later D1);clear x0 x1 x2 D1;obtain⟨x0,x1,x2⟩:=X1.o.three;rw[HMM.o,aG];have d1:((n:Int) != N)=false:=by rw[hN.o,HNN.o];simp
 have d1n:(n != N)=false:=by rw[hN.o,HNN.o];simp
 go_wp2_with fail;refine Met.intro (aj rfl ?_);try clear hK K
 intro K hK;go_wp2_with fail;refine(kK sa pa n sc m pc left 0 ls ps w1 HS1.o HP1.o HR4.o x HRX.o).mono ?_;rintro e w2 ⟨rfl,D2⟩;obtain⟨W3,hW3⟩:∃ W3:World,Hid (W3=w2.alloc (.cells #[.int .u8 x.z0,.int .u8 x.z1,.int .u8 x.z2,.int .u8 x.z3,.int .u8 x.z4,.int .u8 x.z5,.int .u8 x.z6,.int .u8 x.z7] 33)):=⟨_,rfl⟩
 have D3:=beA hW3;have Y3:=bxA hW3;have D13:=aa (D2.trans (D3.o.mono D2.size));have X3:=aa (X1.o.later D13.o X1.o.lt);have B3:=aa (B1.o.trans (D13.o.mono B1.o.size));have HS3:=aa (HS1.o.later D13.o);have HP3:=aa (HP1.o.later D13.o);clear x0 x1 x2 D2;go_wp2_with fail;rw[←hW3.o];refine Met.intro (aj rfl ?_);try clear hK K
 intro K hK;go_wp2_with fail;refine Met.intro (aL (c:=.seq _ .ret) rfl ?_);try clear hK
 try clear K
 obtain⟨x0,x1,x2⟩:=X3.o.three;have y0:=(Bx.bC Y3.o).1;have htm:x.z0.tmod 2=(h:Int):=by rw[Int.tmod_eq_emod_of_nonneg hz0];exact HZ.o
 have hwh:IntKind.i64.wrap (h:Int)=(h:Int):=by rw[IntWalk.i64_left,IntWalk.wrap64_in _ (by omega)]
 go_upto_region 9 with fail
 go_region_held3 (fun w'=>w'.cell? ⟨w.heap.size,0,none⟩=some (.slice sa n sc)∧w'.cell? ⟨w.heap.size,1,none⟩=some (.slice pa m pc)∧w'.cell? ⟨w.heap.size,2,none⟩=some (.int .i64 left)∧w'.cell? ⟨w2.heap.size,0,none⟩=some (.int .u8 x.z0))
  (first
    | with_reducible exact ⟨x0, x1, x2, y0⟩
    |(simp only[an];with_reducible exact⟨x0,x1,x2,y0⟩)
    | with_reducible exact ⟨z0, z1, z2, u0⟩
    |(simp only[ao hlx,ao hly];with_reducible exact⟨z0,z1,z2,u0⟩))
  (first
    |(go_at_call 97;(with_reducible refine(oz sa pa n sc m pc left ls ps W3.drew (HS3.o.later (Below.refl _ _).drew) (HP3.o.later (Below.refl _ _).drew) hn1000 hm1000).mono ?_);rintro e w4 ⟨a1,c1,a2,c2,rfl,K4,E4⟩;have D4:=aa (show Gq W3 w4 from(Below.refl _ _).drew.trans E4.o);obtain⟨z0,z1,z2⟩:=(X3.o.later D4.o X3.o.lt).three;have u0:=(Bx.bC (Y3.o.later D4.o Y3.o.lt)).1;have hlx:=(X3.o.later D4.o X3.o.lt).lt;have hly:=(Y3.o.later D4.o Y3.o.lt).lt))
 all_goals
  obtain⟨W5,hW5⟩:∃ W5:World,Hid (W5=w4.alloc (.cells #[.int .i64 (k:Int),.int .i64 (h:Int),.slice a1 n c1,.slice a2 m c2,.int .i64 left] 137)):=⟨_,rfl⟩
  have D5:=beA hW5;have S5:=bxA hW5;have D45:=aa (D4.o.trans (D5.o.mono D4.o.size));have B5:=aa (B3.o.trans (D45.o.mono B3.o.size));have K5:=aa (K4.o.later D5.o);have hw4:w.heap.size≤w4.heap.size:=Gn B3.o.size D4.o.size;have hlt1:0<n→∀ p,a1=some p→p.block<w4.heap.size:=fun hn p hp=>by
   obtain⟨b,off,ha,hlt,_⟩:=K4.o.bl.2.2.2 hn;rw[ha] at hp;cases hp
   exact hlt
  have ST:=aa (show StW W5 w4.heap.size k h ls [] left a1 c1 a2 0 c2 by
   have hn9:=HNN.o;have hm9:=HM2.o;have hp9:=HPS.o;subst hm9 hp9;refine⟨?_,?_,K5.o.pl,fun hn p hp=>?_,fun hn=>absurd hn (by omega),hk0,hk1,by omega,hl1,hl2⟩
   ·unfold Sbx
    rw[←hn9];exact S5.o
   ·rw[←hn9]
    exact K5.o.bl
   ·have h1:=hlt1 (by rw[hn9];exact hn) p hp
    omega)
  rw[←hW5.o];clear x0 x1 x2 y0 z0 z1 z2 u0;go_wp2_with fail;go_ret2
  exact⟨w4.heap.size,a1,c1,a2,c2,rfl,hw4,ST,B5⟩
section
variable {w:World} {g n:Nat} {t:TypeId}
theorem Bx.vF {cs:Array Value} (h:Bx w g cs t):Bx w.drew g cs t:=h
def Mx.by8 (x:B8):Prop:=(0≤x.z0∧x.z0≤255)∧(0≤x.z1∧x.z1≤255)∧(0≤x.z2∧x.z2≤255)∧(0≤x.z3∧x.z3≤255)∧(0≤x.z4∧x.z4≤255)∧(0≤x.z5∧x.z5≤255)∧(0≤x.z6∧x.z6≤255)∧(0≤x.z7∧x.z7≤255)
theorem BL.max {a:Option Addr} {l:List B8} (h:BL w a n l):n≤maxLen:=by
 unfold BL cA at h;exact h.2.2.1
theorem Bx.lo4 {x:B8} (h:Bx w g #[.int .u8 x.z0,.int .u8 x.z1,.int .u8 x.z2,.int .u8 x.z3,.int .u8 x.z4,.int .u8 x.z5,.int .u8 x.z6,.int .u8 x.z7] t) (hx:Mx.by8 x):Bytes w (some ⟨g,0,none⟩) 4 [x.z0,x.z1,x.z2,x.z3]:=by
 obtain⟨e0,e1,e2,e3,_,_,_,_⟩:=Bx.bC h;refine⟨rfl,by unfold maxLen;omega,?_,fun _=>⟨g,0,rfl,fun i hi=>?_⟩⟩
 ·unfold Mx.by8 at hx
  intro y hy;simp only[List.mem_cons,List.not_mem_nil,or_false] at hy;rcases hy with rfl|rfl|rfl|rfl<;>omega
 ·match i,hi with
  | 0, _ => exact e0
  | 1, _ => exact e1
  | 2, _ => exact e2
  | 3, _ => exact e3
theorem Bx.hi4 {x:B8} (h:Bx w g #[.int .u8 x.z0,.int .u8 x.z1,.int .u8 x.z2,.int .u8 x.z3,.int .u8 x.z4,.int .u8 x.z5,.int .u8 x.z6,.int .u8 x.z7] t) (hx:Mx.by8 x):Bytes w (some ⟨g,4,none⟩) 4 [x.z4,x.z5,x.z6,x.z7]:=by
 obtain⟨_,_,_,_,e4,e5,e6,e7⟩:=Bx.bC h;refine⟨rfl,by unfold maxLen;omega,?_,fun _=>⟨g,4,rfl,fun i hi=>?_⟩⟩
 ·unfold Mx.by8 at hx
  intro y hy;simp only[List.mem_cons,List.not_mem_nil,or_false] at hy;rcases hy with rfl|rfl|rfl|rfl<;>omega
 ·match i,hi with
  | 0, _ => exact e4
  | 1, _ => exact e5
  | 2, _ => exact e6
  | 3, _ => exact e7
theorem StW.bR {w:World} {g n h:Nat} {ls:List B8} {ps:List Pt} {left:Int} {sa:Option Addr} {sc:Nat} {pa:Option Addr} {pn pc:Nat} (hs:StW w g n h ls ps left sa sc pa pn pc) (hps:ps=[]) {k:Nat} (hk:k<Mx.sz n):Mx.bR (Mx.sz n) ps (k:Int)=0:=by
 have h0:Mx.cC (Mx.sz n) ps=0:=by rw[hps];exact Mx.lU hs.n2
 unfold Mx.bR;rw[if_pos h0,if_pos (by omega)]
theorem StW.iy {w:World} {g n h:Nat} {ls:List B8} {ps:List Pt} {left:Int} {sa:Option Addr} {sc:Nat} {pa:Option Addr} {pn pc:Nat} (hs:StW w g n h ls ps left sa sc pa pn pc) (hps:ps=[]) (hl:left≠0) {k:Nat} (hk:k<Mx.sz n):Mx.iy (Mx.sz n) ps left (k:Int)=0:=by
 unfold Mx.iy;rw[if_pos (hs.bR hps hk),if_neg hl]
theorem Cc (g n h:Nat) (ls:List B8) (ps:List Pt) (left:Int) (sa:Option Addr) (sc:Nat) (pa:Option Addr) (pn pc:Nat) (w:World) (hs:StW w g n h ls ps left sa sc pa pn pc) (at_:Int) (ho:at_<0∨(n:Int)≤at_) :
 Calls Tryz.prog 42 #[.pointer (some ⟨g,0,none⟩),.int .i64 at_] w fun e w'=>e=.returned (.tuple #[.agg #[.int .u8 0,.int .u8 0,.int .u8 0,.int .u8 0,.int .u8 0,.int .u8 0,.int .u8 0,.int .u8 0],.iface 28 (.int .i64 1)])∧Gq w w':=by
 have HO:=aa ho;clear ho;have HH:=aa hs;obtain⟨W0,hW0⟩:∃ W0:World,Hid (W0=w.alloc (.cells #[.int .u8 0,.int .u8 0,.int .u8 0,.int .u8 0,.int .u8 0,.int .u8 0,.int .u8 0,.int .u8 0] 33)):=⟨_,rfl⟩
 have X0:=bxA hW0;have D0:=beA hW0;have H0:=aa (HH.o.later D0.o);have hn1:=hs.n1;have hn2:=hs.n2;have hh1:=hs.h1;obtain⟨N,hN⟩:∃ N:Nat,Hid (N=Mx.sz n):=⟨_,rfl⟩
 have hgw:g<w.heap.size:=Bx.lt hs.bx;clear hs;go_enter Tryz.func42,Tryz.ntmps42;change aB Tryz.f42 _ 0 _ w;refine aj rfl ?_;intro K hK;go_wp2_with fail;rw[←hW0.o];refine Met.intro (aj rfl ?_);try clear hK K
 intro K hK;obtain⟨x0,x1,x2,x3,x4⟩:=H0.o.bx.cells;go_wp2_with fail;refine(fp g n W0 x0 hn1).mono ?_;rintro e wz ⟨rfl,hz⟩;obtain rfl:=hz.symm;clear hz;go_wp2_with fail;refine Met.intro (aj rfl ?_);try clear hK K
 intro K hK;go_wp2_with fail;refine(mX g n at_ W0 x0).mono ?_;rintro e wz ⟨rfl,hz⟩;obtain rfl:=hz.symm;clear hz;have HI:=aa (show Mx.inside n at_=false by have:=HO.o;unfold Mx.inside;simp;omega);rw[HI.o];obtain⟨t0,t1,t2,t3,t4,t5,t6,t7⟩:=Bx.bC X0.o;have tz:=X0.o.frozen;go_wp2_with fail;obtain⟨W6,hW6⟩:∃ W6:World,Hid (W6=aR W0 w.heap.size 0 zB):=⟨_,rfl⟩
 have XF:=aa (show Gr W6 w.heap.size by rw[hW6.o];exact eg X0.o zB);have BF:=aa (show Gq w W6 by rw[hW6.o];exact bP D0.o (Gi _) _ _);unfold aR zB at hW6;simp only[Nat.zero_add] at hW6;rw[←hW6.o];clear t0 t1 t2 t3 t4 t5 t6 t7;obtain⟨t0,t1,t2,t3,t4,t5,t6,t7⟩:=Bx.bC XF.o;exact bodyPost_ret (v:=.tuple #[.agg #[.int .u8 0,.int .u8 0,.int .u8 0,.int .u8 0,.int .u8 0,.int .u8 0,.int .u8 0,.int .u8 0],.iface 28 (.int .i64 1)]) (by simp[results,Tryz.results42,go_sem,t0,t1,t2,t3,t4,t5,t6,t7]) rfl ⟨rfl,BF.o⟩
theorem vg (g n h:Nat) (ls:List B8) (ps:List Pt) (left:Int) (sa:Option Addr) (sc:Nat) (pa:Option Addr) (pn pc:Nat) (w:World) (hs:StW w g n h ls ps left sa sc pa pn pc) (hps:ps=[]) (hl:left≠0) (i:Nat) (hi:i<n) (x:B8) (hx:x=ls.getD (Mx.bpl n h i) zB) :
 Calls Tryz.prog 42 #[.pointer (some ⟨g,0,none⟩),.int .i64 (i:Int)] w fun e w'=>e=.returned (.tuple #[.agg #[.int .u8 x.z0,.int .u8 x.z1,.int .u8 x.z2,.int .u8 x.z3,.int .u8 x.z4,.int .u8 x.z5,.int .u8 x.z6,.int .u8 x.z7],.nilIface])∧Gq w w':=by
 obtain⟨at_,hat⟩:∃ at_:Int,Hid (at_=(i:Int)):=⟨_,rfl⟩
 rw[←hat.o];have HR:=aa (hs.iy hps hl (Mx.lg hs.h1 hi));have HX:=aa (show x=Mx.dC ls ps ((Mx.bpl n h i:Nat):Int) by rw[hps,Mx.jx,Int.toNat_natCast];exact hx);clear hx hps hl;have HH:=aa hs;obtain⟨W0,hW0⟩:∃ W0:World,Hid (W0=w.alloc (.cells #[.int .u8 0,.int .u8 0,.int .u8 0,.int .u8 0,.int .u8 0,.int .u8 0,.int .u8 0,.int .u8 0] 33)):=⟨_,rfl⟩
 have X0:=bxA hW0;have D0:=beA hW0;have H0:=aa (HH.o.later D0.o);have hn1:=hs.n1;have hn2:=hs.n2;have hh1:=hs.h1;obtain⟨N,hN⟩:∃ N:Nat,Hid (N=Mx.sz n):=⟨_,rfl⟩
 have hgw:g<w.heap.size:=Bx.lt hs.bx;clear hs;go_enter Tryz.func42,Tryz.ntmps42;change aB Tryz.f42 _ 0 _ w;refine aj rfl ?_;intro K hK;go_wp2_with fail;rw[←hW0.o];refine Met.intro (aj rfl ?_);try clear hK K
 intro K hK;obtain⟨x0,x1,x2,x3,x4⟩:=H0.o.bx.cells;go_wp2_with fail;refine(fp g n W0 x0 hn1).mono ?_;rintro e wz ⟨rfl,hz⟩;obtain rfl:=hz.symm;clear hz;go_wp2_with fail;refine Met.intro (aj rfl ?_);try clear hK K
 intro K hK;go_wp2_with fail;refine(mX g n at_ W0 x0).mono ?_;rintro e wz ⟨rfl,hz⟩;obtain rfl:=hz.symm;clear hz;rw[hat.o];have HI:=aa (show Mx.inside n (i:Int)=true by unfold Mx.inside;simp;omega);rw[HI.o];go_wp2_with fail;refine Met.intro (aL (c:=.seq _ .ret) rfl ?_);try clear hK
 try clear K
 obtain⟨P,hP⟩:∃ P:Nat,Hid (P=Mx.bpl n h i):=⟨_,rfl⟩
 have hlt:Mx.bpl n h i<Mx.sz n:=Mx.lg hh1 hi;rw[←hN.o] at hlt x2;rw[←hP.o] at hlt;have S0:=aa (show W0.heap.size=w.heap.size+1 by rw[hW0.o];simp);have hg0:g<W0.heap.size:=Gf hgw D0.o.size;rw[←hN.o,←hP.o] at HR;rw[←hP.o] at HX;have hwg:¬w.heap.size=g:=by omega
 go_upto_region 6 with fail
 go_region_held3 (fun w'=>w'.cell? ⟨g,0,none⟩=some (.int .i64 (n:Int))∧w'.cell? ⟨g,1,none⟩=some (.int .i64 (h:Int))∧w'.cell? ⟨g,2,none⟩=some (.slice sa N sc)∧w'.cell? ⟨g,3,none⟩=some (.slice pa pn pc)∧w'.cell? ⟨g,4,none⟩=some (.int .i64 left))
  (first
    | with_reducible exact ⟨x0, x1, x2, x3, x4⟩
    |(simp only[an];with_reducible exact⟨x0,x1,x2,x3,x4⟩)
    | with_reducible exact ⟨y0, y1, y2, y3, y4⟩
    |(simp only[aw hwg];with_reducible exact⟨y0,y1,y2,y3,y4⟩))
  (first
    |(go_at_call 71;refine(lM g n h i _ (by first|exact x0|(simp only[an];exact x0)) hn2 hh1 hi).mono ?_;rintro e wz ⟨rfl,hz⟩;obtain rfl:=hz.symm;clear hz;rw[←hP.o])
    |(go_at_call 58;(with_reducible refine(kK sa pa N sc pn pc left (P:Int) ls ps W0.drew (by rw[hN.o];exact H0.o.bl.later (Below.refl _ _).drew) (H0.o.pl.later (Below.refl _ _).drew) HR.o x HX.o).mono ?_);rintro e w2 ⟨rfl,E2⟩;have D2:=aa (show Gq W0 w2 from(Below.refl _ _).drew.trans E2);have H2:=aa (H0.o.later D2.o);obtain⟨y0,y1,y2,y3,y4⟩:=H2.o.bx.cells;rw[←hN.o] at y2;have X2:=aa (X0.o.later D2.o X0.o.lt);obtain⟨t0,t1,t2,t3,t4,t5,t6,t7⟩:=Bx.bC X2.o;have tz:=X2.o.frozen))
 all_goals
  clear x0 x1 x2 x3 x4 y0 y1 y2 y3 y4 t0 t1 t2 t3 t4 t5 t6 t7;obtain⟨W6,hW6⟩:∃ W6:World,Hid (W6=aR w2 w.heap.size 0 x):=⟨_,rfl⟩
  have XF:=aa (show Gs W6 w.heap.size x by rw[hW6.o];exact eg X2.o x);have BF:=aa (show Gq w W6 by rw[hW6.o];exact bP (D0.o.trans (D2.o.mono D0.o.size)) (Gi _) _ _);unfold aR at hW6;simp only[Nat.zero_add] at hW6;rw[←hW6.o];obtain⟨t0,t1,t2,t3,t4,t5,t6,t7⟩:=Bx.bC XF.o;go_wp2_with fail;exact bodyPost_ret (v:=.tuple #[.agg #[.int .u8 x.z0,.int .u8 x.z1,.int .u8 x.z2,.int .u8 x.z3,.int .u8 x.z4,.int .u8 x.z5,.int .u8 x.z6,.int .u8 x.z7],.nilIface]) (by simp[results,Tryz.results42,go_sem,t0,t1,t2,t3,t4,t5,t6,t7]) rfl ⟨rfl,BF.o⟩
namespace Mx
def vw (n h:Nat) (ls:List B8):List B8:=(List.range n).map (fun i=>ls.getD (bpl n h i) zB)
theorem Fk (n h:Nat) (ls:List B8):(vw n h ls).length=n:=by unfold vw;simp
def vwK (n h:Nat) (ls:List B8) (k:Nat):List B8:=(List.range n).map (fun i=>if i<k then ls.getD (bpl n h i) zB else zB)
theorem pe (n h:Nat) (ls:List B8) (k:Nat):(vwK n h ls k).length=n:=by unfold vwK;simp
theorem Ci (n h:Nat) (ls:List B8):vwK n h ls 0=List.replicate n zB:=by
 unfold vwK;apply List.ext_getElem
 ·simp
 ·intro i h1 h2
  simp
theorem Ef (n h:Nat) (ls:List B8):vwK n h ls n=vw n h ls:=by
 unfold vwK vw;refine List.map_congr_left (fun i hi=>?_);rw[List.mem_range] at hi;rw[if_pos hi]
theorem Eg {h k:Nat} {ls:List B8} (_:k<n):(vwK n h ls k).set k (ls.getD (bpl n h k) zB)=vwK n h ls (k+1):=by
 apply List.ext_getElem
 ·rw[List.length_set,pe,pe]
 ·intro i h1 h2
  rw[List.getElem_set];have e1:∀ (q:Nat) (_:i<(vwK n h ls q).length),(vwK n h ls q)[i]=if i<q then ls.getD (bpl n h i) zB else zB:=fun q _=>by
   simp only[vwK,List.getElem_map,List.getElem_range]
  by_cases he:k=i
  ·subst he
   rw[if_pos rfl,e1,if_pos (by omega)]
  ·rw[if_neg he,e1,e1]
   by_cases hi:i<k
   ·rw[if_pos hi,if_pos (by omega)]
   ·rw[if_neg hi,if_neg (by omega)]
end Mx
theorem vd (g n h:Nat) (ls:List B8) (ps:List Pt) (left:Int) (sa:Option Addr) (sc:Nat) (pa:Option Addr) (pn pc:Nat) (w:World) (hs:StW w g n h ls ps left sa sc pa pn pc) (hps:ps=[]) (hl:left≠0) :
 Calls Tryz.prog 37 #[.pointer (some ⟨g,0,none⟩)] w fun e w'=>∃ p,e=.returned (.tuple #[.slice (some ⟨p,0,none⟩) n n,.nilIface])∧au w' w.heap.size (.slice (some ⟨p,0,none⟩) n n) (Mx.vw n h ls)∧Gq w w':=by
 have HPS:=aa hps;have HL0:=aa hl;have hh1:=hs.h1;clear hps hl;have HH:=aa hs;have hn1:=hs.n1;have hn2:=hs.n2;have hgw:g<w.heap.size:=Bx.lt hs.bx;obtain⟨x0,x1,x2,x3,x4⟩:=hs.bx.cells;obtain⟨C,hC,HC⟩:=fL n (by omega);clear hs;go_enter Tryz.func37,Tryz.ntmps37;change aB Tryz.f37 _ 0 _ w;refine aj rfl ?_;intro K hK;go_wp2_with fail;refine Met.intro (aj rfl ?_);try clear hK K
 intro K hK;go_wp2_with fail;refine(fp g n w x0 hn1).mono ?_;rintro e wz ⟨rfl,hz⟩;obtain rfl:=hz.symm;clear hz;go_wp2_with fail;refine Met.intro (aj rfl ?_);try clear hK K
 intro K hK;have C1:=aa (HC.o w w.heap.size (Gi _));obtain⟨W1,hW1⟩:∃ W1:World,Hid (W1=w.alloc (.cells C 33)):=⟨_,rfl⟩
 rw[←hW1.o] at C1;have D1:=beA hW1;have H1:=aa (HH.o.later D1.o);go_wp2_with fail;rw[←hW1.o];refine Met.intro (aj rfl ?_);try clear hK K
 intro K hK;clear x0 x1 x2 x3 x4;go_wp2_with fail;go_loopw [21] (fun t wr=>∃ k:Nat,t=.int .i64 (k:Int)∧k≤n∧Hid (au wr w.heap.size (.slice (some ⟨w.heap.size,0,none⟩) n n) (Mx.vwK n h ls k))∧Hid (Gq w wr)) (fun t _=>n-(intOf t).toNat)
 case atStart=>exact⟨0,rfl,by omega,by unfold Hid;rw[Mx.Ci];exact C1.o,D1⟩
 case round =>
  obtain⟨k,rfl,hk,hO,hB⟩:=hrel;by_cases hkn:k<n
  ·have hki:(k:Int)<n:=by omega
   obtain⟨x,hx⟩:∃ x:B8,Hid (x=ls.getD (Mx.bpl n h k) zB):=⟨_,rfl⟩
   go_wp2_with fail;refine(vg g n h ls ps left sa sc pa pn pc wr (HH.o.later hB.o) HPS.o HL0.o k hkn x hx.o).mono ?_;rintro e w2 ⟨rfl,E2⟩;have O2:=aa (show au w2 w.heap.size (.slice (some ⟨w.heap.size,0,none⟩) n n) (Mx.vwK n h ls k) from bm hO.o E2);have D2:=aa (show Gq w w2 from hB.o.trans (E2.mono hB.o.size));obtain⟨y,_,e0,e1,e2,e3,e4,e5,e6,e7⟩:=O2.o.at_ k hkn;have hfz:∀ o,w2.frozen? ⟨w.heap.size,o,none⟩=false:=by
    obtain⟨g',hg',_,_,_,hz⟩:=au.form O2.o (by omega);cases hg'
    exact hz
   have hlt2:w.heap.size<w2.heap.size:=by
    obtain⟨g',hg',_,hz,_,_⟩:=au.form O2.o (by omega);cases hg'
    exact hz
   have O9:=aa (show au (aR w2 w.heap.size (k*8) x) w.heap.size (.slice (some ⟨w.heap.size,0,none⟩) n n) (Mx.vwK n h ls (k+1)) by
    have h9:=au.put O2.o k (by rw[Mx.pe];exact hkn) x;rw[hx.o,Mx.Eg hkn,←hx.o] at h9;exact h9)
   have B9:=aa (bP D2.o (Gi _) (k*8) x);go_wp2_with fail;exact⟨⟨k+1,by go_num,by omega,World.ownsRow.alloc O9.o _,B9.o.alloc B9.o.size _⟩,by simp[intOf];omega⟩
  ·have hkk:k=n:=by omega
   subst hkk;rw[Mx.Ef] at hO;go_wp2_with fail;refine Met.intro (aL (c:=.seq _ .ret) rfl ?_);go_wp2_with fail;exact bodyPost_ret (v:=.tuple #[.slice (some ⟨w.heap.size,0,none⟩) k k,.nilIface]) (by simp[results,Tryz.results37,go_sem]) rfl ⟨_,rfl,hO.o,hB.o⟩
theorem Ea (g n h:Nat) (ls:List B8) (ps:List Pt) (left:Int) (sa:Option Addr) (sc:Nat) (pa:Option Addr) (pn pc:Nat) (w:World) (hs:StW w g n h ls ps left sa sc pa pn pc) (hps:ps=[]) (hl:left≠0) (x:B8) (hx:x=ls.getD (Mx.npl n h) zB) (hxo:Mx.by8 x) :
 Calls Tryz.prog 36 #[.pointer (some ⟨g,0,none⟩)] w fun e w'=>e=.returned (.tuple #[.int .i64 (Mx.xu x),.int .i64 (Mx.xw x),.nilIface])∧Gq w w':=by
 have hlt:Mx.npl n h<Mx.sz n:=Mx.nT hs.h1;have HR:=aa (hs.iy hps hl hlt);have HX:=aa (show x=Mx.dC ls ps ((Mx.npl n h:Nat):Int) by rw[hps,Mx.jx,Int.toNat_natCast];exact hx);have HXO:=aa hxo;clear hx hps hl hxo;have HH:=aa hs;have hn1:=hs.n1;have hn2:=hs.n2;have hh1:=hs.h1;obtain⟨N,hN⟩:∃ N:Nat,Hid (N=Mx.sz n):=⟨_,rfl⟩
 obtain⟨P,hP⟩:∃ P:Nat,Hid (P=Mx.npl n h):=⟨_,rfl⟩
 rw[←hN.o,←hP.o] at HR;rw[←hP.o] at HX;rw[←hN.o,←hP.o] at hlt;have hgw:g<w.heap.size:=Bx.lt hs.bx;have hwg:¬w.heap.size=g:=by omega
 obtain⟨x0,x1,x2,x3,x4⟩:=hs.bx.cells;rw[←hN.o] at x2;clear hs;go_enter Tryz.func36,Tryz.ntmps36;change aB Tryz.f36 _ 0 _ w;refine aj rfl ?_;intro K hK;go_wp2_with fail;refine Met.intro (aj rfl ?_);try clear hK K
 intro K hK;go_wp2_with fail;refine(fp g n w x0 hn1).mono ?_;rintro e wz ⟨rfl,hz⟩;obtain rfl:=hz.symm;clear hz;go_wp2_with fail;refine Met.intro (aj rfl ?_);try clear hK K
 intro K hK;have DA:=aa (show Gq w (w.alloc (.cells #[.int .u8 0,.int .u8 0,.int .u8 0,.int .u8 0,.int .u8 0,.int .u8 0,.int .u8 0,.int .u8 0] 33)).drew from(af _ _).drew);have DB:=aa (show Gq w w.drew from(Below.refl _ _).drew);have XA:=aa (show Bx (w.alloc (.cells #[.int .u8 0,.int .u8 0,.int .u8 0,.int .u8 0,.int .u8 0,.int .u8 0,.int .u8 0,.int .u8 0] 33)).drew w.heap.size #[.int .u8 0,.int .u8 0,.int .u8 0,.int .u8 0,.int .u8 0,.int .u8 0,.int .u8 0,.int .u8 0] 33 from Bx.dj w _ _);go_region_held3 (fun w'=>w'.cell? ⟨g,0,none⟩=some (.int .i64 (n:Int))∧w'.cell? ⟨g,1,none⟩=some (.int .i64 (h:Int))∧w'.cell? ⟨g,2,none⟩=some (.slice sa N sc)∧w'.cell? ⟨g,3,none⟩=some (.slice pa pn pc)∧w'.cell? ⟨g,4,none⟩=some (.int .i64 left))
  (first
    | with_reducible exact ⟨x0, x1, x2, x3, x4⟩
    |(simp only[an];with_reducible exact⟨x0,x1,x2,x3,x4⟩)
    | with_reducible exact ⟨y0, y1, y2, y3, y4⟩
    |(simp only[an,ao hgw];with_reducible exact⟨x0,x1,x2,x3,x4⟩)
    |(simp only[ao hgy];with_reducible exact⟨y0,y1,y2,y3,y4⟩)
    |(simp only[aw hwg];with_reducible exact⟨y0,y1,y2,y3,y4⟩))
  (first
    |(go_at_call 59;refine(eR g n h _ (by first|exact x0|(simp only[an];exact x0)|(simp only[an,ao hgw];exact x0)) hn2 hh1).mono ?_;rintro e wz ⟨rfl,hz⟩;obtain rfl:=hz.symm;clear hz;rw[←hP.o])
    |(go_at_call 58;(with_reducible refine(kK sa pa N sc pn pc left (P:Int) ls ps w.drew (by rw[hN.o];exact HH.o.bl.later DB.o) (HH.o.pl.later DB.o) HR.o x HX.o).mono ?_);rintro e w2 ⟨rfl,E2⟩;have D2:=aa (show Gq w w2 from DB.o.trans (E2.mono DB.o.size));have H2:=aa (HH.o.later D2.o);obtain⟨y0,y1,y2,y3,y4⟩:=H2.o.bx.cells;rw[←hN.o] at y2;have hgy:=H2.o.bx.lt)
    |(go_at_call 58;(with_reducible refine(kK sa pa N sc pn pc left (P:Int) ls ps (w.alloc (.cells #[.int .u8 0,.int .u8 0,.int .u8 0,.int .u8 0,.int .u8 0,.int .u8 0,.int .u8 0,.int .u8 0] 33)).drew (by rw[hN.o];exact HH.o.bl.later DA.o) (HH.o.pl.later DA.o) HR.o x HX.o).mono ?_);rintro e w2 ⟨rfl,E2⟩;have D2:=aa (show Gq w w2 from DA.o.trans (E2.mono DA.o.size));have H2:=aa (HH.o.later D2.o);obtain⟨y0,y1,y2,y3,y4⟩:=H2.o.bx.cells;rw[←hN.o] at y2;have hgy:=H2.o.bx.lt;have X2:=aa (XA.o.later E2 XA.o.lt);obtain⟨t0,t1,t2,t3,t4,t5,t6,t7⟩:=Bx.bC X2.o;have tz:=X2.o.frozen))
 all_goals
  first
   |(obtain⟨W3,hW3⟩:∃ W3:World,Hid (W3=w2.alloc (.cells #[.int .u8 x.z0,.int .u8 x.z1,.int .u8 x.z2,.int .u8 x.z3,.int .u8 x.z4,.int .u8 x.z5,.int .u8 x.z6,.int .u8 x.z7] 33)):=⟨_,rfl⟩
     have X3:=bxA hW3;have D3:=aa (show Gq w W3 by rw[hW3.o];exact D2.o.alloc D2.o.size _);rw[←hW3.o])
   |(obtain⟨W3,hW3⟩:∃ W3:World,Hid (W3=aR w2 w.heap.size 0 x):=⟨_,rfl⟩
     have X3:=aa (show Gs W3 w.heap.size x by rw[hW3.o];exact eg X2.o x);have D3:=aa (show Gq w W3 by rw[hW3.o];exact bP D2.o (Gi _) _ _);unfold aR at hW3;simp only[Nat.zero_add] at hW3;rw[←hW3.o])
  clear x0 x1 x2 x3 x4 y0 y1 y2 y3 y4;go_wp2_with fail;refine Met.intro (aj rfl ?_);try clear hK
  try clear K
  intro K hK;go_wp2_with fail;refine Met.intro (aL (c:=.seq _ .ret) rfl ?_);try clear hK
  try clear K
  have X4:=aa (Bx.vF X3.o);have D4:=aa (show Gq w W3.drew from D3.o.drew);go_upto_region 7 with fail
  go_region_held3 (fun _=>True)
   (exact trivial)
   (first
     |(go_at_call 60;(with_reducible refine(nV (some ⟨_,0,none⟩) _ [x.z0,x.z1,x.z2,x.z3] _ (by first|with_reducible exact Bx.lo4 X3.o HXO.o|with_reducible exact Bx.lo4 X4.o HXO.o)).mono ?_);rintro e wz ⟨rfl,hz⟩;obtain rfl:=hz.symm;clear hz;rw[Mx.pU])
     |(go_at_call 60;(with_reducible refine(nV (some ⟨_,4,none⟩) _ [x.z4,x.z5,x.z6,x.z7] _ (by first|with_reducible exact Bx.hi4 X3.o HXO.o|with_reducible exact Bx.hi4 X4.o HXO.o)).mono ?_);rintro e wz ⟨rfl,hz⟩;obtain rfl:=hz.symm;clear hz;rw[Mx.pU]))
  all_goals
   go_wp2_with fail;exact bodyPost_ret (v:=.tuple #[.int .i64 (Mx.lK x.z0 x.z1 x.z2 x.z3),.int .i64 (Mx.lK x.z4 x.z5 x.z6 x.z7),.nilIface]) (by simp[results,Tryz.results36,go_sem]) rfl ⟨rfl,D4.o⟩
theorem zW (g n h:Nat) (ls:List B8) (ps:List Pt) (left:Int) (sa:Option Addr) (sc:Nat) (pa:Option Addr) (pn pc:Nat) (w:World) (hs:StW w g n h ls ps left sa sc pa pn pc) (hpn:pn≤1000) :
 Calls Tryz.prog 55 #[.pointer (some ⟨g,0,none⟩)] w fun e w'=>∃ a1 c1 a2 c2,e=.returned (.agg #[.slice a1 (Mx.sz n) c1,.slice a2 pn c2,.int .i64 left])∧Hid (DK w.heap.size w' a1 (Mx.sz n) ls a2 pn ps)∧Hid (Gq w w'):=by
 have HH:=aa hs;have hgw:g<w.heap.size:=Bx.lt hs.bx;obtain⟨W0,hW0⟩:∃ W0:World,Hid (W0=w.alloc (.cells #[.slice none 0 0,.slice none 0 0,.int .i64 0] 130)):=⟨_,rfl⟩
 have X0:=bxA hW0;have D0:=beA hW0;have H0:=aa (HH.o.later D0.o);clear hs;go_enter Tryz.func55,Tryz.ntmps55;change aB Tryz.f55 _ 0 _ w;refine aj rfl ?_;intro K hK;go_wp2_with fail;rw[←hW0.o];refine Met.intro (aj rfl ?_);try clear hK K
 intro K hK;go_wp2_with fail;refine Met.intro (aL (c:=.seq _ .ret) rfl ?_);try clear hK
 try clear K
 obtain⟨x0,x1,x2,x3,x4⟩:=H0.o.bx.cells;have S0:=aa (show W0.heap.size=w.heap.size+1 by rw[hW0.o];simp);go_wp2_with fail;refine(oz sa pa (Mx.sz n) sc pn pc left ls ps W0 H0.o.bl H0.o.pl (by have:=HH.o.n2;unfold Mx.sz;omega) hpn).mono ?_;rintro e w2 ⟨a1,c1,a2,c2,rfl,K2,E2⟩;have X2:=aa (X0.o.later E2.o X0.o.lt);have B2:=aa (D0.o.trans (E2.o.mono D0.o.size));obtain⟨t0,t1,t2⟩:=X2.o.three;have tz:=X2.o.frozen;go_wp2_with fail;have BF:=aa (aF B2.o (Gi _) (.slice a1 (Mx.sz n) c1) (.slice a2 pn c2) (.int .i64 left));clear t0 t1 t2;obtain⟨t0,t1,t2⟩:=(X2.o.aH (.slice a1 (Mx.sz n) c1) (.slice a2 pn c2) (.int .i64 left)).three;exact bodyPost_ret (v:=.agg #[.slice a1 (Mx.sz n) c1,.slice a2 pn c2,.int .i64 left]) (by simp[results,Tryz.results55,go_sem,t0,t1,t2]) rfl ⟨a1,c1,a2,c2,rfl,(K2.o.grown (bp (aq w2 (some w.heap.size)) (.slice a1 (Mx.sz n) c1) (.slice a2 pn c2) (.int .i64 left)) (by have:=S0.o;omega)).low (by have:=S0.o;omega),BF.o⟩
end
section
variable {w w':World} {left:Int} {g n:Nat} {a:Option Addr}
theorem bE (h:Gq w w') (row:Option Nat):w.grownBy w' row:=⟨h.os,h.tape,h.output,h.size,fun b hb _=>h.block b hb⟩
theorem uL (h1:-9223372036854775808≤left):-9223372036854775808≤Mx.less left:=by unfold Mx.less;split<;>omega
theorem uK (h1:left≤9223372036854775807):Mx.less left≤9223372036854775807:=by unfold Mx.less;split<;>omega
def th (w:World) (g:Nat) (s0 s1 s2:Value):World:=((w.setCell ⟨g,2,none⟩ s0).setCell ⟨g,3,none⟩ s1).setCell ⟨g,4,none⟩ s2
theorem Sbx.put {h:Nat} {sa:Option Addr} {sn sc:Nat} {pa:Option Addr} {pn pc:Nat} (hx:Sbx w g n h sa sn sc pa pn pc left) (a1:Option Addr) (n1 c1:Nat) (a2:Option Addr) (n2 c2:Nat) (l2:Int) :
 Sbx (th w g (.slice a1 n1 c1) (.slice a2 n2 c2) (.int .i64 l2)) g n h a1 n1 c1 a2 n2 c2 l2:=((Bx.set hx 2 _).set 3 _).set 4 _
theorem iP (h:w.grownBy w' (some g)) (s0 s1 s2:Value):w.grownBy (th w' g s0 s1 s2) (some g):=ak (ak (ak h _ _) _ _) _ _
theorem BL.gT {l:List B8} (h:BL w a n l) (hg:w.grownBy w' (some g)) (hne:0<n→∀ p,a=some p→p.block≠g):BL w' a n l:=And.intro h.1 (cA.dZ h.2 hg hne)
theorem PL.gT {l:List Pt} (h:PL w a n l) (hg:w.grownBy w' (some g)) (hne:0<n→∀ p,a=some p→p.block≠g):PL w' a n l:=And.intro h.1 (cA.dZ h.2 hg hne)
theorem StW.put {w:World} {g n h:Nat} {ls ls':List B8} {ps ps':List Pt} {left left':Int} {sa:Option Addr} {sc:Nat} {pa:Option Addr} {pn pc:Nat} (hs:StW w g n h ls ps left sa sc pa pn pc) {a1:Option Addr} {c1:Nat} {a2:Option Addr} {n2 c2:Nat}
 (hb:BL w a1 (Mx.sz n) ls') (hp:PL w a2 n2 ps') (h1:0<Mx.sz n→∀ p,a1=some p→p.block≠g) (h2:0<n2→∀ p,a2=some p→p.block≠g) (hl1:-9223372036854775808≤left') (hl2:left'≤9223372036854775807) :
 StW (th w g (.slice a1 (Mx.sz n) c1) (.slice a2 n2 c2) (.int .i64 left')) g n h ls' ps' left' a1 c1 a2 n2 c2 :=
 {bx:=Sbx.put hs.bx a1 (Mx.sz n) c1 a2 n2 c2 left',bl:=hb.gT (iP (aq _ _) _ _ _) h1,pl:=hp.gT (iP (aq _ _) _ _ _) h2,a1:=h1,a2:=h2,n1:=hs.n1,n2:=hs.n2,h1:=hs.h1,l1:=hl1,l2:=hl2}
theorem qt (g n h:Nat) (ls:List B8) (ps:List Pt) (left:Int) (sa:Option Addr) (sc:Nat) (pa:Option Addr) (pn pc:Nat) (w:World) (hs:StW w g n h ls ps left sa sc pa pn pc) (hm:Mx.dt (Mx.sz n) ps left=0) :
 Calls Tryz.prog 80 #[.pointer (some ⟨g,0,none⟩)] w fun e w'=>∃ a1 c1,e=.returned .nilIface∧Hid (StW w' g n h (Mx.aD ls ps) [] (Mx.less left) a1 c1 none 0 0)∧Hid (w.grownBy w' (some g)):=by
 have HM:=aa hm;have hl0:¬left=0:=by
  intro e;unfold Mx.dt at hm;rw[if_pos e] at hm;split at hm<;>omega
 clear hm;have HH:=aa hs;have hgw:g<w.heap.size:=Bx.lt hs.bx;have hwg:¬w.heap.size=g:=by omega
 obtain⟨x0,x1,x2,x3,x4⟩:=hs.bx.cells;clear hs;go_enter Tryz.func80,Tryz.ntmps80;change aB Tryz.f80 _ 0 _ w;refine aj rfl ?_;intro K hK;go_wp2_with fail;refine Met.intro (aj rfl ?_);try clear hK
 try clear K
 intro K hK;go_wp2_with fail;refine(yl sa pa (Mx.sz n) sc pn pc left ls ps w HH.o.bl HH.o.pl HH.o.l1 HH.o.l2 HM.o).mono ?_;rintro e w2 ⟨v1,rfl,O2,E2⟩;obtain⟨a1,c1,hv1,hb1,hp1⟩:=O2.bl;have hln:(Mx.aD ls ps).length=Mx.sz n:=by rw[Mx.cN];exact HH.o.bl.1
 rw[hln] at hv1 hb1;subst hv1;have H2:=aa (HH.o.later E2);have S2:=aa (show 0<Mx.sz n→∀ p,a1=some p→p.block≠g from fun _ p hp=>by have h9:=hp1 p hp;omega);have L2:=aa hb1;have D2:=aa E2;clear x0 x1 x2 x3 x4 hb1 hp1 O2 E2;obtain⟨W3,hW3⟩:∃ W3:World,Hid (W3=w2.alloc (.cells #[.slice a1 (Mx.sz n) c1,.slice none 0 0,.int .i64 (Mx.less left)] 130)):=⟨_,rfl⟩
 have X3:=bxA hW3;have E3:=beA hW3;have D3:=aa (show Gq w W3 from D2.o.trans (E3.o.mono D2.o.size));have H3:=aa (HH.o.later D3.o);have L3:=aa (L2.o.later E3.o);have HF:=aa (H3.o.put (c1:=c1) (c2:=0) L3.o (PL.nil W3) S2.o (fun h=>absurd h (by omega)) (uL HH.o.l1) (uK HH.o.l2));have GF:=aa (iP (bE D3.o (some g)) (.slice a1 (Mx.sz n) c1) (.slice none 0 0) (.int .i64 (Mx.less left)));unfold th at HF GF;go_wp2_with fail;rw[←hW3.o];refine Met.intro (aj rfl ?_);try clear hK
 try clear K
 intro K hK;go_wp2_with fail;refine Met.intro (aj rfl ?_);try clear hK
 try clear K
 intro K hK;obtain⟨x0,x1,x2,x3,x4⟩:=H3.o.bx.cells;have xz:=H3.o.bx.frozen;obtain⟨t0,t1,t2⟩:=X3.o.three;have hne3:¬g=w2.heap.size:=by have h9:=D2.o.size;omega
 go_wp2_with fail;refine Met.intro (aL (c:=.seq _ .ret) rfl ?_);try clear hK
 try clear K
 go_wp2_with fail;exact bodyPost_ret (v:=.nilIface) (by simp[results,Tryz.results80,go_sem]) rfl ⟨a1,c1,rfl,HF,GF⟩
theorem mr (g n h:Nat) (ls:List B8) (ps:List Pt) (left:Int) (sa:Option Addr) (sc:Nat) (pa:Option Addr) (pn pc:Nat) (w:World) (hs:StW w g n h ls ps left sa sc pa pn pc) (hps:Mx.cC (Mx.sz n) ps=0) (hl:left=0) :
 Calls Tryz.prog 80 #[.pointer (some ⟨g,0,none⟩)] w fun e w'=>e=.returned (.iface 28 (.int .i64 4))∧Gq w w':=by
 have HM:=aa (show Mx.dt (Mx.sz n) ps left=4 by unfold Mx.dt;rw[if_pos hps,if_pos hl]);have HM0:=aa (show ¬Mx.dt (Mx.sz n) ps left=0 by rw[HM.o];omega);have he4:bt 4=.iface 28 (.int .i64 4):=rfl;clear hps hl;have HH:=aa hs;have hgw:g<w.heap.size:=Bx.lt hs.bx;have hwg:¬w.heap.size=g:=by omega
 obtain⟨x0,x1,x2,x3,x4⟩:=hs.bx.cells;clear hs;go_enter Tryz.func80,Tryz.ntmps80;change aB Tryz.f80 _ 0 _ w;refine aj rfl ?_;intro K hK;go_wp2_with fail;refine Met.intro (aj rfl ?_);try clear hK
 try clear K
 intro K hK;go_wp2_with fail;refine(ym sa pa (Mx.sz n) sc pn pc left ps w (BL.max HH.o.bl) HH.o.pl HM0.o).mono ?_;rintro e w2 ⟨rfl,E2⟩;rw[HM.o,he4];have D2:=aa E2;clear x0 x1 x2 x3 x4 E2;go_wp2_with fail;refine Met.intro (aj rfl ?_);try clear hK
 try clear K
 intro K hK;go_wp2_with fail;exact bodyPost_ret (v:=.iface 28 (.int .i64 4)) (by simp[results,Tryz.results80,go_sem]) rfl ⟨rfl,D2.o.alloc D2.o.size _⟩
theorem lQ (g n h:Nat) (ls:List B8) (ps:List Pt) (left:Int) (sa:Option Addr) (sc:Nat) (pa:Option Addr) (pn pc:Nat) (w:World) (hs:StW w g n h ls ps left sa sc pa pn pc) (at_:Int) (x:B8) (hm:Mx.cg (Mx.sz n) ps left at_=0) :
 Calls Tryz.prog 78 #[.pointer (some ⟨g,0,none⟩),.int .i64 at_,.agg #[.int .u8 x.z0,.int .u8 x.z1,.int .u8 x.z2,.int .u8 x.z3,.int .u8 x.z4,.int .u8 x.z5,.int .u8 x.z6,.int .u8 x.z7]] w fun e w'=>∃ a1 c1 a2 c2,e=.returned .nilIface∧Hid (StW w' g n h ls (ps++[⟨at_,x⟩]) (Mx.less left) a1 c1 a2 (pn+1) c2)∧Hid (w.grownBy w' (some g)):=by
 have HM:=aa hm;clear hm;have HH:=aa hs;have hgw:g<w.heap.size:=Bx.lt hs.bx;obtain⟨N,hN⟩:∃ N:Nat,Hid (N=Mx.sz n):=⟨_,rfl⟩
 obtain⟨W0,hW0⟩:∃ W0:World,Hid (W0=w.alloc (.cells #[.int .u8 x.z0,.int .u8 x.z1,.int .u8 x.z2,.int .u8 x.z3,.int .u8 x.z4,.int .u8 x.z5,.int .u8 x.z6,.int .u8 x.z7] 33)):=⟨_,rfl⟩
 have X0:=bxA hW0;have D0:=beA hW0;have S0:=aa (show W0.heap.size=w.heap.size+1 by rw[hW0.o];simp);have H0:=aa (HH.o.later D0.o);clear hs;rw[←hN.o] at HM;go_enter Tryz.func78,Tryz.ntmps78;change aB Tryz.f78 _ 0 _ w;refine aj rfl ?_;intro K hK;go_wp2_with fail;rw[←hW0.o];refine Met.intro (aj rfl ?_);try clear hK
 try clear K
 intro K hK;obtain⟨x0,x1,x2,x3,x4⟩:=H0.o.bx.cells;rw[←hN.o] at x2;obtain⟨u0,u1,u2,u3,u4,u5,u6,u7⟩:=Bx.bC X0.o;have hgW:g<W0.heap.size:=by have:=S0.o;omega
 have hwW:w.heap.size<W0.heap.size:=by have:=S0.o;omega
 have hfg:¬W0.heap.size=g:=by omega
 have hfw:¬W0.heap.size=w.heap.size:=by omega
 have DA:=aa (show Gq W0 (W0.alloc (.cells #[.slice none 0 0,.slice none 0 0,.int .i64 0] 130)).drew from(af _ _).drew);have DB:=aa (show Gq W0 W0.drew from(Below.refl _ _).drew);have XA:=aa (show Bx (W0.alloc (.cells #[.slice none 0 0,.slice none 0 0,.int .i64 0] 130)).drew W0.heap.size #[.slice none 0 0,.slice none 0 0,.int .i64 0] 130 from Bx.dj W0 _ _);have BA:=aa (show BL (W0.alloc (.cells #[.slice none 0 0,.slice none 0 0,.int .i64 0] 130)).drew sa N ls by rw[hN.o];exact H0.o.bl.later DA.o);have BB:=aa (show BL W0.drew sa N ls by rw[hN.o];exact H0.o.bl.later DB.o);have PA:=aa (H0.o.pl.later DA.o);have PB:=aa (H0.o.pl.later DB.o);go_region_held3 (fun w'=>w'.cell? ⟨g,0,none⟩=some (.int .i64 (n:Int))∧w'.cell? ⟨g,1,none⟩=some (.int .i64 (h:Int))∧w'.cell? ⟨g,2,none⟩=some (.slice sa N sc)∧w'.cell? ⟨g,3,none⟩=some (.slice pa pn pc)∧w'.cell? ⟨g,4,none⟩=some (.int .i64 left)∧w'.cell? ⟨w.heap.size,0,none⟩=some (.int .u8 x.z0)∧w'.cell? ⟨w.heap.size,1,none⟩=some (.int .u8 x.z1)∧w'.cell? ⟨w.heap.size,2,none⟩=some (.int .u8 x.z2)∧w'.cell? ⟨w.heap.size,3,none⟩=some (.int .u8 x.z3)∧w'.cell? ⟨w.heap.size,4,none⟩=some (.int .u8 x.z4)∧w'.cell? ⟨w.heap.size,5,none⟩=some (.int .u8 x.z5)∧w'.cell? ⟨w.heap.size,6,none⟩=some (.int .u8 x.z6)∧w'.cell? ⟨w.heap.size,7,none⟩=some (.int .u8 x.z7))
  (first
    | with_reducible exact ⟨x0, x1, x2, x3, x4, u0, u1, u2, u3, u4, u5, u6, u7⟩
    |(simp only[an];with_reducible exact⟨x0,x1,x2,x3,x4,u0,u1,u2,u3,u4,u5,u6,u7⟩)
    | with_reducible exact ⟨y0, y1, y2, y3, y4, v0, v1, v2, v3, v4, v5, v6, v7⟩
    |(simp only[an,ao hgW,ao hwW];with_reducible exact⟨x0,x1,x2,x3,x4,u0,u1,u2,u3,u4,u5,u6,u7⟩)
    |(simp only[ao hgy,ao hwy];with_reducible exact⟨y0,y1,y2,y3,y4,v0,v1,v2,v3,v4,v5,v6,v7⟩)
    |(simp only[aw hfg,aw hfw];with_reducible exact⟨y0,y1,y2,y3,y4,v0,v1,v2,v3,v4,v5,v6,v7⟩))
  (first
    |(go_at_call 109;(with_reducible refine(qA sa pa N sc pn pc left at_ x ls ps W0.drew BB.o PB.o HH.o.l1 HH.o.l2 HM.o).mono ?_);rintro e w2 ⟨r1,r2,rfl,O1,O2,E2⟩;obtain⟨a1,c1,hv1,hb1,hp1⟩:=O1.bl;obtain⟨a2,c2,hv2,hb2,hp2⟩:=O2.pl;rw[BB.o.1] at hv1 hb1;rw[Ge,PB.o.1] at hv2 hb2;subst hv1;subst hv2;have Q1:=aa hb1;have Q2:=aa hb2;have G1:=aa hp1;have G2:=aa hp2;clear hb1 hb2 hp1 hp2 O1 O2;have D2:=aa (show Gq W0 w2 from DB.o.trans (E2.mono DB.o.size));have H2:=aa (H0.o.later D2.o);obtain⟨y0,y1,y2,y3,y4⟩:=H2.o.bx.cells;rw[←hN.o] at y2;have hgy:=H2.o.bx.lt;have Z2:=aa (X0.o.later D2.o X0.o.lt);have hwy:=Z2.o.lt;obtain⟨v0,v1,v2,v3,v4,v5,v6,v7⟩:=Bx.bC Z2.o)
    |(go_at_call 109;(with_reducible refine(qA sa pa N sc pn pc left at_ x ls ps (W0.alloc (.cells #[.slice none 0 0,.slice none 0 0,.int .i64 0] 130)).drew BA.o PA.o HH.o.l1 HH.o.l2 HM.o).mono ?_);rintro e w2 ⟨r1,r2,rfl,O1,O2,E2⟩;obtain⟨a1,c1,hv1,hb1,hp1⟩:=O1.bl;obtain⟨a2,c2,hv2,hb2,hp2⟩:=O2.pl;rw[BA.o.1] at hv1 hb1;rw[Ge,PA.o.1] at hv2 hb2;subst hv1;subst hv2;have Q1:=aa hb1;have Q2:=aa hb2;have G1:=aa hp1;have G2:=aa hp2;clear hb1 hb2 hp1 hp2 O1 O2;have D2:=aa (show Gq W0 w2 from DA.o.trans (E2.mono DA.o.size));have H2:=aa (H0.o.later D2.o);obtain⟨y0,y1,y2,y3,y4⟩:=H2.o.bx.cells;rw[←hN.o] at y2;have hgy:=H2.o.bx.lt;have Z2:=aa (X0.o.later D2.o X0.o.lt);have hwy:=Z2.o.lt;obtain⟨v0,v1,v2,v3,v4,v5,v6,v7⟩:=Bx.bC Z2.o;have X2:=aa (XA.o.later E2 XA.o.lt);obtain⟨t0,t1,t2⟩:=X2.o.three;have tz:=X2.o.frozen))
 all_goals
  first
   |(obtain⟨W3,hW3⟩:∃ W3:World,Hid (W3=w2.alloc (.cells #[.slice a1 N c1,.slice a2 (pn+1) c2,.int .i64 (Mx.less left)] 130)):=⟨_,rfl⟩
     have X3:=bxA hW3;have F3:=beA hW3;have D3:=aa (show Gq w W3 from(D0.o.trans (D2.o.mono D0.o.size)).trans (F3.o.mono (by have h8:=D2.o.size;have h9:=S0.o;omega)));have L3:=aa (Q1.o.later F3.o);have P3:=aa (Q2.o.later F3.o);have S1:=aa (show 0<N→∀ p,a1=some p→p.block≠g from fun _ p hp=>by have h8:W0.heap.size≤p.block:=G1.o p hp;omega);have S2:=aa (show 0<pn+1→∀ p,a2=some p→p.block≠g from fun _ p hp=>by have h8:W0.heap.size≤p.block:=G2.o p hp;omega);have hne3:¬g=w2.heap.size:=by have h9:=D2.o.size;omega
     rw[←hW3.o])
   |(obtain⟨W3,hW3⟩:∃ W3:World,Hid (W3=ca w2 W0.heap.size (.slice a1 N c1) (.slice a2 (pn+1) c2) (.int .i64 (Mx.less left))):=⟨_,rfl⟩
     have X3:=aa (show Bx W3 W0.heap.size #[.slice a1 N c1,.slice a2 (pn+1) c2,.int .i64 (Mx.less left)] 130 by rw[hW3.o];exact X2.o.aH _ _ _);have F3:=aa (show Gq W0 W3 by rw[hW3.o];exact aF D2.o (Gi _) _ _ _);have D3:=aa (show Gq w W3 from D0.o.trans (F3.o.mono D0.o.size));have U3:=aa (show w2.grownBy W3 (some W0.heap.size) by rw[hW3.o];exact bp (aq _ _) _ _ _);have L3:=aa (Q1.o.gT U3.o (fun _ p hp=>by have h8:W0.heap.size+1≤p.block:=by {have h7:=G1.o p hp;simpa using h7};omega));have P3:=aa (Q2.o.gT U3.o (fun _ p hp=>by have h8:W0.heap.size+1≤p.block:=by {have h7:=G2.o p hp;simpa using h7};omega));have S1:=aa (show 0<N→∀ p,a1=some p→p.block≠g from fun _ p hp=>by have h8:W0.heap.size+1≤p.block:=by {have h7:=G1.o p hp;simpa using h7};omega);have S2:=aa (show 0<pn+1→∀ p,a2=some p→p.block≠g from fun _ p hp=>by have h8:W0.heap.size+1≤p.block:=by {have h7:=G2.o p hp;simpa using h7};omega);have hne3:¬g=W0.heap.size:=by omega
     unfold ca at hW3;rw[←hW3.o])
  have H3:=aa (HH.o.later D3.o);rw[hN.o] at L3 S1;have HF:=aa (H3.o.put (c1:=c1) (c2:=c2) L3.o P3.o S1.o S2.o (uL HH.o.l1) (uK HH.o.l2));have GF:=aa (iP (bE D3.o (some g)) (.slice a1 (Mx.sz n) c1) (.slice a2 (pn+1) c2) (.int .i64 (Mx.less left)));rw[←hN.o] at HF GF;unfold th at HF GF;clear x0 x1 x2 x3 x4 u0 u1 u2 u3 u4 u5 u6 u7 y0 y1 y2 y3 y4 v0 v1 v2 v3 v4 v5 v6 v7;go_wp2_with fail;refine Met.intro (aj rfl ?_);try clear hK
  try clear K
  intro K hK;go_wp2_with fail;refine Met.intro (aj rfl ?_);try clear hK
  try clear K
  intro K hK;obtain⟨x0,x1,x2,x3,x4⟩:=H3.o.bx.cells;rw[←hN.o] at x2;have xz:=H3.o.bx.frozen;try clear t0 t1 t2
  obtain⟨t0,t1,t2⟩:=X3.o.three;go_wp2_with fail;refine Met.intro (aL (c:=.seq _ .ret) rfl ?_);try clear hK
  try clear K
  go_wp2_with fail;exact bodyPost_ret (v:=.nilIface) (by simp[results,Tryz.results78,go_sem]) rfl ⟨a1,c1,a2,c2,rfl,HF,GF⟩
theorem jT (g n h:Nat) (ls:List B8) (ps:List Pt) (left:Int) (sa:Option Addr) (sc:Nat) (pa:Option Addr) (pn pc:Nat) (w:World) (hs:StW w g n h ls ps left sa sc pa pn pc) (at_:Int) (x:B8) (hm:Mx.cg (Mx.sz n) ps left at_=4) :
 Calls Tryz.prog 78 #[.pointer (some ⟨g,0,none⟩),.int .i64 at_,.agg #[.int .u8 x.z0,.int .u8 x.z1,.int .u8 x.z2,.int .u8 x.z3,.int .u8 x.z4,.int .u8 x.z5,.int .u8 x.z6,.int .u8 x.z7]] w fun e w'=>e=.returned (.iface 28 (.int .i64 4))∧Gq w w':=by
 have HM:=aa hm;clear hm;have he4:bt 4=.iface 28 (.int .i64 4):=rfl;have HH:=aa hs;have hgw:g<w.heap.size:=Bx.lt hs.bx;obtain⟨N,hN⟩:∃ N:Nat,Hid (N=Mx.sz n):=⟨_,rfl⟩
 obtain⟨W0,hW0⟩:∃ W0:World,Hid (W0=w.alloc (.cells #[.int .u8 x.z0,.int .u8 x.z1,.int .u8 x.z2,.int .u8 x.z3,.int .u8 x.z4,.int .u8 x.z5,.int .u8 x.z6,.int .u8 x.z7] 33)):=⟨_,rfl⟩
 have X0:=bxA hW0;have D0:=beA hW0;have S0:=aa (show W0.heap.size=w.heap.size+1 by rw[hW0.o];simp);have H0:=aa (HH.o.later D0.o);clear hs;rw[←hN.o] at HM;go_enter Tryz.func78,Tryz.ntmps78;change aB Tryz.f78 _ 0 _ w;refine aj rfl ?_;intro K hK;go_wp2_with fail;rw[←hW0.o];refine Met.intro (aj rfl ?_);try clear hK
 try clear K
 intro K hK;obtain⟨x0,x1,x2,x3,x4⟩:=H0.o.bx.cells;rw[←hN.o] at x2;obtain⟨u0,u1,u2,u3,u4,u5,u6,u7⟩:=Bx.bC X0.o;have hgW:g<W0.heap.size:=by have:=S0.o;omega
 have hwW:w.heap.size<W0.heap.size:=by have:=S0.o;omega
 have hfg:¬W0.heap.size=g:=by omega
 have hfw:¬W0.heap.size=w.heap.size:=by omega
 have DA:=aa (show Gq W0 (W0.alloc (.cells #[.slice none 0 0,.slice none 0 0,.int .i64 0] 130)).drew from(af _ _).drew);have DB:=aa (show Gq W0 W0.drew from(Below.refl _ _).drew);have XA:=aa (show Bx (W0.alloc (.cells #[.slice none 0 0,.slice none 0 0,.int .i64 0] 130)).drew W0.heap.size #[.slice none 0 0,.slice none 0 0,.int .i64 0] 130 from Bx.dj W0 _ _);have BA:=aa (show BL (W0.alloc (.cells #[.slice none 0 0,.slice none 0 0,.int .i64 0] 130)).drew sa N ls by rw[hN.o];exact H0.o.bl.later DA.o);have BB:=aa (show BL W0.drew sa N ls by rw[hN.o];exact H0.o.bl.later DB.o);have PA:=aa (H0.o.pl.later DA.o);have PB:=aa (H0.o.pl.later DB.o);have HM0:=aa (show ¬Mx.cg N ps left at_=0 by rw[HM.o];omega);go_region_held3 (fun w'=>w'.cell? ⟨g,0,none⟩=some (.int .i64 (n:Int))∧w'.cell? ⟨g,1,none⟩=some (.int .i64 (h:Int))∧w'.cell? ⟨g,2,none⟩=some (.slice sa N sc)∧w'.cell? ⟨g,3,none⟩=some (.slice pa pn pc)∧w'.cell? ⟨g,4,none⟩=some (.int .i64 left)∧w'.cell? ⟨w.heap.size,0,none⟩=some (.int .u8 x.z0)∧w'.cell? ⟨w.heap.size,1,none⟩=some (.int .u8 x.z1)∧w'.cell? ⟨w.heap.size,2,none⟩=some (.int .u8 x.z2)∧w'.cell? ⟨w.heap.size,3,none⟩=some (.int .u8 x.z3)∧w'.cell? ⟨w.heap.size,4,none⟩=some (.int .u8 x.z4)∧w'.cell? ⟨w.heap.size,5,none⟩=some (.int .u8 x.z5)∧w'.cell? ⟨w.heap.size,6,none⟩=some (.int .u8 x.z6)∧w'.cell? ⟨w.heap.size,7,none⟩=some (.int .u8 x.z7))
  (first
    | with_reducible exact ⟨x0, x1, x2, x3, x4, u0, u1, u2, u3, u4, u5, u6, u7⟩
    |(simp only[an];with_reducible exact⟨x0,x1,x2,x3,x4,u0,u1,u2,u3,u4,u5,u6,u7⟩)
    | with_reducible exact ⟨y0, y1, y2, y3, y4, v0, v1, v2, v3, v4, v5, v6, v7⟩
    |(simp only[an,ao hgW,ao hwW];with_reducible exact⟨x0,x1,x2,x3,x4,u0,u1,u2,u3,u4,u5,u6,u7⟩)
    |(simp only[ao hgy,ao hwy];with_reducible exact⟨y0,y1,y2,y3,y4,v0,v1,v2,v3,v4,v5,v6,v7⟩)
    |(simp only[aw hfg,aw hfw];with_reducible exact⟨y0,y1,y2,y3,y4,v0,v1,v2,v3,v4,v5,v6,v7⟩))
  (first
    |(go_at_call 109;(with_reducible refine(qB sa pa N sc pn pc left at_ x ps W0.drew (BL.max BB.o) PB.o HM0.o).mono ?_);rintro e w2 ⟨rfl,E2⟩;rw[HM.o,he4];have D2:=aa (show Gq W0 w2 from DB.o.trans (E2.mono DB.o.size));have H2:=aa (H0.o.later D2.o);obtain⟨y0,y1,y2,y3,y4⟩:=H2.o.bx.cells;rw[←hN.o] at y2;have hgy:=H2.o.bx.lt;have Z2:=aa (X0.o.later D2.o X0.o.lt);have hwy:=Z2.o.lt;obtain⟨v0,v1,v2,v3,v4,v5,v6,v7⟩:=Bx.bC Z2.o)
    |(go_at_call 109;(with_reducible refine(qB sa pa N sc pn pc left at_ x ps (W0.alloc (.cells #[.slice none 0 0,.slice none 0 0,.int .i64 0] 130)).drew (BL.max BA.o) PA.o HM0.o).mono ?_);rintro e w2 ⟨rfl,E2⟩;rw[HM.o,he4];have D2:=aa (show Gq W0 w2 from DA.o.trans (E2.mono DA.o.size));have H2:=aa (H0.o.later D2.o);obtain⟨y0,y1,y2,y3,y4⟩:=H2.o.bx.cells;rw[←hN.o] at y2;have hgy:=H2.o.bx.lt;have Z2:=aa (X0.o.later D2.o X0.o.lt);have hwy:=Z2.o.lt;obtain⟨v0,v1,v2,v3,v4,v5,v6,v7⟩:=Bx.bC Z2.o;have X2:=aa (XA.o.later E2 XA.o.lt);obtain⟨t0,t1,t2⟩:=X2.o.three;have tz:=X2.o.frozen))
 all_goals
  first
   |(obtain⟨W3,hW3⟩:∃ W3:World,Hid (W3=w2.alloc (.cells #[.slice none 0 0,.slice none 0 0,.int .i64 0] 130)):=⟨_,rfl⟩
     have F3:=beA hW3;have D3:=aa (show Gq w W3 from(D0.o.trans (D2.o.mono D0.o.size)).trans (F3.o.mono (by have h8:=D2.o.size;have h9:=S0.o;omega)));rw[←hW3.o])
   |(obtain⟨W3,hW3⟩:∃ W3:World,Hid (W3=ca w2 W0.heap.size (.slice none 0 0) (.slice none 0 0) (.int .i64 0)):=⟨_,rfl⟩
     have F3:=aa (show Gq W0 W3 by rw[hW3.o];exact aF D2.o (Gi _) _ _ _);have D3:=aa (show Gq w W3 from D0.o.trans (F3.o.mono D0.o.size));unfold ca at hW3;rw[←hW3.o])
  clear x0 x1 x2 x3 x4 u0 u1 u2 u3 u4 u5 u6 u7 y0 y1 y2 y3 y4 v0 v1 v2 v3 v4 v5 v6 v7;go_wp2_with fail;refine Met.intro (aj rfl ?_);try clear hK
  try clear K
  intro K hK;go_wp2_with fail;exact bodyPost_ret (v:=.iface 28 (.int .i64 4)) (by simp[results,Tryz.results78,go_sem]) rfl ⟨rfl,D3.o⟩
end
namespace Mx
/-- the steps left, so many later -/
def cR (left : Int) (k : Nat) : Int := if left < 0 then left else left - k
theorem kC (left : Int) : cR left 0 = left := by unfold cR; split <;> omega
theorem wb {left : Int} {k : Nat} : less (cR left k) = if cR left k < 0 then cR left k else cR left (k + 1) := by
  unfold cR less
  by_cases h : left < 0
  · simp only [h, if_true]
  · rw [if_neg h, if_neg h]
    by_cases h2 : left - (k : Int) < 0
    · rw [if_pos h2, if_pos h2]
    · rw [if_neg h2, if_neg h2]
      omega
theorem gw {left : Int} {k : Nat} (h : left < 0 ∨ (k : Int) < left) : less (cR left k) = cR left (k + 1) := by
  rw [wb]
  split
  · unfold cR at *
    by_cases h0 : left < 0
    · rw [if_pos h0, if_pos h0]
    · rw [if_neg h0] at *
      omega
  · rfl
theorem gv {left : Int} {k : Nat} (h : left < 0 ∨ (k : Int) < left) : cR left k ≠ 0 := by unfold cR; split <;> omega
theorem fx {k : Nat} : cR (k : Int) k = 0 := by unfold cR; rw [if_neg (by omega)]; omega
/-- the answer when so many of so many were written -/
def ku (m n : Nat) : Value := if m = n then .nilIface else .iface 28 (.int .i64 4)
theorem pC (n : Nat) : ku n n = .nilIface := by unfold ku; rw [if_pos rfl]
theorem nF {m n : Nat} (h : m < n) : ku m n = .iface 28 (.int .i64 4) := by unfold ku; rw [if_neg (by omega)]
theorem vH (n h : Nat) (bl : List B8) : cP n h bl 0 = [] := rfl

theorem pA {N : Nat} {ps : List Pt} {at_ : Nat} (hm : cC N ps = 0) (h : at_ < N) : bR N ps (at_ : Int) = 0 := by
  unfold bR
  rw [if_pos hm, if_pos (by omega)]
theorem lq {N : Nat} {ps : List Pt} {at_ : Nat} {left : Int} (hm : cC N ps = 0) (h : at_ < N) (hl : ps.length ≤ 700) (h0 : left ≠ 0) : cg N ps left (at_ : Int) = 0 := by
  unfold cg
  rw [if_pos (pA hm h), if_neg (by omega), if_neg h0]
theorem jG {N : Nat} {ps : List Pt} {at_ : Nat} {left : Int} (hm : cC N ps = 0) (h : at_ < N) (hl : ps.length ≤ 700) (h0 : left = 0) : cg N ps left (at_ : Int) = 4 := by
  unfold cg
  rw [if_pos (pA hm h), if_neg (by omega), if_pos h0]
theorem oG {n : Nat} {ps : List Pt} (hn : n ≤ 32) (hl : ps.length ≤ 700) (h : ∀ p ∈ ps, 0 ≤ p.at_ ∧ p.at_ < (sz n : Int)) : cC (sz n) ps = 0 :=
  oH (by have : 1 ≤ sz n ∧ sz n ≤ 200 := by { unfold sz; omega }; omega) (fun k p _ hk => by
    have := h p (Gp hk)
    unfold outside
    simp
    omega)
theorem AO {n q k : Nat} {bl : List B8} (hq : q ≤ 1) (hk : k ≤ n) : ∀ p ∈ cP n q bl k, 0 ≤ p.at_ ∧ p.at_ < (sz n : Int) := fun p hp => by
  obtain ⟨i, hi, e⟩ := pD hp
  have := lg (n := n) hq (show i < n by omega)
  omega
theorem pw {n q k : Nat} {bl : List B8} (hn : n ≤ 32) (hq : q ≤ 1) (hk : k ≤ n) : cC (sz n) (cP n q bl k) = 0 := oG hn (by rw [gX]; omega) (AO hq hk)
end Mx

set_option maxHeartbeats 16000000 in
set_option maxRecDepth 100000 in
theorem z9 (g n h : Nat) (ls : List B8) (left : Int) (sa : Option Addr) (sc : Nat) (pa : Option Addr) (pc : Nat) (w : World) (hs : StW w g n h ls [] left sa sc pa 0 pc) (q : Nat) (hq : q ≤ 1) (ba : Option Addr) (bc : Nat) (bl : List B8) (hb : BL w ba n bl) (hbg : 0 < n → ∀ p, ba = some p → p.block ≠ g) (m : Nat) (hm : m ≤ n) (hml : m < n → left = (m : Int)) (hmh : left < 0 ∨ (m : Int) ≤ left) :
    Calls Tryz.prog 76 #[.pointer (some ⟨g, 0, none⟩), .int .i64 (q : Int), .slice ba n bc] w fun e w' => ∃ a1 c1 a2 c2, e = .returned (Mx.ku m n) ∧ Hid (StW w' g n h ls (Mx.cP n q bl m) (Mx.cR left m) a1 c1 a2 m c2) ∧ Hid (w.grownBy w' (some g)) := by
  have HH := aa hs
  have hn1 := hs.n1
  have hn2 := hs.n2
  have HB := aa hb
  have HBG := aa hbg
  have HML := aa hml
  have HMH := aa hmh
  clear hs hb hbg hml hmh
  go_enter Tryz.func76, Tryz.ntmps76
  change aB Tryz.f76 _ 0 _ w
  refine aj rfl ?_
  intro K hK
  go_wp2_with fail
  refine Met.intro (aj rfl ?_)
  try clear hK
  try clear K
  intro K hK
  go_wp2_with fail
  go_loopw [12] (fun t wr => ∃ (k : Nat) (a1 : Option Addr) (c1 : Nat) (a2 : Option Addr) (c2 : Nat), t = .int .i64 (k : Int) ∧ k ≤ m ∧ Hid (StW wr g n h ls (Mx.cP n q bl k) (Mx.cR left k) a1 c1 a2 k c2) ∧ Hid (w.grownBy wr (some g))) (fun t _ => n - (intOf t).toNat)
  case atStart => exact ⟨0, sa, sc, pa, pc, rfl, by omega, by rw [Mx.vH, Mx.kC]; exact HH, aq _ _⟩
  case round =>
    obtain ⟨k, a1, c1, a2, c2, rfl, hk, hS, hG⟩ := hrel
    by_cases hkn : k < n
    · have hki : (k : Int) < n := by omega
      have HBr := aa (HB.o.gT hG.o HBG.o)
      obtain ⟨b, off, x, hba, hbw, hx, e0, e1, e2, e3, e4, e5, e6, e7⟩ := HBr.o.at_ k hkn
      have HX := aa (show bl.getD k zB = x by rw [Ga, hx]; rfl)
      have hbg : ¬ b = g := HBG.o (by omega) _ hba
      subst hba
      clear hx
      obtain ⟨P, hP⟩ : ∃ P : Nat, Hid (P = Mx.bpl n q k) := ⟨_, rfl⟩
      obtain ⟨W1, hW1⟩ : ∃ W1 : World, Hid (W1 = wr.alloc (.cells #[.int .u8 x.z0, .int .u8 x.z1, .int .u8 x.z2, .int .u8 x.z3, .int .u8 x.z4, .int .u8 x.z5, .int .u8 x.z6, .int .u8 x.z7] 33)) := ⟨_, rfl⟩
      have X1 := aa (show Bx W1 wr.heap.size #[.int .u8 x.z0, .int .u8 x.z1, .int .u8 x.z2, .int .u8 x.z3, .int .u8 x.z4, .int .u8 x.z5, .int .u8 x.z6, .int .u8 x.z7] 33 by rw [hW1.o]; exact Bx.new wr _ _)
      have D1 := aa (show Below wr.heap.size wr W1 by rw [hW1.o]; exact af _ _)
      have H1 := aa (hS.o.later D1.o)
      have H1d := aa (H1.o.later (Below.refl _ _).drew)
      have hgr : g < wr.heap.size := hS.o.bx.lt
      have hgne : wr.heap.size ≠ g := by omega
      have hPl : P < Mx.sz n := by rw [hP.o]; exact Mx.lg hq hkn
      have HDM := aa (Mx.pw (bl := bl) hn2 hq (show k ≤ n by omega))
      go_upto_region 4 with fail
      rw [← hW1.o]
      have x0 := H1.o.bx.cells.1
      obtain ⟨u0, u1, u2, u3, u4, u5, u6, u7⟩ := Bx.bC X1.o
      by_cases hkm : k < m
      · have HW := aa (Mx.lq HDM.o hPl (by rw [Mx.gX]; omega) (Mx.gv (left := left) (k := k) (by rcases HMH.o with h | h <;> omega)))
        go_region_held3 (fun w' => w'.cell? ⟨g, 0, none⟩ = some (.int .i64 (n : Int)) ∧ w'.cell? ⟨wr.heap.size, 0, none⟩ = some (.int .u8 x.z0) ∧ w'.cell? ⟨wr.heap.size, 1, none⟩ = some (.int .u8 x.z1) ∧ w'.cell? ⟨wr.heap.size, 2, none⟩ = some (.int .u8 x.z2) ∧ w'.cell? ⟨wr.heap.size, 3, none⟩ = some (.int .u8 x.z3) ∧ w'.cell? ⟨wr.heap.size, 4, none⟩ = some (.int .u8 x.z4) ∧ w'.cell? ⟨wr.heap.size, 5, none⟩ = some (.int .u8 x.z5) ∧ w'.cell? ⟨wr.heap.size, 6, none⟩ = some (.int .u8 x.z6) ∧ w'.cell? ⟨wr.heap.size, 7, none⟩ = some (.int .u8 x.z7))
          (first
            | with_reducible exact ⟨x0, u0, u1, u2, u3, u4, u5, u6, u7⟩
            | (simp only [an]; with_reducible exact ⟨x0, u0, u1, u2, u3, u4, u5, u6, u7⟩)
            | with_reducible exact ⟨y0, v0, v1, v2, v3, v4, v5, v6, v7⟩)
          (first
            | (go_at_call 71; refine (lM g n q k _ (by first | exact x0 | (simp only [an]; exact x0)) hn2 hq hkn).mono ?_; rintro e wz ⟨rfl, hz⟩; obtain rfl := hz.symm; clear hz; rw [← hP.o])
            | (go_at_call 78; (with_reducible refine (lQ g n h ls (Mx.cP n q bl k) (Mx.cR left k) a1 c1 a2 k c2 _ H1d.o (P : Int) x HW.o).mono ?_); rintro e w2 ⟨a3, c3, a4, c4, rfl, H2, G2⟩; have y0 := H2.o.bx.cells.1; have X2 := aa (show Bx w2 wr.heap.size #[.int .u8 x.z0, .int .u8 x.z1, .int .u8 x.z2, .int .u8 x.z3, .int .u8 x.z4, .int .u8 x.z5, .int .u8 x.z6, .int .u8 x.z7] 33 from (G2.o.block _ X1.o.lt (fun e => hgne (Gg e))).trans X1.o); obtain ⟨v0, v1, v2, v3, v4, v5, v6, v7⟩ := Bx.bC X2.o))
        all_goals
          have HN := aa (show StW w2 g n h ls (Mx.cP n q bl (k + 1)) (Mx.cR left (k + 1)) a3 c3 a4 (k + 1) c4 by rw [Mx.nG, HX.o, ← hP.o, ← Mx.gw (by rcases HMH.o with h | h <;> omega)]; exact H2.o)
          have GN := aa (hG.o.trans ((bE D1.o _).trans ((cy (aq W1 _)).trans G2.o)))
          clear e0 e1 e2 e3 e4 e5 e6 e7 u0 u1 u2 u3 u4 u5 u6 u7 v0 v1 v2 v3 v4 v5 v6 v7
          go_wp2_with fail
          exact ⟨⟨k + 1, a3, c3, a4, c4, by go_num, by omega, HN, GN⟩, by simp [intOf]; omega⟩
      · have hkm2 : k = m := by omega
        subst hkm2
        have HL0 := aa (show Mx.cR left k = 0 by rw [HML.o hkn]; exact Mx.fx)
        have HW := aa (Mx.jG HDM.o hPl (by rw [Mx.gX]; omega) HL0.o)
        go_region_held3 (fun w' => w'.cell? ⟨g, 0, none⟩ = some (.int .i64 (n : Int)) ∧ w'.cell? ⟨wr.heap.size, 0, none⟩ = some (.int .u8 x.z0) ∧ w'.cell? ⟨wr.heap.size, 1, none⟩ = some (.int .u8 x.z1) ∧ w'.cell? ⟨wr.heap.size, 2, none⟩ = some (.int .u8 x.z2) ∧ w'.cell? ⟨wr.heap.size, 3, none⟩ = some (.int .u8 x.z3) ∧ w'.cell? ⟨wr.heap.size, 4, none⟩ = some (.int .u8 x.z4) ∧ w'.cell? ⟨wr.heap.size, 5, none⟩ = some (.int .u8 x.z5) ∧ w'.cell? ⟨wr.heap.size, 6, none⟩ = some (.int .u8 x.z6) ∧ w'.cell? ⟨wr.heap.size, 7, none⟩ = some (.int .u8 x.z7))
          (first
            | with_reducible exact ⟨x0, u0, u1, u2, u3, u4, u5, u6, u7⟩
            | (simp only [an]; with_reducible exact ⟨x0, u0, u1, u2, u3, u4, u5, u6, u7⟩)
            | with_reducible exact ⟨y0, v0, v1, v2, v3, v4, v5, v6, v7⟩)
          (first
            | (go_at_call 71; refine (lM g n q k _ (by first | exact x0 | (simp only [an]; exact x0)) hn2 hq hkn).mono ?_; rintro e wz ⟨rfl, hz⟩; obtain rfl := hz.symm; clear hz; rw [← hP.o])
            | (go_at_call 78; (with_reducible refine (jT g n h ls (Mx.cP n q bl k) (Mx.cR left k) a1 c1 a2 k c2 _ H1d.o (P : Int) x HW.o).mono ?_); rintro e w2 ⟨rfl, E2⟩; have H2 := aa (H1d.o.later E2); have y0 := H2.o.bx.cells.1; have X2 := aa (show Bx w2 wr.heap.size #[.int .u8 x.z0, .int .u8 x.z1, .int .u8 x.z2, .int .u8 x.z3, .int .u8 x.z4, .int .u8 x.z5, .int .u8 x.z6, .int .u8 x.z7] 33 from (Bx.vF X1.o).later E2 (Bx.vF X1.o).lt); obtain ⟨v0, v1, v2, v3, v4, v5, v6, v7⟩ := Bx.bC X2.o))
        all_goals
          have GN := aa (show w.grownBy w2 (some g) from hG.o.trans ((bE D1.o _).trans ((cy (aq W1 _)).trans (bE E2 _))))
          clear e0 e1 e2 e3 e4 e5 e6 e7 u0 u1 u2 u3 u4 u5 u6 u7 v0 v1 v2 v3 v4 v5 v6 v7
          go_wp2_with fail
          exact bodyPost_ret (v := .iface 28 (.int .i64 4)) (by simp [results, Tryz.results76, go_sem]) rfl ⟨a1, c1, a2, c2, by rw [Mx.nF hkn], H2, GN⟩
    · have hkk : k = n := by omega
      subst hkk
      have hmk : m = k := by omega
      subst hmk
      go_wp2_with fail
      refine Met.intro (aL (c := .seq _ .ret) rfl ?_)
      try clear hK
      try clear K
      go_wp2_with fail
      exact bodyPost_ret (v := .nilIface) (by simp [results, Tryz.results76, go_sem]) rfl ⟨a1, c1, a2, c2, by rw [Mx.pC], hS, hG⟩


theorem CR (p4 p14 p10:Nat) (g n h:Nat) (ls:List B8) (left:Int) (sa:Option Addr) (sc:Nat) (pa:Option Addr) (pc:Nat) (w:World) (hs:StW w g n h ls [] left sa sc pa 0 pc) (q:Nat) (hq:q≤1) (ba:Option Addr) (bc:Nat) (bl:List B8) (hb:BL w ba n bl) (hbg:0<n→∀ p,ba=some p→p.block≠g) (m:Nat) (hm:m≤n) (hml:m<n→left=(m:Int)) (hmh:left<0∨(m:Int)≤left)
 (c4:w.cell? ⟨p4,0,none⟩=some (.pointer (some ⟨g,0,none⟩))) (c14:w.cell? ⟨p14,0,none⟩=some (.int .i64 (q:Int))) (c10:w.cell? ⟨p10,0,none⟩=some (.slice ba n bc)) :
 Calls Tryz.prog 75 #[.pointer (some ⟨p4,0,none⟩),.pointer (some ⟨p14,0,none⟩),.pointer (some ⟨p10,0,none⟩)] w fun e w'=>∃ a1 c1 a2 c2,e=.returned (Mx.ku m n)∧Hid (StW w' g n h ls (Mx.cP n q bl m) (Mx.cR left m) a1 c1 a2 m c2)∧Hid (w.grownBy w' (some g)):=by
 have HF:=aa (z9 g n h ls left sa sc pa pc w hs q hq ba bc bl hb hbg m hm hml hmh);clear hs hb hbg hml hmh;go_enter Tryz.func75,Tryz.ntmps75;change aB Tryz.f75 _ 0 _ w;refine aj rfl ?_;intro K hK;go_wp2_with fail;refine Met.intro (aL (c:=.seq _ .ret) rfl ?_);try clear hK
 try clear K
 go_wp2_with fail;refine HF.o.mono ?_;rintro e w2 ⟨a1,c1,a2,c2,rfl,H2,G2⟩;clear HF;go_wp2_with fail;exact bodyPost_ret (v:=Mx.ku m n) (by simp[results,Tryz.results75,go_sem]) rfl ⟨a1,c1,a2,c2,rfl,H2,G2⟩
theorem StW.FY {w:World} {g n h:Nat} {ls:List B8} {ps:List Pt} {left:Int} {sa:Option Addr} {sc:Nat} {pa:Option Addr} {pn pc:Nat} (hs:StW w g n h ls ps left sa sc pa pn pc) {q:Nat} (hq:q≤1):StW (w.setCell ⟨g,1,none⟩ (.int .i64 (q:Int))) g n q ls ps left sa sc pa pn pc :=
 {bx:=Bx.set hs.bx 1 _,bl:=hs.bl.gT (ak (aq _ _) _ _) hs.a1,pl:=hs.pl.gT (ak (aq _ _) _ _) hs.a2,a1:=hs.a1,a2:=hs.a2,n1:=hs.n1,n2:=hs.n2,h1:=hq,l1:=hs.l1,l2:=hs.l2}
theorem CS (p4 p14:Nat) (g n h:Nat) (ls:List B8) (ps:List Pt) (left:Int) (sa:Option Addr) (sc:Nat) (pa:Option Addr) (pn pc:Nat) (w:World) (hs:StW w g n h ls ps left sa sc pa pn pc) (q:Nat) (hq:q≤1)
 (c4:w.cell? ⟨p4,0,none⟩=some (.pointer (some ⟨g,0,none⟩))) (c14:w.cell? ⟨p14,0,none⟩=some (.int .i64 (q:Int))) :
 Calls Tryz.prog 82 #[.pointer (some ⟨p14,0,none⟩),.pointer (some ⟨p4,0,none⟩)] w fun e w'=>e=.returned .nilIface∧Hid (StW w' g n q ls ps left sa sc pa pn pc)∧Hid (w.grownBy w' (some g)):=by
 have HH:=aa (hs.FY hq);have GG:=aa (show w.grownBy (w.setCell ⟨g,1,none⟩ (.int .i64 (q:Int))) (some g) from ak (aq _ _) _ _);obtain⟨x0,x1,x2,x3,x4⟩:=hs.bx.cells;have xz:=hs.bx.frozen;clear hs;go_enter Tryz.func82,Tryz.ntmps82;change aB Tryz.f82 _ 0 _ w;refine aj rfl ?_;intro K hK;go_wp2_with fail;refine Met.intro (aj rfl ?_);try clear hK
 try clear K
 intro K hK;go_wp2_with fail;refine Met.intro (aL (c:=.seq _ .ret) rfl ?_);try clear hK
 try clear K
 go_wp2_with fail;exact bodyPost_ret (v:=.nilIface) (by simp[results,Tryz.results82,go_sem]) rfl ⟨rfl,HH,GG⟩
theorem Er (p4 p14:Nat) (g n h:Nat) (ls:List B8) (ps:List Pt) (left:Int) (sa:Option Addr) (sc:Nat) (pa:Option Addr) (pn pc:Nat) (w:World) (hs:StW w g n h ls ps left sa sc pa pn pc) (q:Nat) (hq:q≤1) (hm:Mx.cg (Mx.sz n) ps left 0=0)
 (c4:w.cell? ⟨p4,0,none⟩=some (.pointer (some ⟨g,0,none⟩))) (c14:w.cell? ⟨p14,0,none⟩=some (.int .i64 (q:Int))) :
 Calls Tryz.prog 81 #[.pointer (some ⟨p4,0,none⟩),.pointer (some ⟨p14,0,none⟩)] w fun e w'=>∃ a1 c1 a2 c2,e=.returned .nilIface∧Hid (StW w' g n h ls (ps++[⟨0,⟨(q:Int),0,0,0,0,0,0,0⟩⟩]) (Mx.less left) a1 c1 a2 (pn+1) c2)∧Hid (w.grownBy w' (some g)):=by
 have HF:=aa (lQ g n h ls ps left sa sc pa pn pc w hs 0 ⟨(q:Int),0,0,0,0,0,0,0⟩ hm);clear hs hm;have hwq:IntKind.u8.wrap (q:Int)=(q:Int):=by
  match q,hq with
  | 0, _ => rfl
  | 1, _ => rfl
 go_enter Tryz.func81,Tryz.ntmps81;change aB Tryz.f81 _ 0 _ w;refine aj rfl ?_;intro K hK;go_wp2_with fail;refine Met.intro (aL (c:=.seq _ .ret) rfl ?_);try clear hK
 try clear K
 go_wp2_with fail;refine HF.o.mono ?_;rintro e w2 ⟨a1,c1,a2,c2,rfl,H2,G2⟩;clear HF;go_wp2_with fail;exact bodyPost_ret (v:=.nilIface) (by simp[results,Tryz.results81,go_sem]) rfl ⟨rfl,⟨a1,c1,a2,c2,H2⟩,G2⟩
def Cp (w:World) (e:Ending) (w':World):Prop:=e=.returned (.iface 28 (.int .i64 4))∧Gq w w'
theorem Ay (p4 p14:Nat) (g n h:Nat) (ls:List B8) (ps:List Pt) (left:Int) (sa:Option Addr) (sc:Nat) (pa:Option Addr) (pn pc:Nat) (w:World) (hs:StW w g n h ls ps left sa sc pa pn pc) (q:Nat) (hq:q≤1) (hm:Mx.cg (Mx.sz n) ps left 0=4)
 (c4:w.cell? ⟨p4,0,none⟩=some (.pointer (some ⟨g,0,none⟩))) (c14:w.cell? ⟨p14,0,none⟩=some (.int .i64 (q:Int))) :
 Calls Tryz.prog 81 #[.pointer (some ⟨p4,0,none⟩),.pointer (some ⟨p14,0,none⟩)] w (Cp w):=by
 have HS:=aa hs;have HM:=aa hm;clear hs hm;have hwq:IntKind.u8.wrap (q:Int)=(q:Int):=by
  match q,hq with
  | 0, _ => rfl
  | 1, _ => rfl
 go_enter Tryz.func81,Tryz.ntmps81;change aB Tryz.f81 _ 0 _ w;refine aj rfl ?_;intro K hK;go_wp2_with fail;refine Met.intro (aL (c:=.seq _ .ret) rfl ?_);try clear hK
 try clear K
 go_wp2_with fail;refine(jT g n h ls ps left sa sc pa pn pc w HS.o 0 ⟨(q:Int),0,0,0,0,0,0,0⟩ HM.o).mono ?_;rintro e w2 ⟨rfl,E2⟩;go_wp2_with fail;exact bodyPost_ret (v:=.iface 28 (.int .i64 4)) (by simp[results,Tryz.results81,go_sem]) rfl ⟨rfl,E2⟩
theorem Eo (p4 p14 p6 p7:Nat) (g n h:Nat) (ls:List B8) (ps:List Pt) (left:Int) (sa:Option Addr) (sc:Nat) (pa:Option Addr) (pn pc:Nat) (w:World) (hs:StW w g n h ls ps left sa sc pa pn pc) (q:Nat) (hq:q≤1) (a b:Int) (ha0:0≤a) (ha1:a≤2147483647) (hb0:0≤b) (hb1:b≤2147483647) (hm:Mx.cg (Mx.sz n) ps left ((Mx.npl n q:Nat):Int)=0)
 (c4:w.cell? ⟨p4,0,none⟩=some (.pointer (some ⟨g,0,none⟩))) (c14:w.cell? ⟨p14,0,none⟩=some (.int .i64 (q:Int))) (c6:w.cell? ⟨p6,0,none⟩=some (.int .i64 a)) (c7:w.cell? ⟨p7,0,none⟩=some (.int .i64 b)) (hp4:p4<w.heap.size) (hp14:p14<w.heap.size) (hp6:p6<w.heap.size) (hp7:p7<w.heap.size) (n4:p4≠g) (n14:p14≠g) (n6:p6≠g) (n7:p7≠g) :
 Calls Tryz.prog 77 #[.pointer (some ⟨p4,0,none⟩),.pointer (some ⟨p14,0,none⟩),.pointer (some ⟨p6,0,none⟩),.pointer (some ⟨p7,0,none⟩)] w fun e w'=>∃ a1 c1 a2 c2,e=.returned .nilIface∧Hid (StW w' g n h ls (ps++[⟨((Mx.npl n q:Nat):Int),Mx.dK a b⟩]) (Mx.less left) a1 c1 a2 (pn+1) c2)∧Hid (w.grownBy w' (some g)):=by
 have HM:=aa hm;clear hm;have HH:=aa hs;have hn2:=hs.n2;have x0:=hs.bx.cells.1;have hgw:g<w.heap.size:=hs.bx.lt;clear hs;obtain⟨P,hP⟩:∃ P:Nat,Hid (P=Mx.npl n q):=⟨_,rfl⟩
 obtain⟨x,hx⟩:∃ x:B8,Hid (x=Mx.dK a b):=⟨_,rfl⟩
 rw[←hP.o] at HM;go_enter Tryz.func77,Tryz.ntmps77;change aB Tryz.f77 _ 0 _ w;refine aj rfl ?_;intro K hK;go_wp2_with fail;refine Met.intro (aL (c:=.seq _ .ret) rfl ?_);try clear hK
 try clear K
 go_upto_region 1 with fail
 go_region_held3 (fun w'=>w'.cell? ⟨g,0,none⟩=some (.int .i64 (n:Int))∧w'.cell? ⟨p4,0,none⟩=some (.pointer (some ⟨g,0,none⟩))∧w'.cell? ⟨p14,0,none⟩=some (.int .i64 (q:Int))∧w'.cell? ⟨p6,0,none⟩=some (.int .i64 a)∧w'.cell? ⟨p7,0,none⟩=some (.int .i64 b))
  (first
    | with_reducible exact ⟨x0, c4, c14, c6, c7⟩
    |(simp only[an];with_reducible exact⟨x0,c4,c14,c6,c7⟩)
    | with_reducible exact ⟨y0, d4, d14, d6, d7⟩
    | with_reducible exact ⟨z0, f4, f14, f6, f7⟩)
  (first
    |(go_at_call 59;refine(eR g n q _ (by first|exact x0|(simp only[an];exact x0)) hn2 hq).mono ?_;rintro e wz ⟨rfl,hz⟩;obtain rfl:=hz.symm;clear hz;rw[←hP.o])
    |(go_at_call 79;(with_reducible refine(oj a b w.drew ha0 ha1 hb0 hb1 x hx.o).mono ?_);rintro e w2 ⟨rfl,E2⟩;have D2:=aa (show Gq w w2 from(Below.refl _ _).drew.trans E2);have H2:=aa (HH.o.later D2.o);have y0:=H2.o.bx.cells.1;have d4:=(D2.o.cell (p:=⟨p4,0,none⟩) hp4).trans c4;have d14:=(D2.o.cell (p:=⟨p14,0,none⟩) hp14).trans c14;have d6:=(D2.o.cell (p:=⟨p6,0,none⟩) hp6).trans c6;have d7:=(D2.o.cell (p:=⟨p7,0,none⟩) hp7).trans c7)
    |(go_at_call 78;(with_reducible refine(lQ g n h ls ps left sa sc pa pn pc w2 H2.o (P:Int) x HM.o).mono ?_);rintro e w3 ⟨a3,c3,a5,c5,rfl,H3,G3⟩;have z0:=H3.o.bx.cells.1;have f4:=(G3.o.cell d4 (fun e=>n4 (Gg e)));have f14:=(G3.o.cell d14 (fun e=>n14 (Gg e)));have f6:=(G3.o.cell d6 (fun e=>n6 (Gg e)));have f7:=(G3.o.cell d7 (fun e=>n7 (Gg e)))))
 all_goals
  have GN:=aa (show w.grownBy w3 (some g) from(bE D2.o _).trans G3.o);rw[hP.o,hx.o] at H3;clear x0 c4 c14 c6 c7 y0 d4 d14 d6 d7 z0 f4 f14 f6 f7;go_wp2_with fail;exact bodyPost_ret (v:=.nilIface) (by simp[results,Tryz.results77,go_sem]) rfl ⟨a3,c3,a5,c5,rfl,H3,GN⟩
theorem Ax (p4 p14 p6 p7:Nat) (g n h:Nat) (ls:List B8) (ps:List Pt) (left:Int) (sa:Option Addr) (sc:Nat) (pa:Option Addr) (pn pc:Nat) (w:World) (hs:StW w g n h ls ps left sa sc pa pn pc) (q:Nat) (hq:q≤1) (a b:Int) (ha0:0≤a) (ha1:a≤2147483647) (hb0:0≤b) (hb1:b≤2147483647) (hm:Mx.cg (Mx.sz n) ps left ((Mx.npl n q:Nat):Int)=4)
 (c4:w.cell? ⟨p4,0,none⟩=some (.pointer (some ⟨g,0,none⟩))) (c14:w.cell? ⟨p14,0,none⟩=some (.int .i64 (q:Int))) (c6:w.cell? ⟨p6,0,none⟩=some (.int .i64 a)) (c7:w.cell? ⟨p7,0,none⟩=some (.int .i64 b)) (hp4:p4<w.heap.size) (hp14:p14<w.heap.size) (hp6:p6<w.heap.size) (hp7:p7<w.heap.size) (n4:p4≠g) (n14:p14≠g) (n6:p6≠g) (n7:p7≠g) :
 Calls Tryz.prog 77 #[.pointer (some ⟨p4,0,none⟩),.pointer (some ⟨p14,0,none⟩),.pointer (some ⟨p6,0,none⟩),.pointer (some ⟨p7,0,none⟩)] w (Cp w):=by
 have HM:=aa hm;clear hm;have HH:=aa hs;have hn2:=hs.n2;have x0:=hs.bx.cells.1;have hgw:g<w.heap.size:=hs.bx.lt;clear hs;obtain⟨P,hP⟩:∃ P:Nat,Hid (P=Mx.npl n q):=⟨_,rfl⟩
 obtain⟨x,hx⟩:∃ x:B8,Hid (x=Mx.dK a b):=⟨_,rfl⟩
 rw[←hP.o] at HM;go_enter Tryz.func77,Tryz.ntmps77;change aB Tryz.f77 _ 0 _ w;refine aj rfl ?_;intro K hK;go_wp2_with fail;refine Met.intro (aL (c:=.seq _ .ret) rfl ?_);try clear hK
 try clear K
 go_upto_region 1 with fail
 go_region_held3 (fun w'=>w'.cell? ⟨g,0,none⟩=some (.int .i64 (n:Int))∧w'.cell? ⟨p4,0,none⟩=some (.pointer (some ⟨g,0,none⟩))∧w'.cell? ⟨p14,0,none⟩=some (.int .i64 (q:Int))∧w'.cell? ⟨p6,0,none⟩=some (.int .i64 a)∧w'.cell? ⟨p7,0,none⟩=some (.int .i64 b))
  (first
    | with_reducible exact ⟨x0, c4, c14, c6, c7⟩
    |(simp only[an];with_reducible exact⟨x0,c4,c14,c6,c7⟩)
    | with_reducible exact ⟨y0, d4, d14, d6, d7⟩
    | with_reducible exact ⟨z0, f4, f14, f6, f7⟩)
  (first
    |(go_at_call 59;refine(eR g n q _ (by first|exact x0|(simp only[an];exact x0)) hn2 hq).mono ?_;rintro e wz ⟨rfl,hz⟩;obtain rfl:=hz.symm;clear hz;rw[←hP.o])
    |(go_at_call 79;(with_reducible refine(oj a b w.drew ha0 ha1 hb0 hb1 x hx.o).mono ?_);rintro e w2 ⟨rfl,E2⟩;have D2:=aa (show Gq w w2 from(Below.refl _ _).drew.trans E2);have H2:=aa (HH.o.later D2.o);have y0:=H2.o.bx.cells.1;have d4:=(D2.o.cell (p:=⟨p4,0,none⟩) hp4).trans c4;have d14:=(D2.o.cell (p:=⟨p14,0,none⟩) hp14).trans c14;have d6:=(D2.o.cell (p:=⟨p6,0,none⟩) hp6).trans c6;have d7:=(D2.o.cell (p:=⟨p7,0,none⟩) hp7).trans c7)
    |(go_at_call 78;(with_reducible refine(jT g n h ls ps left sa sc pa pn pc w2 H2.o (P:Int) x HM.o).mono ?_);rintro e w3 ⟨rfl,E3⟩;have G3:=aa (bE E3 (some g));have z0:=(H2.o.later E3).bx.cells.1;have f4:=(G3.o.cell d4 (fun e=>n4 (Gg e)));have f14:=(G3.o.cell d14 (fun e=>n14 (Gg e)));have f6:=(G3.o.cell d6 (fun e=>n6 (Gg e)));have f7:=(G3.o.cell d7 (fun e=>n7 (Gg e)))))
 all_goals
  have DN:=aa (show Gq w w3 from D2.o.trans (E3.mono D2.o.size));clear x0 c4 c14 c6 c7 y0 d4 d14 d6 d7 z0 f4 f14 f6 f7;go_wp2_with fail;exact bodyPost_ret (v:=.iface 28 (.int .i64 4)) (by simp[results,Tryz.results77,go_sem]) rfl ⟨rfl,DN.o⟩
theorem FX (g n h:Nat) (ls:List B8) (ps:List Pt) (left:Int) (sa:Option Addr) (sc:Nat) (pa:Option Addr) (pn pc:Nat) (w:World) (hs:StW w g n h ls ps left sa sc pa pn pc) (ua:Option Addr) (un uc:Nat) (a b:Int) (hun:n<un) :
 Calls Tryz.prog 73 #[.pointer (some ⟨g,0,none⟩),.slice ua un uc,.int .i64 a,.int .i64 b] w fun e w'=>e=.returned (.iface 28 (.int .i64 2))∧w'=w:=by
 have hui:(n:Int)<un:=by omega
 have HH:=aa hs;have hn1:=hs.n1;have hn2:=hs.n2;have hgw:g<w.heap.size:=Bx.lt hs.bx;have x0:=hs.bx.cells.1;clear hs;go_enter Tryz.func73,Tryz.ntmps73;change aB Tryz.f73 _ 0 _ w;refine aj rfl ?_;intro K hK;go_wp2_with fail;refine Met.intro (aj rfl ?_);try clear hK
 try clear K
 intro K hK;go_wp2_with fail;refine(fp g n w x0 hn1).mono ?_;rintro e wz ⟨rfl,hz⟩;obtain rfl:=hz.symm;clear hz;go_wp2_with fail;refine Met.intro (aj rfl ?_);try clear hK
 try clear K
 intro K hK;go_wp2_with fail;exact bodyPost_ret (v:=.iface 28 (.int .i64 2)) (by simp[results,Tryz.results73,go_sem]) rfl ⟨rfl,rfl⟩
theorem FZ (g n h:Nat) (ls:List B8) (ps:List Pt) (left:Int) (sa:Option Addr) (sc:Nat) (pa:Option Addr) (pn pc:Nat) (w:World) (hs:StW w g n h ls ps left sa sc pa pn pc) (ua:Option Addr) (un uc:Nat) (a b:Int) (hun:un≤n) (hab:min a b<0∨2147483647<max a b) :
 Calls Tryz.prog 73 #[.pointer (some ⟨g,0,none⟩),.slice ua un uc,.int .i64 a,.int .i64 b] w fun e w'=>e=.returned (.iface 28 (.int .i64 1))∧w'=w:=by
 have hui:¬(n:Int)<un:=by omega
 have HAB:=aa hab;clear hab;have HH:=aa hs;have hn1:=hs.n1;have hn2:=hs.n2;have hgw:g<w.heap.size:=Bx.lt hs.bx;have x0:=hs.bx.cells.1;clear hs;go_enter Tryz.func73,Tryz.ntmps73;change aB Tryz.f73 _ 0 _ w;refine aj rfl ?_;intro K hK;go_wp2_with fail;refine Met.intro (aj rfl ?_);try clear hK
 try clear K
 intro K hK;go_wp2_with fail;refine(fp g n w x0 hn1).mono ?_;rintro e wz ⟨rfl,hz⟩;obtain rfl:=hz.symm;clear hz;go_wp2_with fail;refine Met.intro (aj rfl ?_);try clear hK
 try clear K
 intro K hK;go_wp2_with fail;refine Met.intro (aj rfl ?_);try clear hK
 try clear K
 intro K hK;go_wp2_with fail;all_goals first
  | exact bodyPost_ret (v := .iface 28 (.int .i64 1)) (by simp [results, Tryz.results73, go_sem]) rfl ⟨rfl, rfl⟩
  |(exfalso;have h9:=HAB.o;omega)
def Mx.ccV (n:Nat) (us:List Pt):Value:=if us.all (fun p=>Mx.inside n p.at_)=true then .nilIface else .iface 28 (.int .i64 1)
theorem Mx.uA {n:Nat} {us:List Pt} {k:Nat} {p:Pt} (hk:us[k]?=some p) (hp:Mx.inside n p.at_=false):Mx.ccV n us=.iface 28 (.int .i64 1):=by
 unfold Mx.ccV;rw[if_neg];intro h;rw[List.all_eq_true] at h;have h1:=h p (Gp hk);rw[hp] at h1;cases h1
theorem Mx.En {n:Nat} {us:List Pt} (h:∀ (i:Nat) (p:Pt),us[i]?=some p→Mx.inside n p.at_=true):Mx.ccV n us=.nilIface:=by
 unfold Mx.ccV;rw[if_pos];rw[List.all_eq_true];intro p hp;obtain⟨i,hi⟩:=List.getElem?_of_mem hp;exact h i p hi
theorem BY (g n h:Nat) (ls:List B8) (ps:List Pt) (left:Int) (sa:Option Addr) (sc:Nat) (pa:Option Addr) (pn pc:Nat) (w:World) (hs:StW w g n h ls ps left sa sc pa pn pc) (ua:Option Addr) (un uc:Nat) (us:List Pt) (hu:PL w ua un us) (a b:Int) (hun:un≤n) (ha0:0≤a) (ha1:a≤2147483647) (hb0:0≤b) (hb1:b≤2147483647) :
 Calls Tryz.prog 73 #[.pointer (some ⟨g,0,none⟩),.slice ua un uc,.int .i64 a,.int .i64 b] w fun e w'=>e=.returned (Mx.ccV n us)∧Hid (Gq w w'):=by
 have hui:¬(n:Int)<un:=by omega
 have HU:=aa hu;clear hu;have HH:=aa hs;have hn1:=hs.n1;have hn2:=hs.n2;have hgw:g<w.heap.size:=Bx.lt hs.bx;have x0:=hs.bx.cells.1;clear hs;go_enter Tryz.func73,Tryz.ntmps73;change aB Tryz.f73 _ 0 _ w;refine aj rfl ?_;intro K hK;go_wp2_with fail;refine Met.intro (aj rfl ?_);try clear hK
 try clear K
 intro K hK;go_wp2_with fail;refine(fp g n w x0 hn1).mono ?_;rintro e wz ⟨rfl,hz⟩;obtain rfl:=hz.symm;clear hz;go_wp2_with fail;refine Met.intro (aj rfl ?_);try clear hK
 try clear K
 intro K hK;go_wp2_with fail;refine Met.intro (aj rfl ?_);try clear hK
 try clear K
 intro K hK;have e1:decide (a<0)=false:=by simp;omega
 have e2:decide (b<0)=false:=by simp;omega
 have e3:decide (2147483647<a)=false:=by simp;omega
 have e4:decide (2147483647<b)=false:=by simp;omega
 go_wp2_with fail;all_goals first
  |(exfalso;omega)
  | skip
 all_goals
  refine Met.intro (aj rfl ?_);try clear hK
  try clear K
  intro K hK;go_wp2_with fail;go_loopw [38] (fun t wr=>∃ k:Nat,t=.int .i64 (k:Int)∧k≤un∧Hid (∀ (i:Nat) (p:Pt),i<k→us[i]?=some p→Mx.inside n p.at_=true)∧Hid (Gq w wr)) (fun t _=>un-(intOf t).toNat)
  case atStart=>exact⟨0,rfl,by omega,fun i p hi _=>absurd hi (by omega),Below.refl _ _⟩
  case round =>
   obtain⟨k,rfl,hk,hI,hB⟩:=hrel;by_cases hku:k<un
   ·have hki:(k:Int)<un:=by omega
    obtain⟨bb,off,p,hba,hbw,hp,c0,c1,c2,c3,c4,c5,c6,c7,c8⟩:=(HU.o.later hB.o).at_ k hku;subst hba;have HP:=aa hp;clear hp;have H1:=aa (HH.o.later hB.o);have y0:=H1.o.bx.cells.1;have hgr:g<wr.heap.size:=H1.o.bx.lt;obtain⟨W1,hW1⟩:∃ W1:World,Hid (W1=wr.alloc (.cells #[.int .i64 p.at_,.int .u8 p.d.z0,.int .u8 p.d.z1,.int .u8 p.d.z2,.int .u8 p.d.z3,.int .u8 p.d.z4,.int .u8 p.d.z5,.int .u8 p.d.z6,.int .u8 p.d.z7] 114)):=⟨_,rfl⟩
    have D1:=aa (show Gq w W1 by rw[hW1.o];exact hB.o.alloc hB.o.size _);have z0:=(HH.o.later D1.o).bx.cells.1;go_wp2_with fail;rw[←hW1.o];refine(mX g n p.at_ W1 z0).mono ?_;rintro e wz ⟨rfl,hz⟩;obtain rfl:=hz.symm;clear hz c0 c1 c2 c3 c4 c5 c6 c7 c8;by_cases hin:Mx.inside n p.at_=true
    ·have HN:=aa (show ∀ (i:Nat) (p':Pt),i<k+1→us[i]?=some p'→Mx.inside n p'.at_=true from fun i p' hi hp'=>by
      by_cases he:i=k
      ·subst he
       rw[HP.o] at hp';cases hp'
       exact hin
      ·exact hI.o i p' (by omega) hp')
     rw[hin];go_wp2_with fail;exact⟨⟨k+1,by go_num,by omega,HN,D1⟩,by simp[intOf];omega⟩
    ·have hinf:Mx.inside n p.at_=false:=by simpa using hin
     have HV:=aa (Mx.uA HP.o hinf);rw[hinf];go_wp2_with fail;exact bodyPost_ret (v:=.iface 28 (.int .i64 1)) (by simp[results,Tryz.results73,go_sem]) rfl ⟨by rw[HV.o],D1⟩
   ·have hkk:k=un:=by omega
    subst hkk;go_wp2_with fail;refine Met.intro (aL (c:=.seq _ .ret) rfl ?_);try clear hK
    try clear K
    go_wp2_with fail;exact bodyPost_ret (v:=.nilIface) (by simp[results,Tryz.results73,go_sem]) rfl ⟨by rw[Mx.En (fun i p hi=>hI.o i p (by have h9:=(Gh.1 hi).1;have h8:=HU.o.1;omega) hi)],hB⟩
theorem DX (r:Nat) (w:World) (I:Nat→World→Prop) (B:World→Prop) (h0:I 0 w)
 (hI:∀ (k:Nat) (w':World),k<6→I k w'→∃ fn rc cp,w'.cell? ⟨r,k,none⟩=some (.func (.func fn) rc cp)∧(∀ (xs:Array Value) (W:World),(callFunc fn xs).run Tryz.prog W=.ok (.enter fn xs) W)∧Calls Tryz.prog fn (rc++cp) w' (fun e w''=>(e=.returned .nilIface∧I (k+1) w'')∨(e=.returned (.iface 28 (.int .i64 4))∧B w''))) :
 Calls Tryz.prog 74 #[.slice (some ⟨r,0,none⟩) 6 6] w fun e w'=>(e=.returned .nilIface∧I 6 w')∨(e=.returned (.iface 28 (.int .i64 4))∧B w'):=by
 have HI:=aa hI;have H0:=aa h0;clear hI h0;go_enter Tryz.func74,Tryz.ntmps74;change aB Tryz.f74 _ 0 _ w;refine aj rfl ?_;intro K hK;go_wp2_with fail;refine Met.intro (aj rfl ?_);try clear hK
 try clear K
 intro K hK;go_wp2_with fail;go_loopw [8] (fun t wr=>∃ k:Nat,t=.int .i64 (k:Int)∧k≤6∧Hid (I k wr)) (fun t _=>6-(intOf t).toNat)
 case atStart=>exact⟨0,rfl,by omega,H0⟩
 case round =>
  obtain⟨k,rfl,hk,hJ⟩:=hrel;by_cases hk6:k<6
  ·obtain⟨fn,rc,cp,hc,hcf,hC⟩:=HI.o k wr hk6 hJ.o
   have HC:=aa hC;clear hC;have hki:(k:Int)<6:=by omega
   go_wp2_with fail;refine HC.o.mono ?_;rintro e w2 (⟨rfl,hN⟩|⟨rfl,hN⟩)
   ·have HN:=aa hN
    clear hN;go_wp2_with fail;exact⟨⟨k+1,by go_num,by omega,HN⟩,by simp[intOf];omega⟩
   ·have HN:=aa hN
    clear hN;go_wp2_with fail;exact bodyPost_ret (v:=.iface 28 (.int .i64 4)) (by simp[results,Tryz.results74,go_sem]) rfl (.inr ⟨rfl,HN.o⟩)
  ·obtain rfl:k=6:=by omega
   go_wp2_with fail;refine Met.intro (aL (c:=.seq _ .ret) rfl ?_);try clear hK
   try clear K
   go_wp2_with fail;exact bodyPost_ret (v:=.nilIface) (by simp[results,Tryz.results74,go_sem]) rfl (.inl ⟨rfl,hJ.o⟩)
section
def Mx.Fm (n q:Nat) (ls bl:List B8) (a b:Int) (ls':List B8) (ps':List Pt):Prop :=
 (ls'=ls∧((∃ m,m≤n∧ps'=Mx.cP n q bl m)∨ps'=Mx.fc n q bl a b))∨(ls'=Mx.aD ls (Mx.fc n q bl a b)∧(ps'=[]∨ps'=[Mx.iI q]))
theorem Mx.Bl (n q:Nat) (bl:List B8) (a b:Int):(Mx.fc n q bl a b).length=n+1:=by unfold Mx.fc;rw[Ge,Mx.gX];rfl
theorem Mx.uU {n q:Nat} {bl:List B8} {a b:Int} (hq:q≤1):∀ p∈Mx.fc n q bl a b,0≤p.at_∧p.at_<(Mx.sz n:Int):=fun p hp=>by
 rcases Mx.Di hp with ⟨i,hi,e⟩|e
 ·have h1:=Mx.lg hq hi
  omega
 ·have h1:=Mx.nT (n:=n) hq
  omega
theorem Mx.AH {n q:Nat} {bl:List B8} {a b:Int} (hn:n≤32) (hq:q≤1):Mx.cC (Mx.sz n) (Mx.fc n q bl a b)=0:=Mx.oG hn (by rw[Mx.Bl];omega) (Mx.uU hq)
theorem Mx.ye {n q:Nat} (hn:n≤32):Mx.cC (Mx.sz n) [Mx.iI q]=0:=Mx.oG hn (by simp) (fun p hp=>by
 simp at hp;subst hp;refine⟨Int.le_refl 0,?_⟩;show(0:Int)<_
 unfold Mx.sz;omega)
theorem Mx.l9 {N:Nat} {ps:List Pt} {left:Int} (hm:Mx.cC N ps=0) (hl:left≠0):Mx.dt N ps left=0:=by unfold Mx.dt;rw[if_pos hm,if_neg hl]
def Sst (w0:World) (g n h:Nat) (ls:List B8) (ps:List Pt) (left:Int) (L:Nat) (w:World):Prop :=
 ∃ a1 c1 a2 pn c2,StW w g n h ls ps (Mx.cR left L) a1 c1 a2 pn c2∧w0.grownBy w (some g)∧(left<0∨(L:Int)≤left)
def Sdd (w0:World) (g n h q:Nat) (ls bl:List B8) (a b left:Int) (w:World):Prop :=
 ∃ ls' ps' a1 c1 a2 pn c2,StW w g n h ls' ps' 0 a1 c1 a2 pn c2∧w0.grownBy w (some g)∧Mx.Fm n q ls bl a b ls' ps'∧0≤left
structure Cmt (w0:World) (r g n h q:Nat) (p4 p6 p7 p10 p14:Nat) (ba:Option Addr) (bc:Nat) (bl:List B8) (a b:Int):Prop where
 r0:w0.cell? ⟨r,0,none⟩=some (.func (.func 75) #[] #[.pointer (some ⟨p4,0,none⟩),.pointer (some ⟨p14,0,none⟩),.pointer (some ⟨p10,0,none⟩)])
 r1:w0.cell? ⟨r,1,none⟩=some (.func (.func 77) #[] #[.pointer (some ⟨p4,0,none⟩),.pointer (some ⟨p14,0,none⟩),.pointer (some ⟨p6,0,none⟩),.pointer (some ⟨p7,0,none⟩)])
 r2:w0.cell? ⟨r,2,none⟩=some (.func (.func 80) #[.pointer (some ⟨g,0,none⟩)] #[])
 r3:w0.cell? ⟨r,3,none⟩=some (.func (.func 81) #[] #[.pointer (some ⟨p4,0,none⟩),.pointer (some ⟨p14,0,none⟩)])
 r4:w0.cell? ⟨r,4,none⟩=some (.func (.func 80) #[.pointer (some ⟨g,0,none⟩)] #[])
 r5:w0.cell? ⟨r,5,none⟩=some (.func (.func 82) #[] #[.pointer (some ⟨p14,0,none⟩),.pointer (some ⟨p4,0,none⟩)])
 c4:w0.cell? ⟨p4,0,none⟩=some (.pointer (some ⟨g,0,none⟩))
 c6:w0.cell? ⟨p6,0,none⟩=some (.int .i64 a)
 c7:w0.cell? ⟨p7,0,none⟩=some (.int .i64 b)
 c10:w0.cell? ⟨p10,0,none⟩=some (.slice ba n bc)
 c14:w0.cell? ⟨p14,0,none⟩=some (.int .i64 (q:Int))
 rg:r≠g
 n4:p4≠g
 n6:p6≠g
 n7:p7≠g
 n10:p10≠g
 n14:p14≠g
 l4:p4<w0.heap.size
 l6:p6<w0.heap.size
 l7:p7<w0.heap.size
 l14:p14<w0.heap.size
 hb:BL w0 ba n bl
 hbg:0<n→∀ p,ba=some p→p.block≠g
 hq:q≤1
 ha0:0≤a
 ha1:a≤2147483647
 hb0:0≤b
 hb1:b≤2147483647
def Mx.CI (w0:World) (g n h q:Nat) (ls bl:List B8) (a b left:Int) (k:Nat):World→Prop :=
 match k with
 | 0 => Sst w0 g n h ls [] left 0
 | 1 => Sst w0 g n h ls (Mx.cP n q bl n) left n
 | 2 => Sst w0 g n h ls (Mx.fc n q bl a b) left (n + 1)
 | 3 => Sst w0 g n h (Mx.aD ls (Mx.fc n q bl a b)) [] left (n + 2)
 | 4 => Sst w0 g n h (Mx.aD ls (Mx.fc n q bl a b)) [Mx.iI q] left (n + 3)
 | 5 => Sst w0 g n h (Mx.aD (Mx.aD ls (Mx.fc n q bl a b)) [Mx.iI q]) [] left (n + 4)
 | _ => Sst w0 g n q (Mx.aD (Mx.aD ls (Mx.fc n q bl a b)) [Mx.iI q]) [] left (n + 4)
section
variable {w0:World} {r g n h q:Nat} {p4 p6 p7 p10 p14:Nat} {ba:Option Addr} {bc:Nat} {ls bl:List B8} {a b left:Int}
theorem EC (C:Cmt w0 r g n h q p4 p6 p7 p10 p14 ba bc bl a b) (w:World) (hw:Mx.CI w0 g n h q ls bl a b left 0 w) :
 Calls Tryz.prog 75 #[.pointer (some ⟨p4,0,none⟩),.pointer (some ⟨p14,0,none⟩),.pointer (some ⟨p10,0,none⟩)] w (fun e w'=>(e=.returned .nilIface∧Mx.CI w0 g n h q ls bl a b left 1 w')∨(e=.returned (.iface 28 (.int .i64 4))∧Sdd w0 g n h q ls bl a b left w')):=by
 obtain⟨a1,c1,a2,pn,c2,S0,G0,L0⟩:=hw;rw[Mx.kC] at S0;have hpn:pn=0:=S0.pl.1.symm;subst hpn;obtain⟨m,hm,hml,hmh⟩:∃ m:Nat,m≤n∧(m<n→left=(m:Int))∧(left<0∨(m:Int)≤left):=by
  by_cases h0:left<0
  ·exact⟨n,Gi _,fun hh=>absurd hh (by omega),.inl h0⟩
  ·by_cases h1:(n:Int)≤left
   ·exact⟨n,Gi _,fun hh=>absurd hh (by omega),.inr h1⟩
   ·exact⟨left.toNat,by omega,fun _=>by omega,.inr (by omega)⟩
 refine(CR p4 p14 p10 g n h ls left a1 c1 a2 c2 w S0 q C.hq ba bc bl (C.hb.gT G0 C.hbg) C.hbg m hm hml hmh (G0.cell C.c4 (fun e=>C.n4 (Gg e))) (G0.cell C.c14 (fun e=>C.n14 (Gg e))) (G0.cell C.c10 (fun e=>C.n10 (Gg e)))).mono ?_;rintro e w' ⟨x1,d1,x2,d2,rfl,H1,G1⟩;by_cases hmn:m=n
 ·subst hmn
  rw[Mx.pC];exact .inl ⟨rfl,x1,d1,x2,m,d2,H1.o,G0.trans G1.o,hmh⟩
 ·have hlt:m<n:=by omega
  rw[Mx.nF hlt];have hl:=hml hlt;have H2:=H1.o;rw[hl,Mx.fx] at H2;exact .inr ⟨rfl,ls,_,x1,d1,x2,m,d2,H2,G0.trans G1.o,.inl ⟨rfl,.inl ⟨m,hm,rfl⟩⟩,by omega⟩
theorem ED (C:Cmt w0 r g n h q p4 p6 p7 p10 p14 ba bc bl a b) (w:World) (hw:Mx.CI w0 g n h q ls bl a b left 1 w) :
 Calls Tryz.prog 77 #[.pointer (some ⟨p4,0,none⟩),.pointer (some ⟨p14,0,none⟩),.pointer (some ⟨p6,0,none⟩),.pointer (some ⟨p7,0,none⟩)] w (fun e w'=>(e=.returned .nilIface∧Mx.CI w0 g n h q ls bl a b left 2 w')∨(e=.returned (.iface 28 (.int .i64 4))∧Sdd w0 g n h q ls bl a b left w')):=by
 obtain⟨a1,c1,a2,pn,c2,S0,G0,L0⟩:=hw;have hsz:=G0.size;have dm:=Mx.pw (n:=n) (q:=q) (k:=n) (bl:=bl) S0.n2 C.hq (Gi _);have lm:(Mx.cP n q bl n).length≤700:=by rw[Mx.gX];have:=S0.n2;omega
 have e4:=G0.cell C.c4 (fun e=>C.n4 (Gg e));have e14:=G0.cell C.c14 (fun e=>C.n14 (Gg e));have e6:=G0.cell C.c6 (fun e=>C.n6 (Gg e));have e7:=G0.cell C.c7 (fun e=>C.n7 (Gg e));have l4:p4<w.heap.size:=Gf C.l4 hsz;have l6:p6<w.heap.size:=Gf C.l6 hsz;have l7:p7<w.heap.size:=Gf C.l7 hsz;have l14:p14<w.heap.size:=Gf C.l14 hsz;by_cases hv:left<0∨(n:Int)<left
 ·refine(Eo p4 p14 p6 p7 g n h ls _ _ a1 c1 a2 pn c2 w S0 q C.hq a b C.ha0 C.ha1 C.hb0 C.hb1 (Mx.lq dm (Mx.nT C.hq) lm (Mx.gv hv)) e4 e14 e6 e7 l4 l14 l6 l7 C.n4 C.n14 C.n6 C.n7).mono ?_
  rintro e w' ⟨x1,d1,x2,d2,rfl,H1,G1⟩;have H2:=H1.o;rw[Mx.gw hv] at H2;exact .inl ⟨rfl,x1,d1,x2,pn+1,d2,H2,G0.trans G1.o,by omega⟩
 ·have hl:left=(n:Int):=by omega
  rw[hl,Mx.fx] at S0;refine(Ax p4 p14 p6 p7 g n h ls _ _ a1 c1 a2 pn c2 w S0 q C.hq a b C.ha0 C.ha1 C.hb0 C.hb1 (Mx.jG dm (Mx.nT C.hq) lm rfl) e4 e14 e6 e7 l4 l14 l6 l7 C.n4 C.n14 C.n6 C.n7).mono ?_;rintro e w' ⟨rfl,B1⟩;exact .inr ⟨rfl,ls,_,a1,c1,a2,pn,c2,S0.later B1,G0.trans (bE B1 _),.inl ⟨rfl,.inl ⟨n,Gi _,rfl⟩⟩,by omega⟩
theorem EE (C:Cmt w0 r g n h q p4 p6 p7 p10 p14 ba bc bl a b) (w:World) (hw:Mx.CI w0 g n h q ls bl a b left 2 w) :
 Calls Tryz.prog 80 #[.pointer (some ⟨g,0,none⟩)] w (fun e w'=>(e=.returned .nilIface∧Mx.CI w0 g n h q ls bl a b left 3 w')∨(e=.returned (.iface 28 (.int .i64 4))∧Sdd w0 g n h q ls bl a b left w')):=by
 obtain⟨a1,c1,a2,pn,c2,S0,G0,L0⟩:=hw;have dm:=Mx.AH (n:=n) (q:=q) (bl:=bl) (a:=a) (b:=b) S0.n2 C.hq;by_cases hv:left<0∨((n+1:Nat):Int)<left
 ·refine(qt g n h ls _ _ a1 c1 a2 pn c2 w S0 (Mx.l9 dm (Mx.gv hv))).mono ?_
  rintro e w' ⟨x1,d1,rfl,H1,G1⟩;have H2:=H1.o;rw[Mx.gw hv] at H2;exact .inl ⟨rfl,x1,d1,none,0,0,H2,G0.trans G1.o,by omega⟩
 ·have hl:left=((n+1:Nat):Int):=by omega
  rw[hl,Mx.fx] at S0;refine(mr g n h ls _ _ a1 c1 a2 pn c2 w S0 dm rfl).mono ?_;rintro e w' ⟨rfl,B1⟩;exact .inr ⟨rfl,ls,_,a1,c1,a2,pn,c2,S0.later B1,G0.trans (bE B1 _),.inl ⟨rfl,.inr rfl⟩,by omega⟩
theorem EG (C:Cmt w0 r g n h q p4 p6 p7 p10 p14 ba bc bl a b) (w:World) (hw:Mx.CI w0 g n h q ls bl a b left 3 w) :
 Calls Tryz.prog 81 #[.pointer (some ⟨p4,0,none⟩),.pointer (some ⟨p14,0,none⟩)] w (fun e w'=>(e=.returned .nilIface∧Mx.CI w0 g n h q ls bl a b left 4 w')∨(e=.returned (.iface 28 (.int .i64 4))∧Sdd w0 g n h q ls bl a b left w')):=by
 obtain⟨a1,c1,a2,pn,c2,S0,G0,L0⟩:=hw;have dm:=Mx.lU S0.n2;have z0:0<Mx.sz n:=by unfold Mx.sz;omega
 have e4:=G0.cell C.c4 (fun e=>C.n4 (Gg e));have e14:=G0.cell C.c14 (fun e=>C.n14 (Gg e));by_cases hv:left<0∨((n+2:Nat):Int)<left
 ·refine(Er p4 p14 g n h _ _ _ a1 c1 a2 pn c2 w S0 q C.hq (Mx.lq (at_:=0) dm z0 (by simp) (Mx.gv hv)) e4 e14).mono ?_
  rintro e w' ⟨x1,d1,x2,d2,rfl,H1,G1⟩;have H2:=H1.o;rw[Mx.gw hv] at H2;exact .inl ⟨rfl,x1,d1,x2,pn+1,d2,H2,G0.trans G1.o,by omega⟩
 ·have hl:left=((n+2:Nat):Int):=by omega
  rw[hl,Mx.fx] at S0;refine(Ay p4 p14 g n h _ _ _ a1 c1 a2 pn c2 w S0 q C.hq (Mx.jG (at_:=0) dm z0 (by simp) rfl) e4 e14).mono ?_;rintro e w' ⟨rfl,B1⟩;exact .inr ⟨rfl,_,_,a1,c1,a2,pn,c2,S0.later B1,G0.trans (bE B1 _),.inr ⟨rfl,.inl rfl⟩,by omega⟩
theorem EH (_C:Cmt w0 r g n h q p4 p6 p7 p10 p14 ba bc bl a b) (w:World) (hw:Mx.CI w0 g n h q ls bl a b left 4 w) :
 Calls Tryz.prog 80 #[.pointer (some ⟨g,0,none⟩)] w (fun e w'=>(e=.returned .nilIface∧Mx.CI w0 g n h q ls bl a b left 5 w')∨(e=.returned (.iface 28 (.int .i64 4))∧Sdd w0 g n h q ls bl a b left w')):=by
 obtain⟨a1,c1,a2,pn,c2,S0,G0,L0⟩:=hw;have dm:=Mx.ye (n:=n) (q:=q) S0.n2;by_cases hv:left<0∨((n+3:Nat):Int)<left
 ·refine(qt g n h _ _ _ a1 c1 a2 pn c2 w S0 (Mx.l9 dm (Mx.gv hv))).mono ?_
  rintro e w' ⟨x1,d1,rfl,H1,G1⟩;have H2:=H1.o;rw[Mx.gw hv] at H2;exact .inl ⟨rfl,x1,d1,none,0,0,H2,G0.trans G1.o,by omega⟩
 ·have hl:left=((n+3:Nat):Int):=by omega
  rw[hl,Mx.fx] at S0;refine(mr g n h _ _ _ a1 c1 a2 pn c2 w S0 dm rfl).mono ?_;rintro e w' ⟨rfl,B1⟩;exact .inr ⟨rfl,_,_,a1,c1,a2,pn,c2,S0.later B1,G0.trans (bE B1 _),.inr ⟨rfl,.inr rfl⟩,by omega⟩
theorem EI (C:Cmt w0 r g n h q p4 p6 p7 p10 p14 ba bc bl a b) (w:World) (hw:Mx.CI w0 g n h q ls bl a b left 5 w) :
 Calls Tryz.prog 82 #[.pointer (some ⟨p14,0,none⟩),.pointer (some ⟨p4,0,none⟩)] w (fun e w'=>(e=.returned .nilIface∧Mx.CI w0 g n h q ls bl a b left 6 w')∨(e=.returned (.iface 28 (.int .i64 4))∧Sdd w0 g n h q ls bl a b left w')):=by
 obtain⟨a1,c1,a2,pn,c2,S0,G0,L0⟩:=hw;have e4:=G0.cell C.c4 (fun e=>C.n4 (Gg e));have e14:=G0.cell C.c14 (fun e=>C.n14 (Gg e));refine(CS p4 p14 g n h _ _ _ a1 c1 a2 pn c2 w S0 q C.hq e4 e14).mono ?_;rintro e w' ⟨rfl,H1,G1⟩;exact .inl ⟨rfl,a1,c1,a2,pn,c2,H1.o,G0.trans G1.o,L0⟩
theorem EJ (C:Cmt w0 r g n h q p4 p6 p7 p10 p14 ba bc bl a b) (w:World) (hw:Mx.CI w0 g n h q ls bl a b left 0 w) :
 Calls Tryz.prog 74 #[.slice (some ⟨r,0,none⟩) 6 6] w fun e w'=>(e=.returned .nilIface∧Mx.CI w0 g n h q ls bl a b left 6 w')∨(e=.returned (.iface 28 (.int .i64 4))∧Sdd w0 g n h q ls bl a b left w'):=by
 refine DX r w (Mx.CI w0 g n h q ls bl a b left) (Sdd w0 g n h q ls bl a b left) hw ?_;intro k w' hk hw';have hG:w0.grownBy w' (some g):=by
  match k,hk,hw' with
  | 0, _, h => obtain ⟨_, _, _, _, _, _, G0, _⟩ := h; exact G0
  | 1, _, h => obtain ⟨_, _, _, _, _, _, G0, _⟩ := h; exact G0
  | 2, _, h => obtain ⟨_, _, _, _, _, _, G0, _⟩ := h; exact G0
  | 3, _, h => obtain ⟨_, _, _, _, _, _, G0, _⟩ := h; exact G0
  | 4, _, h => obtain ⟨_, _, _, _, _, _, G0, _⟩ := h; exact G0
  | 5, _, h => obtain ⟨_, _, _, _, _, _, G0, _⟩ := h; exact G0
 match k,hk,hw' with
 | 0, _, h => exact ⟨_, _, _, hG.cell C.r0 (fun e => C.rg (Gg e)), fun _ _ => by kernel_rfl, EC C w' h⟩
 | 1, _, h => exact ⟨_, _, _, hG.cell C.r1 (fun e => C.rg (Gg e)), fun _ _ => by kernel_rfl, ED C w' h⟩
 | 2, _, h => exact ⟨_, _, _, hG.cell C.r2 (fun e => C.rg (Gg e)), fun _ _ => by kernel_rfl, EE C w' h⟩
 | 3, _, h => exact ⟨_, _, _, hG.cell C.r3 (fun e => C.rg (Gg e)), fun _ _ => by kernel_rfl, EG C w' h⟩
 | 4, _, h => exact ⟨_, _, _, hG.cell C.r4 (fun e => C.rg (Gg e)), fun _ _ => by kernel_rfl, EH C w' h⟩
 | 5, _, h => exact ⟨_, _, _, hG.cell C.r5 (fun e => C.rg (Gg e)), fun _ _ => by kernel_rfl, EI C w' h⟩
end
end
section
variable {n g h:Nat} {w w0 w':World} {left:Int}
theorem Mx.uy {us:List Pt} (hv:Mx.ccV n us=.nilIface):∀ (k:Nat) (p:Pt),us[k]?=some p→0≤p.at_∧p.at_<(n:Int):=fun k p hk=>by
 by_cases hi:Mx.inside n p.at_=true
 ·unfold Mx.inside at hi
  simpa using hi
 ·rw[Mx.uA hk (by simpa using hi)] at hv
  cases hv
theorem Sst.base {ls:List B8} {ps:List Pt} {L:Nat} (hs:Sst w0 g n h ls ps left L w') (hg:w.grownBy w0 (some g)):Sst w g n h ls ps left L w':=by
 obtain⟨a1,c1,a2,pn,c2,S0,G0,L0⟩:=hs;exact⟨a1,c1,a2,pn,c2,S0,hg.trans G0,L0⟩
theorem Sdd.base {q:Nat} {ls bl:List B8} {a b:Int} (hs:Sdd w0 g n h q ls bl a b left w') (hg:w.grownBy w0 (some g)):Sdd w g n h q ls bl a b left w':=by
 obtain⟨l1,p1,a1,c1,a2,pn,c2,S0,G0,L0⟩:=hs;exact⟨l1,p1,a1,c1,a2,pn,c2,S0,hg.trans G0,L0⟩
theorem ud (g n h:Nat) (ls:List B8) (left:Int) (sa:Option Addr) (sc:Nat) (pa:Option Addr) (pc:Nat) (w:World) (hs:StW w g n h ls [] left sa sc pa 0 pc) (ua:Option Addr) (un uc:Nat) (us:List Pt) (hu:PL w ua un us) (a b:Int) (hun:un≤n) (ha0:0≤a) (ha1:a≤2147483647) (hb0:0≤b) (hb1:b≤2147483647) (hv:Mx.ccV n us=.nilIface) (hl:left≠0) :
 Calls Tryz.prog 44 #[.pointer (some ⟨g,0,none⟩),.slice ua un uc,.int .i64 a,.int .i64 b] w fun e w'=>(e=.returned .nilIface∧Mx.CI w g n h (1-h) ls (Mx.aD (Mx.vw n h ls) us) a b left 6 w')∨(e=.returned (.iface 28 (.int .i64 4))∧Sdd w g n h (1-h) ls (Mx.aD (Mx.vw n h ls) us) a b left w'):=by
 have HU:=aa hu;clear hu;have HH:=aa hs;have hgw:g<w.heap.size:=Bx.lt hs.bx;clear hs;obtain⟨W0,hW0⟩:∃ W0:World,Hid (W0=((w.alloc (.cells #[.pointer (some ⟨g,0,none⟩)] 85)).alloc (.cells #[.int .i64 a] 3)).alloc (.cells #[.int .i64 b] 3)):=⟨_,rfl⟩
 have Z0:=aa (show W0.heap.size=w.heap.size+3 by rw[hW0.o];simp);have D0:=aa (show Gq w W0 by rw[hW0.o];exact((af _ _).alloc (af _ _).size _).alloc ((af _ _).alloc (af _ _).size _).size _);have X4:=aa (show Bx W0 w.heap.size #[.pointer (some ⟨g,0,none⟩)] 85 by rw[hW0.o];exact((Bx.new w _ _).later (af _ _) (Bx.new w _ _).lt).later (af _ _) (by simp;omega));have X6:=aa (show Bx W0 (w.heap.size+1) #[.int .i64 a] 3 by rw[hW0.o];exact(show Bx _ (w.heap.size+1) _ _ from by simpa using (Bx.new (w.alloc (.cells #[.pointer (some ⟨g,0,none⟩)] 85)) #[.int .i64 a] 3)).later (af _ _) (by simp));have X7:=aa (show Bx W0 (w.heap.size+1+1) #[.int .i64 b] 3 by rw[hW0.o];simpa using (Bx.new ((w.alloc (.cells #[.pointer (some ⟨g,0,none⟩)] 85)).alloc (.cells #[.int .i64 a] 3)) #[.int .i64 b] 3));have H0:=aa (HH.o.later D0.o);go_enter Tryz.func44,Tryz.ntmps44;change aB Tryz.f44 _ 0 _ w;refine aj rfl ?_;intro K hK;go_wp2_with fail;rw[←hW0.o];refine Met.intro (aj rfl ?_);try clear hK
 try clear K
 intro K hK;have x4:=X4.o.cell 0;have x6:=X6.o.cell 0;have x7:=X7.o.cell 0;go_wp2_with fail;refine(BY g n h ls [] left sa sc pa 0 pc W0 H0.o ua un uc us (HU.o.later D0.o) a b hun ha0 ha1 hb0 hb1).mono ?_;rintro e w1 ⟨rfl,E1⟩;have HV:=aa hv;rw[hv];have D1:=aa (show Gq w w1 from D0.o.trans (E1.o.mono D0.o.size));have HL:=aa hl;clear hv hl;have H1:=aa (HH.o.later D1.o);have y4:=(X4.o.later E1.o X4.o.lt).cell 0;clear x4 x6 x7;go_wp2_with fail;refine Met.intro (aj rfl ?_);try clear hK
 try clear K
 intro K hK;go_wp2_with fail;refine(vd g n h ls [] left sa sc pa 0 pc w1 H1.o rfl HL.o).mono ?_;rintro e w2 ⟨p,rfl,O2,E2⟩;have D2:=aa (show Gq w w2 from D1.o.trans (E2.mono D1.o.size));have F2:=aa (show Gq W0 w2 from E1.o.trans (E2.mono E1.o.size));have HO2:=aa O2;have HE2:=aa E2;clear O2 E2;obtain⟨W3,hW3⟩:∃ W3:World,Hid (W3=w2.alloc (.cells #[.slice (some ⟨p,0,none⟩) n n] 38)):=⟨_,rfl⟩
 clear y4;go_wp2_with fail;rw[←hW3.o];have hn1:=HH.o.n1;have hn2:=HH.o.n2;have hh1:=HH.o.h1;have hp1:=aa HO2.o.fz.1;have hp2:=aa HO2.o.fz.2.1;have E3:=aa (show Gq w1 W3 by rw[hW3.o];exact HE2.o.alloc HE2.o.size _);have O3:=aa (show au W3 w1.heap.size (.slice (some ⟨p,0,none⟩) n n) (Mx.vw n h ls) by rw[hW3.o];exact bm HO2.o (af _ _));have X10:=bxA hW3;have x10:=aa (X10.o.cell 0);have l10:=aa X10.o.lt;have s1:=aa E1.o.size;have s2:=aa HE2.o.size;clear HO2 D2 F2;refine Met.intro (aj rfl ?_);try clear hK
 try clear K
 intro K hK;go_wp2_with fail;refine Met.intro (aj rfl ?_);try clear hK
 try clear K
 intro K hK;go_wp2_with fail;go_loopw [33] (fun t wr=>∃ k:Nat,t=.int .i64 (k:Int)∧k≤un∧Hid (au wr w1.heap.size (.slice (some ⟨p,0,none⟩) n n) (Mx.aD (Mx.vw n h ls) (us.take k)))∧Hid (Gq w1 wr)∧Hid (wr.cell? ⟨w2.heap.size,0,none⟩=some (.slice (some ⟨p,0,none⟩) n n))∧Hid (w2.heap.size<wr.heap.size)) (fun t _=>un-(intOf t).toNat)
 case atStart=>exact⟨0,rfl,by omega,by rw[List.take_zero];exact O3,E3,x10,l10⟩
 case round =>
  obtain⟨k,rfl,hk,hO,hB,hC,hL⟩:=hrel;have hD:=aa (show Gq w wr from D1.o.trans (hB.o.mono D1.o.size));by_cases hku:k<un
  ·have hki:(k:Int)<un:=by omega
   obtain⟨bb,off,pt,hba,hbw,hp,c0,c1,c2,c3,c4,c5,c6,c7,c8⟩:=(HU.o.later hD.o).at_ k hku;subst hba;have HP:=aa hp;clear hp;obtain⟨i,hi⟩:∃ i:Nat,Hid (pt.at_=(i:Int)):=⟨pt.at_.toNat,by have h9:=Mx.uy HV.o k pt HP.o;unfold Hid;omega⟩
   have hin:i<n:=by have h9:=Mx.uy HV.o k pt HP.o;have h8:=hi.o;omega
   rw[hi.o] at c0;have hii:(i:Int)<n:=by omega
   obtain⟨W4,hW4⟩:∃ W4:World,Hid (W4=wr.alloc (.cells #[.int .i64 (i:Int),.int .u8 pt.d.z0,.int .u8 pt.d.z1,.int .u8 pt.d.z2,.int .u8 pt.d.z3,.int .u8 pt.d.z4,.int .u8 pt.d.z5,.int .u8 pt.d.z6,.int .u8 pt.d.z7] 114)):=⟨_,rfl⟩
   have hC4:=(show W4.cell? ⟨w2.heap.size,0,none⟩=some (.slice (some ⟨p,0,none⟩) n n) by rw[hW4.o,ao hL.o];exact hC.o)
   have X4p:=bxA hW4;have O4:=aa (show au W4 w1.heap.size (.slice (some ⟨p,0,none⟩) n n) (Mx.aD (Mx.vw n h ls) (us.take k)) by rw[hW4.o];exact bm hO.o (af _ _));have B4:=aa (show Gq w1 W4 by rw[hW4.o];exact hB.o.alloc hB.o.size _);obtain⟨y,_,e0,e1,e2,e3,e4,e5,e6,e7⟩:=O4.o.at_ i hin;have hfz:=O4.o.fz.2.2;have hln:=aa (show(Mx.aD (Mx.vw n h ls) (us.take k)).length=n by rw[Mx.cN,Mx.Fk]);have O5:=aa (show au (aR W4 p (i*8) pt.d) w1.heap.size (.slice (some ⟨p,0,none⟩) n n) (Mx.aD (Mx.vw n h ls) (us.take (k+1))) by
    have h9:=au.put O4.o i (by rw[hln.o];exact hin) pt.d;rw[Mx.gq _ _ _ _ HP.o,hi.o,Int.toNat_natCast];exact h9)
   have B5:=aa (bP B4.o hp2.o (i*8) pt.d);have hne:¬p=w2.heap.size:=by have:=hp1.o;omega
   have C5:=aa (show(aR W4 p (i*8) pt.d).cell? ⟨w2.heap.size,0,none⟩=some (.slice (some ⟨p,0,none⟩) n n) by unfold aR;simp only[aw hne];exact hC4);have L5:=aa (show w2.heap.size<(aR W4 p (i*8) pt.d).heap.size by unfold aR;simp;rw[hW4.o];simp;have:=hL.o;omega);go_upto_region 10 with fail
   rw[←hW4.o];clear c0 c1 c2 c3 c4 c5 c6 c7 c8;have f0:=X4p.o.cell 0;have f1:=X4p.o.cell 1;have f2:=X4p.o.cell 2;have f3:=X4p.o.cell 3;have f4:=X4p.o.cell 4;have f5:=X4p.o.cell 5;have f6:=X4p.o.cell 6;have f7:=X4p.o.cell 7;have f8:=X4p.o.cell 8;have hqw:¬wr.heap.size=p:=by have h8:=hO.o.fz.1;omega
   unfold aR at O5 B5 C5 L5;go_wp2_with fail;exact⟨⟨k+1,by go_num,by omega,O5,B5,C5,L5⟩,by simp[intOf];omega⟩
  ·obtain rfl:k=un:=by omega
   have HT:=aa (show us.take k=us from Gj (by rw[HU.o.1];exact Gi _));rw[HT.o] at hO;have FW:=aa (show Gq W0 wr from E1.o.trans (hB.o.mono E1.o.size));have HR:=aa (HH.o.later hD.o);obtain⟨x0,x1,x2,x3,x4⟩:=HR.o.bx.cells;have y4:=(X4.o.later FW.o X4.o.lt).cell 0;have hq1:(1:Int)-(h:Int)=((1-h:Nat):Int):=by omega
   have lsz:=aa (Gf X7.o.lt FW.o.size);obtain⟨W5,hW5⟩:∃ W5:World,Hid (W5=wr.alloc (.cells #[.int .i64 ((1-h:Nat):Int)] 3)):=⟨_,rfl⟩
   go_wp2_with fail;refine Met.intro (aj rfl ?_);try clear hK
   try clear K
   intro K hK;go_wp2_with fail;rw[←hW5.o];have FV:=aa (show Gq W0 W5 by rw[hW5.o];exact FW.o.alloc FW.o.size _);have z4:=(X4.o.later FV.o X4.o.lt).cell 0;have hz5:=aa (show W5.heap.size=wr.heap.size+1 by rw[hW5.o];simp);clear x0 x1 x2 x3 x4 y4 hq1;refine Met.intro (aL (c:=.seq _ .ret) rfl ?_);try clear hK
   try clear K
   go_wp2_with fail;obtain⟨W6,hW6⟩:∃ W6:World,Hid (W6=W5.alloc (.cells #[.func (.func 75) #[] #[.pointer (some ⟨w.heap.size,0,none⟩),.pointer (some ⟨wr.heap.size,0,none⟩),.pointer (some ⟨w2.heap.size,0,none⟩)],.func (.func 77) #[] #[.pointer (some ⟨w.heap.size,0,none⟩),.pointer (some ⟨wr.heap.size,0,none⟩),.pointer (some ⟨w.heap.size+1,0,none⟩),.pointer (some ⟨w.heap.size+1+1,0,none⟩)],.func (.func 80) #[.pointer (some ⟨g,0,none⟩)] #[],.func (.func 81) #[] #[.pointer (some ⟨w.heap.size,0,none⟩),.pointer (some ⟨wr.heap.size,0,none⟩)],.func (.func 80) #[.pointer (some ⟨g,0,none⟩)] #[],.func (.func 82) #[] #[.pointer (some ⟨wr.heap.size,0,none⟩),.pointer (some ⟨w.heap.size,0,none⟩)]] 76)):=⟨_,rfl⟩
   rw[←hW6.o];clear z4;have F5:=beA hW5;have F6:=aa (show Gq wr W6 by rw[hW6.o];exact F5.o.alloc F5.o.size _);have F65:=beA hW6;have D6:=aa (show Gq w W6 from hD.o.trans (F6.o.mono hD.o.size));have F06:=aa (show Gq W0 W6 from FW.o.trans (F6.o.mono FW.o.size));have XR:=bxA hW6;have X14:=aa ((bxA hW5).o.later F65.o (by have:=hz5.o;omega));have hsz:=aa hD.o.size;have CM:=aa (show Cmt W6 W5.heap.size g n h (1-h) w.heap.size (w.heap.size+1) (w.heap.size+1+1) w2.heap.size wr.heap.size (some ⟨p,0,none⟩) n (Mx.aD (Mx.vw n h ls) us) a b from
    {r0:=XR.o.cell 0,r1:=XR.o.cell 1,r2:=XR.o.cell 2,r3:=XR.o.cell 3,r4:=XR.o.cell 4,r5:=XR.o.cell 5,
     c4:=(X4.o.later F06.o X4.o.lt).cell 0,c6:=(X6.o.later F06.o X6.o.lt).cell 0,c7:=(X7.o.later F06.o X7.o.lt).cell 0,
     c10:=(F6.o.cell (p:=⟨w2.heap.size,0,none⟩) hL.o).trans hC.o,c14:=X14.o.cell 0,
     rg:=by have h1:=hsz.o;have h2:=hz5.o;omega,n4:=by omega,n6:=by omega,n7:=by omega,
     n10:=by have h1:=D1.o.size;have h2:=s2.o;omega,n14:=by have h1:=hsz.o;omega,
     l4:=(X4.o.later F06.o X4.o.lt).lt,l6:=(X6.o.later F06.o X6.o.lt).lt,l7:=(X7.o.later F06.o X7.o.lt).lt,l14:=X14.o.lt,
     hb:=(hO.o.qZ).later F6.o,hbg:=fun _ q hq=>by cases hq;have h1:=D1.o.size;have h2:=hp2.o;show p≠g;omega,
     hq:=by omega,ha0:=ha0,ha1:=ha1,hb0:=hb0,hb1:=hb1})
   have I6:=aa (show Mx.CI W6 g n h (1-h) ls (Mx.aD (Mx.vw n h ls) us) a b left 0 W6 from⟨sa,sc,pa,0,pc,by rw[Mx.kC];exact HH.o.later D6.o,aq _ _,by omega⟩);refine(EJ CM.o W6 I6.o).mono ?_;rintro e w7 (⟨rfl,hN⟩|⟨rfl,hN⟩)
   ·have HN:=aa (Sst.base hN (bE D6.o _))
    clear hN;go_wp2_with fail;exact bodyPost_ret (v:=.nilIface) (by simp[results,Tryz.results44,go_sem]) rfl (.inl ⟨rfl,HN.o⟩)
   ·have HN:=aa (Sdd.base hN (bE D6.o _))
    clear hN;go_wp2_with fail;exact bodyPost_ret (v:=.iface 28 (.int .i64 4)) (by simp[results,Tryz.results44,go_sem]) rfl (.inr ⟨rfl,HN.o⟩)
end
section
variable {n h q:Nat} {a b a0 b0:Int}
namespace Mx
structure Hd (n h:Nat) (ls:List B8) (bl:List B8) (a b:Int):Prop extends vj n h ls bl a b where
 mk0:0≤(ls.getD 0 zB).z0
 n1:1≤n
 n2:n≤32
 a0:0≤a
 a1:a≤2147483647
 b0:0≤b
 b1:b≤2147483647
theorem Hd.zero (h1:1≤n) (h2:n≤32):Hd n 0 (List.replicate (sz n) zB) (List.replicate n zB) 0 0 :=
 {yu n with
  mk0:=by
   rw[Ga,List.getElem?_replicate];split<;>exact Int.le_refl 0
  n1:=h1,n2:=h2,a0:=by omega,a1:=by omega,b0:=by omega,b1:=by omega}
theorem vj.view {ls bl:List B8} (H:vj n h ls bl a b):vw n h ls=bl:=by
 apply List.ext_getElem?;intro i;unfold vw;rw[List.getElem?_map];by_cases hi:i<n
 ·rw[List.getElem?_range hi]
  have h3:=H.blk i hi;have h4:i<bl.length:=by rw[H.bln];exact hi
  rw[F0 h4,Option.map_some,h3,Ga,F0 h4];rfl
 ·rw[List.getElem?_eq_none (l:=bl) (by rw[H.bln];omega),List.getElem?_eq_none (l:=List.range n) (by rw[List.length_range];omega)]
  rfl
theorem Au (h0:0≤a) (h1:a≤2147483647) (h2:0≤b) (h3:b≤2147483647):by8 (dK a b):=by
 unfold by8 dK;simp only;omega
theorem tE {ls:List B8} {ps:List Pt} (hp:∀ p∈ps,0≤p.at_∧p.at_<ls.length) (k:Nat) (h:∀ p∈ps,p.at_≠(k:Int)):(aD ls ps).getD k zB=ls.getD k zB:=by
 rw[gp ls ps hp,zQ ls ps k h,Int.toNat_natCast]
theorem AY {ls bl bl':List B8} (H:Hd n h ls bl a0 b0) (hq:q=1-h) (hb:bl'.length=n) {ls':List B8} (hl:ls'.length=sz n) (h0:(ls'.getD 0 zB).z0=(q:Int))
 (hk:∀ k,0<k→ls'.getD k zB=(aD ls (fc n q bl' a b)).getD k zB) (ha0:0≤a) (ha1:a≤2147483647) (hb0:0≤b) (hb1:b≤2147483647):Hd n q ls' bl' a b:=by
 have hh:=H.half;have hq1:q≤1:=by omega
 have hin:=uU (n:=n) (q:=q) (bl:=bl') (a:=a) (b:=b) hq1;have hin':∀ p∈fc n q bl' a b,0≤p.at_∧p.at_<(ls.length:Int):=by rw[H.len];exact hin
 refine {len:=hl,bln:=hb,half:=hq1,mark:=by rw[h0];omega,blk:=?_,al:=?_,mk0:=by rw[h0];omega,n1:=H.n1,n2:=H.n2,a0:=ha0,a1:=ha1,b0:=hb0,b1:=hb1}
 ·intro i hi
  have hne:¬((npl n q:Nat):Int)=((bpl n q i:Nat):Int):=fun e=>Dl hq1 hq1 hi (by omega)
  rw[hk _ (CL n q i),gp ls _ hin'];show dC ls (cP n q bl' n++[⟨(npl n q:Int),dK a b⟩]) _=_
  rw[gF,if_neg hne];exact vG hq1 (Gi _) hi
 ·rw[hk _ (Dm n q),gp ls _ hin']
  show dC ls (cP n q bl' n++[⟨(npl n q:Int),dK a b⟩]) _=_
  rw[gF,if_pos rfl]
theorem tH {ls bl bl':List B8} (H:Hd n h ls bl a0 b0) (hq:q=1-h) (hb:bl'.length=n) (ha0:0≤a) (ha1:a≤2147483647) (hb0:0≤b) (hb1:b≤2147483647) :
 Hd n q (aD (aD ls (fc n q bl' a b)) [iI q]) bl' a b:=by
 have hl:(aD ls (fc n q bl' a b)).length=sz n:=by rw[cN,H.len]
 have h1:∀ p∈[iI q],0≤p.at_∧p.at_<((aD ls (fc n q bl' a b)).length:Int):=fun p hp=>by
  rw[List.mem_singleton] at hp;subst hp;rw[hl];show(0:Int)≤0∧(0:Int)<_
  unfold sz;omega
 refine AY H hq hb (by rw[cN,hl]) ?_ ?_ ha0 ha1 hb0 hb1
 ·rw[gp _ _ h1]
  show(dC _ ([]++[iI q]) _).z0=_
  rw[gF,if_pos (show(iI q).at_=((0:Nat):Int) from rfl)];rfl
 ·intro k hk
  refine tE h1 k (fun p hp=>?_);rw[List.mem_singleton] at hp;subst hp;show(0:Int)≠_
  omega
end Mx
end
end Go.Proofs.YtbicgjafjjihdaaGreatDoor
