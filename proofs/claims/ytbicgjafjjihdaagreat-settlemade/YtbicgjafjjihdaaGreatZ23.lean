/- Part. -/
import Derived.Test.YtbicgjafjjihdaaGreatZ7
set_option maxHeartbeats 16000000
set_option maxRecDepth 100000
namespace Go.Proofs.YtbicgjafjjihdaaGreat
open Go.RowKit
def B8.arr (x:B8):Array Value:=#[.int .u8 x.z0,.int .u8 x.z1,.int .u8 x.z2,.int .u8 x.z3,.int .u8 x.z4,.int .u8 x.z5,.int .u8 x.z6,.int .u8 x.z7]
theorem Cs:zB.ok:=by intro z hz;simp[Mx.bytesOf,zB] at hz;omega
theorem B8.setAt (x:B8) (hx:x.ok) (i:Nat) (hi:i<8) (z:Int) (h0:0≤z) (h1:z≤255):∃ y:B8,y.ok∧x.arr.setIfInBounds i (.int .u8 z)=y.arr:=by
 have e:=fun t ht=>hx t ht
 simp only[Mx.bytesOf,List.mem_cons,List.not_mem_nil,or_false,forall_eq_or_imp,forall_eq] at e;obtain⟨e0,e1,e2,e3,e4,e5,e6,e7⟩:=e;have key:∀ y:B8,((0≤y.z0∧y.z0≤255)∧(0≤y.z1∧y.z1≤255)∧(0≤y.z2∧y.z2≤255)∧(0≤y.z3∧y.z3≤255)∧(0≤y.z4∧y.z4≤255)∧(0≤y.z5∧y.z5≤255)∧(0≤y.z6∧y.z6≤255)∧(0≤y.z7∧y.z7≤255))→y.ok:=by
  intro y hy;unfold B8.ok;simp only[Mx.bytesOf,List.mem_cons,List.not_mem_nil,or_false,forall_eq_or_imp,forall_eq];exact hy
 match i,hi with
 | 0, _ => exact ⟨{ x with z0 := z }, key _ ⟨⟨h0, h1⟩, e1, e2, e3, e4, e5, e6, e7⟩, rfl⟩
 | 1, _ => exact ⟨{ x with z1 := z }, key _ ⟨e0, ⟨h0, h1⟩, e2, e3, e4, e5, e6, e7⟩, rfl⟩
 | 2, _ => exact ⟨{ x with z2 := z }, key _ ⟨e0, e1, ⟨h0, h1⟩, e3, e4, e5, e6, e7⟩, rfl⟩
 | 3, _ => exact ⟨{ x with z3 := z }, key _ ⟨e0, e1, e2, ⟨h0, h1⟩, e4, e5, e6, e7⟩, rfl⟩
 | 4, _ => exact ⟨{ x with z4 := z }, key _ ⟨e0, e1, e2, e3, ⟨h0, h1⟩, e5, e6, e7⟩, rfl⟩
 | 5, _ => exact ⟨{ x with z5 := z }, key _ ⟨e0, e1, e2, e3, e4, ⟨h0, h1⟩, e6, e7⟩, rfl⟩
 | 6, _ => exact ⟨{ x with z6 := z }, key _ ⟨e0, e1, e2, e3, e4, e5, ⟨h0, h1⟩, e7⟩, rfl⟩
 | 7, _ => exact ⟨{ x with z7 := z }, key _ ⟨e0, e1, e2, e3, e4, e5, e6, ⟨h0, h1⟩⟩, rfl⟩
 | n + 8, h => omega
theorem oD {w:World} {g:Nat} {y:B8} {t:TypeId} (h:Bx w g y.arr t) (x:B8):Bx (aS w g 0 x) g x.arr t:=by
 have h8:=(((((((h.set 0 (.int .u8 x.z0)).set 1 (.int .u8 x.z1)).set 2 (.int .u8 x.z2)).set 3 (.int .u8 x.z3)).set 4 (.int .u8 x.z4)).set 5 (.int .u8 x.z5)).set 6 (.int .u8 x.z6)).set 7 (.int .u8 x.z7);have e:((((((((y.arr.setIfInBounds 0 (.int .u8 x.z0)).setIfInBounds 1 (.int .u8 x.z1)).setIfInBounds 2 (.int .u8 x.z2)).setIfInBounds 3 (.int .u8 x.z3)).setIfInBounds 4 (.int .u8 x.z4)).setIfInBounds 5 (.int .u8 x.z5)).setIfInBounds 6 (.int .u8 x.z6)).setIfInBounds 7 (.int .u8 x.z7))=x.arr:=by simp[B8.arr]
 rw[e] at h8;unfold aS;simp only[Nat.zero_add];exact h8
theorem kR (a:Option Addr) (n c:Nat) (l:List Int) (i:Nat) (w:World) (hl:ay w a n l) (hb:I64 l) (hn:n≤1000) (hi:i≤90000) :
 Calls Tryz.prog 20 #[.slice a n c,.int .i64 (i:Int)] w fun e w'=>∃ x:B8,x.ok∧e=.returned (.agg #[.int .u8 x.z0,.int .u8 x.z1,.int .u8 x.z2,.int .u8 x.z3,.int .u8 x.z4,.int .u8 x.z5,.int .u8 x.z6,.int .u8 x.z7])∧Hid (Below w.heap.size w w'):=by
 have HL:=aa hl;have HB:=aa hb;clear hl hb;obtain⟨w0,hw0⟩:∃ w0:World,Hid (w0=(w.alloc (.cells #[.int .u8 0,.int .u8 0,.int .u8 0,.int .u8 0,.int .u8 0,.int .u8 0,.int .u8 0,.int .u8 0] 25)).alloc (.cells #[.int .u8 0,.int .u8 0,.int .u8 0,.int .u8 0,.int .u8 0,.int .u8 0,.int .u8 0,.int .u8 0] 25)):=⟨_,rfl⟩
 have R0:=aa (show Bx w0 w.heap.size zB.arr 25 by rw[hw0.o];exact(Bx.new w _ _).alloc _);have K0:=aa (show Bx w0 (w.heap.size+1) zB.arr 25 by
  rw[hw0.o];have h:=Bx.new (w.alloc (.cells #[.int .u8 0,.int .u8 0,.int .u8 0,.int .u8 0,.int .u8 0,.int .u8 0,.int .u8 0,.int .u8 0] 25)) #[.int .u8 0,.int .u8 0,.int .u8 0,.int .u8 0,.int .u8 0,.int .u8 0,.int .u8 0,.int .u8 0] 25;rw[World.size_alloc] at h;exact h)
 have B0:=aa (show Below w.heap.size w w0 by rw[hw0.o];exact(af _ _).alloc (by simp) _);go_enter Tryz.func20,Tryz.ntmps20;go_wp2_with fail;rw[←hw0.o];refine(oS a n c l i w0 (HL.o.later B0.o) HB.o hn (by omega)).mono ?_;rintro e w1 ⟨r,hr,rfl,q,rfl⟩;have R1:=aa (R0.o.later (below_drewN (Below.refl _ _) q) R0.o.lt);have K1:=aa (K0.o.later (below_drewN (Below.refl _ _) q) K0.o.lt);have B1:=aa (below_drewN B0.o q);obtain⟨w1,hw1⟩:∃ w1:World,Hid (w1=w0.drewN q):=⟨_,rfl⟩
 rw[←hw1.o] at R1 K1 B1 ⊢;have kz:=K1.o.frozen;have rz:=R1.o.frozen;obtain⟨r0,r1,r2,r3,r4,r5,r6,r7⟩:=Bx.eight (x:=zB) R1.o;obtain⟨f0,f1,f2,f3,f4,f5,f6,f7⟩:=Bx.eight (x:=zB) K1.o;by_cases h0:(r:Int)%3=0
 ·have hd0:((r:Int)%3==0)=true:=by simpa using h0
  clear h0;go_wp2_with fail;change bodyPost Tryz.prog Tryz.f20 _ _ _ (aS w1 w.heap.size 0 zB);have R2:=aa (oD R1.o zB);have B2:=aa (bQ B1.o (FG w.heap.size) 0 zB);obtain⟨w2,hw2⟩:∃ w2:World,Hid (w2=aS w1 w.heap.size 0 zB):=⟨_,rfl⟩
  rw[←hw2.o] at R2 B2 ⊢;obtain⟨s0,s1,s2,s3,s4,s5,s6,s7⟩:=Bx.eight (x:=zB) R2.o;exact bodyPost_ret (v:=.agg #[.int .u8 zB.z0,.int .u8 zB.z1,.int .u8 zB.z2,.int .u8 zB.z3,.int .u8 zB.z4,.int .u8 zB.z5,.int .u8 zB.z6,.int .u8 zB.z7]) (by simp[results,Tryz.results20,go_sem,s0,s1,s2,s3,s4,s5,s6,s7]) rfl ⟨zB,Cs,rfl,B2⟩
 ·have hd0:((r:Int)%3==0)=false:=by simpa using h0
  clear h0;have hkb:w.heap.size+1≠w.heap.size:=by omega
  obtain⟨Z,hZ⟩:∃ Z:Int,Hid (Z=1+(r:Int)/3%5):=⟨_,rfl⟩
  obtain⟨x1,hx1,he1⟩:=zB.setAt Cs 0 (by omega) Z (by have:=hZ.o;omega) (by have:=hZ.o;omega);have K2:=aa (show Bx (w1.setCell ⟨w.heap.size+1,0,none⟩ (.int .u8 Z)) (w.heap.size+1) x1.arr 25 by rw[←he1];exact K1.o.set 0 _);have R2:=aa (R1.o.other ⟨w.heap.size+1,0,none⟩ (.int .u8 Z) (by show w.heap.size≠w.heap.size+1;omega));have B2:=aa (B1.o.setCell (p:=⟨w.heap.size+1,0,none⟩) (by show w.heap.size≤w.heap.size+1;omega) (.int .u8 Z));have HX1:=aa hx1;obtain⟨w2,hw2⟩:∃ w2:World,Hid (w2=w1.setCell ⟨w.heap.size+1,0,none⟩ (.int .u8 Z)):=⟨_,rfl⟩
  rw[←hw2.o] at K2 R2 B2;rw[hZ.o] at hw2;clear he1 hx1;by_cases h2:(r:Int)%3=2
  ·have hd2:((r:Int)%3==2)=true:=by simpa using h2
   clear h2;go_wp2_with fail;rw[←hw2.o];clear r0 r1 r2 r3 r4 r5 r6 r7 f0 f1 f2 f3 f4 f5 f6 f7 kz rz;go_loopw [7] (fun t wr=>∃ (k:Nat) (x:B8),t=.int .i64 (k:Int)∧1≤k∧k≤8∧Hid (x.ok)∧Hid (Bx wr (w.heap.size+1) x.arr 25)∧Hid (Bx wr w.heap.size zB.arr 25)∧Hid (Below w.heap.size w wr)) (fun t _=>8-(intOf t).toNat)
   case atStart=>exact⟨1,x1,rfl,by omega,by omega,HX1,K2,R2,B2⟩
   case round =>
    obtain⟨k,x,rfl,hk1,hk8,hx,hK,hR,hB⟩:=hrel;by_cases hlt:(k:Int)<8
    ·go_wp2_with fail
     refine(oS a n c l (i+k) wr (HL.o.later hB.o) HB.o hn (by omega)).mono ?_;rintro e w3 ⟨r3,hr3,rfl,q3,rfl⟩;obtain⟨Y,hY⟩:∃ Y:Int,Hid (Y=(r3:Int)/7%256):=⟨_,rfl⟩
     obtain⟨y,hy,hye⟩:=x.setAt hx.o k (by omega) Y (by have:=hY.o;omega) (by have:=hY.o;omega);have HY:=aa hy;have K3:=aa (hK.out.later (below_drewN (Below.refl _ _) q3) hK.out.lt);have R3:=aa (hR.o.later (below_drewN (Below.refl _ _) q3) hR.o.lt);have B3:=aa (below_drewN hB.o q3);obtain⟨w3,hw3⟩:∃ w3:World,Hid (w3=wr.drewN q3):=⟨_,rfl⟩
     rw[←hw3.o] at K3 R3 B3 ⊢;have K4:=aa (show Bx (w3.setCell ⟨w.heap.size+1,k,none⟩ (.int .u8 Y)) (w.heap.size+1) y.arr 25 by rw[←hye];exact K3.o.set k _);have R4:=aa (R3.o.other ⟨w.heap.size+1,k,none⟩ (.int .u8 Y) (by show w.heap.size≠w.heap.size+1;omega));have B4:=aa (B3.o.setCell (p:=⟨w.heap.size+1,k,none⟩) (by show w.heap.size≤w.heap.size+1;omega) (.int .u8 Y));obtain⟨v,hv⟩:∃ v,w3.cell? ⟨w.heap.size+1,k,none⟩=some v:=⟨x.arr[k]'(by show k<8;omega),by rw[K3.o.cell k];exact Array.getElem?_eq_getElem _⟩
     have kz:=K3.o.frozen;obtain⟨w4,hw4⟩:∃ w4:World,Hid (w4=w3.setCell ⟨w.heap.size+1,k,none⟩ (.int .u8 Y)):=⟨_,rfl⟩
     rw[←hw4.o] at K4 R4 B4;rw[hY.o] at hw4;clear hye hy;go_wp2_with fail;go_roundw
     case rel=>exact⟨k+1,y,by go_num,by omega,by omega,HY,by rw[←hw4.o];exact K4,by rw[←hw4.o];exact R4,by rw[←hw4.o];exact B4⟩
     case measure=>simp[intOf];omega
    ·have HK:=aa hlt
     obtain⟨f0,f1,f2,f3,f4,f5,f6,f7⟩:=Bx.eight (x:=x) hK.out;obtain⟨r0,r1,r2,r3,r4,r5,r6,r7⟩:=Bx.eight (x:=zB) hR.o;have rz:=hR.o.frozen;go_wp2_with fail;change bodyPost Tryz.prog Tryz.f20 _ _ _ (aS wr w.heap.size 0 x);have RF:=aa (oD hR.o x);have BF:=aa (bQ hB.o (FG w.heap.size) 0 x);obtain⟨wf,hwf⟩:∃ wf:World,Hid (wf=aS wr w.heap.size 0 x):=⟨_,rfl⟩
     rw[←hwf.o] at RF BF ⊢;obtain⟨s0,s1,s2,s3,s4,s5,s6,s7⟩:=Bx.eight (x:=x) RF.o;exact bodyPost_ret (v:=.agg #[.int .u8 x.z0,.int .u8 x.z1,.int .u8 x.z2,.int .u8 x.z3,.int .u8 x.z4,.int .u8 x.z5,.int .u8 x.z6,.int .u8 x.z7]) (by simp[results,Tryz.results20,go_sem,s0,s1,s2,s3,s4,s5,s6,s7]) rfl ⟨x,hx.o,rfl,BF⟩
  ·have hd2:((r:Int)%3==2)=false:=by simpa using h2
   clear h2;go_upto_region 11 with fail
   rw[←hw2.o];clear r0 r1 r2 r3 r4 r5 r6 r7 f0 f1 f2 f3 f4 f5 f6 f7 kz rz;obtain⟨f0,f1,f2,f3,f4,f5,f6,f7⟩:=Bx.eight (x:=x1) K2.o;obtain⟨r0,r1,r2,r3,r4,r5,r6,r7⟩:=Bx.eight (x:=zB) R2.o;have rz:=R2.o.frozen;go_wp2_with fail;change bodyPost Tryz.prog Tryz.f20 _ _ _ (aS w2 w.heap.size 0 x1);have RF:=aa (oD R2.o x1);have BF:=aa (bQ B2.o (FG w.heap.size) 0 x1);obtain⟨wf,hwf⟩:∃ wf:World,Hid (wf=aS w2 w.heap.size 0 x1):=⟨_,rfl⟩
   rw[←hwf.o] at RF BF ⊢;obtain⟨s0,s1,s2,s3,s4,s5,s6,s7⟩:=Bx.eight (x:=x1) RF.o;exact bodyPost_ret (v:=.agg #[.int .u8 x1.z0,.int .u8 x1.z1,.int .u8 x1.z2,.int .u8 x1.z3,.int .u8 x1.z4,.int .u8 x1.z5,.int .u8 x1.z6,.int .u8 x1.z7]) (by simp[results,Tryz.results20,go_sem,s0,s1,s2,s3,s4,s5,s6,s7]) rfl ⟨x1,HX1.o,rfl,BF⟩
end Go.Proofs.YtbicgjafjjihdaaGreat
