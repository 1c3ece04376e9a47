/- Part. -/
import Derived.Test.YtbicgjafjjihdaaGreatZ29
import Derived.Test.YtbicgjafjjihdaaGreatZ30
set_option maxHeartbeats 16000000
set_option maxRecDepth 100000
namespace Go.Proofs.YtbicgjafjjihdaaGreat
open Go.RowKit
theorem pV {w w':World} {base g:Nat} {v:Value} {l:List Int} (h:Own w base v l) (hg:w.grownBy w' (some g)) (hgb:g<base):Own w' base v l :=
 World.ownsRow.kept h hg (by
  cases hv:v.ownBlock with
  | none => exact .inl rfl
  | some k =>
   right;intro e;have h1:=(World.ownsRow.lt h k hv).1;have h2:k=g:=FC e;omega)
theorem Bx.Es {w:World} {k g:Nat} {cs:Array Value} {t:TypeId} (h:Bx w k cs t) (hk:k≠g) (s0 s1 s2:Value):Bx (cb w g s0 s1 s2) k cs t:=((h.other _ _ hk).other _ _ hk).other _ _ hk
def Fg (w w':World) (l:List Int) (ses want:Int) (e:Ending):Prop :=
 ((∃ kd nm nb bs v vb,Mx.Msg l ses want kd nm nb bs∧want<2147483647∧e=.returned (.tuple #[.agg #[.int .i64 ses,.int .i64 (want+1)],v,.bool true,vb,.nilIface])∧FrA w.heap.size w' v ⟨kd,nm,nb,bs⟩∧Own w' w.heap.size vb (Mx.bd 0 [ses,want+1] 0 [])) ∨
  (∃ x kd nm nb bs vb,Mx.Msg l ses x kd nm nb bs∧¬(x=want∧want<2147483647)∧e=.returned (.tuple #[.agg #[.int .i64 ses,.int .i64 want],.agg #[.int .i64 0,.slice none 0 0,.slice none 0 0],.bool false,vb,.nilIface])∧Own w' w.heap.size vb (Mx.bd 0 [ses,want] 0 [])) ∨
  ((∀ x kd nm nb bs,¬Mx.Msg l ses x kd nm nb bs)∧e=.returned (.tuple #[.agg #[.int .i64 ses,.int .i64 want],.agg #[.int .i64 0,.slice none 0 0,.slice none 0 0],.bool false,.slice none 0 0,.nilIface])))∧Below w.heap.size w w'
theorem Mx.oO {x y:Int} (hx0:0≤x) (hx1:x≤2147483647) (hy0:0≤y) (hy1:y≤2147483647):Mx.may 0 [x,y] 0=0:=by
 unfold Mx.may;rw[if_neg (by omega),if_neg (by simp),if_neg];simp[Mx.bw];omega
theorem Ba {w v:World} {P:Ending→World→Prop} {ses nx:Int} {eZ:Bool} {kd:Int} {a1:Option Addr} {n1 c1:Nat} {a2:Option Addr} {nb c2:Nat} {nm bs:List Int} (hs0:0≤ses) (hs1:ses≤2147483647) (hn0:0≤nx) (hn1:nx≤2147483647) (BL:Hid (Below w.heap.size w v)) (XN:Hid (Bx v (w.heap.size+1) #[.int .i64 ses,.int .i64 nx] 100)) (XM:Hid (Bx v (w.heap.size+1+1) #[.int .i64 kd,.slice a1 n1 c1,.slice a2 nb c2] 157)) (HI:Hid (ay v a1 n1 nm)) (HK:Hid (aU v a2 nb bs)) (H1:Hid (0<n1→∀ p,a1=some p→w.heap.size+3≤p.block)) (H2:Hid (0<nb→∀ p,a2=some p→w.heap.size+3≤p.block)) (hP:Hid (∀ w' vb,Own w' w.heap.size vb (Mx.bd 0 [ses,nx] 0 [])→ay w' a1 n1 nm→aU w' a2 nb bs→Below w.heap.size w w'→P (.returned (.tuple #[.agg #[.int .i64 ses,.int .i64 nx],.agg #[.int .i64 kd,.slice a1 n1 c1,.slice a2 nb c2],.bool eZ,vb,.nilIface])) w')) {u0 u1 u3 u7 u8 u9 u10 u11 u12 u13 u14 u15 u16 u17 u18 u19 u20 u21 u22 u23 u24 u25 u26 u27 u28 u29 u30 u31 u32 u33 u34 u35 u36 u37 u38 u39 u40 u41 u42 u43 u44 u45 u46 u47 u48 u49 u50 u51 u52 u53 u54 u55 u56 u57 u58 u59 u60 u61 u62 u63 u64 u65:Value} :
 aA Tryz.f118 P 6 ⟨#[u0,u1,.pointer (some ⟨w.heap.size,0,none⟩),u3,.pointer (some ⟨w.heap.size+1,0,none⟩),.pointer (some ⟨w.heap.size+1+1,0,none⟩),.bool eZ,u7,u8,u9,u10,u11,u12,u13,u14,u15,u16,u17,u18,u19,u20,u21,u22,u23,u24,u25,u26,u27,u28,u29,u30,u31,u32,u33,u34,u35,u36,u37,u38,u39,u40,u41,u42,u43,u44,u45,u46,u47,u48,u49,u50,u51,u52,u53,u54,u55,u56,u57,u58,u59,u60,u61,u62,u63,u64,u65],[]⟩ v:=by
 refine aj rfl ?_;intro K hK;obtain⟨W0,hW0⟩:∃ W0:World,Hid (W0=v.alloc (.cells #[.int .i64 ses,.int .i64 nx] 3)):=⟨_,rfl⟩
 have Z0:=bxA hW0;have D0:=beA hW0;have I0:=aa (show ay W0 (some ⟨v.heap.size,0,none⟩) 2 [ses,nx] from⟨rfl,by rw[aC];omega,fun _=>⟨v.heap.size,0,rfl,Z0.o.lt,fun i hi=>by
  match i,hi with
  | 0, _ => exact Z0.o.cell 0
  | 1, _ => exact Z0.o.cell 1⟩⟩)
 have K0:=aa (show aU W0 none 0 [] from⟨rfl,by rw[aC];omega,fun _ h=>(by cases h),fun h=>absurd h (by omega)⟩);have HM:=aa (Mx.oO hs0 hs1 hn0 hn1);clear hs0 hs1 hn0 hn1;obtain⟨x0,x1⟩:=XN.o.pair;go_wp2_with fail;rw[←hW0.o];refine(oP 0 (some ⟨v.heap.size,0,none⟩) none 2 2 0 0 [ses,nx] [] W0 I0.o K0.o HM.o).mono ?_;rintro e w1 ⟨vb,rfl,O1,D1⟩;have D01:=aa (D0.o.trans (D1.mono D0.o.size));have hsz:=BL.o.size;have hsv:=XM.o.lt;have hW0s:W0.heap.size=v.heap.size+1:=by rw[hW0.o];simp
 have XN1:=aa (XN.o.later D01.o XN.o.lt);have XM1:=aa (XM.o.later D01.o XM.o.lt);have HI1:=aa (HI.o.later D01.o);have HK1:=aa (HK.o.later D01.o);have BL1:=aa (BL.o.trans (D01.o.mono BL.o.size));have O2:=aa O1;clear O1 D1 x0 x1;go_wp2_with fail;refine Met.intro (aM (c:=.seq _ .ret) rfl ?_);try clear hK
 try clear K
 obtain⟨x0,x1⟩:=XN1.o.pair;obtain⟨m0,m1,m2⟩:=XM1.o.three;have xz:=XN1.o.frozen;have mz:=XM1.o.frozen;have h12:¬w.heap.size+1=w.heap.size+1+1:=by omega
 have h21:¬w.heap.size+1+1=w.heap.size+1:=by omega
 have NA:=aa (XN1.o.fC (.int .i64 ses) (.int .i64 nx));have MA:=aa ((XM1.o.other ⟨w.heap.size+1,0,none⟩ (.int .i64 ses) (by simp)).other ⟨w.heap.size+1,1,none⟩ (.int .i64 nx) (by simp));have NB:=aa (NA.o.Es (g:=w.heap.size+1+1) (by omega) (.int .i64 kd) (.slice a1 n1 c1) (.slice a2 nb c2));have MB:=aa (MA.o.aG (.int .i64 kd) (.slice a1 n1 c1) (.slice a2 nb c2));unfold cb at NB;obtain⟨y0,y1⟩:=NA.o.pair;obtain⟨z0,z1,z2⟩:=MA.o.three;obtain⟨p0,p1⟩:=NB.o.pair;obtain⟨q0,q1,q2⟩:=MB.o.three;go_upto_region 11 with fail
 go_region_held3 (fun w'=>w'.cell? ⟨w.heap.size+1,0,none⟩=some (.int .i64 ses)∧w'.cell? ⟨w.heap.size+1,1,none⟩=some (.int .i64 nx)∧w'.cell? ⟨w.heap.size+1+1,0,none⟩=some (.int .i64 kd)∧w'.cell? ⟨w.heap.size+1+1,1,none⟩=some (.slice a1 n1 c1)∧w'.cell? ⟨w.heap.size+1+1,2,none⟩=some (.slice a2 nb c2))
  (first
    | with_reducible exact ⟨x0, x1, m0, m1, m2⟩
    |(simp only[an];with_reducible exact⟨x0,x1,m0,m1,m2⟩)
    |(simp only[an];with_reducible exact⟨y0,y1,z0,z1,z2⟩)
    |(simp only[an];with_reducible exact⟨p0,p1,q0,q1,q2⟩)
    |(with_reducible exact⟨y0,y1,z0,z1,z2⟩)
    |(with_reducible exact⟨p0,p1,q0,q1,q2⟩))
  (fail)
 all_goals go_wp2_with fail
 all_goals
  have GA:=aa (iM (ar w1 (some (w.heap.size+1))) (.int .i64 ses) (.int .i64 nx));have GB:=aa (cC (bA (ar (eo w1 (w.heap.size+1) (.int .i64 ses) (.int .i64 nx)) (some (w.heap.size+1+1))) (.int .i64 kd) (.slice a1 n1 c1) (.slice a2 nb c2)));have IF:=aa ((HI1.o.grownBy GA.o (fun h p hp e=>by have h1:=H1.o h p hp;have h2:w.heap.size+1=p.block:=FC e;omega)).grownBy GB.o (fun h p hp e=>by have h1:=H1.o h p hp;have h2:w.heap.size+1+1=p.block:=FC e;omega));have KF:=aa ((HK1.o.grownBy GA.o (fun h p hp e=>by have h1:=H2.o h p hp;have h2:w.heap.size+1=p.block:=FC e;omega)).grownBy GB.o (fun h p hp e=>by have h1:=H2.o h p hp;have h2:w.heap.size+1+1=p.block:=FC e;omega));have BF:=aa ((aF (dL BL1.o (g:=w.heap.size+1) (by omega) (.int .i64 ses) (.int .i64 nx)) (g:=w.heap.size+1+1) (by omega) (.int .i64 kd) (.slice a1 n1 c1) (.slice a2 nb c2)).drew);have OF:=aa (World.ownsRow.mono (pV (pV O2.o GA.o (by omega)) GB.o (by omega)) (show w.heap.size≤W0.heap.size+1 by omega));exact bodyPost_ret (v:=.tuple #[.agg #[.int .i64 ses,.int .i64 nx],.agg #[.int .i64 kd,.slice a1 n1 c1,.slice a2 nb c2],.bool eZ,vb,.nilIface]) (by simp[results,Tryz.results118,go_sem,p0,p1,q0,q1,q2]) rfl (hP.o _ _ OF.o IF.o KF.o BF.o)
theorem gy (ses want:Int) (a:Option Addr) (len cap:Nat) (l:List Int) (w:World) (hl:Bytes w a len l) (hlen:len≤2000) (hcap:len≤cap) (hs0:0≤ses) (hs1:ses≤2147483647) (hw0:0≤want) (hw1:want≤2147483647) :
 Calls Tryz.prog 118 #[.agg #[.int .i64 ses,.int .i64 want],.slice a len cap] w fun e w'=>Fg w w' l ses want e:=by
 have HL:=aa hl;clear hl;obtain⟨W0,hW0⟩:∃ W0:World,Hid (W0=((w.alloc (.cells #[.int .i64 ses,.int .i64 want] 100)).alloc (.cells #[.int .i64 0,.int .i64 0] 100)).alloc (.cells #[.int .i64 0,.slice none 0 0,.slice none 0 0] 157)):=⟨_,rfl⟩
 have X0:=aa (show Bx W0 w.heap.size #[.int .i64 ses,.int .i64 want] 100 by rw[hW0.o];exact((Bx.new w _ _).alloc _).alloc _);have N0:=aa (show Bx W0 (w.heap.size+1) #[.int .i64 0,.int .i64 0] 100 by
  rw[hW0.o];have h:=(Bx.new (w.alloc (.cells #[.int .i64 ses,.int .i64 want] 100)) #[.int .i64 0,.int .i64 0] 100).alloc (.cells #[.int .i64 0,.slice none 0 0,.slice none 0 0] 157);rw[World.size_alloc] at h;exact h)
 have M0:=aa (show Bx W0 (w.heap.size+1+1) #[.int .i64 0,.slice none 0 0,.slice none 0 0] 157 by
  rw[hW0.o];have h:=Bx.new ((w.alloc (.cells #[.int .i64 ses,.int .i64 want] 100)).alloc (.cells #[.int .i64 0,.int .i64 0] 100)) #[.int .i64 0,.slice none 0 0,.slice none 0 0] 157;rw[World.size_alloc,World.size_alloc] at h;exact h)
 have S0:=aa (show W0.heap.size=w.heap.size+3 by rw[hW0.o];simp);have D0:=aa (show Below w.heap.size w W0 by rw[hW0.o];exact((af _ _).alloc (by simp) _).alloc (by simp;omega) _);obtain⟨W1,hW1⟩:∃ W1:World,Hid (W1=W0.alloc (.cells #[.int .i64 ses,.int .i64 want] 3)):=⟨_,rfl⟩
 have Z1:=bxA hW1;have D1:=beA hW1;have X1:=aa (X0.o.later D1.o X0.o.lt);have N1:=aa (N0.o.later D1.o N0.o.lt);have M1:=aa (M0.o.later D1.o M0.o.lt);have B1:=aa (D0.o.trans (D1.o.mono D0.o.size));have I1:=aa (show ay W1 (some ⟨W0.heap.size,0,none⟩) 2 [ses,want] from⟨rfl,by rw[aC];omega,fun _=>⟨W0.heap.size,0,rfl,Z1.o.lt,fun i hi=>by
  match i,hi with
  | 0, _ => exact Z1.o.cell 0
  | 1, _ => exact Z1.o.cell 1⟩⟩)
 go_enter Tryz.func118,Tryz.ntmps118;change aA Tryz.f118 _ 0 _ w;refine aj rfl ?_;intro K hK;go_wp2_with fail;rw[←hW0.o];refine Met.intro (aj rfl ?_);try clear hK K
 intro K hK;obtain⟨x0,x1⟩:=X0.o.pair;go_wp2_with fail;rw[←hW1.o];refine(iT (some ⟨W0.heap.size,0,none⟩) 2 2 [ses,want] W1 I1.o (by omega)).mono ?_;rintro e wz ⟨rfl,hz⟩;obtain rfl:=hz.symm;clear hz x0 x1;have HB:=aa (show Mx.jH [ses,want]=0 by rw[Mx.mQ,if_neg (by unfold Mx.dd;omega)]);rw[HB.o,aH];go_wp2_with fail;refine Met.intro (aj rfl ?_);try clear hK K
 intro K hK;obtain⟨x0,x1⟩:=X1.o.pair;go_wp2_with fail;refine(tK ses a len cap l W1 (HL.o.later B1.o) hlen hcap).mono ?_;rintro e w2 ⟨x,v,ok,rfl,hA,hB⟩;have S1:=aa (show W1.heap.size=w.heap.size+4 by rw[hW1.o];simp;exact S0.o);have X2:=aa (X1.o.later hB.o X1.o.lt);have N2:=aa (N1.o.later hB.o N1.o.lt);have M2:=aa (M1.o.later hB.o M1.o.lt);have B2:=aa (B1.o.trans (hB.o.mono B1.o.size));clear x0 x1;rcases hA.o with ⟨rfl,kd,nm,nb,bs,hM,hFR⟩|⟨rfl,rfl,rfl,hno⟩
 ·have HM:=aa hM
  obtain⟨a1,n1,c1,a2,c2,rfl,hI,hK2,hc1,hc2,hp1,hp2⟩:=hFR;obtain⟨W3,hW3⟩:∃ W3:World,Hid (W3=w2.alloc (.cells #[.int .i64 kd,.slice a1 n1 c1,.slice a2 nb c2] 157)):=⟨_,rfl⟩
  have D3:=beA hW3;have F3:=bxA hW3;have X3:=aa (X2.o.later D3.o X2.o.lt);have N3:=aa (N2.o.later D3.o N2.o.lt);have M3:=aa (M2.o.later D3.o M2.o.lt);have B3:=aa (B2.o.trans (D3.o.mono B2.o.size));have I3:=aa (hI.later D3.o);have K3:=aa (hK2.later D3.o);have P1:=aa (show 0<n1→∀ p,a1=some p→w.heap.size+3≤p.block from fun h p hp=>by have h1:=hp1 h p hp;have h2:=S1.o;omega);have P2:=aa (show 0<nb→∀ p,a2=some p→w.heap.size+3≤p.block from fun h p hp=>by have h1:=hp2 h p hp;have h2:=S1.o;omega);have C1:=aa hc1;have C2:=aa hc2;have hs2:w.heap.size+4≤w2.heap.size:=by have h1:=hB.o.size;have h2:=S1.o;omega
  clear hI hK2 hc1 hc2 hp1 hp2 hM hA;go_wp2_with fail;rw[←hW3.o];refine Met.intro (aj rfl ?_);try clear hK K
  intro K hK;go_wp2_with fail;refine Met.intro (aj rfl ?_);try clear hK K
  intro K hK;obtain⟨x0,x1⟩:=X3.o.pair;obtain⟨n0,n1_⟩:=N3.o.pair;have nz:=N3.o.frozen;obtain⟨W4,hW4⟩:∃ W4:World,Hid (W4=eo W3 (w.heap.size+1) (.int .i64 ses) (.int .i64 want)):=⟨_,rfl⟩
  have G4:=aa (show W3.grownBy W4 (some (w.heap.size+1)) by rw[hW4.o];exact iM (ar _ _) _ _);have N4:=aa (show Bx W4 (w.heap.size+1) #[.int .i64 ses,.int .i64 want] 100 by rw[hW4.o];exact N3.o.fC _ _);have X4:=aa (show Bx W4 w.heap.size #[.int .i64 ses,.int .i64 want] 100 from(G4.o.block _ X3.o.lt (by simp)).trans X3.o);have M4:=aa (show Bx W4 (w.heap.size+1+1) #[.int .i64 0,.slice none 0 0,.slice none 0 0] 157 from(G4.o.block _ M3.o.lt (by simp)).trans M3.o);have F4:=aa (show Bx W4 w2.heap.size #[.int .i64 kd,.slice a1 n1 c1,.slice a2 nb c2] 157 from(G4.o.block _ F3.o.lt (by simp;omega)).trans F3.o);have I4:=aa (I3.o.grownBy G4.o (fun h p hp e=>by have h1:=P1.o h p hp;have h2:w.heap.size+1=p.block:=FC e;omega));have K4:=aa (K3.o.grownBy G4.o (fun h p hp e=>by have h1:=P2.o h p hp;have h2:w.heap.size+1=p.block:=FC e;omega));have B4:=aa (show Below w.heap.size w W4 by rw[hW4.o];exact dL B3.o (by omega) _ _);go_wp2_with fail;unfold eo at hW4;rw[←hW4.o];clear x0 x1 n0 n1_ nz;refine Met.intro (aj rfl ?_);try clear hK K
  intro K hK;obtain⟨x0,x1⟩:=X4.o.pair;by_cases hx:x=want
  ·have dx:(x==want)=true:=by simpa using hx
   have HX:=aa hx;clear hx;by_cases hm:want<2147483647
   ·have dm:decide (want<2147483647)=true:=by simpa using hm
    obtain⟨n0,n1_⟩:=N4.o.pair;obtain⟨m0,m1,m2⟩:=M4.o.three;obtain⟨f0,f1,f2⟩:=F4.o.three;have nz:=N4.o.frozen;have mz:=M4.o.frozen;have hwk:IntKind.i64.wrap (want+1)=want+1:=by rw[IntWalk.i64_left,IntWalk.wrap64_in _ (by omega)]
    have hff:¬w.heap.size+1=w2.heap.size:=by omega
    have hfg:¬w.heap.size+1=w.heap.size+1+1:=by omega
    have hfx:¬w.heap.size+1=w.heap.size:=by omega
    have hfy:¬w.heap.size+1+1=w.heap.size:=by omega
    have hfz:¬w.heap.size+1+1=w2.heap.size:=by omega
    go_upto_region 9 with fail
    go_region_held3 (fun w'=>w'.cell? ⟨w.heap.size,1,none⟩=some (.int .i64 want)∧w'.cell? ⟨w2.heap.size,0,none⟩=some (.int .i64 kd)∧w'.cell? ⟨w2.heap.size,1,none⟩=some (.slice a1 n1 c1)∧w'.cell? ⟨w2.heap.size,2,none⟩=some (.slice a2 nb c2))
     (first
       | with_reducible exact ⟨x1, f0, f1, f2⟩
       |(simp only[an];with_reducible exact⟨x1,f0,f1,f2⟩)
       |(simp only[aw hff,aw hfx,aw hfy,aw hfz,an];with_reducible exact⟨x1,f0,f1,f2⟩))
     (fail)
    all_goals go_wp2_with fail
    all_goals
     obtain⟨W5,hW5⟩:∃ W5:World,Hid (W5=W4.setCell ⟨w.heap.size+1,1,none⟩ (.int .i64 (want+1))):=⟨_,rfl⟩
     obtain⟨W6,hW6⟩:∃ W6:World,Hid (W6=(cb W5 (w.heap.size+1+1) (.int .i64 kd) (.slice a1 n1 c1) (.slice a2 nb c2)).drew):=⟨_,rfl⟩
     have G5:=aa (show W4.grownBy W5 (some (w.heap.size+1)) by rw[hW5.o];exact al (ar _ _) _ _);have G6:=aa (show W5.grownBy W6 (some (w.heap.size+1+1)) by rw[hW6.o];exact cC (bA (ar _ _) _ _ _));have N5:=aa (show Bx W5 (w.heap.size+1) #[.int .i64 ses,.int .i64 (want+1)] 100 by rw[hW5.o];exact N4.o.set 1 _);have N6:=aa (show Bx W6 (w.heap.size+1) #[.int .i64 ses,.int .i64 (want+1)] 100 from(G6.o.block _ N5.o.lt (by simp)).trans N5.o);have M5:=aa (show Bx W5 (w.heap.size+1+1) #[.int .i64 0,.slice none 0 0,.slice none 0 0] 157 from(G5.o.block _ M4.o.lt (by simp)).trans M4.o);have M6:=aa (show Bx W6 (w.heap.size+1+1) #[.int .i64 kd,.slice a1 n1 c1,.slice a2 nb c2] 157 by rw[hW6.o];exact M5.o.aG _ _ _);have I6:=aa ((I4.o.grownBy G5.o (fun h p hp e=>by have h1:=P1.o h p hp;have h2:w.heap.size+1=p.block:=FC e;omega)).grownBy G6.o (fun h p hp e=>by have h1:=P1.o h p hp;have h2:w.heap.size+1+1=p.block:=FC e;omega));have K6:=aa ((K4.o.grownBy G5.o (fun h p hp e=>by have h1:=P2.o h p hp;have h2:w.heap.size+1=p.block:=FC e;omega)).grownBy G6.o (fun h p hp e=>by have h1:=P2.o h p hp;have h2:w.heap.size+1+1=p.block:=FC e;omega));have B6:=aa (show Below w.heap.size w W6 by rw[hW6.o,hW5.o];exact(aF (B4.o.setCell (p:=⟨w.heap.size+1,1,none⟩) (by simp) _) (by omega) _ _ _).drew);unfold cb at hW6;rw[←hW5.o,←hW6.o];refine Met.intro (Ba hs0 hs1 (by omega) (by omega) B6 N6 M6 I6 K6 P1 P2 (aa ?_));intro w' vb ho hi hk hb;exact⟨.inl ⟨kd,nm,nb,bs,_,vb,by have h1:=HM.o;rw[HX.o] at h1;exact h1,hm,rfl,⟨a1,n1,c1,a2,c2,rfl,hi,hk,C1.o,C2.o,fun h p hp=>by have h1:=P1.o h p hp;omega,fun h p hp=>by have h1:=P2.o h p hp;omega⟩,ho⟩,hb⟩
   ·have dm:decide (want<2147483647)=false:=by simpa using hm
    go_wp2_with fail;refine Met.intro (Ba hs0 hs1 hw0 hw1 B4 N4 M4 (nm:=[]) (bs:=[]) (aa ⟨rfl,by rw[aC];omega,fun h=>absurd h (by omega)⟩) (aa ⟨rfl,by rw[aC];omega,fun _ h=>(by cases h),fun h=>absurd h (by omega)⟩) (aa (fun h=>absurd h (by omega))) (aa (fun h=>absurd h (by omega))) (aa ?_));intro w' vb ho _ _ hb;exact⟨.inr (.inl ⟨x,kd,nm,nb,bs,vb,HM.o,fun h=>(by have:=h.2;omega),rfl,ho⟩),hb⟩
  ·have dx:(x==want)=false:=by simpa using hx
   have HX:=aa hx;clear hx;go_wp2_with fail;refine Met.intro (Ba hs0 hs1 hw0 hw1 B4 N4 M4 (nm:=[]) (bs:=[]) (aa ⟨rfl,by rw[aC];omega,fun h=>absurd h (by omega)⟩) (aa ⟨rfl,by rw[aC];omega,fun _ h=>(by cases h),fun h=>absurd h (by omega)⟩) (aa (fun h=>absurd h (by omega))) (aa (fun h=>absurd h (by omega))) (aa ?_));intro w' vb ho _ _ hb;exact⟨.inr (.inl ⟨x,kd,nm,nb,bs,vb,HM.o,fun h=>HX.o h.1,rfl,ho⟩),hb⟩
 ·have HNO:=aa hno
  obtain⟨W3,hW3⟩:∃ W3:World,Hid (W3=w2.alloc (.cells #[.int .i64 0,.slice none 0 0,.slice none 0 0] 157)):=⟨_,rfl⟩
  have D3:=beA hW3;have X3:=aa (X2.o.later D3.o X2.o.lt);have N3:=aa (N2.o.later D3.o N2.o.lt);have M3:=aa (M2.o.later D3.o M2.o.lt);have B3:=aa (B2.o.trans (D3.o.mono B2.o.size));clear hA hno;go_wp2_with fail;rw[←hW3.o];refine Met.intro (aj rfl ?_);try clear hK K
  intro K hK;obtain⟨x0,x1⟩:=X3.o.pair;obtain⟨n0,n1⟩:=N3.o.pair;have nz:=N3.o.frozen;obtain⟨m0,m1,m2⟩:=M3.o.three;have mz:=M3.o.frozen;go_wp2_with fail;have NF:=aa ((N3.o.fC (.int .i64 ses) (.int .i64 want)).Es (g:=w.heap.size+1+1) (by omega) (.int .i64 0) (.slice none 0 0) (.slice none 0 0));have MF:=aa (show Bx (eo W3 (w.heap.size+1) (.int .i64 ses) (.int .i64 want)) (w.heap.size+1+1) #[.int .i64 0,.slice none 0 0,.slice none 0 0] 157 from(M3.o.other _ _ (by simp)).other _ _ (by simp));obtain⟨t0,t1⟩:=NF.o.pair;obtain⟨r0,r1,r2⟩:=(MF.o.aG (.int .i64 0) (.slice none 0 0) (.slice none 0 0)).three;unfold cb at t0 t1;unfold eo at r0 r1 r2;exact bodyPost_ret (v:=.tuple #[.agg #[.int .i64 ses,.int .i64 want],.agg #[.int .i64 0,.slice none 0 0,.slice none 0 0],.bool false,.slice none 0 0,.nilIface]) (by simp[results,Tryz.results118,go_sem,t0,t1,r0,r1,r2]) rfl ⟨.inr (.inr ⟨HNO.o,rfl⟩),aF (dL B3.o (by omega) _ _) (by omega) _ _ _⟩
end Go.Proofs.YtbicgjafjjihdaaGreat
