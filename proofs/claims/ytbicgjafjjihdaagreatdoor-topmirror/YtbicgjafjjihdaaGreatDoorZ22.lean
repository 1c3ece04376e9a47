/- Part. -/
import Derived.Test.YtbicgjafjjihdaaGreatDoorZ20
import Derived.Test.YtbicgjafjjihdaaGreatDoorZ21
set_option maxHeartbeats 16000000
set_option maxRecDepth 100000
namespace Go.Proofs.YtbicgjafjjihdaaGreatDoor
section
open Go.RowKit Go.ChangeMaps
def oY (w:World) (P:Nat) (v0 v1 v2 v3 v4 v5:Value):World:=(((((w.setCell ⟨P,0,none⟩ (v0)).setCell ⟨P,1,none⟩ (v1)).setCell ⟨P,2,none⟩ (v2)).setCell ⟨P,3,none⟩ (v3)).setCell ⟨P,4,none⟩ (v4)).setCell ⟨P,5,none⟩ (v5)
theorem ox (w:World) (P:Nat) (v0 v1 v2 v3 v4 v5:Value):w.grownBy (oY w P v0 v1 v2 v3 v4 v5) (some P):=ak (ak (ak (ak (ak (ak (aq w _) _ _) _ _) _ _) _ _) _ _) _ _
theorem ux {w:World} {P:Nat} {cs:Array Value} {t:TypeId} (h:Bx w P cs t) (hs:cs.size=6) (v0 v1 v2 v3 v4 v5:Value):Bx (oY w P v0 v1 v2 v3 v4 v5) P #[v0,v1,v2,v3,v4,v5] t:=by
 have h2:=(((((h.set 0 v0).set 1 v1).set 2 v2).set 3 v3).set 4 v4).set 5 v5;have e:((((((cs.setIfInBounds 0 v0).setIfInBounds 1 v1).setIfInBounds 2 v2).setIfInBounds 3 v3).setIfInBounds 4 v4).setIfInBounds 5 v5)=#[v0,v1,v2,v3,v4,v5]:=by
  apply Array.ext_getElem?;intro i
  match i with
  | 0 | 1 | 2 | 3 | 4 | 5 => simp [hs]
  | i + 6 =>
   rw[Array.getElem?_eq_none (by simp[hs]),Array.getElem?_eq_none (by simp)]
 rw[e] at h2;exact h2
structure OtB (B S:Nat→Prop) (w w':World) (O n:Nat) (ae:List (List B8)) (o:Of_) (N:Nat→Prop):Prop where
 new:∀ b,N b→w.heap.size≤b
 mu:Mut (fun b=>S b∨N b) w'
 ot:OtW (fun b=>B b∨N b) (fun b=>S b∨N b) w' O n ae o
 ext:Ex B w w'
theorem pV (B S:Nat→Prop) (O n:Nat) (ae:List (List B8)) (w:World) (hm:Mut S w) (g:Nat) (cs:Array Value) (hx:Bx w O cs 93) (hc0:cs[0]?=some (.pointer (some ⟨g,0,none⟩))) (hc1:cs[1]?=some (.int .i64 (n:Int))) (hcs:cs.size=6) (bk sb:Nat) (bl:List B8) (hbl:ae[bk]?=some bl) (hnd:Nd S w g n bl (bk:Int) (sb:Int)) (aO:B O) (sub:∀ b,B b→S b) :
 Calls Tryz.prog 34 #[.pointer (some ⟨O,0,none⟩)] w fun e w'=>e=.returned .nilIface∧Hid (∃ N,OtB B S w w' O n ae ⟨bk,sb,true,2147483647,[],[]⟩ N):=by
 have x0:w.cell? ⟨O,0,none⟩=some (.pointer (some ⟨g,0,none⟩)):=(hx.cell 0).trans hc0;have x1:w.cell? ⟨O,1,none⟩=some (.int .i64 (n:Int)):=(hx.cell 1).trans hc1;have HX:=aa hx;have HM:=aa hm;have HCS:=aa hcs;have HBL:=aa hbl;have HND:=aa hnd;clear hx hm hc0 hc1 hcs hbl hnd;go_enter Tryz.func34,Tryz.ntmps34;go_wp2_with fail;refine(oD S g n bl (bk:Int) (sb:Int) w HM.o HND.o).mono ?_;rintro e w1 ⟨g',rfl,N1,E1⟩;clear x0 x1;obtain⟨W2,hW2⟩:∃ W2:World,Hid (W2=w1.alloc (.cells #[.pointer (some ⟨g',0,none⟩),.int .i64 (n:Int)] 87)):=⟨_,rfl⟩
 have B2:=bxA hW2;have D2:=beA hW2;have N2:=aa (N1.o.later D2.o);have F2:=aa (show Gq w W2 from E1.o.trans (D2.o.mono E1.o.size));go_upto_region 2 with fail
 rw[←hW2.o];obtain⟨b0,b1⟩:=B2.o.pair;go_upto_region 4 with fail
 go_wp2_with fail;refine(fj _ g' n bl (bk:Int) (sb:Int) W2 N2.o.2.2).mono ?_;rintro e w3 ⟨rfl,E3⟩;have B3:=aa (B2.o.later E3.o B2.o.lt);have N3:=aa (N2.o.later E3.o);have F3:=aa (show Gq w w3 from F2.o.trans (E3.o.mono F2.o.size));clear b0 b1;obtain⟨b0,b1⟩:=B3.o.pair;have X3:=aa (HX.o.later F3.o HX.o.lt);obtain⟨W7,hW7⟩:∃ W7:World,Hid (W7=oY w3 O (.pointer (some ⟨g',0,none⟩)) (.int .i64 (n:Int)) (.int .i64 (sb:Int)) (.int .i64 2147483647) (.slice none 0 0) (.slice none 0 0)):=⟨_,rfl⟩
 have G7:=aa (show w3.grownBy W7 (some O) by rw[hW7.o];exact ox _ _ _ _ _ _ _ _);have Z7:=aa (Ex.one G7.o);have X7:=aa (show Obx W7 O g' n (sb:Int) 2147483647 none 0 0 none 0 0 by rw[hW7.o];exact ux X3.o HCS.o _ _ _ _ _ _);have hOw:O<w.heap.size:=HX.o.lt;have hgw:w.heap.size≤g':=N1.o.1;have hgO:g'≠O:=by omega
 have M7:=aa (N3.o.2.1.dZ Z7.o X7.o fW);have V7:=aa (N3.o.2.2.ext Z7.o (fun b hb=>.inl (by rw[hb];exact sub _ aO)) hgO);have y:=X3.o.frozen;have hPc:∀ j,j<6→∃ v,w3.cell? ⟨O,j,none⟩=some v:=fun j hj=>⟨_,(X3.o.cell j).trans (Array.getElem?_eq_getElem (by rw[HCS.o];exact hj))⟩
 obtain⟨o0,p0⟩:=hPc 0 (by omega);obtain⟨o1,p1⟩:=hPc 1 (by omega);obtain⟨o2,p2⟩:=hPc 2 (by omega);obtain⟨o3,p3⟩:=hPc 3 (by omega);obtain⟨o4,p4⟩:=hPc 4 (by omega);obtain⟨o5,p5⟩:=hPc 5 (by omega);unfold oY at hW7;go_upto_region 7 with fail
 go_upto_region 8 with fail
 rw[←hW7.o];clear b0 b1 y p0 p1 p2 p3 p4 p5;go_wp2_with fail;have E8:=aa (show Ex B w W7 from(Ex.below F3.o).chain Z7.o (fun b _ e=>by rw[e];exact aO));exact bodyPost_ret (v:=.nilIface) (by simp[results,Tryz.results34,go_sem]) rfl ⟨rfl,aa ⟨fun b=>b=g',⟨fun b hb=>by omega,M7.o,⟨g',none,0,0,none,0,0,X7.o,⟨⟨bl,HBL.o,V7.o⟩,Ino.nil _ _,Gi _,BLo.nil _ _,Gi _,rfl⟩,.inl aO,.inr rfl,fun b hb=>by
  rcases hb with hb|hb
  ·exact .inl (sub b hb)
  ·exact .inr hb⟩,E8.o⟩⟩⟩
theorem sA (S:Nat→Prop) (n:Nat) (w:World) (hm:Mut S w) (h1:1≤n) (h2:n≤32) :
 Calls Tryz.prog 24 #[.int .i64 (n:Int)] w fun e w'=>∃ O,e=.returned (.tuple #[.pointer (some ⟨O,0,none⟩),.nilIface])∧Hid (∃ N:Nat→Prop,(∀ b,N b→w.heap.size≤b)∧Mut (fun b=>S b∨N b) w'∧OtW N (fun b=>S b∨N b) w' O n [List.replicate n zB] ⟨0,0,true,2147483647,[],[]⟩)∧Hid (Gq w w'):=by
 have HM:=aa hm;clear hm;go_enter Tryz.func24,Tryz.ntmps24;go_wp2_with fail;refine(nQ S n w HM.o h1 h2).mono ?_;rintro e w1 ⟨g,rfl,N1,E1⟩;obtain⟨W2,hW2⟩:∃ W2:World,Hid (W2=w1.alloc (.cells #[.pointer (some ⟨g,0,none⟩),.int .i64 (n:Int)] 87)):=⟨_,rfl⟩
 have B2:=bxA hW2;have D2:=beA hW2;go_upto_region 2 with fail
 rw[←hW2.o];obtain⟨b0,b1⟩:=B2.o.pair;go_upto_region 4 with fail
 obtain⟨W3,hW3⟩:∃ W3:World,Hid (W3=W2.alloc (.cells #[.pointer (some ⟨g,0,none⟩),.int .i64 (n:Int),.int .i64 0,.int .i64 0,.slice none 0 0,.slice none 0 0] 93)):=⟨_,rfl⟩
 have D3:=beA hW3;have X3:=bxA hW3;obtain⟨P,hP⟩:∃ P:Nat,Hid (P=W2.heap.size):=⟨_,rfl⟩
 rw[←hP.o] at X3;have N3:=aa ((N1.o.later D2.o).later D3.o);have F3:=aa (show Gq w W3 from(E1.o.trans (D2.o.mono E1.o.size)).trans (D3.o.mono (Gn E1.o.size D2.o.size)));have hPl:w.heap.size≤P:=by have h3:=hP.o;have h4:=E1.o.size;have h5:=D2.o.size;omega
 have hgl:w.heap.size≤g:=N1.o.1;have hSS:(fun b=>(S b∨b=g)∨b=P)=(fun b=>S b∨(b=g∨b=P)):=funext fun b=>propext or_assoc
 have M3:=aa (show Mut (fun b=>S b∨(b=g∨b=P)) W3 by rw[←hSS];exact N3.o.2.1.add X3.o (dB _ rfl));have V3:=aa (show Nd (fun b=>S b∨(b=g∨b=P)) W3 g n (List.replicate n zB) ((0:Nat):Int) ((0:Nat):Int) by
  rw[←hSS];have h3:=(N1.o.2.2.later D2.o).wd (S':=fun b=>(S b∨b=g)∨b=P) ((Wd.refl _ _).add (by have h4:=hP.o;omega)) (.inl (.inr rfl));exact h3.later D3.o)
 go_upto_region 5 with fail
 rw[←hW3.o,←hP.o];clear b0 b1;go_wp2_with fail;refine(pV (fun b=>b=g∨b=P) (fun b=>S b∨(b=g∨b=P)) P n [List.replicate n zB] W3 M3.o g _ X3.o rfl rfl rfl 0 0 (List.replicate n zB) rfl V3.o (.inr rfl) (fun b hb=>.inr hb)).mono ?_;rintro e w4 ⟨rfl,P4⟩;go_wp2_with fail;obtain⟨N,h3,h4,h5,h6⟩:=P4.o;have hT:(fun b=>(S b∨(b=g∨b=P))∨N b)=(fun b=>S b∨((b=g∨b=P)∨N b)):=funext fun b=>propext or_assoc
 rw[hT] at h4 h5;have hbe:Gq w w4:=F3.o.trans ((h6.toBelow_of (B:=w.heap.size) F3.o.size (fun b hb=>by
  rcases hb with hb|hb<;>omega)))
 exact bodyPost_ret (v:=.tuple #[.pointer (some ⟨P,0,none⟩),.nilIface]) (by simp[results,Tryz.results24,go_sem]) rfl ⟨P,rfl,aa ⟨fun b=>(b=g∨b=P)∨N b,fun b hb=>by
  rcases hb with (hb|hb)|hb
  ·omega
  ·omega
  ·exact Gn F3.o.size (h3 b hb),h4,h5⟩,aa hbe⟩
theorem Mx.Bg {k x:Int} (hk:0≤k∧k≤15) (hx:0≤x∧x≤2147483647):Mx.may k [x] 0=0:=by
 unfold Mx.may;rw[if_neg (by omega),if_neg (by simp),if_neg];simp[Mx.bj];omega
theorem Mx.wk {k x y:Int} (hk:0≤k∧k≤15) (hx:0≤x∧x≤2147483647) (hy:0≤y∧y≤2147483647):Mx.may k [x,y] 0=0:=by
 unfold Mx.may;rw[if_neg (by omega),if_neg (by simp),if_neg];simp[Mx.bj];omega
end
section
open Go.RowKit Go.ChangeMaps
def ey (o:Of_) (s:Nat):Of_:=if o.sb<s then ⟨o.back,s,false,0,[],[]⟩ else o
def eO (o:Of_) (s:Nat):Option (List Int):=if s<o.sb then none else if o.sb<s then some (Mx.aY 3 [(s:Int),(o.back:Int)] 0 []) else if o.bG=true then some (Mx.aY 4 [(s:Int)] 0 []) else some (Mx.aY 3 [(s:Int),(o.back:Int)] 0 [])
theorem OtD.step {B S:Nat→Prop} {w v w':World} {O n:Nat} {ae:List (List B8)} {o:Of_} (h:OtD B S w v O n ae o) (hb:Gq v w'):OtD B S w w' O n ae o:=⟨h.mu.later hb,h.ot.later hb,h.ext.trans (Ex.below hb)⟩
theorem tQ (B S:Nat→Prop) (O n:Nat) (ae:List (List B8)) (o:Of_) (w:World) (hm:Mut S w) (ho:OtW B S w O n ae o) (s:Nat) (h:s<o.sb) :
 Calls Tryz.prog 92 #[.pointer (some ⟨O,0,none⟩),.int .i64 (s:Int)] w fun e w'=>∃ v,e=.returned (.tuple #[v,.nilIface])∧Hid (OtD B S w w' O n ae (ey o s))∧Hid (cU S w' v (eO o s)):=by
 have e1:ey o s=o:=by unfold ey;rw[if_neg (by omega)]
 have e2:eO o s=none:=by unfold eO;rw[if_pos h]
 rw[e1,e2];have HM:=aa hm;have HO:=aa ho;obtain⟨g,na,nn,nc,ha,hn,hc,X⟩:=ho;obtain⟨x0,x1,x2,x3,x4,x5⟩:=X.bx.cells;have hd:decide ((s:Int)<(o.sb:Int))=true:=by simpa using h
 have hd2:decide (s<o.sb)=true:=by simpa using h
 clear X hm h e1 e2 x0 x1 x3 x4 x5;go_enter Tryz.func92,Tryz.ntmps92;go_wp2_with fail;exact bodyPost_ret (v:=.tuple #[.slice none 0 0,.nilIface]) (by simp[results,Tryz.results92,go_sem]) rfl ⟨_,rfl,aa (OtD.same HM.o HO.o (Below.refl _ _)),aa rfl⟩
theorem wG (B S:Nat→Prop) (O n:Nat) (ae:List (List B8)) (o:Of_) (w:World) (hm:Mut S w) (ho:OtW B S w O n ae o) (s:Nat) (h:s=o.sb) (hf:o.bG=true) (hs:(s:Int)≤2147483647) (_hb:(o.back:Int)≤2147483647) :
 Calls Tryz.prog 92 #[.pointer (some ⟨O,0,none⟩),.int .i64 (s:Int)] w fun e w'=>∃ v,e=.returned (.tuple #[v,.nilIface])∧Hid (OtD B S w w' O n ae (ey o s))∧Hid (cU S w' v (eO o s)):=by
 have e1:ey o s=o:=by unfold ey;rw[if_neg (by omega)]
 have e2:eO o s=some (Mx.aY 4 [(s:Int)] 0 []):=by unfold eO;rw[if_neg (by omega),if_neg (by omega),if_pos hf]
 rw[e1,e2];have HM:=aa hm;have HO:=aa ho;obtain⟨g,na,nn,nc,ha,hn,hc,X⟩:=ho;obtain⟨x0,x1,x2,x3,x4,x5⟩:=X.bx.cells;obtain⟨bl,hbl,hnd⟩:=X.r.nd;have HND:=aa hnd;have hw:((o.want:Int)==2147483647)=true:=by
  have h1:=X.r.fg;rw[hf] at h1;have h2:=of_decide_eq_true h1.symm;simp;omega
 rw[←h] at x2;have HX:=aa X;clear X hm hbl hnd h hf e1 e2 x1 x4 x5;go_enter Tryz.func92,Tryz.ntmps92;go_wp2_with fail;refine(fj S g n bl _ _ w HND.o).mono ?_;rintro e w1 ⟨rfl,E1⟩;have X1:=aa (HX.o.later E1.o);have y2:=(E1.o.cell (p:=⟨O,2,none⟩) (Bx.lt HX.o.bx)).trans x2;have y3:=X1.o.bx.cells.2.2.2.1;have OD:=aa (OtD.same HM.o HO.o E1.o);clear x0 x2 x3;go_wp2_with fail;refine(fa O (o.want:Int) w1 y3 true hw).mono ?_;rintro e wz ⟨rfl,hz⟩;obtain rfl:=hz.symm;clear hz y2 y3 hw;obtain⟨W5,hW5⟩:∃ W5:World,Hid (W5=w1.alloc (.cells #[.int .i64 (s:Int)] 3)):=⟨_,rfl⟩
 have D5:=beA hW5;have I5:=aa (show ay W5 (some ⟨w1.heap.size,0,none⟩) 1 [(s:Int)] by rw[hW5.o];exact jg w1 [(s:Int)] _ (by simp) _ (by simp));go_wp2_with fail;rw[←hW5.o];refine(jh 4 (some ⟨w1.heap.size,0,none⟩) 1 1 [(s:Int)] W5 I5.o (Mx.Bg (k:=4) (by omega) ⟨by omega,by omega⟩)).mono ?_;rintro e w6 ⟨v,rfl,O6,E6⟩;have F6:=aa (show Gq w1 w6 from D5.o.trans (E6.o.mono D5.o.size));go_wp2_with fail;exact bodyPost_ret (v:=.tuple #[v,.nilIface]) (by simp[results,Tryz.results92,go_sem]) rfl ⟨v,rfl,aa (OtD.step OD.o F6.o),aa (cU.of O6.o (OD.o.mu.later D5.o) (Gi _) (dN _ _ _ _) (eS (fT w) (Mx.Bg (k:=4) (by omega) ⟨by omega,by omega⟩)))⟩
theorem wH (B S:Nat→Prop) (O n:Nat) (ae:List (List B8)) (o:Of_) (w:World) (hm:Mut S w) (ho:OtW B S w O n ae o) (s:Nat) (h:s=o.sb) (hf:o.bG=false) (hs:(s:Int)≤2147483647) (hb:(o.back:Int)≤2147483647) :
 Calls Tryz.prog 92 #[.pointer (some ⟨O,0,none⟩),.int .i64 (s:Int)] w fun e w'=>∃ v,e=.returned (.tuple #[v,.nilIface])∧Hid (OtD B S w w' O n ae (ey o s))∧Hid (cU S w' v (eO o s)):=by
 have e1:ey o s=o:=by unfold ey;rw[if_neg (by omega)]
 have e2:eO o s=some (Mx.aY 3 [(s:Int),(o.back:Int)] 0 []):=by unfold eO;rw[if_neg (by omega),if_neg (by omega),if_neg (by simp[hf])]
 rw[e1,e2];have HM:=aa hm;have HO:=aa ho;obtain⟨g,na,nn,nc,ha,hn,hc,X⟩:=ho;obtain⟨x0,x1,x2,x3,x4,x5⟩:=X.bx.cells;obtain⟨bl,hbl,hnd⟩:=X.r.nd;have HND:=aa hnd;have hw:((o.want:Int)==2147483647)=false:=by
  have h1:=X.r.fg;rw[hf] at h1;have h2:=of_decide_eq_false h1.symm;simp;omega
 rw[←h] at x2;have HX:=aa X;clear X hm hbl hnd h hf e1 e2 x1 x4 x5;go_enter Tryz.func92,Tryz.ntmps92;go_wp2_with fail;refine(fj S g n bl _ _ w HND.o).mono ?_;rintro e w1 ⟨rfl,E1⟩;have X1:=aa (HX.o.later E1.o);have y2:=(E1.o.cell (p:=⟨O,2,none⟩) (Bx.lt HX.o.bx)).trans x2;have y3:=X1.o.bx.cells.2.2.2.1;have OD:=aa (OtD.same HM.o HO.o E1.o);clear x0 x2 x3;go_wp2_with fail;refine(fa O (o.want:Int) w1 y3 false hw).mono ?_;rintro e wz ⟨rfl,hz⟩;obtain rfl:=hz.symm;clear hz y2 y3 hw;obtain⟨W5,hW5⟩:∃ W5:World,Hid (W5=w1.alloc (.cells #[.int .i64 (s:Int),.int .i64 (o.back:Int)] 3)):=⟨_,rfl⟩
 have D5:=beA hW5;have I5:=aa (show ay W5 (some ⟨w1.heap.size,0,none⟩) 2 [(s:Int),(o.back:Int)] by rw[hW5.o];exact jg w1 [(s:Int),(o.back:Int)] _ (by simp) _ (by simp));go_wp2_with fail;rw[←hW5.o];refine(jh 3 (some ⟨w1.heap.size,0,none⟩) 2 2 [(s:Int),(o.back:Int)] W5 I5.o (Mx.wk (k:=3) (by omega) ⟨by omega,by omega⟩ ⟨by omega,by omega⟩)).mono ?_;rintro e w6 ⟨v,rfl,O6,E6⟩;have F6:=aa (show Gq w1 w6 from D5.o.trans (E6.o.mono D5.o.size));go_wp2_with fail;exact bodyPost_ret (v:=.tuple #[v,.nilIface]) (by simp[results,Tryz.results92,go_sem]) rfl ⟨v,rfl,aa (OtD.step OD.o F6.o),aa (cU.of O6.o (OD.o.mu.later D5.o) (Gi _) (dN _ _ _ _) (eS (fT w) (Mx.wk (k:=3) (by omega) ⟨by omega,by omega⟩ ⟨by omega,by omega⟩)))⟩
theorem tR (B S:Nat→Prop) (O n:Nat) (ae:List (List B8)) (o:Of_) (w:World) (hm:Mut S w) (ho:OtW B S w O n ae o) (s:Nat) (h:o.sb<s) (hs:(s:Int)≤2147483647) (hb:(o.back:Int)≤2147483647) :
 Calls Tryz.prog 92 #[.pointer (some ⟨O,0,none⟩),.int .i64 (s:Int)] w fun e w'=>∃ v,e=.returned (.tuple #[v,.nilIface])∧Hid (OtD B S w w' O n ae (ey o s))∧Hid (cU S w' v (eO o s)):=by
 have e1:ey o s=⟨o.back,s,false,0,[],[]⟩:=by unfold ey;rw[if_pos h]
 have e2:eO o s=some (Mx.aY 3 [(s:Int),(o.back:Int)] 0 []):=by unfold eO;rw[if_neg (by omega),if_pos h]
 rw[e1,e2];have HM:=aa hm;obtain⟨g,na,nn,nc,ha,hn,hc,X⟩:=ho;obtain⟨x0,x1,x2,x3,x4,x5⟩:=X.bx.cells;obtain⟨bl,hbl,hnd⟩:=X.r.nd;have HND:=aa hnd;have HBL:=aa hbl;have HX:=aa X;have NE:=aa X.ne;have hd1:decide ((s:Int)<(o.sb:Int))=false:=by simp;omega
 have hd2:decide (s<o.sb)=false:=by simp;omega
 have hd3:decide ((o.sb:Int)<(s:Int))=true:=by simp;omega
 have hd4:decide (o.sb<s)=true:=by simp;omega
 clear X hm hbl hnd h e1 e2 x1 x3 x4 x5;go_enter Tryz.func92,Tryz.ntmps92;go_wp2_with fail;refine(fj S g n bl _ _ w HND.o).mono ?_;rintro e w1 ⟨rfl,E1⟩;have X1:=aa (HX.o.later E1.o);obtain⟨y0,y1,y2,y3,y4,y5⟩:=X1.o.bx.cells;clear x0 x2 y1 y3 y4 y5;go_wp2_with fail;refine(iK S g n bl _ _ w1 (HM.o.later E1.o) (HND.o.later E1.o) none 0 0 [] (PL.nil _) (fun _ h=>by simp at h) (Nat.zero_le _) (o.back:Int) (s:Int) (by omega) hb (by omega) hs).mono ?_;rintro e w2 ⟨rfl,N2,G2,M2⟩;have Z2:=aa (Ex.one G2.o);have X2:=aa (show Obx w2 O g n (o.sb:Int) (o.want:Int) na nn nc ha hn hc from Ex.bx Z2.o X1.o.bx NE.o);obtain⟨W3,hW3⟩:∃ W3:World,Hid (W3=oY w2 O (.pointer (some ⟨g,0,none⟩)) (.int .i64 (n:Int)) (.int .i64 (s:Int)) (.int .i64 0) (.slice none 0 0) (.slice none 0 0)):=⟨_,rfl⟩
 have G3:=aa (show w2.grownBy W3 (some O) by rw[hW3.o];exact ox _ _ _ _ _ _ _ _);have Z3:=aa (Ex.one G3.o);have X3:=aa (show Obx W3 O g n (s:Int) 0 none 0 0 none 0 0 by rw[hW3.o];exact ux X2.o rfl _ _ _ _ _ _);have M3:=aa (M2.o.dZ Z3.o X3.o fW);have V3:=aa (N2.o.ext Z3.o (fun b hb=>by rw[hb];exact HX.o.sub _ HX.o.aO) (fun e=>NE.o e.symm));have OD:=aa (show OtD B S w W3 O n ae ⟨o.back,s,false,0,[],[]⟩ from⟨M3.o,⟨g,none,0,0,none,0,0,X3.o,⟨⟨bl,HBL.o,V3.o⟩,Ino.nil _ _,Gi _,BLo.nil _ _,Gi _,rfl⟩,HX.o.aO,HX.o.ag,HX.o.sub⟩,((Ex.below E1.o).chain Z2.o (fun b _ e=>by rw[e];exact HX.o.ag)).chain Z3.o (fun b _ e=>by rw[e];exact HX.o.aO)⟩);clear y0 y2;obtain⟨x0,x1,x2,x3,x4,x5⟩:=X2.o.cells;have y:=Bx.frozen X2.o;unfold oY at hW3;go_upto_region 10 with fail
 go_upto_region 11 with fail
 rw[←hW3.o];clear x0 x1 x2 x3 x4 x5 y;have y3:=X3.o.cells.2.2.2.1;go_wp2_with fail;refine(fa O 0 W3 y3 false (by decide)).mono ?_;rintro e wz ⟨rfl,hz⟩;obtain rfl:=hz.symm;clear hz y3;obtain⟨W5,hW5⟩:∃ W5:World,Hid (W5=W3.alloc (.cells #[.int .i64 (s:Int),.int .i64 (o.back:Int)] 3)):=⟨_,rfl⟩
 have D5:=beA hW5;have I5:=aa (show ay W5 (some ⟨W3.heap.size,0,none⟩) 2 [(s:Int),(o.back:Int)] by rw[hW5.o];exact jg W3 [(s:Int),(o.back:Int)] _ (by simp) _ (by simp));go_wp2_with fail;rw[←hW5.o];refine(jh 3 (some ⟨W3.heap.size,0,none⟩) 2 2 [(s:Int),(o.back:Int)] W5 I5.o (Mx.wk (k:=3) (by omega) ⟨by omega,by omega⟩ ⟨by omega,by omega⟩)).mono ?_;rintro e w6 ⟨v,rfl,O6,E6⟩;have F6:=aa (show Gq W3 w6 from D5.o.trans (E6.o.mono D5.o.size));go_wp2_with fail;exact bodyPost_ret (v:=.tuple #[v,.nilIface]) (by simp[results,Tryz.results92,go_sem]) rfl ⟨v,rfl,aa (OtD.step OD.o F6.o),aa (cU.of O6.o (OD.o.mu.later D5.o) (Gi _) (dN _ _ _ _) (eS (fT w) (Mx.wk (k:=3) (by omega) ⟨by omega,by omega⟩ ⟨by omega,by omega⟩)))⟩
theorem yX (B S:Nat→Prop) (O n:Nat) (ae:List (List B8)) (o:Of_) (w:World) (hm:Mut S w) (ho:OtW B S w O n ae o) (s:Nat) (hs:(s:Int)≤2147483647) (hb:(o.back:Int)≤2147483647) :
 Calls Tryz.prog 92 #[.pointer (some ⟨O,0,none⟩),.int .i64 (s:Int)] w fun e w'=>∃ v,e=.returned (.tuple #[v,.nilIface])∧Hid (OtD B S w w' O n ae (ey o s))∧Hid (cU S w' v (eO o s)):=by
 rcases Nat.lt_trichotomy s o.sb with h|h|h
 ·exact tQ B S O n ae o w hm ho s h
 ·cases hf:o.bG with
  | true => exact wG B S O n ae o w hm ho s h hf hs hb
  | false => exact wH B S O n ae o w hm ho s h hf hs hb
 ·exact tR B S O n ae o w hm ho s h hs hb
end
section
open Go.RowKit Go.ChangeMaps
theorem wC (B S:Nat→Prop) (O n:Nat) (ae:List (List B8)) (o:Of_) (w:World) (ho:OtW B S w O n ae o) (frm:Int) (to_:Nat) (qa:Option Addr) (qn qc:Nat) (ht:o.back<to_) (hf:frm=0) (hn32:n≤32) :
 Calls Tryz.prog 161 #[.pointer (some ⟨O,0,none⟩),.agg #[.int .i64 frm,.int .i64 (to_:Int),.slice qa qn qc]] w fun e w'=>∃ p,e=.returned (.tuple #[.slice (some ⟨p,0,none⟩) n n,.nilIface])∧Hid (au w' w.heap.size (.slice (some ⟨p,0,none⟩) n n) (List.replicate n zB))∧Hid (Gq w w'):=by
 obtain⟨g,na,nn,nc,ha,hn,hc,X⟩:=ho;obtain⟨bl',hbl',hnd⟩:=X.r.nd;obtain⟨W0,hW0⟩:∃ W0:World,Hid (W0=w.alloc (.cells #[.int .i64 frm,.int .i64 (to_:Int),.slice qa qn qc] 213)):=⟨_,rfl⟩
 have B0:=bxA hW0;have D0:=beA hW0;have HX:=aa (X.later D0.o);have HND:=aa (hnd.later D0.o);subst hf;clear hbl';obtain⟨C,hC,HC⟩:=fL n (by omega);obtain⟨x0,x1,x2,x3,x4,x5⟩:=HX.o.bx.cells;clear X hnd x2 x3 x4 x5;have hd1:decide ((to_:Int)≤(o.back:Int))=false:=by simp;omega
 have hd2:decide (to_≤o.back)=false:=by simp;omega
 go_enter Tryz.func161,Tryz.ntmps161;go_upto_region 1 with fail
 rw[←hW0.o];go_wp2_with fail;refine(fj S g n _ _ _ W0 HND.o).mono ?_;rintro e w1 ⟨rfl,E1⟩;have B1:=aa (B0.o.later E1.o B0.o.lt);have D1:=aa (D0.o.trans (E1.o.mono D0.o.size));have X1:=aa (HX.o.later E1.o);obtain⟨b0,b1,b2⟩:=B1.o.three;clear x0 x1;obtain⟨x0,x1,x2,x3,x4,x5⟩:=X1.o.bx.cells;clear x2 x3 x4 x5;have OF:=aa (HC.o w1 w.heap.size D1.o.size);have BF:=aa (show Gq w (w1.alloc (.cells C 33)) from D1.o.alloc D1.o.size _);go_wp2_with fail;exact bodyPost_ret (v:=.tuple #[.slice (some ⟨w1.heap.size,0,none⟩) n n,.nilIface]) (by simp[results,Tryz.results161,go_sem]) rfl ⟨_,rfl,OF,BF⟩
theorem wA (B S:Nat→Prop) (O n:Nat) (ae:List (List B8)) (o:Of_) (w:World) (ho:OtW B S w O n ae o) (frm:Int) (to_:Nat) (qa:Option Addr) (qn qc:Nat) (ht:o.back<to_) (hf:frm=(o.back:Int)) (h0:frm≠0) (bl:List B8) (hbl:ae[o.back]?=some bl) :
 Calls Tryz.prog 161 #[.pointer (some ⟨O,0,none⟩),.agg #[.int .i64 frm,.int .i64 (to_:Int),.slice qa qn qc]] w fun e w'=>∃ p,e=.returned (.tuple #[.slice (some ⟨p,0,none⟩) n n,.nilIface])∧Hid (au w' w.heap.size (.slice (some ⟨p,0,none⟩) n n) bl)∧Hid (Gq w w'):=by
 obtain⟨g,na,nn,nc,ha,hn,hc,X⟩:=ho;obtain⟨bl',hbl',hnd⟩:=X.r.nd;obtain⟨W0,hW0⟩:∃ W0:World,Hid (W0=w.alloc (.cells #[.int .i64 frm,.int .i64 (to_:Int),.slice qa qn qc] 213)):=⟨_,rfl⟩
 have B0:=bxA hW0;have D0:=beA hW0;have HX:=aa (X.later D0.o);have HND:=aa (hnd.later D0.o);have hbe:bl'=bl:=by rw[hbl] at hbl';exact(Gg hbl').symm
 subst hbe;subst hf;have hz1:((o.back:Int)==0)=false:=by simpa using h0
 have hz2:(o.back==0)=false:=by simp;omega
 clear hbl' hbl h0;obtain⟨x0,x1,x2,x3,x4,x5⟩:=HX.o.bx.cells;clear X hnd x2 x3 x4 x5;have hd1:decide ((to_:Int)≤(o.back:Int))=false:=by simp;omega
 have hd2:decide (to_≤o.back)=false:=by simp;omega
 go_enter Tryz.func161,Tryz.ntmps161;go_upto_region 1 with fail
 rw[←hW0.o];go_wp2_with fail;refine(fj S g n _ _ _ W0 HND.o).mono ?_;rintro e w1 ⟨rfl,E1⟩;have B1:=aa (B0.o.later E1.o B0.o.lt);have D1:=aa (D0.o.trans (E1.o.mono D0.o.size));have X1:=aa (HX.o.later E1.o);obtain⟨b0,b1,b2⟩:=B1.o.three;clear x0 x1;obtain⟨x0,x1,x2,x3,x4,x5⟩:=X1.o.bx.cells;clear x2 x3 x4 x5;go_wp2_with fail;refine(lW S g n bl' _ _ w1 (HND.o.later E1.o)).mono ?_;rintro e w2 ⟨p,rfl,O2,E2⟩;have OF:=aa (show au w2 w.heap.size (.slice (some ⟨p,0,none⟩) n n) bl' from World.ownsRow.mono O2.o D1.o.size);have BF:=aa (D1.o.trans (E2.o.mono D1.o.size));go_wp2_with fail;exact bodyPost_ret (v:=.tuple #[.slice (some ⟨p,0,none⟩) n n,.nilIface]) (by simp[results,Tryz.results161,go_sem]) rfl ⟨_,rfl,OF,BF⟩
theorem Bq (B S:Nat→Prop) (O n:Nat) (ae:List (List B8)) (o:Of_) (w:World) (ho:OtW B S w O n ae o) (frm:Int) (to_:Nat) (qa:Option Addr) (qn qc:Nat) (ht:o.back<to_) (hn32:n≤32) (base:List B8) (hb:(frm=0∧base=List.replicate n zB)∨(frm=(o.back:Int)∧frm≠0∧ae[o.back]?=some base)) :
 Calls Tryz.prog 161 #[.pointer (some ⟨O,0,none⟩),.agg #[.int .i64 frm,.int .i64 (to_:Int),.slice qa qn qc]] w fun e w'=>∃ p,e=.returned (.tuple #[.slice (some ⟨p,0,none⟩) n n,.nilIface])∧Hid (au w' w.heap.size (.slice (some ⟨p,0,none⟩) n n) base)∧Hid (Gq w w'):=by
 rcases hb with ⟨h1,rfl⟩|⟨h1,h2,h3⟩
 ·exact wC B S O n ae o w ho frm to_ qa qn qc ht h1 hn32
 ·exact wA B S O n ae o w ho frm to_ qa qn qc ht h1 h2 base h3
end
section
open Go.RowKit Go.ChangeMaps
theorem xG (ap a ah:Option Addr) (m cm n c nh ch:Nat) (qs:List Pk) (peer had:List B8) (w:World) (hp:QL w ap m qs) (hq:BL w a n peer) (hh:BL w ah nh had) (hc:nh≤ch) (hn1:1≤n) (hn2:n≤32) (hm:m≤1000) (h0:Mx.bT had=0) (hE:Mx.qE n qs=0) (hms:Mx.dJ qs peer had=[]) (PN:Nat) (hPN:PN=(Mx.aI qs peer had).length) :
 Calls Tryz.prog 162 #[.slice ap m cm,.slice a n c,.slice ah nh ch] w fun e w'=>∃ a1 c1 a2 c2,e=.returned (.tuple #[.slice a1 PN c1,.slice a2 0 c2,.nilIface])∧Hid (bg w' w.heap.size (.slice a1 PN c1) (Mx.aI qs peer had))∧Hid (Gq w w'):=by
 have hpm:Mx.gD n had=0:=by unfold Mx.gD;rw[if_neg (by omega)];exact h0
 refine(xH ap a ah m cm n c nh ch qs peer had w hp hq hh hc (by omega) hm hpm hE).mono ?_;rintro e w' ⟨a1,c1,a2,c2,rfl,h1,h2,h3⟩;rw[hms,←hPN];rw[←hPN] at h1;exact⟨a1,c1,a2,c2,rfl,h1,h3⟩
theorem uG (ah ap:Option Addr) (nh ch m cm:Nat) (had:List B8) (qs:List Pk) (w:World) (hh:BL w ah nh had) (hp:QL w ap m qs) (hc:nh≤ch) (hE:Mx.bT had=0) (HN:Nat) (hHN:HN=(Mx.bI had qs).length) :
 Calls Tryz.prog 113 #[.slice ah nh ch,.slice ap m cm] w fun e w'=>∃ a' c',e=.returned (.tuple #[.slice a' HN c',.nilIface])∧Hid (au w' w.heap.size (.slice a' HN c') (Mx.bI had qs))∧Hid (Gq w w'):=by
 refine(C7 ah ap nh ch m cm had qs w hh hp hc hE).mono ?_;rintro e w' ⟨a',c',rfl,h1,h2⟩;rw[←hHN];rw[←hHN] at h1;exact⟨a',c',rfl,h1,h2⟩
theorem An {B p:Nat} {w v w':World} (h:Below B w v) (hx:Ex (fun b=>b=p) v w') (hv:B≤v.heap.size) (hp:B≤p):Below B w w':=⟨hx.os.trans h.os,hx.tape.trans h.tape,hx.output.trans h.output,Gn h.size hx.size,fun k hk=>(hx.block k (by omega) (by omega)).trans (h.block k hk)⟩
namespace Mx
theorem FG {n:Nat} {qs:List Pk} (h:qE n qs=0):∀ q∈qs,0≤q.at_∧q.at_<(n:Int):=by
 have hr:gE n qs=true:=by
  unfold qE at h;by_cases hq:gE n qs=true
  ·exact hq
  ·rw[if_neg hq] at h
   omega
 unfold gE at hr;rw[List.all_eq_true] at hr;have key:∀ k,∀ q,qs[k]?=some q→0≤fO qs k∧0≤q.at_∧q.at_<(n:Int):=by
  intro k;induction k with
  | zero =>
   intro q hq;have h1:=hr 0 (List.mem_range.2 (Gh.1 hq).1);unfold gW qOk at h1;rw[Ga,hq] at h1;simp only[Option.getD_some,Bool.and_eq_true,decide_eq_true_eq] at h1;have h2:fO qs 0=0:=rfl;omega
  | succ k ih =>
   intro q hq;have hl:=(Gh.1 hq).1;have h1:=hr (k+1) (List.mem_range.2 hl);unfold gW qOk at h1;rw[Ga,hq] at h1;simp only[Option.getD_some,Bool.and_eq_true,decide_eq_true_eq] at h1;have h3:=ih _ (F0 (by omega:k<qs.length));have h2:=kJ (F0 (by omega:k<qs.length));omega
 intro q hq;obtain⟨k,hk⟩:=List.getElem?_of_mem hq;exact(key k q hk).2
theorem DF {n:Nat} {qs:List Pk} {peer had:List B8} (h:qE n qs=0):∀ p∈aI qs peer had,0≤p.at_∧p.at_<(n:Int):=by
 intro p hp;obtain⟨q,hq,hpq⟩:=List.mem_flatMap.1 hp;have h1:=FG h q hq;unfold jQ at hpq;split at hpq
 ·simp at hpq
  rw[hpq];exact h1
 ·simp at hpq
theorem DG (qs:List Pk) (peer had:List B8):(aI qs peer had).length≤qs.length:=by
 unfold aI;induction qs with
 | nil => simp
 | cons q qs ih =>
  rw[List.flatMap_cons,Ge,List.length_cons];have:(jQ q peer had).length≤1:=by unfold jQ;split<;>simp
  omega
end Mx
theorem wD (B S:Nat→Prop) (O n:Nat) (ae:List (List B8)) (o:Of_) (w:World) (hm:Mut S w) (ho:OtW B S w O n ae o) (frm:Int) (to_:Nat) (qa:Option Addr) (qn qc:Nat) (qs:List Pk) (hq:QL w qa qn qs) (ht:o.back<to_) (hn1:1≤n) (hn32:n≤32) (base fin:List B8) (hb:(frm=0∧base=List.replicate n zB)∨(frm=(o.back:Int)∧frm≠0∧ae[o.back]?=some base)) (hbl:base.length=n) (hh:Mx.bT o.had=0) (hE:Mx.qE n qs=0) (hms:Mx.dJ qs base o.had=[]) (hfin:ae[to_]?=some fin) (hfl:Mx.aD base (Mx.aI qs base o.had)=fin) (hqn:qn≤1000) (hto:(to_:Int)≤2147483647) (hsb:(o.sb:Int)≤2147483647) :
 Calls Tryz.prog 151 #[.pointer (some ⟨O,0,none⟩),.agg #[.int .i64 frm,.int .i64 (to_:Int),.slice qa qn qc]] w fun e w'=>e=.returned .nilIface∧Hid (OtD B S w w' O n ae {o with back:=to_,had:=Mx.bI o.had qs}):=by
 obtain⟨W0,hW0⟩:∃ W0:World,Hid (W0=w.alloc (.cells #[.int .i64 frm,.int .i64 (to_:Int),.slice qa qn qc] 213)):=⟨_,rfl⟩
 have B0:=bxA hW0;have D0:=beA hW0;have HO:=aa (ho.later D0.o);have HM:=aa (hm.later D0.o);have HQ:=aa (hq.later D0.o);have HBH:=aa hb;have HH:=aa hh;have HE:=aa hE;have HMS:=aa hms;have HFIN:=aa hfin;have HFL:=aa hfl;have HBL:=aa hbl;have HIN:=aa (Mx.DF (peer:=base) (had:=o.had) hE);obtain⟨PN,hPN⟩:∃ PN:Nat,Hid (PN=(Mx.aI qs base o.had).length):=⟨_,rfl⟩
 obtain⟨HN,hHN⟩:∃ HN:Nat,Hid (HN=(Mx.bI o.had qs).length):=⟨_,rfl⟩
 have hPN1:PN≤1000:=by rw[hPN.o];have h1:=Mx.DG qs base o.had;have h2:=hq.1;omega
 clear ho hm hq hb hh hE hms hfin hfl hbl;obtain⟨g,na,nn,nc,ha,hn,hc,X⟩:=HO.o;have HX0:=aa X;have NE:=aa X.ne;clear X;obtain⟨b0,b1,b2⟩:=B0.o.three;go_enter Tryz.func151,Tryz.ntmps151;go_upto_region 1 with fail
 rw[←hW0.o];go_wp2_with fail;refine(Bq B S O n ae o W0 HO.o frm to_ qa qn qc ht hn32 base HBH.o).mono ?_;rintro e w1 ⟨p,rfl,O1,E1⟩;have B1:=aa (B0.o.later E1.o B0.o.lt);have M1:=aa (HM.o.later E1.o);have Q1:=aa (HQ.o.later E1.o);have hpl:W0.heap.size≤p∧p<w1.heap.size:=World.ownsRow.lt O1.o p rfl;have HPL:=aa hpl;clear b0 b1 b2 hpl;have HX:=aa (HX0.o.later E1.o);go_upto_region 4 with fail
 obtain⟨b0,b1,b2⟩:=B1.o.three;obtain⟨x0,x1,x2,x3,x4,x5⟩:=HX.o.bx.cells;clear b0 b1 x0 x1 x2 x3 x4;have hBw:w.heap.size<w1.heap.size:=B1.o.lt;have hOw:O<w1.heap.size:=Bx.lt HX.o.bx;have DR:=aa (show Gq w1 w1.drew from(Below.refl _ _).drew);have QD:=aa (Q1.o.later DR.o);have BD:=aa (show BL w1.drew (some ⟨p,0,none⟩) n base from(au.blo O1.o (Mut.none W0) (Gi _)).1.1.later DR.o);have HD:=aa (HX.o.r.hd.1.later DR.o);go_region_held3 (fun w'=>w'.cell? ⟨w.heap.size,2,none⟩=some (.slice qa qn qc)∧w'.cell? ⟨O,5,none⟩=some (.slice ha hn hc))
  (first
    | with_reducible exact ⟨b2, x5⟩
    |(simp only[an];with_reducible exact⟨b2,x5⟩)
    | with_reducible exact ⟨yb2, y5⟩)
  (first
    |(go_at_call 162;(with_reducible refine(xG qa (some ⟨p,0,none⟩) ha qn qc n n hn hc qs base o.had w1.drew QD.o BD.o HD.o HX.o.r.hc hn1 hn32 hqn HH.o HE.o HMS.o PN hPN.o).mono ?_);rintro e w2 ⟨a1,c1,a2,c2,rfl,P2,E2⟩;have D2:=aa (show Gq w1 w2 from DR.o.trans (E2.o.mono DR.o.size));have yb2:=(D2.o.cell (p:=⟨w.heap.size,2,none⟩) hBw).trans b2;have y5:=(D2.o.cell (p:=⟨O,5,none⟩) hOw).trans x5))
 all_goals
  clear b2 x5 yb2 y5 QD BD HD;have B2:=aa (B1.o.later D2.o B1.o.lt);have X2:=aa (HX.o.later D2.o);have M2:=aa (M1.o.later D2.o);have Q2:=aa (Q1.o.later D2.o);have O2:=aa (show au w2 w.heap.size (.slice (some ⟨p,0,none⟩) n n) base from World.ownsRow.mono (bm O1.o D2.o) D0.o.size);go_upto_region 9 with fail
  obtain⟨b0,b1,b2⟩:=B2.o.three;obtain⟨x0,x1,x2,x3,x4,x5⟩:=X2.o.bx.cells;clear b0 b1 x0 x1 x2 x3 x4;have hBw2:w.heap.size<w2.heap.size:=B2.o.lt;have hOw2:O<w2.heap.size:=Bx.lt X2.o.bx;have DR2:=aa (show Gq w2 w2.drew from(Below.refl _ _).drew);have QD:=aa (Q2.o.later DR2.o);have HD:=aa (X2.o.r.hd.1.later DR2.o);go_region_held3 (fun w'=>w'.cell? ⟨w.heap.size,2,none⟩=some (.slice qa qn qc)∧w'.cell? ⟨O,5,none⟩=some (.slice ha hn hc))
   (first
     | with_reducible exact ⟨b2, x5⟩
     |(simp only[an];with_reducible exact⟨b2,x5⟩)
     | with_reducible exact ⟨yb2, y5⟩)
   (first
     |(go_at_call 113;(with_reducible refine(uG ha qa hn hc qn qc o.had qs w2.drew HD.o QD.o X2.o.r.hc HH.o HN hHN.o).mono ?_);rintro e w3 ⟨a3,c3,rfl,H3,E3⟩;have D3:=aa (show Gq w2 w3 from DR2.o.trans (E3.o.mono DR2.o.size));have yb2:=(D3.o.cell (p:=⟨w.heap.size,2,none⟩) hBw2).trans b2;have y5:=(D3.o.cell (p:=⟨O,5,none⟩) hOw2).trans x5))
  all_goals
   clear b2 x5 yb2 y5 QD HD;have B3:=aa (B2.o.later D3.o B2.o.lt);have X3:=aa (X2.o.later D3.o);have M3:=aa (M2.o.later D3.o);have O3:=aa (show au w3 w.heap.size (.slice (some ⟨p,0,none⟩) n n) base from bm O2.o D3.o);have P3:=aa (show bg w3 w1.heap.size (.slice a1 PN c1) (Mx.aI qs base o.had) from bm (World.ownsRow.mono P2.o DR.o.size) D3.o);have hp1:p<w1.heap.size:=HPL.o.2;have PL3:=aa (show PL w3 a1 PN (Mx.aI qs base o.had)∧∀ q,a1=some q→w1.heap.size≤q.block from by
    obtain⟨a',c',hv,_,hr,hp⟩:=aA P3.o;cases hv
    exact⟨⟨hPN.o.symm,by rw[hPN.o];exact hr⟩,hp⟩)
   have H3':=aa (au.blo H3.o (M2.o.later DR2.o) (Gi _));have D03:=aa (show Gq w w3 from(((D0.o.trans (E1.o.mono D0.o.size))).trans (D2.o.mono (Gn D0.o.size E1.o.size))).trans (D3.o.mono (Gn (Gn D0.o.size E1.o.size) D2.o.size)));have hpw:w.heap.size≤p:=by have h1:=HPL.o.1;have h2:=D0.o.size;omega
   have hpS:Hid (¬S p):=aa (fun hs=>by have h1:=HM.o.lt _ hs;have h2:=HPL.o.1;omega);have hpx:Hid (p≠w.heap.size):=aa (by
    have h1:=aX O3.o B3.o (by decide);intro e;exact h1 (by rw[←e];rfl))
   go_upto_region 13 with fail
   go_loopw [56] (fun t wr=>∃ k:Nat,t=.int .i64 (k:Int)∧k≤PN∧Hid (au wr w.heap.size (.slice (some ⟨p,0,none⟩) n n) (Mx.aD base ((Mx.aI qs base o.had).take k)))∧Hid (Ex (fun b=>b=p) w3 wr)) (fun t _=>PN-(intOf t).toNat)
   case atStart=>exact⟨0,rfl,Nat.zero_le _,by rw[List.take_zero];exact O3,Ex.refl _ _⟩
   case round =>
    obtain⟨k,rfl,hk,hO,hZ⟩:=hrel;by_cases hlt:k<PN
    ·have hlti:(k:Int)<PN:=by omega
     have PLr:=aa (show PL wr a1 PN (Mx.aI qs base o.had) from⟨PL3.o.1.1,PL3.o.1.2.ext hZ.o (fun _ q hq e=>by have h1:=PL3.o.2 q hq;omega)⟩);obtain⟨bb,off,pt,hba,hbw,hpt,c0,d1,d2,d3,d4,d5,d6,d7,d8⟩:=PLr.o.at_ k hlt;have HBA:=aa hba;subst hba;have HP:=aa hpt;obtain⟨i,hi⟩:∃ i:Nat,Hid (pt.at_=(i:Int)):=⟨pt.at_.toNat,by have h9:=HIN.o pt (Gp hpt);unfold Hid;omega⟩
     have hin:i<n:=by have h9:=HIN.o pt (Gp hpt);have h8:=hi.o;omega
     have hini:(i:Int)<(n:Int):=by omega
     rw[hi.o] at c0;clear hpt;obtain⟨W4,hW4⟩:∃ W4:World,Hid (W4=wr.alloc (.cells #[.int .i64 (i:Int),.int .u8 pt.d.z0,.int .u8 pt.d.z1,.int .u8 pt.d.z2,.int .u8 pt.d.z3,.int .u8 pt.d.z4,.int .u8 pt.d.z5,.int .u8 pt.d.z6,.int .u8 pt.d.z7] 114)):=⟨_,rfl⟩
     have X4:=bxA hW4;have O4:=aa (show au W4 w.heap.size (.slice (some ⟨p,0,none⟩) n n) (Mx.aD base ((Mx.aI qs base o.had).take k)) by rw[hW4.o];exact World.ownsRow.alloc hO.o _);have Z4:=aa (show Ex (fun b=>b=p) w3 W4 by rw[hW4.o];exact hZ.o.trans (Ex.below (af _ _)));have hlen:Hid ((Mx.aD base ((Mx.aI qs base o.had).take k)).length=n):=aa (by rw[Mx.cN];exact HBL.o);go_upto_region 15 with fail
     rw[←hW4.o];clear c0 d1 d2 d3 d4 d5 d6 d7 d8;have y0:W4.cell? ⟨wr.heap.size,0,none⟩=some (.int .i64 (i:Int)):=X4.o.cell 0;have y1:W4.cell? ⟨wr.heap.size,1,none⟩=some (.int .u8 pt.d.z0):=X4.o.cell 1;have y2:W4.cell? ⟨wr.heap.size,2,none⟩=some (.int .u8 pt.d.z1):=X4.o.cell 2;have y3:W4.cell? ⟨wr.heap.size,3,none⟩=some (.int .u8 pt.d.z2):=X4.o.cell 3;have y4:W4.cell? ⟨wr.heap.size,4,none⟩=some (.int .u8 pt.d.z3):=X4.o.cell 4;have y5:W4.cell? ⟨wr.heap.size,5,none⟩=some (.int .u8 pt.d.z4):=X4.o.cell 5;have y6:W4.cell? ⟨wr.heap.size,6,none⟩=some (.int .u8 pt.d.z5):=X4.o.cell 6;have y7:W4.cell? ⟨wr.heap.size,7,none⟩=some (.int .u8 pt.d.z6):=X4.o.cell 7;have y8:W4.cell? ⟨wr.heap.size,8,none⟩=some (.int .u8 pt.d.z7):=X4.o.cell 8;have OF:=aa (show au (aR W4 p (i*8) pt.d) w.heap.size (.slice (some ⟨p,0,none⟩) n n) (Mx.aD base ((Mx.aI qs base o.had).take (k+1))) by
      rw[Mx.gq base _ k pt HP.o,show pt.at_.toNat=i by rw[hi.o];rfl];exact O4.o.put i (by rw[hlen.o];exact hin) pt.d)
     have ZF:=aa (show Ex (fun b=>b=p) w3 (aR W4 p (i*8) pt.d) from Z4.o.trans (Ex.one (lA (aq _ _) _ _)));obtain⟨bb9,off9,x9,ha9,_,_,q0,q1,q2,q3,q4,q5,q6,q7⟩:=(au.blo O4.o (Mut.none w) (Gi _)).1.1.at_ i hin;simp only[Option.some.injEq,Addr.mk.injEq,and_true] at ha9;obtain⟨rfl,rfl⟩:=ha9;simp only[Nat.zero_add] at q0 q1 q2 q3 q4 q5 q6 q7;have hfz:∀ oo,W4.frozen? ⟨p,oo,none⟩=false:=(O4.o.form (by omega)).elim fun gg hh=>by
      have h9:gg=p:=by have:=hh.1;simp at this;exact this.symm
      rw[←h9];exact hh.2.2.2.2
     have hpn:¬wr.heap.size=p:=by have h9:=hZ.o.size;have h8:=D2.o.size;have h7:=D3.o.size;omega
     have hpn2:¬p=wr.heap.size:=fun e=>hpn e.symm
     unfold aR at OF ZF;go_wp2_with fail;go_roundw
     case rel=>exact⟨k+1,by go_num,by omega,OF,ZF⟩
     case measure=>simp[intOf];omega
    ·obtain rfl:k=PN:=by omega
     have OK:=aa (show au wr w.heap.size (.slice (some ⟨p,0,none⟩) n n) fin by
      have h9:=hO.o;rw[Gj (by rw[hPN.o];exact Gi _),HFL.o] at h9;exact h9)
     have DW:=aa (show Gq W0 wr from(An ((E1.o.trans (D2.o.mono E1.o.size)).trans (D3.o.mono (Gn E1.o.size D2.o.size))) hZ.o (Gn (Gn E1.o.size D2.o.size) D3.o.size) HPL.o.1));have XR:=aa (HX0.o.later DW.o);have MR:=aa (HM.o.later DW.o);have BR:=aa (B0.o.later DW.o B0.o.lt);have HFN:=aa (show fin.length=n by rw[←HFL.o,Mx.cN];exact HBL.o);have OH:=aa (show au wr w2.drew.heap.size (.slice a3 HN c3) (Mx.bI o.had qs) from Ext.own hZ.o.toExt H3.o (fun k hk e=>by
      have h1:=(World.ownsRow.lt H3.o k hk).1;have h2:w2.drew.heap.size=w2.heap.size:=rfl;have h3:=D2.o.size;omega))
     have BH:=aa (au.blo OH.o M2.o (Gi _));obtain⟨bl0,hbl0,hnd0⟩:=XR.o.r.nd;have ND:=aa hnd0;have HBL0:=aa (show bl0.length=n by obtain⟨_,_,_,_,_,_,_,_,H9,_⟩:=hnd0;exact H9.bln);clear hbl0 hnd0;obtain⟨b0,b1,b2⟩:=BR.o.three;obtain⟨x0,x1,x2,x3,x4,x5⟩:=XR.o.bx.cells;clear b0 b2 x1 x3 x4 x5;have hBr:w.heap.size<wr.heap.size:=BR.o.lt;have hOr:O<wr.heap.size:=Bx.lt XR.o.bx;have hgx:g≠w.heap.size:=fun e=>by
      have h1:=XR.o.sub _ XR.o.ag;have h2:=HM.o.lt _ h1;obtain⟨_,_,_,_,_,_,_,T9,_⟩:=ND.o;have h3:=T9.bx;have h4:=BR.o;unfold Sbx at h3;unfold Bx at h3 h4;rw[e,h4] at h3;simp at h3
     go_upto_region 17 with fail
     have DR9:=aa (show Gq wr wr.drew from(Below.refl _ _).drew);have BLF:=aa (show BL wr.drew (some ⟨p,0,none⟩) n fin from(au.blo OK.o (Mut.none w) (Gi _)).1.1.later DR9.o);go_region_held3 (fun w'=>w'.cell? ⟨O,0,none⟩=some (.pointer (some ⟨g,0,none⟩))∧w'.cell? ⟨O,2,none⟩=some (.int .i64 (o.sb:Int))∧w'.cell? ⟨w.heap.size,1,none⟩=some (.int .i64 (to_:Int)))
      (first
        | with_reducible exact ⟨x0, x2, b1⟩
        |(simp only[an];with_reducible exact⟨x0,x2,b1⟩)
        | with_reducible exact ⟨y0, y2, yb1⟩
        | with_reducible exact ⟨z0, z2, zb1⟩)
      (first
        |(go_at_call 135;(with_reducible refine(jM (some ⟨p,0,none⟩) n n fin wr.drew BLF.o (by omega)).mono ?_);rintro e w5 ⟨a5,c5,rfl,P5,E5⟩;have D5:=aa (show Gq wr w5 from DR9.o.trans (E5.o.mono DR9.o.size));have y0:=(D5.o.cell (p:=⟨O,0,none⟩) hOr).trans x0;have y2:=(D5.o.cell (p:=⟨O,2,none⟩) hOr).trans x2;have yb1:=(D5.o.cell (p:=⟨w.heap.size,1,none⟩) hBr).trans b1;have PP5:=aa (bg.plo P5.o (Mut.none w) (Gn D03.o.size (Gn hZ.o.size (Gi _)))).1.1;have M5:=aa (MR.o.later D5.o);have N5:=aa (ND.o.later D5.o))
        |(go_at_call 44;(with_reducible refine(iK S g n bl0 _ _ w5 M5.o N5.o a5 n c5 (Mx.dF fin) PP5.o (fun q hq=>by have h9:=Mx.CB q hq;rw[HFN.o] at h9;exact h9) (Gi _) (to_:Int) (o.sb:Int) (by omega) hto (by omega) hsb).mono ?_);rintro e w6 ⟨rfl,N6,G6,M6⟩;have z0:=G6.o.cell (row:=some g) (a:=⟨O,0,none⟩) y0 (fun e=>NE.o (Gg e));have z2:=G6.o.cell (row:=some g) (a:=⟨O,2,none⟩) y2 (fun e=>NE.o (Gg e));have zb1:=G6.o.cell (row:=some g) (a:=⟨w.heap.size,1,none⟩) yb1 (fun e=>hgx (Gg e).symm)))
     all_goals
      clear x0 x2 b1 y0 y2 yb1 z0 z2 zb1;have Z6:=aa (Ex.one G6.o);have X6:=aa (show Obx w6 O g n (o.sb:Int) (o.want:Int) na nn nc ha hn hc from Ex.bx Z6.o (Bx.later XR.o.bx D5.o (Bx.lt XR.o.bx)) NE.o);have x5:=X6.o.cells.2.2.2.2.2;have xz:=Bx.frozen X6.o;obtain⟨W7,hW7⟩:∃ W7:World,Hid (W7=w6.setCell ⟨O,5,none⟩ (.slice a3 HN c3)):=⟨_,rfl⟩
      have G7:=aa (show w6.grownBy W7 (some O) by rw[hW7.o];exact ak (aq _ _) _ _);have Z7:=aa (Ex.one G7.o);have X7:=aa (show Obx W7 O g n (o.sb:Int) (o.want:Int) na nn nc a3 HN c3 by rw[hW7.o];exact Bx.set X6.o 5 _);have M7:=aa (M6.o.dZ Z7.o X7.o fW);have hSg:∀ b,b=g→S b:=fun b e=>by rw[e];exact XR.o.sub _ XR.o.ag
      have hSO:∀ b,b=O→S b:=fun b e=>by rw[e];exact XR.o.sub _ XR.o.aO
      have EX:=aa (show Ex S wr W7 from((Ex.below D5.o).chain Z6.o (fun b _ e=>hSg b e)).chain Z7.o (fun b _ e=>hSO b e));have hfe:Mx.aD bl0 (Mx.dF fin)=fin:=Mx.iW fin bl0 (by rw[HBL0.o,HFN.o]);have R7:=aa (show OtR S W7 n ae {o with back:=to_,had:=Mx.bI o.had qs} g na nn nc a3 HN c3 from by
       have h1:=N6.o.ext Z7.o hSO (fun e=>NE.o e.symm);rw[hfe] at h1;exact⟨⟨fin,HFIN.o,h1⟩,XR.o.r.nu.ext EX.o,XR.o.r.nc,BH.o.1.ext EX.o,BH.o.2,XR.o.r.fg⟩)
      clear hfe;have E7:=aa (show Ex B w W7 from(((Ex.below (S:=B) D0.o).chain (Ex.below (S:=B) DW.o) (fun _ _ h=>h)).chain ((Ex.below (S:=B) D5.o).chain Z6.o (fun b _ e=>by rw[e];exact XR.o.ag)) (fun _ _ h=>h)).chain Z7.o (fun b _ e=>by rw[e];exact XR.o.aO));go_wp2_with fail;rw[←hW7.o];exact bodyPost_ret (v:=.nilIface) (by simp[results,Tryz.results151,go_sem]) rfl ⟨rfl,aa ⟨M7.o,⟨g,na,nn,nc,a3,HN,c3,X7.o,R7.o,XR.o.aO,XR.o.ag,XR.o.sub⟩,E7.o⟩⟩
end
end Go.Proofs.YtbicgjafjjihdaaGreatDoor
