import Derived.Test.YtjlfcbccpcigeacGreatDoorQ3
set_option maxHeartbeats 40000000
set_option linter.defProp false
namespace Go.Proofs.YtjlfcbccpcigeacGreatDoor
open Go.Proofs.Tryz Go.RowKit Go.Joins
set_option linter.unusedVariables false
set_option linter.unusedSimpArgs false
set_option maxRecDepth 8192
section
variable {B b o pb:Nat} {T:TypeId} {cs:Array vO} {v:vO} {l tx:Li} {w w':wO} {t:Tg}
structure Pl (B pb:Nat) (t:Tg) (tx:Li) (v:vO) (w:wO):Prop where
 bd:∃p,fl B pb 7 45 #[J t.u0,J t.u1,J t.u2,J t.w0,J t.w1,J t.w2,J t.r,p,v] v tx w
 nl:tx=[]->v=.slice none 0 0
def fl.keep (h:fl B b o T cs v l w) (hb:w'.heap[b]?=w.heap[b]?) (f:∀g,v.ownBlock=some g->w'.heap[g]?=w.heap[g]?):fl B b o T cs v l w':=by
 refine { h with hb:=hb.t h.hb,own:=?_ };obtain⟨c,h0 | ⟨g,cap,a,x,rfl,hB,d,r⟩⟩:=h.own
 ·exact⟨c,.inl h0⟩
 exact⟨c,.inr ⟨g,cap,a,x,rfl,hB,(f g rfl).t d,r⟩⟩
def fl.lt (h:fl B b o T cs v l w):b<w.heap.size/\∀g,v.ownBlock=some g->B<=g/\g<w.heap.size:=by
 refine⟨(lo h.hb),fun g a=>⟨MN h.own g a,?_⟩⟩;rcases h.own.2 with ⟨h0,_⟩ | ⟨d,cap,c,f,h0,_,i,_⟩
 ·rw [h0] at a;cases a
 rw [h0] at a;have e:d=g:=by simpa [Value.ownBlock] using a
 grind
def fl.gE (h:fl B b o T cs v l w) (hb:Bw w w'):fl B b o T cs v l w':=h.keep (hb.block _ h.lt.1) fun g a=>hb.block _ (h.lt.2 g a).2
def Pl.keep (h:Pl B pb t tx v w) (hb:w'.heap[pb]?=w.heap[pb]?) (b:∀g,v.ownBlock=some g->w'.heap[g]?=w.heap[g]?):Pl B pb t tx v w':=by obtain⟨⟨p,h1⟩,a⟩:=h;exact⟨⟨p,h1.keep hb b⟩,a⟩
def Pl.gE (h:Pl B pb t tx v w) (hb:Bw w w'):Pl B pb t tx v w':=by obtain⟨⟨p,h1⟩,a⟩:=h;exact⟨⟨p,h1.gE hb⟩,a⟩
def Pl.pc (h:Pl B pb t tx v w):PC w pb t:=by obtain⟨⟨p,h1⟩,a⟩:=h;exact⟨_,_,h1.hb⟩
def Pl.ge (h:Pl B pb t tx v w):B<=pb/\∀g,v.ownBlock=some g->B<=g:=by obtain⟨⟨p,h1⟩,b⟩:=h;exact⟨h1.hB,fun g a=>(h1.lt.2 g a).1⟩
def mG (B pb:Nat) (ws:List Li) (t:Tg) (tx:Li) (v:vO) (w:wO) (e:Ending) (w':wO):Prop:=∃u v',e=.returned u/\Xq w' w.heap.size u ws/\Pl B pb t tx v' w'/\Kp pb v v' w w'
def RN (m:Li) (w:wO) (h:Pl B pb t tx v w) (M:VarsP w) (hB:B<=w.heap.size) (s:9<=B) (aE:tx.length<=3000000) (hm:m.length<=3000000) :
  Cp 30 #[.pointer (pA pb),.string (strOfNums m)] w (mG B pb [ex,zo ((tx++m++[10]).length:Int)] t (tx++m++[10]) v w):=by
 obtain⟨⟨p,h1⟩,-⟩:=h;have O:=Z hB;have T:Hid (((tx++m++[10]).length:Int)<=6000001):=by show _<=_;simp;omega
 have S:=Z (BU m w h1 hB oM oM);have R:Hid (∀{u:vO} {y:wO},Kp pb v u w y->VarsP y):=fun k=>M.gE (k.gE h1.hB (fun g hg=>(h1.lt.2 g hg).1) hB) s;clear M hB s h1;go_enter func30,ntmps30;go_wp2_with fail;refine S.m ?_;rintro e w1 ⟨rfl,v1,h1,i⟩;have W:=Z (BV w1 h1 (QH O i.size) sO);have az:=Z i;clear h1 i;go_wp2_with fail;refine W.m ?_;rintro e w2 ⟨rfl,v2,I,C⟩;have f:=Z (az.t C);have r:=Z I;clear I C;go_wp2;refine rg 99 (fun w'=>True) trivial fun h9=>?_;refine aq 1 ?_;refine uk 3 ?_;refine uo 0 fun K a=>?_;go_simp;refine (uC w2.drew).m ?_;rintro e n ⟨u1,rfl,j,x⟩;obtain⟨G,D,rfl⟩:=j.2;have U:=Z j;have c:Hid (Bw w2 n):=(Qm _ _ 1).t (show Below w2.drew.z w2.drew n from x);refine bq a.o (.inr trivial) ?_;clear a K j x;refine uo 4 fun K a=>?_;go_simp;refine (MO n (r.gE c)).m ?_;rintro e y2 ⟨rfl,rfl⟩;refine bq a.o (.inr trivial) ?_;clear a K;have Q:=Z (qy [((tx++m++[10]).length:Int)] y2 ((R f).on c) rQ (lR oM (by have:=T.o;omega)));generalize ((tx++m++[10]).length:Int)=N at *
 refine uo 5 fun K a=>?_;go_simp;refine bq a.o (.inr trivial) ?_;clear a K;refine uo 6 fun K a=>?_;go_simp;refine (show Calls _ _ _ _ _ from Q).m ?_;rintro e o ⟨u3,rfl,l,z⟩;obtain⟨H,F,rfl⟩:=l.2;have V:=Z l;have d:=Z z;refine bq a.o (.inr trivial) ?_;clear a K l z;have b:=Z (Qd o (.cells #[vP G 1 D,vP H 1 F] 22));have X:=Z (UJ [[ex],[zo N]] o.z 2 2 _ rfl (uE (vs:=[vP G 1 D,vP H 1 F]) ⟨yS (Uh U (d.tm b)) (Ql _),yS (Uh V b) (Ql _),trivial⟩ (zm o _ _)) (by show 0<2;omega) (by show 2<=300;omega) (Qc _) oM);refine uo 7 fun K a=>?_;go_simp;refine bq a.o (.inr trivial) ?_;clear a K;refine uo 8 fun K a=>?_;go_simp;refine (show Calls _ _ _ _ _ from X).m ?_;rintro e q ⟨u,rfl,L,A⟩;have P:Hid (mG B pb [ex,zo N] t (tx++m++[10]) v w (.returned u) q):=by have hb:Bw w2 q:=c.tm (d.t ((b.t ((show Below _ _ q from A).m b.size)).m d.size));refine⟨u,v2,rfl,yS L ?_,⟨⟨_,r.gE hb⟩,fun h=>absurd h sM⟩,f.t (Kp.of_below hb)⟩;have:=f.size;have:=c.size;have:=d.size;have:=b.size;omega
 refine bq a.o (.inr trivial) ?_;clear a K L A;refine uk 9 ?_;refine rd ?_;go_wp2;go_ret;exact P
def RO (w:wO) (h:Pl B pb t tx v w) :
  Cp 34 #[.pointer (pA pb)] w (mG B pb [ex] t [] v w):=by obtain⟨⟨p,h1⟩,-⟩:=h;have g:=Z (MP w h1);clear h1;go_enter func34,ntmps34;go_wp2_with fail;refine g.m ?_;rintro e w1 ⟨rfl,h1,b⟩;have d:=Z h1;have a:=Z b;clear h1 b;go_wp2_with fail;refine (uC w1).m ?_;rintro e y ⟨u,rfl,c,hb⟩;have f:Hid (mG B pb [ex] t [] v w (.returned u) y):=⟨u,_,rfl,yS c a.size,⟨⟨_,d.gE hb⟩,fun _=>rfl⟩,a.t (Kp.of_below hb)⟩;clear c hb;go_wp2;go_ret;exact f
end
section
variable {w y:wO} {N0 pb:Nat} {g:TypeId} {nv:vO} {cs:Array vO}
def ME {a:Li} (h:w.ownsRow N0 3 1 nv 7 (a.map (.int .i64))) (hb:w.heap[pb]?=some (.cells cs 45 (0,0))) (k:a.length=7):∃g c,nv=.slice (pA g) 7 c/\7<=c/\c<=9223372036854775807/\g≠pb/\g<w.heap.size/\∀i,i<7->w.cell? (E g i)=Y (ak a i):=by
 obtain⟨g,c,rfl,-,h1,b,d⟩:=yC h (.inr lI);unfold maxLen at b;refine⟨g,c,rfl,h1,b,fun e=>?_,d.lt,fun i hi=>?_⟩
 ·obtain⟨f,j,-⟩:=d;simp_all
 grind [zr.cell,ak]
structure Pk (pb:Nat) (g:TypeId) (w y:wO) (cs:Array vO):Prop where
 hb:y.heap[pb]?=some (.cells cs g (0,0))
 kp:Kp pb (.slice none 0 0) (.slice none 0 0) w y
theorem Pk.set {i:Nat} (h:Pk pb g w y cs) (u:vO):Pk pb g w (y.setCell (E pb i) u) (cs.setIfInBounds i u) :=
 ⟨Yc h.hb,h.kp.t ⟨rfl,rfl,rfl,by simp [World.setCell],fun k _ a _=>Qj _ _ _ _ a,fun _ h=>.inl h⟩⟩
def Pk.on {z:wO} (h:Pk pb g w y cs) (hb:Bw y z):Pk pb g w z cs:=⟨(hb.block _ (lo h.hb)).t h.hb,h.kp.t (Kp.of_below hb)⟩
def Pk.cells {k:Nat} (h:Pk pb g w y cs) (a:k<w.heap.size) (hn:k≠pb):∀i,y.cell? (E k i)=w.cell? (E k i):=fun i=>xX (h.kp.block k a hn (fun e=>by cases e)) i
def Pk.lt (h:Pk pb g w y cs):pb<y.heap.size/\∀i,y.frozen? (E pb i)=false:=⟨(lo h.hb),fun i=>qZ h.hb⟩
def MF {B:Nat} {tx:Li} {v:vO} (t:Tg) (a:Li) (w:wO) (h:Pl B pb t tx v w) (hn:w.ownsRow N0 3 1 nv 7 (a.map (.int .i64))) (hl:a.length=7) :
  Calls Tryz.prog 35 #[.pointer (pA pb),nv] w (mG B pb [if zS (hC a)=true then ex else ZV] (if zS (hC a)=true then hC a else t) tx v w):=by
 obtain⟨⟨p,h1⟩,hnl⟩:=h;obtain⟨g,c,rfl,aI,aJ,aC,aD,F⟩:=ME hn h1.hb hl;have aL:pb≠g:=Ne.s aC;have H0:Hid (Pk pb 45 w w #[J t.u0,J t.u1,J t.u2,J t.w0,J t.w1,J t.w2,J t.r,p,v]):=⟨h1.hb,Kp.refl _ _ _⟩;have HF:Hid (∀(u0 u1 u2 u3 u4 u5 u6:Int) (ws:List Li) (u:vO) (y H:wO),Pk pb 45 w y #[J u0,J u1,J u2,J u3,J u4,J u5,J u6,p,v]->Xq H y.z u ws->Bw y H->mG B pb ws ⟨u0,u1,u2,u3,u4,u5,u6⟩ tx v w (.returned u) H):=fun u0 u1 u2 u3 u4 u5 u6 ws u y H f K hb=>by
  refine⟨u,v,rfl,yS K f.kp.size,Pl.gE (w:=y) ⟨⟨p,⟨h1.hT,f.hb,h1.hB,h1.h0,h1.h1,?_⟩⟩,hnl⟩ hb,Kp.t (v:=v) ⟨f.kp.os,f.kp.tape,f.kp.output,f.kp.size,fun k hk1 o _=>f.kp.block k hk1 o (fun e=>by cases e),fun _ h=>.inl h⟩ (Kp.of_below hb)⟩;obtain⟨aE,h0 | ⟨g',cap,cur,x,rfl,hB,hh,rr⟩⟩:=h1.own
  ·exact⟨aE,.inl h0⟩
  exact⟨aE,.inr ⟨g',cap,cur,x,rfl,hB,(f.kp.block g' (lo hh) (fun e=>h1.ne (by rw [<-e];rfl)) (fun e=>by cases e)).t hh,rr⟩⟩
 obtain⟨an,al⟩:∃an,(if zS (hC a)=true then ex else ZV)=an:=⟨_,rfl⟩;obtain⟨t',ao⟩:∃t',(if zS (hC a)=true then hC a else t)=t':=⟨_,rfl⟩;rw [al,ao];have HY:Hid (zS ⟨ak a 0,ak a 1,ak a 2,ak a 3,ak a 4,ak a 5,ak a 6⟩->an=ex/\t'=⟨ak a 0,ak a 1,ak a 2,ak a 3,ak a 4,ak a 5,ak a 6⟩):=fun h=>by grind [hC]
 have HN:Hid (zS ⟨ak a 0,ak a 1,ak a 2,ak a 3,ak a 4,ak a 5,ak a 6⟩=false->an=ZV/\t'=t):=fun h=>by
  grind [hC]
 clear al ao;have O:=F 0 oM;have P:=F 1 oM;have Q:=F 2 oM;have R:=F 3 oM;have S:=F 4 oM;have T:=F 5 oM;have U:=F 6 oM;clear F hn hl h1 hnl;generalize ak a 0=m at *
 generalize ak a 1=n1 at *
 generalize ak a 2=n2 at *
 generalize ak a 3=z at *
 generalize ak a 4=A at *
 generalize ak a 5=C at *
 generalize ak a 6=G at *
 have HC:=Z (And.intro O (And.intro P (And.intro Q (And.intro R (And.intro S (And.intro T U))))));clear O P Q R S T U;obtain⟨⟨t0,t1,t2,t3,t4,t5,t6⟩,tz⟩:(w.cell? (E pb 0)=Y t.u0/\w.cell? (E pb 1)=Y t.u1/\w.cell? (E pb 2)=Y t.u2/\w.cell? (E pb 3)=Y t.w0/\w.cell? (E pb 4)=Y t.w1/\w.cell? (E pb 5)=Y t.w2/\w.cell? (E pb 6)=Y t.r)/\pb<w.z:=⟨by refine⟨?_,?_,?_,?_,?_,?_,?_⟩ <;> (rw [Qa H0.hb];rfl),H0.lt.1⟩;go_enter Tryz.func35,Tryz.ntmps35;go_upto_region 2 with fail;have ay:Hid (∀{y:wO} {cs:Array vO},Pk pb 45 w y cs->(y.cell? (E g 0)=Y m/\y.cell? (E g 1)=Y n1/\y.cell? (E g 2)=Y n2/\y.cell? (E g 3)=Y z/\y.cell? (E g 4)=Y A/\y.c g 5=Y C/\y.c g 6=Y G)/\g<y.z):=fun {y cs} f=>by obtain⟨O,P,Q,R,S,T,U⟩:=HC;have o:=f.cells aD aC;exact⟨⟨(o _).t O,(o _).t P,(o _).t Q,(o _).t R,(o _).t S,(o _).t T,(o _).t U⟩,Qu aD f.kp.size⟩
 obtain⟨j,ai⟩:=nm (w.alloc (tO t));have L:Hid (Pk pb 45 w j #[J t.u0,J t.u1,J t.u2,J t.w0,J t.w1,J t.w2,J t.r,p,v]):=by show Pk _ _ _ _ _;rw [<-ai];exact H0.on (Qd _ _)
 have aB:Hid (j.heap[w.z]?=some (tO t)):=by show _=_;rw [<-ai];exact zm _ _ _
 have s:pb<w.z:=H0.lt.1;have aH:Hid (Bw w j):=by show Below _ _ _;rw [<-ai];exact Qd _ _
 rw [ai];obtain⟨⟨O,P,Q,-⟩,d⟩:=ay L;obtain⟨q,b⟩:=L.lt;have f0:=b 0;have f1:=b 1;have f2:=b 2;have V:j.c pb 0=Y t.u0:=cb L.hb
 have W:j.c pb 1=Y t.u1:=cb L.hb
 have X:j.c pb 2=Y t.u2:=cb L.hb
 clear t0 t1 t2 t3 t4 t5 t6 tz b ai;go_region;go_upto_region 3 with fail;obtain⟨N,hX⟩:=nm ((((j.st pb 0 (J m)).st pb 1 (J n1)).st pb 2 (J n2)).drew);have M:Hid (Pk pb 45 w N #[J m,J n1,J n2,J t.w0,J t.w1,J t.w2,J t.r,p,v]):=by show Pk _ _ _ _ _;rw [<-hX];exact (((L.set _).set _).set _).on (Qm _ _ 1)
 have az:Hid (N.heap[w.z]?=j.heap[w.z]?):=by show _=_;rw [<-hX];exact ((Qj _ _ _ _ (Ez s)).t (Qj _ _ _ _ (Ez s))).t (Qj _ _ _ _ (Ez s))
 rw [hX];clear O P Q d q f0 f1 f2 V W X hX;obtain⟨⟨-,-,-,R,S,T,-⟩,d⟩:=ay M;obtain⟨q,b⟩:=M.lt;have f3:=b 3;have f4:=b 4;have f5:=b 5;have d3:N.cell? (E pb 3)=Y t.w0:=cb M.hb
 have d4:N.cell? (E pb 4)=Y t.w1:=cb M.hb
 have d5:N.cell? (E pb 5)=Y t.w2:=cb M.hb
 clear b;go_region;go_upto_region 4 with fail;obtain⟨X3,hX⟩:=nm ((((N.setCell (E pb 3) (J z)).setCell (E pb 4) (J A)).setCell (E pb 5) (J C)).drew);have H3:Hid (Pk pb 45 w X3 #[J m,J n1,J n2,J z,J A,J C,J t.r,p,v]):=by show Pk _ _ _ _ _;rw [<-hX];exact (((M.set _).set _).set _).on (Qm _ _ 1)
 have aA:Hid (X3.heap[w.z]?=j.heap[w.z]?):=by show _=_;rw [<-hX];exact (((Qj _ _ _ _ (Ez s)).t (Qj _ _ _ _ (Ez s))).t (Qj _ _ _ _ (Ez s))).t az
 rw [hX];clear R S T d q f3 f4 f5 d3 d4 d5 hX;obtain⟨⟨-,-,-,-,-,-,U⟩,d⟩:=ay H3;obtain⟨q,b⟩:=H3.lt;have f6:=b 6;have d6:X3.cell? (E pb 6)=Y t.r:=cb H3.hb
 clear b;go_upto_region 5 with fail;obtain⟨l,hX⟩:=nm (X3.setCell (E pb 6) (J G));have i:Hid (Pk pb 45 w l #[J m,J n1,J n2,J z,J A,J C,J G,p,v]):=by show Pk _ _ _ _ _;rw [<-hX];exact H3.set _
 have ah:Hid (l.heap[w.z]?=j.heap[w.z]?):=by show _=_;rw [<-hX];exact (Qj _ _ _ _ (Ez s)).t aA
 rw [hX];clear U d q f6 d6 hX;obtain⟨q,-⟩:=i.lt;have V:l.cell? (E pb 0)=Y m:=cb i.hb
 have W:l.c pb 1=Y n1:=cb i.hb
 have X:l.c pb 2=Y n2:=cb i.hb
 have d3:l.c pb 3=Y z:=cb i.hb
 have d4:l.c pb 4=Y A:=cb i.hb
 have d5:l.c pb 5=Y C:=cb i.hb
 have d6:l.c pb 6=Y G:=cb i.hb
 go_wp2_with fail;refine (Y8 ⟨m,n1,n2,z,A,C,G⟩ l).mr fun y hb=>?_;have au:=Z hb;cases I:zS ⟨m,n1,n2,z,A,C,G⟩ with
 | true =>obtain⟨rfl,rfl⟩:=HY I;clear hb I V W X d3 d4 d5 d6;go_wp2_with fail;refine (uC y).m ?_;rintro e H ⟨u,rfl,K,aj⟩;have HE:=Z (HF m n1 n2 z A C G [ex] u y H (i.on au) K aj);clear K aj;go_wp2;go_ret;exact HE
 | false =>
  obtain⟨rfl,hq⟩:=HN I;obtain rfl:=hq.s;have n:=Z (i.on au);have D:Hid (y.heap[w.z]?=some (tO t)):=(au.block _ (lo (ah.t aB))).t (ah.t aB);clear hb V W X d3 d4 d5 d6 q;obtain⟨q,b⟩:=n.lt;have aG:=(lo D);have b0:y.c w.z 0=Y t.u0:=cb D
  have b1:y.c w.z 1=Y t.u1:=cb D
  have b2:y.c w.z 2=Y t.u2:=cb D
  have b3:y.c w.z 3=Y t.w0:=cb D
  have b4:y.c w.z 4=Y t.w1:=cb D
  have b5:y.cell? (E w.z 5)=Y t.w2:=cb D
  have b6:y.cell? (E w.z 6)=Y t.r:=cb D
  have V:y.cell? (E pb 0)=Y m:=cb n.hb
  have f0:=b 0;have W:y.cell? (E pb 1)=Y n1:=cb n.hb
  have f1:=b 1;have X:y.cell? (E pb 2)=Y n2:=cb n.hb
  have f2:=b 2;have d3:y.cell? (E pb 3)=Y z:=cb n.hb
  have f3:=b 3;have d4:y.cell? (E pb 4)=Y A:=cb n.hb
  have f4:=b 4;have d5:y.cell? (E pb 5)=Y C:=cb n.hb
  have f5:=b 5;have d6:y.cell? (E pb 6)=Y G:=cb n.hb
  have f6:=b 6;clear b;have aK:¬w.z=pb:=Ez s;have aF:¬pb=w.z:=Nat.ne_of_lt s;go_upto_region 7 with fail;obtain⟨X6,hX⟩:∃X6,((((((y.setCell (E pb 0) (J t.u0)).setCell (E pb 1) (J t.u1)).setCell (E pb 2) (J t.u2)).setCell (E pb 3) (J t.w0)).setCell (E pb 4) (J t.w1)).setCell (E pb 5) (J t.w2)).setCell (E pb 6) (J t.r)=X6:=⟨_,rfl⟩;have H6:Hid (Pk pb 45 w X6 #[J t.u0,J t.u1,J t.u2,J t.w0,J t.w1,J t.w2,J t.r,p,v]):=by show Pk _ _ _ _ _;rw [<-hX];exact ((((((n.set _).set _).set _).set _).set _).set _).set _
  rw [hX];clear hX b0 V f0 b1 W f1 b2 X f2 b3 d3 f3 b4 d4 f4 b5 d5 f5 b6 d6 f6 q aG;go_wp2_with fail;refine (xM X6).m ?_;rintro e H ⟨u,rfl,K,aj⟩;have HE:=Z (HF t.u0 t.u1 t.u2 t.w0 t.w1 t.w2 t.r [ZV] u X6 H H6 K aj);clear K aj;go_wp2;go_ret;exact HE
end
def LP (fv va:vO) (W:wO) (Q:Ending->wO->Prop):Prop:=match fv with
 | .func (.func f) first cap=>Cp f (first++#[va]++cap) W Q
 | _=>False
def LQ (pb:Nat) (fv:vO):Prop:=(fv=.func (.func 37) #[.pointer (pA pb)] #[]\/fv=.func (.func 38) #[.pointer (pA pb)] #[]\/fv=.func (.func 39) #[.pointer (pA pb)] #[])\/∃a b,fv=.func (.func 40) #[] #[.pointer a,.pointer b]
def pM (tx:Li) (R:List Li->Prop) (ws:List Li):Prop:=if (yt tx).2.1≠0 then ws=[jl,zo ((yt tx).2.2:Int)] else R ws
def sZ (B pb:Nat) (t:Tg) (tx:Li) (v:vO) (R:List Li->Prop) (w:wO) (e:Ending) (w':wO):Prop:=∃ws u,e=.returned u/\Xq w' w.heap.size u ws/\Pl B pb t tx v w'/\Kp pb v v w w'/\pM tx R ws
def Uf (hP:mC) {B pb:Nat} {t:Tg} {tx:Li} {v fv:vO} {R:List Li->Prop} (w:wO) (h:Pl B pb t tx v w) (A:xq w) (hB:B<=w.heap.size) (aF:9<=B) (aY:jR tx) (bg:tx.length<=2000000) (aL:LQ pb fv)
  (hF:∀va W,Kp pb v v w W->PC W pb t->zI W va (yt tx).1->cn (yt tx).1->zQ (yt tx).1->LP fv va W fun e w'=>∃ws,Zb ws W e w'/\R ws) :
  Cp 36 #[.pointer (pA pb),fv] w (sZ B pb t tx v R w):=by
 obtain⟨⟨p,h1⟩,o⟩:=h;have HS:=Z (BX w h1 o oM);have aV:=Z o;have U:Hid (∀{u:vO} {y:wO},Kp pb v u w y->xq y):=fun k=>A.gE (k.gE h1.hB (fun g hg=>(h1.lt.2 g hg).1) hB) aF;have M:=Z (fun W hw=>hP tx W hw aY bg);unfold Y9 at M;have aB:Hid ((yt tx).2.1=0->zQ (yt tx).1):=tW (zx 10 tx) ⟨[],[],[]⟩ 0;have aX:=tY tx;have T:=Z hF;unfold sZ pM;generalize yt tx=pr at *
 obtain⟨L,j,f⟩:=pr;simp only at M aB T aX ⊢;have aC:Hid (∀ws u y,Xq y w.heap.size u ws->Pl B pb t tx v y->Kp pb v v w y->(if j≠0 then ws=[jl,zo (f:Int)] else R ws)->∃ws u',Ending.returned u=.returned u'/\Xq y w.heap.size u' ws/\Pl B pb t tx v y/\Kp pb v v w y/\(if j≠0 then ws=[jl,zo (f:Int)] else R ws)):=fun ws u y a b c d=>⟨ws,u,rfl,a,b,c,d⟩;obtain⟨Q,hQ⟩:∃Q:Ending->wO->Prop,(fun e w'=>∃ws u,e=.returned u/\Xq w' w.heap.size u ws/\Pl B pb t tx v w'/\Kp pb v v w w'/\(if j≠0 then ws=[jl,zo (f:Int)] else R ws))=Q:=⟨_,rfl⟩;have q:Hid (∀ws u y,Xq y w.heap.size u ws->Pl B pb t tx v y->Kp pb v v w y->(if j≠0 then ws=[jl,zo (f:Int)] else R ws)->Q (.returned u) y):=fun ws u y a b c d=>rQ
 rw [hQ];have aQ:=Z aL;clear h1 o A hB aF hF hQ aC aL;go_enter func36,ntmps36;go_wp2_with fail;refine HS.o.m ?_;rintro e w1 ⟨rfl,aI,aM,bf⟩;have aA:=Z aM;have aR:=Z aI;clear aI aM bf;go_wp2_with fail;refine (M.o _ (U.o aA.o)).m ?_;rintro e l ⟨v0,v1,v2,rfl,hL,aG,aK⟩;have HL:=Z hL;have aU:=Z aG;obtain⟨v0',v1',v2',A,⟨a0,gA,rfl,-⟩,⟨V,gB,rfl,-⟩,⟨X,gC,rfl,-⟩⟩:=hL;simp only [El,Ex,W9,and_true] at A;obtain⟨rfl,rfl,rfl⟩:=A;have aE:=Z aK;clear aK aG;obtain⟨i,O⟩:=nm ((l.alloc (lC L a0 V X gA gB gC)).alloc (Ib j f 65));have ay:Hid (Bw l i):=by show Below _ _ _;rw [<-O];exact QB _ _ _
 have az:=Z (aE.o.t (ay.o.m aE.o.size));have s:=Z (aA.o.t (Kp.of_below (u:=v) az.o));have N:Hid (Pl B pb t tx v i):=⟨⟨_,aR.o.gE az.o⟩,aV.o⟩;have aN:i.heap[l.heap.size]?=some (lC L a0 V X gA gB gC):=by rw [<-O,Qr _ _ _ sM];exact zm _ _ _
 have F:i.heap[l.heap.size+1]?=some (Ib j f 65):=by rw [<-O,<-World.size_alloc];exact zm _ _ _
 have f0:i.cell? (E (l.heap.size+1) 0)=Y j:=by rw [Qa F];rfl
 have f1:i.cell? (E (l.heap.size+1) 1)=Y f:=by rw [Qa F];rfl
 obtain⟨l0,l1,l2,lz⟩:=Vy (w:=w) aN (QA _ _);have P:l.z+1<i.z:=(Qb.1 F).1;clear aN F;by_cases n:j=0
 ·subst n;have aO:=aB.o rfl;have aT:=Z (T.o _ i s.o N.o.pc (HL.o.gE ay.o) aU.o aO);have q:=Z (fun ws u y a b c (d:R ws)=>q.o ws u y a b c (by rw [Qe tQ];exact d));clear f1 aO;rcases aQ.o with (rfl | rfl | rfl) | ⟨b2,b8,rfl⟩
  all_goals
   go_wp2_with fail
   refine (show Calls _ _ _ _ _ from aT.o).m ?_
   rintro e y ⟨ws,⟨u,rfl,z,hb⟩,hr⟩
   have H:=Z (q.o ws u y (yS z s.o.size) (N.o.gE hb) (s.o.t (Kp.of_below hb)) hr)
   clear z hb hr
   go_wp2_with fail
   exact H.o
 have bh:(j == 0)=false:=by simp [n]
 have q:=Z (fun u y a b c=>q.o [jl,zo (f:Int)] u y a b c (by rw [Qf n]));obtain⟨m,aH⟩:∃m,i.alloc (.cells #[.string (ByteArray.mk #[98,97,100])] 9)=m:=⟨_,rfl⟩;have aD:=Z (oI i jl);rw [show i.alloc (.cells #[.string (strOfNums jl)] 9)=m from aH] at aD;have r:Hid (Bw i m):=by show Below _ _ _;rw [<-aH];exact Qd _ _
 have HT:=Z (qy [(f:Int)] m ((U.o s.o).toVarsP.on r.o) (by show 1<=1000;omega) (lR oM oM));have g1:m.c (l.z+1) 1=Y f:=(ze r.o _ _ P).t f1;have g0:m.c (l.z+1) 0=Y j:=(ze r.o _ _ P).t f0;have aZ:l.z+1<m.z:=Qu P r.o.size;clear l0 l1 l2 lz;go_wp2_with fail;refine (show Calls _ _ _ _ _ from HT.o).m ?_;rintro e C ⟨u3,rfl,S,D⟩;obtain⟨g3,c3,rfl⟩:=S.2;have aW:=Z S;have K:=Z (r.o.t ((show Below _ _ C from D).m r.o.size));obtain⟨u1,I,aP,-⟩:=aD.o;injection I with I;subst I;have x:=Z (Qd C (.cells #[.slice (pA i.z) 1 1,.slice (pA g3) 1 c3] 22));have aS:=Z (UJ [[jl],[zo (f:Int)]] C.z 2 2 _ rfl (uE (vs:=[.slice (pA i.z) 1 1,.slice (pA g3) 1 c3]) ⟨yS (Uh aP ((show Below _ _ C from D).t (x.o.m D.size))) (Ql _),yS (Uh aW.o x.o) (Ql _),trivial⟩ (zm C _ _)) (by show 0<2;omega) (by show 2<=300;omega) (Qc _) oM);clear S D aP;go_wp2_with fail;refine (show Calls _ _ _ _ _ from aS.o).m ?_;rintro e G ⟨u,rfl,z,aJ⟩;have H:Hid (Q (.returned u) G):=by have hb:Bw i G:=K.o.t ((x.o.t ((show Below _ _ G from aJ).m x.o.size)).m K.o.size);refine q.o u G (yS z ?_) (N.o.gE hb) (s.o.t (Kp.of_below hb));have:=s.o.size;have:=K.o.size;have:=x.o.size;omega
 clear z aJ;go_wp2;exact H.o
section
variable {t t':Tg} {tx Y0 tx' l:Li} {n:Int} {ws W:List Li} {L:Lp} {B pb:Nat} {v:vO} {w x w':wO} {e:Ending}
def Od (hX:VX) (R:lh) (S:li) (hR:lT) (t:Tg) (L:Lp) (n:Int) (H:vO) (b2 b8 d k pb:Nat) (w:wO) (D:VarsP w) (r:zI w H L) (s:cn L) (B:PC w pb t) (hm:zQ L) (T:zS t) (v:0<=n) (x:n<=999999) (P:w.cell? (E b2 0)=some (.pointer (pA pb))) (Q:w.cell? (E b8 0)=some (.slice (pA d) 1 k)) (hn:w.cell? (E d 0)=Y n) (U:b2<w.heap.size/\b8<w.heap.size/\d<w.heap.size) (O:1<=k/\k<=9223372036854775807) :
  Cp 40 #[H,.pointer (pA b2),.pointer (pA b8)] w (mB L t n w):=by
 obtain⟨v0,v1,v2,rfl,⟨a0,h,rfl,-⟩,⟨f,i,rfl,-⟩,⟨g,j,rfl,-⟩⟩:=id r;obtain⟨a,N⟩:=nm (w.alloc (lC L a0 f g h i j));have c:Hid (Bw w a):=by show Below _ _ _;rw [<-N];exact Qd _ _
 have q:a.heap[w.heap.size]?=some (lC L a0 f g h i j):=by grind [zm]
 have p:Hid (∀w',Bw a w'->(w'.c w.heap.size 0=some (.slice a0 L.l.length h)/\w'.c w.heap.size 1=some (.slice f L.b.length i)/\w'.c w.heap.size 2=some (.slice g L.o.length j))/\w'.c b2 0=some (.pointer (pA pb))/\w'.c b8 0=some (vP d 1 k)/\w'.c d 0=Y n):=fun y G=>by obtain⟨l0,l1,l2,-⟩:=Vy (w:=w) q G;have hb:=c.o.tm G;grind [ze]
 have X:w.heap.size<a.z:=(lo q);obtain⟨z2,z8,z9⟩:b2<a.z/\b8<a.z/\d<a.z:=⟨oM,oM,oM⟩;have M:=Z (Ra hX R S hR t L n a0 f g h i j pb a.drew (D.on (c.o.tm (Qm _ _ 1))) (r.gE (c.o.tm (Qm _ _ 1))) s (B.gE (c.o.tm (Qm _ _ 1))) hm T v x);obtain⟨V,W⟩:=O;clear q U P Q hn r s B D v x;go_enter func40,ntmps40;go_wp2;refine rh 99 p.o (Qm _ _ 1) fun z=>?_;refine aq 0 ?_;refine aq 2 ?_;refine uk 4 ?_;refine uo 5 fun K A=>?_;go_simp;refine M.o.m ?_;rintro e y ⟨ws,⟨u,rfl,C,hb⟩,F⟩;have m:Hid (Bw a y):=(Qm _ _ 1).t (show Below a.drew.z a.drew y from hb);have I:Hid (mB L t n w (.returned u) y):=⟨ws,⟨u,rfl,yS C c.o.size,c.o.tm m.o⟩,F⟩;refine A.o _ _ (.inr (p.o _ m.o)) ?_;have z:=p.o _ m.o;clear A K C hb F;try simp only [Act.put,Qn,Qy,Qz]
 refine uk 6 ?_;refine rd ?_;clear z;go_wp2;go_ret;exact I.o
def Oe (s:Li) (b:ByteArray) (j:b=strOfNums [61,32]) (w:wO) (hs:By s) :
  Cp 29 #[.string (strOfNums s),.string b] w (Re w (.tuple #[.string (strOfNums (if s.take 2=[61,32] then s.drop 2 else s)),.bool (decide (s.take 2=[61,32]))])):=by
 subst j;have a:=Tryz.strings_CutPrefix (strOfNums s) (strOfNums [61,32]) w;rw [yP,yP] at a;have f:Lib.hasPrefix (b8 s) (b8 [61,32])=decide (s.take 2=[61,32]):=by
  match s,hs with
  | [],_=>rfl
  | [c],hs =>show List.isPrefixOf [UInt8.ofNat 61,UInt8.ofNat 32] [UInt8.ofNat c.toNat]=_;simp [List.isPrefixOf]
  | c :: d :: l,hs =>
   have g:=hs c (QY ..);have i:=hs d (Wg _ (QY ..));show List.isPrefixOf [UInt8.ofNat 61,UInt8.ofNat 32] (UInt8.ofNat c.toNat :: UInt8.ofNat d.toNat :: b8 l)=decide ([c,d]=[61,32]);have k1:(UInt8.ofNat 61 == UInt8.ofNat c.toNat)=decide (c=61):=by
    by_cases e:c=61
    ·subst e;rfl
    rw [Qk e];exact Wf fun h=>e (nY (d:=c) (c:=61) lI g h).s
   have m:(UInt8.ofNat 32 == UInt8.ofNat d.toNat)=decide (d=32):=by
    by_cases e:d=32
    ·subst e;rfl
    rw [Qk e];exact Wf fun h=>e (nY (d:=d) (c:=32) lI i h).s
   grind
 have k:(⟨(Lib.trimPrefix (b8 s) (b8 [61,32])).toArray⟩:ByteArray)=strOfNums (if s.take 2=[61,32] then s.drop 2 else s):=by
  unfold Lib.trimPrefix;rw [f];by_cases h:s.take 2=[61,32]
  ·rw [Qi h,Qf rfl,Qf h,show (b8 [61,32]).length=2 from rfl,<-p5];rfl
  rw [Qk h,Qe WM,Qe h];rfl
 rw [f,k] at a;exact a
def og (L:Lp) (t:Tg) (Y0:Li) (n:Int) (a:Li):Prop :=
 if Y0=yz then a=yV [] [((zf L t).length:Int)]
 else if Y0=yx then a=yV [] [(ZL L t:Int),(xS L t:Int)]
 else if Y0=yy then ∃r,yN L t 1 r/\a=match r with
  | none=>Uu
  | some K=>lD K
 else if br n 0 200=false then a=ZV
 else ∃r,yN L t 1 r/\a=match r with
  | none=>Uu
  | some K=>ku L t K n
def kg (L:Lp) (t:Tg) (Y0:Li) (n:Int) (ws:List Li):Prop:=(yD 32 ws).length<=10000/\og L t Y0 n (yD 32 ws)
def Of (h:pM tx (kg (yt tx).1 t Y0 n) ws) (c:tx.length<=2000000):(yD 32 ws).length<=10000/\UC t tx Y0 n (yD 32 ws):=by
 unfold pM at h;unfold UC;by_cases e:(yt tx).2.1≠0
 ·rw [Qf e] at h ⊢;have a:=tY tx;have b:=oy (n:=((yt tx).2.2:Int)) lI lI;rw [h];refine⟨?_,Hw _⟩;show (98 :: 97 :: 100 :: 32 :: zo ((yt tx).2.2:Int)).length<=10000;grind
 rw [Qe e] at h ⊢;exact h
def UL {zs:Li} (a:∀i,i<zs.length->-9223372036854775808<=ak zs i/\ak zs i<=9223372036854775807):(yD 32 (zs.map zo)).length<=21*zs.length:=by grind [vk,VG]
def Og (h:(zf L t).length<=9223372036854775807):kg L t yz 0 [zo ((zf L t).length:Int)] :=
 ⟨QH (UL (zs:=[((zf L t).length:Int)]) (lR lI lI)) sA,by unfold og;rw [Qf rfl];exact VG [((zf L t).length:Int)]⟩
def Oh (hm:zQ L) (a:zS t):kg L t yx 0 [zo (ZL L t:Int),zo (xS L t:Int)]:=by obtain⟨h1,b⟩:=tZ hm a;exact⟨QH (UL (zs:=[(ZL L t:Int),(xS L t:Int)]) (qA lI lI lI lI)) sA,by unfold og;rw [Qe tQ,Qf rfl];exact VG [(ZL L t:Int),(xS L t:Int)]⟩
def Oi {z:Option Kn} (a:ws=match z with
  | none=>[Uu]
  | some K=>(Ym K K.ops.length).map zo) (h:yN L t 1 z):kg L t yy 0 ws:=by
 unfold kg og;rw [Qe tQ,Qe tQ,Qf rfl,a];cases z with
 | none=>exact⟨by show Uu.length<=10000;decide,none,h,rfl⟩
 | some K =>refine⟨QH (UL (C5 h)) ?_,some K,h,Hx K⟩;have:=(qB h).1;rw [C4];lia
def Oj (h:DF L t n ws):kg L t yM n ws:=by
 refine⟨h.1,?_⟩;unfold og;rw [Qe tQ,Qe tQ,Qe tQ];have a:=h.2;by_cases e:br n 0 200=false
 ·rw [Qf e] at a ⊢;rw [a];rfl
 rw [Qe e] at a ⊢;obtain⟨z,b,c⟩:=a;refine⟨z,b,?_⟩;rw [c];cases z with
 | none=>rfl
 | some K=>exact wM L t K n
def CA {a:Li} (h:Z7 t tx l a t' tx') (i:zS t) (k:By tx) (j:By l):zS t'/\By tx'/\tx'.length<=tx.length+l.length:=by
 have same:t'=t/\tx'=tx->zS t'/\By tx'/\tx'.length<=tx.length+l.length:=fun h=>by simp_all
 unfold Z7 at h;by_cases d:l.take 2=[61,32]
 ·rw [Qf d] at h;have f:2<=l.length:=by have:=congrArg List.length d;grind
  rw [h.2.1,h.2.2];refine⟨i,fun c b=>?_,by simp;lia⟩;rcases QK.1 b with b | b
  ·rcases QK.1 b with b | b
   ·exact k c b
   exact j c (q9 b)
  grind
 rw [Qe d] at h;by_cases f:l=yK
 ·rw [Qf f] at h;rw [h.2.1,h.2.2];exact⟨i,fun c b=>(by cases b),Ql _⟩
 rw [Qe f] at h;cases g:xB (zx 32 l).tail with
 | none=>rw [g] at h;exact same h.2
 | some m =>
  rw [g] at h;dsimp only at h;grind
def Ok {A B C D X F:Prop}:A\/B\/C\/D\/X\/F\/¬(A\/B\/C\/D\/X\/F):=rQ
def oh {s:Li} (h:By s):jR s:=fun i=>by
 unfold ak
 rw [Qw]
 by_cases hi:i<s.length
 ·rw [Qh hi];exact h _ (QW hi)
 ·simp_all
def Xi (B pb:Nat) (t:Tg) (tx l:Li) (v:vO) (w:wO) (e:Ending) (w':wO):Prop:=∃u ws t' tx' v',e=.returned u/\Xq w' w.heap.size u ws/\Pl B pb t' tx' v' w'/\Kp pb v v' w w'/\(yD 32 ws).length<=10000/\Z7 t tx l (yD 32 ws) t' tx'
def Xi.of (h:mG B pb ws t' tx' v x e w') (a:Bw w x) (c:(yD 32 ws).length<=10000) (hr:Z7 t tx l (yD 32 ws) t' tx'):Xi B pb t tx l v w e w':=by obtain⟨u,v',b,f,d,k⟩:=h;exact⟨u,ws,t',tx',v',b,yS f a.size,d,(Kp.of_below a).t k,c,hr⟩
def Xi.words (h:Zb ws x e w') (d:Pl B pb t tx v x) (a:Bw w x) (c:(yD 32 ws).length<=10000) (hr:Z7 t tx l (yD 32 ws) t tx):Xi B pb t tx l v w e w':=by obtain⟨u,b,f,hb⟩:=h;exact⟨u,ws,t,tx,v,b,yS f a.size,d.gE hb,(Kp.of_below (a.tm hb)),c,hr⟩
def Xi.asked {p:Li} (h:sZ B pb t tx v (kg (yt tx).1 t Y0 n) x e w') (b:Bw w x) (c:tx.length<=2000000) (hr:∀a,UC t tx Y0 n a->Z7 t tx l a t tx):Xi B pb t tx l v w e w':=by obtain⟨ws,u,f,j,i,k,g⟩:=h;obtain⟨h1,d⟩:=Of g c;exact⟨u,ws,t,tx,v,f,yS j b.size,i,(Kp.of_below b).t k,h1,hr _ d⟩
def CB {b m:Nat} (h:ZP w b 0 (m+1) W):ZP w b 1 m W.tail:=by grind [ZP]
def Ol (h:Zk W):Zk W.tail:=by simp_all [Zk]
def Om (hP:mC) (hG:Zj) (hO:lB) (hX:VX) (hE:lh) (hV:li) (hR:lT) (T:Tg) (l:Li) (w:wO) (h:Pl B pb T tx v w) (hv:xq w) (hB:B<=w.heap.size) (aE:9<=B) (bO:By tx) (aX:tx.length<=1100000) (hl:By l) (bP:l.length<=1100000) (aP:zS T) :
  Cp 15 #[.pointer (pA pb),.string (strOfNums l)] w (Xi B pb T tx l v w):=by
 obtain⟨Q,aN⟩:∃Q,w.alloc (.cells #[.pointer (pA pb)] 39)=Q:=⟨_,rfl⟩;have ac:Hid (Bw w Q):=aN ▸ Qd _ _
 have aY:Hid (Q.heap[w.heap.size]?=some (.cells #[.pointer (pA pb)] 39 (0,0))):=by show _=_;grind [zm]
 have h0:Q.cell? (E w.heap.size 0)=some (.pointer (pA pb)):=by rw [Qa aY.o];rfl
 have cg:w.heap.size<Q.heap.size:=(Qb.1 aY.o).1;have bg:=Z (h.gE ac.o);have aV:=Z (hv.on ac.o);have bF:=Z (QH hB ac.o.size);have aT:=Z (Oe l (ByteArray.mk #[61,32]) rfl Q hl);have aI:=Z (And.intro bO hl);have bG:Hid (pb<w.heap.size/\∀g,v.ownBlock=some g->g<w.heap.size):=by obtain⟨⟨p,h1⟩,-⟩:=h;exact⟨h1.lt.1,fun g hg=>(h1.lt.2 g hg).2⟩
 clear h hv hB;by_cases O:l.take 2=[61,32]
 ·rw [Qf O,Qi O] at aT;have q:=Z (wN (t:=T) (tx:=tx) O);have cu:=Z (RN (l.drop 2) Q bg.o aV.o.toVarsP bF.o aE oM (by rw [qL];omega));have cA:Hid ((yD 32 [ex,zo ((tx++l.drop 2++[10]).length:Int)]).length<=10000):=by have h1:(tx++l.drop 2++[10]).length<=3000000:=(by simp;omega);have h3:=oy (n:=((tx++l.drop 2++[10]).length:Int)) oM oM;show (111 :: 107 :: 32 :: zo ((tx++l.drop 2++[10]).length:Int)).length<=10000;grind
  clear O;go_enter func15,ntmps15;go_wp2_with fail;apply aT.o.m;rintro e x ⟨rfl,hx⟩;have hx:=hx.s;subst hx;go_wp2_with fail;apply cu.o.m;intro e y j;have HE:=Z (Xi.of (t:=T) (tx:=tx) (l:=l) j ac.o cA.o q.o);obtain⟨u,v',rfl,-⟩:=j;go_wp2_with fail;go_ret;exact HE.o
 rw [Qe O,Qk O] at aT;have aS:=Z O;have cE:=Z (BQ l 32 (ByteArray.mk #[32]) rfl 9 oM oM Q aV.o hl oM oM);clear O;go_enter func15,ntmps15;go_wp2_with fail;apply aT.o.m;rintro e x ⟨rfl,hx⟩;have hx:=hx.s;subst hx;go_wp2_with fail;apply cE.o.m;rintro e w2 ⟨W,m,cap,rfl,cF,cU,hW,bY,ce,bM⟩;have HW:=Z hW;have bK:=Z bY;have aL:=Z ce;have aD:=Z bM;have cO:Q.heap.size<w2.heap.size:=hW.2.1;have cW:cap<=9223372036854775807:=oM
 have cC:Hid (∀a c,(0<m->a=some (E Q.heap.size 1))->m<=c->c<=1000->Cp 32 #[.slice a m c] w2 (rk W.tail w2)):=fun a c j bj hc2=>RS a W.tail m c w2 (aV.o.on aD.o) (CB HW.o).1 (fun hm=>⟨_,_,j hm,CB HW.o⟩) (Ol bK.o) bj hc2;clear hW bY ce bM h0;go_wp2_with fail
 all_goals
  refine (cC.o _ _ (by intro hm;first | rfl | (exfalso;omega)) oM oM).m ?_
  rintro e w3 ⟨v8,bb,rfl,bW,aQ,bN⟩
  have aG:=Z bN
  have bf:=Z bW
  have bh:=Z aQ
  clear bW aQ bN
  cases bb with
  | false =>
    obtain⟨rfl,aF⟩:=bf.o rfl
    have q:Hid (Z7 T tx l ZV T tx):=by
     rcases aL.o with e | ⟨-,e⟩
     ·exact sn aS.o (by rw [<-e];exact aF)
     ·exact wQ aS.o e
    clear aF
    go_wp2_with fail
    obtain⟨o,ao⟩:∃o,w3.alloc (.cells #[.slice none 0 0] 34)=o:=⟨_,rfl⟩
    have bD:Hid (Bw Q o):=ao ▸ aD.o.t ((aG.o.t ((Qd _ _).m aG.o.size)).m aD.o.size)
    rw [ao]
    clear ao
    apply (xM o).m
    intro e y j
    have s:Hid (Xi B pb T tx l v w e y):=Xi.words j (bg.o.gE bD.o) (ac.o.tm bD.o) tQ q.o
    obtain⟨u,rfl,-⟩:=j
    go_wp2_with fail
    go_ret
    exact s.o
  | true =>
    obtain⟨f,na,nc,rfl,aF,bZ⟩:=bh.o rfl
    have cD:=Z bZ
    have bI:=Z aF
    have bV:f.length=m:=by rw [pf aF,List.length_tail,HW.o.1];rfl
    have S:=Z bV
    clear aF bZ
    go_wp2_with fail
    obtain⟨o,ao⟩:∃o,w3.alloc (.cells #[.slice na m nc] 34)=o:=⟨_,rfl⟩
    have aH:Hid (Bw w3 o):=ao ▸ Qd _ _
    have bE:Hid (o.heap[w3.heap.size]?=some (.cells #[.slice na m nc] 34 (0,0))):=ao ▸ zm _ _ _
    rw [ao]
    clear ao
    have ay:=Z (aG.o.tm aH.o)
    have af:=Z (aD.o.tm ay.o)
    obtain⟨p,aW⟩:∃p,W.getD 0 []=p:=⟨_,rfl⟩
    have c0:o.cell? (E Q.heap.size 0)=some (.string (strOfNums p)):=by rw [ze ay.o _ _ cO,HW.o.2.2 0 oM,aW]
    have c8:o.cell? (E w3.heap.size 0)=some (.slice na m nc):=by rw [Qa bE.o];rfl
    have h0:o.cell? (E w.heap.size 0)=some (.pointer (pA pb)):=by rw [ze af.o _ _ cg,Qa aY.o];rfl
    have z8:w3.heap.size<o.heap.size:=(Qb.1 bE.o).1
    have z0:Q.heap.size<o.heap.size:=by have:=ay.o.size;omega
    have zw:w.heap.size<o.heap.size:=oM
    have U:Hid (∀a t' tx',(if p=yK/\f.length=0 then a=ex/\t'=T/\tx'=[]
     else if p=zW/\f.length=7 then (if zS (hC f)=true then a=ex/\t'=hC f/\tx'=tx else a=ZV/\t'=T/\tx'=tx)
     else if (p=yz\/p=yx\/p=yy)/\f.length=0 then UC T tx p 0 a/\t'=T/\tx'=tx
     else if p=yM/\f.length=1 then UC T tx yM (ak f 0) a/\t'=T/\tx'=tx
     else a=ZV/\t'=T/\tx'=tx)->Z7 T tx l a t' tx'):=fun a t' tx' hr=>by
     rcases aL.o with e | ⟨r,e⟩
     ·refine wP (p:=p) (qs:=W.tail) aS.o ?_ bI.o hr
      rw [<-e,<-aW]
      cases W with
      | nil=>exact absurd HW.o.1 sM
      | cons x xs=>rfl
     ·have h8:=S.o
      rw [Qe oM,Qe oM,Qe oM,Qe oM] at hr
      obtain⟨rfl,rfl,rfl⟩:=hr
      exact wQ aS.o e
    have aC:∀c∈p,0<=c/\c<=255:=aW ▸ (bK.o 0).1
    have G:=yn aC (m:=yK) tQ (b:=[102,114,101,115,104]) rfl
    have r:=yn aC (m:=zW) tQ (b:=[109,97,99,104,105,110,101]) rfl
    have H:=yn aC (m:=yz) tQ (b:=[101,100,103,101,115]) rfl
    have I:=yn aC (m:=yx) tQ (b:=[98,111,117,110,100]) rfl
    have K:=yn aC (m:=yy) tQ (b:=[98,117,105,108,100]) rfl
    have L:=yn aC (m:=yM) tQ (b:=[116,117,114,110,115]) rfl
    have aj:Hid (Pl B pb T tx v o.drew):=bg.o.gE (af.o.tm (Qm _ _ 1))
    have ag:Hid (Bw w o.drew):=ac.o.tm (af.o.t ((Qm _ _ 1).m af.o.size))
    have aM:Hid (xq o.drew):=aV.o.on (af.o.tm (Qm _ _ 1))
    have az:Hid (o.ownsRow w2.heap.size 3 1 (.slice na m nc) m (f.map (.int .i64))):=by have h:=zp cD.o aH.o;rw [S.o] at h;exact h
    have aK:Hid (B<=o.drew.heap.size):=QH bF.o af.o.size
    have aU:Hid (∀W,Kp pb v v o.drew W->VarsP W):=fun W k=>(aM.o.gE (k.gE aj.o.ge.1 aj.o.ge.2 aK.o) aE).toVarsP
    have al:=Z (And.intro aX bP)
    have aR:Hid (jR tx):=oh aI.o.1
    have aA:Hid (∀a:Li,Z7 T tx l ZV T tx->∀e y,Zb [ZV] o.drew e y->Xi B pb T tx l v w e y):=fun _ hl e y j=>Xi.words j aj.o ag.o tQ hl
    obtain⟨P,bL⟩:∃P,strOfNums p=P:=⟨_,rfl⟩
    rw [bL] at c0 G r H I K L
    clear aC aW bL bV aX bP bO hl
    rcases Ok (A:=p=yK) (B:=p=zW) (C:=p=yz) (D:=p=yx) (X:=p=yy) (F:=p=yM) with d | d | d | d | d | d | d
    ·by_cases M:m=0
     ·have V:((m:Int) == 0):=by rw [M];rfl
      replace G:=G.t (show decide (p=yK)=true by rw [d];decide)
      replace r:=r.t (show decide (p=zW)=false by rw [d];decide)
      replace H:=H.t (show decide (p=yz)=false by rw [d];decide)
      replace I:=I.t (show decide (p=yx)=false by rw [d];decide)
      replace K:=K.t (show decide (p=yy)=false by rw [d];decide)
      replace L:=L.t (show decide (p=yM)=false by rw [d];decide)
      have N:f.length=0:=S.o.t M
      have q:=Z (U.o ex T [] (by rw [Qf ⟨d,N⟩];exact⟨rfl,rfl,rfl⟩))
      clear d M N
      go_region
      all_goals
       go_wp2_with fail
       apply (RO o.drew aj.o).m
       intro e y j
       have s:Hid (Xi B pb T tx l v w e y):=Xi.of j ag.o tQ q.o
       obtain⟨u,_,rfl,-⟩:=j
       go_wp2_with fail
       go_ret
       exact s.o
     ·have V:((m:Int) == 0)=false:=Wf oM
      have aO:(m:Int)≠0:=oM
      replace G:=G.t (show decide (p=yK)=true by rw [d];decide)
      replace r:=r.t (show decide (p=zW)=false by rw [d];decide)
      replace H:=H.t (show decide (p=yz)=false by rw [d];decide)
      replace I:=I.t (show decide (p=yx)=false by rw [d];decide)
      replace K:=K.t (show decide (p=yy)=false by rw [d];decide)
      replace L:=L.t (show decide (p=yM)=false by rw [d];decide)
      have q:=Z (U.o ZV T tx (by
       rw [Qe (fun h:p=yK/\f.length=0=>by have:=S.o;omega),Qe (fun h:p=zW/\f.length=7=>absurd (d.s.t h.1) tQ),Qe (fun h:(p=yz\/p=yx\/p=yy)/\f.length=0=>by rcases h.1 with e | e | e <;> exact absurd (d.s.t e) tQ),Qe (fun h:p=yM/\f.length=1=>absurd (d.s.t h.1) tQ)];exact⟨rfl,rfl,rfl⟩))
      clear d
      go_region
      all_goals
       go_wp2_with fail
       apply (xM o.drew).m
       intro e y j
       have s:=Z (aA.o [] q.o e y j)
       obtain⟨u,rfl,-⟩:=j
       go_wp2_with fail
       go_ret
       exact s.o
    ·by_cases M:m=7
     ·have V:((m:Int) == 7):=by rw [M];rfl
      replace G:=G.t (show decide (p=yK)=false by rw [d];decide)
      replace r:=r.t (show decide (p=zW)=true by rw [d];decide)
      replace H:=H.t (show decide (p=yz)=false by rw [d];decide)
      replace I:=I.t (show decide (p=yx)=false by rw [d];decide)
      replace K:=K.t (show decide (p=yy)=false by rw [d];decide)
      replace L:=L.t (show decide (p=yM)=false by rw [d];decide)
      have N:f.length=7:=S.o.t M
      have q:Hid (Z7 T tx l (yD 32 [if zS (hC f)=true then ex else ZV]) (if zS (hC f)=true then hC f else T) tx):=U.o _ _ _ (by
       rw [Qe (fun h:p=yK/\f.length=0=>absurd (d.s.t h.1) tQ),Qf ⟨d,N⟩]
       by_cases hq:zS (hC f)
       ·rw [Qf hq,Qf hq,Qf hq];exact⟨rfl,rfl,rfl⟩
       ·rw [Qe hq,Qe hq,Qe hq];exact⟨rfl,rfl,rfl⟩)
      have cx:Hid ((yD 32 [if zS (hC f)=true then ex else ZV]).length<=10000):=by show _<=_;split <;> decide
      have HM:=Z (MF (B:=B) (pb:=pb) (N0:=w2.heap.size) (tx:=tx) (v:=v) (nv:=.slice na m nc) T f o.drew aj.o (by have h:=az.o;rw [M] at h ⊢;exact h) N)
      generalize (if zS (hC f)=true then ex else ZV)=an at *
      generalize (if zS (hC f)=true then hC f else T)=t' at *
      clear d M N
      go_region
      all_goals
       go_wp2_with fail
       apply (HM.o).m
       intro e y j
       have s:Hid (Xi B pb T tx l v w e y):=Xi.of j ag.o cx.o q.o
       obtain⟨u,_,rfl,-⟩:=j
       go_wp2_with fail
       go_ret
       exact s.o
     ·have V:((m:Int) == 7)=false:=Wf oM
      have aO:(m:Int)≠7:=oM
      replace G:=G.t (show decide (p=yK)=false by rw [d];decide)
      replace r:=r.t (show decide (p=zW)=true by rw [d];decide)
      replace H:=H.t (show decide (p=yz)=false by rw [d];decide)
      replace I:=I.t (show decide (p=yx)=false by rw [d];decide)
      replace K:=K.t (show decide (p=yy)=false by rw [d];decide)
      replace L:=L.t (show decide (p=yM)=false by rw [d];decide)
      have q:=Z (U.o ZV T tx (by
       rw [Qe (fun h:p=yK/\f.length=0=>absurd (d.s.t h.1) tQ),Qe (fun h:p=zW/\f.length=7=>by have:=S.o;omega),Qe (fun h:(p=yz\/p=yx\/p=yy)/\f.length=0=>by rcases h.1 with e | e | e <;> exact absurd (d.s.t e) tQ),Qe (fun h:p=yM/\f.length=1=>absurd (d.s.t h.1) tQ)];exact⟨rfl,rfl,rfl⟩))
      clear d
      go_region
      all_goals
       go_wp2_with fail
       apply (xM o.drew).m
       intro e y j
       have s:=Z (aA.o [] q.o e y j)
       obtain⟨u,rfl,-⟩:=j
       go_wp2_with fail
       go_ret
       exact s.o
    ·by_cases M:m=0
     ·have V:((m:Int) == 0):=by rw [M];rfl
      replace G:=G.t (show decide (p=yK)=false by rw [d];decide)
      replace r:=r.t (show decide (p=zW)=false by rw [d];decide)
      replace H:=H.t (show decide (p=yz)=true by rw [d];decide)
      replace I:=I.t (show decide (p=yx)=false by rw [d];decide)
      replace K:=K.t (show decide (p=yy)=false by rw [d];decide)
      replace L:=L.t (show decide (p=yM)=false by rw [d];decide)
      have N:f.length=0:=S.o.t M
      have q:Hid (∀a,UC T tx yz 0 a->Z7 T tx l a T tx):=fun a j=>U.o a T tx (by
       rw [Qe (fun h:p=yK/\f.length=0=>absurd (d.s.t h.1) tQ),Qe (fun h:p=zW/\f.length=7=>absurd (d.s.t h.1) tQ),Qf ⟨(.inl d),N⟩];exact⟨by rw [d];exact j,rfl,rfl⟩)
      have HF:=Z (Uf hP (fv:=.func (.func 37) #[.pointer (pA pb)] #[]) (R:=kg (yt tx).1 T yz 0) o.drew aj.o aM.o aK.o aE aR.o (by have:=al.o.1;omega) (.inl (.inl rfl)) (fun va W hk hpc hL aB au=>by
       obtain⟨v0,v1,v2,rfl,⟨a0,gA,rfl,-⟩,⟨a1,gB,rfl,-⟩,⟨a2,gC,rfl,-⟩⟩:=id hL
       exact (O0 hG T _ a0 a1 a2 gA gB gC pb W (aU.o W hk) hL hpc au aP).m fun e w' h=>⟨_,h.1,Og h.2⟩))
      clear d M N
      go_region
      all_goals
       go_wp2_with fail
       apply ((show Calls _ _ _ _ _ from HF.o)).m
       intro e y j
       have s:Hid (Xi B pb T tx l v w e y):=Xi.asked (p:=[]) j ag.o (by have:=al.o.1;omega) q.o
       obtain⟨_,u,rfl,-⟩:=j
       go_wp2_with fail
       go_ret
       exact s.o
     ·have V:((m:Int) == 0)=false:=Wf oM
      have aO:(m:Int)≠0:=oM
      replace G:=G.t (show decide (p=yK)=false by rw [d];decide)
      replace r:=r.t (show decide (p=zW)=false by rw [d];decide)
      replace H:=H.t (show decide (p=yz)=true by rw [d];decide)
      replace I:=I.t (show decide (p=yx)=false by rw [d];decide)
      replace K:=K.t (show decide (p=yy)=false by rw [d];decide)
      replace L:=L.t (show decide (p=yM)=false by rw [d];decide)
      have q:=Z (U.o ZV T tx (by
       rw [Qe (fun h:p=yK/\f.length=0=>absurd (d.s.t h.1) tQ),Qe (fun h:p=zW/\f.length=7=>absurd (d.s.t h.1) tQ),Qe (fun h:(p=yz\/p=yx\/p=yy)/\f.length=0=>by have:=S.o;omega),Qe (fun h:p=yM/\f.length=1=>absurd (d.s.t h.1) tQ)];exact⟨rfl,rfl,rfl⟩))
      clear d
      go_region
      all_goals
       go_wp2_with fail
       apply (xM o.drew).m
       intro e y j
       have s:=Z (aA.o [] q.o e y j)
       obtain⟨u,rfl,-⟩:=j
       go_wp2_with fail
       go_ret
       exact s.o
    ·by_cases M:m=0
     ·have V:((m:Int) == 0):=by rw [M];rfl
      replace G:=G.t (show decide (p=yK)=false by rw [d];decide)
      replace r:=r.t (show decide (p=zW)=false by rw [d];decide)
      replace H:=H.t (show decide (p=yz)=false by rw [d];decide)
      replace I:=I.t (show decide (p=yx)=true by rw [d];decide)
      replace K:=K.t (show decide (p=yy)=false by rw [d];decide)
      replace L:=L.t (show decide (p=yM)=false by rw [d];decide)
      have N:f.length=0:=S.o.t M
      have q:Hid (∀a,UC T tx yx 0 a->Z7 T tx l a T tx):=fun a j=>U.o a T tx (by
       rw [Qe (fun h:p=yK/\f.length=0=>absurd (d.s.t h.1) tQ),Qe (fun h:p=zW/\f.length=7=>absurd (d.s.t h.1) tQ),Qf ⟨(.inr (.inl d)),N⟩];exact⟨by rw [d];exact j,rfl,rfl⟩)
      have HF:=Z (Uf hP (fv:=.func (.func 38) #[.pointer (pA pb)] #[]) (R:=kg (yt tx).1 T yx 0) o.drew aj.o aM.o aK.o aE aR.o (by have:=al.o.1;omega) (.inl (.inr (.inl rfl))) (fun va W hk hpc hL aB au=>by
       obtain⟨v0,v1,v2,rfl,⟨a0,gA,rfl,-⟩,⟨a1,gB,rfl,-⟩,⟨a2,gC,rfl,-⟩⟩:=id hL
       exact (O1 hO T _ a0 a1 a2 gA gB gC pb W (aU.o W hk) hL hpc au aP).m fun e w' h=>⟨_,h,Oh au aP⟩))
      clear d M N
      go_region
      all_goals
       go_wp2_with fail
       apply ((show Calls _ _ _ _ _ from HF.o)).m
       intro e y j
       have s:Hid (Xi B pb T tx l v w e y):=Xi.asked (p:=[]) j ag.o (by have:=al.o.1;omega) q.o
       obtain⟨_,u,rfl,-⟩:=j
       go_wp2_with fail
       go_ret
       exact s.o
     ·have V:((m:Int) == 0)=false:=Wf oM
      have aO:(m:Int)≠0:=oM
      replace G:=G.t (show decide (p=yK)=false by rw [d];decide)
      replace r:=r.t (show decide (p=zW)=false by rw [d];decide)
      replace H:=H.t (show decide (p=yz)=false by rw [d];decide)
      replace I:=I.t (show decide (p=yx)=true by rw [d];decide)
      replace K:=K.t (show decide (p=yy)=false by rw [d];decide)
      replace L:=L.t (show decide (p=yM)=false by rw [d];decide)
      have q:=Z (U.o ZV T tx (by
       rw [Qe (fun h:p=yK/\f.length=0=>absurd (d.s.t h.1) tQ),Qe (fun h:p=zW/\f.length=7=>absurd (d.s.t h.1) tQ),Qe (fun h:(p=yz\/p=yx\/p=yy)/\f.length=0=>by have:=S.o;omega),Qe (fun h:p=yM/\f.length=1=>absurd (d.s.t h.1) tQ)];exact⟨rfl,rfl,rfl⟩))
      clear d
      go_region
      all_goals
       go_wp2_with fail
       apply (xM o.drew).m
       intro e y j
       have s:=Z (aA.o [] q.o e y j)
       obtain⟨u,rfl,-⟩:=j
       go_wp2_with fail
       go_ret
       exact s.o
    ·by_cases M:m=0
     ·have V:((m:Int) == 0):=by rw [M];rfl
      replace G:=G.t (show decide (p=yK)=false by rw [d];decide)
      replace r:=r.t (show decide (p=zW)=false by rw [d];decide)
      replace H:=H.t (show decide (p=yz)=false by rw [d];decide)
      replace I:=I.t (show decide (p=yx)=false by rw [d];decide)
      replace K:=K.t (show decide (p=yy)=true by rw [d];decide)
      replace L:=L.t (show decide (p=yM)=false by rw [d];decide)
      have N:f.length=0:=S.o.t M
      have q:Hid (∀a,UC T tx yy 0 a->Z7 T tx l a T tx):=fun a j=>U.o a T tx (by
       rw [Qe (fun h:p=yK/\f.length=0=>absurd (d.s.t h.1) tQ),Qe (fun h:p=zW/\f.length=7=>absurd (d.s.t h.1) tQ),Qf ⟨(.inr (.inr d)),N⟩];exact⟨by rw [d];exact j,rfl,rfl⟩)
      have HF:=Z (Uf hP (fv:=.func (.func 39) #[.pointer (pA pb)] #[]) (R:=kg (yt tx).1 T yy 0) o.drew aj.o aM.o aK.o aE aR.o (by have:=al.o.1;omega) (.inl (.inr (.inr rfl))) (fun va W hk hpc hL aB au=>by
       obtain⟨v0,v1,v2,rfl,⟨a0,gA,rfl,-⟩,⟨a1,gB,rfl,-⟩,⟨a2,gC,rfl,-⟩⟩:=id hL
       exact (O2 hX T _ a0 a1 a2 gA gB gC pb W (aU.o W hk) hL hpc au aP).m fun e w' ⟨z,h1,h2⟩=>⟨_,h2,Oi rfl h1⟩))
      clear d M N
      go_region
      all_goals
       go_wp2_with fail
       apply ((show Calls _ _ _ _ _ from HF.o)).m
       intro e y j
       have s:Hid (Xi B pb T tx l v w e y):=Xi.asked (p:=[]) j ag.o (by have:=al.o.1;omega) q.o
       obtain⟨_,u,rfl,-⟩:=j
       go_wp2_with fail
       go_ret
       exact s.o
     ·have V:((m:Int) == 0)=false:=Wf oM
      have aO:(m:Int)≠0:=oM
      replace G:=G.t (show decide (p=yK)=false by rw [d];decide)
      replace r:=r.t (show decide (p=zW)=false by rw [d];decide)
      replace H:=H.t (show decide (p=yz)=false by rw [d];decide)
      replace I:=I.t (show decide (p=yx)=false by rw [d];decide)
      replace K:=K.t (show decide (p=yy)=true by rw [d];decide)
      replace L:=L.t (show decide (p=yM)=false by rw [d];decide)
      have q:=Z (U.o ZV T tx (by
       rw [Qe (fun h:p=yK/\f.length=0=>absurd (d.s.t h.1) tQ),Qe (fun h:p=zW/\f.length=7=>absurd (d.s.t h.1) tQ),Qe (fun h:(p=yz\/p=yx\/p=yy)/\f.length=0=>by have:=S.o;omega),Qe (fun h:p=yM/\f.length=1=>absurd (d.s.t h.1) tQ)];exact⟨rfl,rfl,rfl⟩))
      clear d
      go_region
      all_goals
       go_wp2_with fail
       apply (xM o.drew).m
       intro e y j
       have s:=Z (aA.o [] q.o e y j)
       obtain⟨u,rfl,-⟩:=j
       go_wp2_with fail
       go_ret
       exact s.o
    ·by_cases M:m=1
     ·have V:((m:Int) == 1):=by rw [M];rfl
      replace G:=G.t (show decide (p=yK)=false by rw [d];decide)
      replace r:=r.t (show decide (p=zW)=false by rw [d];decide)
      replace H:=H.t (show decide (p=yz)=false by rw [d];decide)
      replace I:=I.t (show decide (p=yx)=false by rw [d];decide)
      replace K:=K.t (show decide (p=yy)=false by rw [d];decide)
      replace L:=L.t (show decide (p=yM)=true by rw [d];decide)
      have N:f.length=1:=S.o.t M
      have q:Hid (∀a,UC T tx yM (ak f 0) a->Z7 T tx l a T tx):=fun a j=>U.o a T tx (by
       rw [Qe (fun h:p=yK/\f.length=0=>absurd (d.s.t h.1) tQ),Qe (fun h:p=zW/\f.length=7=>absurd (d.s.t h.1) tQ),Qe (fun h=>oM),Qf ⟨d,N⟩];exact⟨j,rfl,rfl⟩)
      obtain⟨ng,nc',cN,-,bR,bS,bT⟩:=yC az.o (.inr oM)
      injection cN with e7 _ e9
      subst e7
      subst e9
      have cw:=Z (zR az.o ng rfl)
      have bH:=Z bT
      have aJ:=Z (And.intro bR bS)
      have cB:Hid ((f.map (Value.int .i64)).getD 0 (.bool false)=J (ak f 0)):=by show _=_;cases f with
       | nil=>exact absurd N tQ
       | cons a b=>rfl
      have bJ:=Z (sh bI.o 0 oM)
      clear bR bS bT
      have HF:=Z (Uf hP (fv:=.func (.func 40) #[] #[.pointer (pA w.heap.size),.pointer (pA w3.heap.size)]) (R:=kg (yt tx).1 T yM (ak f 0)) o.drew aj.o aM.o aK.o aE aR.o (by have:=al.o.1;omega) (.inr ⟨_,_,rfl⟩) (fun va W hk hpc hL aB au=>by
       have bz:∀k,w.heap.size<=k->k<o.heap.size->∀i,W.c k i=o.c k i:=fun k h1 h2 i=>xX (hk.block k h2 (fun e=>by have:=bG.o.1;omega) (fun e=>by have:=bG.o.2 k e;omega)) i
       have cY:o.heap.size<=W.heap.size:=hk.size
       have cZ:=ac.o.size;have de:=aD.o.size;have df:=aG.o.size;have cX:=cw.o;have cH:=bH.o.lt
       have cI:(Value.slice (pA ng) m nc)=.slice (pA ng) 1 nc:=by rw [M]
       exact (Od hX hE hV hR T _ (ak f 0) va w.heap.size w3.heap.size ng nc pb W (aU.o W hk) hL aB hpc au aP bJ.o.1 bJ.o.2 ((bz _ (Qc _) zw 0).t h0) ((bz _ oM z8 0).t (c8.t (by rw [cI]))) ((bz _ oM cH 0).t ((bH.o.cell oM).t (by rw [cB.o]))) ⟨oM,oM,oM⟩ ⟨by have:=aJ.o.1;omega,aJ.o.2⟩).m fun e w' ⟨ws,h1,h2⟩=>⟨ws,h1,Oj h2⟩))
      clear d M N
      go_region
      all_goals
       go_wp2_with fail
       apply ((show Calls _ _ _ _ _ from HF.o)).m
       intro e y j
       have s:Hid (Xi B pb T tx l v w e y):=Xi.asked (p:=[]) j ag.o (by have:=al.o.1;omega) q.o
       obtain⟨_,u,rfl,-⟩:=j
       go_wp2_with fail
       go_ret
       exact s.o
     ·have V:((m:Int) == 1)=false:=Wf oM
      have aO:(m:Int)≠1:=oM
      replace G:=G.t (show decide (p=yK)=false by rw [d];decide)
      replace r:=r.t (show decide (p=zW)=false by rw [d];decide)
      replace H:=H.t (show decide (p=yz)=false by rw [d];decide)
      replace I:=I.t (show decide (p=yx)=false by rw [d];decide)
      replace K:=K.t (show decide (p=yy)=false by rw [d];decide)
      replace L:=L.t (show decide (p=yM)=true by rw [d];decide)
      have q:=Z (U.o ZV T tx (by
       rw [Qe (fun h:p=yK/\f.length=0=>absurd (d.s.t h.1) tQ),Qe (fun h:p=zW/\f.length=7=>absurd (d.s.t h.1) tQ),Qe (fun h:(p=yz\/p=yx\/p=yy)/\f.length=0=>by rcases h.1 with e | e | e <;> exact absurd (d.s.t e) tQ),Qe (fun h:p=yM/\f.length=1=>by have:=S.o;omega)];exact⟨rfl,rfl,rfl⟩))
      clear d
      go_region
      all_goals
       go_wp2_with fail
       apply (xM o.drew).m
       intro e y j
       have s:=Z (aA.o [] q.o e y j)
       obtain⟨u,rfl,-⟩:=j
       go_wp2_with fail
       go_ret
       exact s.o
    ·replace G:=G.t (Qk (fun h:p=yK=>d (by simp [h])))
     replace r:=r.t (Qk (fun h:p=zW=>d (by simp [h])))
     replace H:=H.t (Qk (fun h:p=yz=>d (by simp [h])))
     replace I:=I.t (Qk (fun h:p=yx=>d (by simp [h])))
     replace K:=K.t (Qk (fun h:p=yy=>d (by simp [h])))
     replace L:=L.t (Qk (fun h:p=yM=>d (by simp [h])))
     have q:=Z (U.o ZV T tx (by
      rw [Qe (fun h:p=yK/\f.length=0=>d (.inl h.1)),Qe (fun h:p=zW/\f.length=7=>d (.inr (.inl h.1))),Qe (fun h:(p=yz\/p=yx\/p=yy)/\f.length=0=>d (.inr (.inr (h.1.elim .inl (fun e=>.inr (e.elim .inl (fun e=>.inr (.inl e)))))))),Qe (fun h:p=yM/\f.length=1=>d (.inr (.inr (.inr (.inr (.inr h.1))))))];exact⟨rfl,rfl,rfl⟩))
     clear d
     go_region
     all_goals
      go_wp2_with fail
      apply (xM o.drew).m
      intro e y j
      have s:=Z (aA.o [] q.o e y j)
      obtain⟨u,rfl,-⟩:=j
      go_wp2_with fail
      go_ret
      exact s.o
end
section
variable {B pb ob:Nat} {t t':Tg} {tx out tx':Li} {v vo:vO} {cs:Array vO} {w w':wO}
structure jV (B pb ob:Nat) (t:Tg) (tx:Li) (v:vO) (cs:Array vO) (vo:vO) (out:Li) (w:wO):Prop where
 pl:Pl B pb t tx v w
 bo:fl B ob 0 43 cs vo out w
 nb:pb≠ob
 ap:∀g,v.ownBlock=some g->vo.ownBlock≠some g
def jV.gE (h:jV B pb ob t tx v cs vo out w) (hb:Bw w w'):jV B pb ob t tx v cs vo out w':=⟨h.pl.gE hb,h.bo.gE hb,h.nb,h.ap⟩
def jV.said {v':vO} (h:jV B pb ob t tx v cs vo out w) (b:Kp pb v v' w w') (d:Pl B pb t' tx' v' w'):jV B pb ob t' tx' v' cs vo out w':=by
 obtain⟨⟨p,c⟩,-⟩:=id h.pl;refine⟨d,h.bo.keep (b.block ob h.bo.lt.1 (Ne.s h.nb) (mW h.bo.hb c.own tQ)) (fun g a=>b.block g (h.bo.lt.2 g a).2 (fun e=>mW c.hb h.bo.own tQ (e ▸ a)) (fun e=>h.ap g e a)),h.nb,fun g a e=>?_⟩;rcases b.new g a with h1 | h1
 ·exact h.ap g h1 e
 have:=(h.bo.lt.2 g e).2;lia
def jV.put {a:Li} {b:vO} {d:Array vO} (h:jV B pb ob t tx v cs vo out w) (i:Kp ob vo b w w') (hb:fl B ob 0 43 d b a w'):jV B pb ob t tx v d b a w':=by
 obtain⟨⟨p,f⟩,-⟩:=id h.pl;refine⟨h.pl.keep (i.block pb f.lt.1 h.nb (mW f.hb h.bo.own tQ)) (fun g c=>i.block g (f.lt.2 g c).2 (fun e=>mW h.bo.hb f.own tQ (e ▸ c)) (h.ap g c)),hb,h.nb,fun g c e=>?_⟩;rcases i.new g e with h1 | h1
 ·exact h.ap g c h1
 have:=(f.lt.2 g c).2;lia
def D' {u:vO} {ws:List Li} (w:wO) (h:Xq w B u ws) (n:(yD 32 ws).length<=10000) :
  Cp 14 #[u,.string (ByteArray.mk #[32])] w (Rt w (.string (strOfNums (yD 32 ws)))):=by
 obtain⟨g,c,rfl,h1,l,d,f⟩:=DY h;have i:∀ws:List Li,ws.length<=(yD 32 ws).length+1:=fun ws=>by
  induction ws with
  | nil=>exact Ql _
  | cons p k ih=>cases k with
    | nil=>show 1<=_;lia
    | cons q qs=>show _<=(p++32 :: yD 32 (q :: qs)).length+1;simp only [Qt,Q5] at ih ⊢;lia
 have m:=i ws;have h:=Tryz.strings_Join g 0 c (ws.map strOfNums) (strOfNums [32]) w (fun j x b=>by
  rw [Wc] at b;obtain⟨p,a,rfl⟩:=WT.1 b;rw [QO,f j (qx.1 a).1,Qw,a];rfl) d (by rw [Q9];lia) (by rw [Q9];lia) (by
  rw [E2,show ((fun x:ByteArray=>x.data.toList) ∘ strOfNums)=b8 from funext yP,yP,Cd,UE];lia)
 rw [E2,show ((fun x:ByteArray=>x.data.toList) ∘ strOfNums)=b8 from funext yP,yP,Cd,Q9] at h;exact h
def uJ {f:Tg} {c l a:Li} {R d:List Li} {k:Nat} (j:k<60) (h:∀b,Ya t tx ((l :: R).take (60 - k)) b->Ya f c d (out++b)) (g:Z7 t tx l a t' tx'):∀b,Ya t' tx' (R.take (60 - (k+1))) b->Ya f c d ((out++a)++[10]++b):=fun b i=>by
 rw [show 60 - k=60 - (k+1)+1 by lia] at h
 have:=h (a++10 :: b) ⟨a,t',tx',b,g,i,rfl⟩
 simp_all
def uK {s:Li} (hs:By s) (hn:s≠[]):∃l rest,Vh (zx 10 s)=l :: Vh (zx 10 rest)/\By l/\By rest/\l.length+rest.length<=s.length/\l.length<=s.length/\((zx 10 s=[s]/\l=s/\rest=[])\/∃q qs,zx 10 s=l :: q :: qs/\rest=s.drop (l.length+1)):=by
 match hsp:zx 10 s with
 | []=>exact absurd hsp (xQ 10 s)
 | [p] =>have i:=VQ hsp;subst i;exact⟨p,[],by grind [Hy],hs,fun c g=>(by cases g),sM,Qc _,.inl ⟨rfl,rfl,rfl⟩⟩
 | p :: q :: qs =>
  obtain⟨-,h1,f⟩:=YE (x:=10) lI hs hsp;have h:p.length<=s.length:=rQ
  have b:=ZH 10 s;rw [hsp] at b;have d:=congrArg List.length (show p++10 :: yD 10 (q :: qs)=s from b);simp only [Qt,Q5] at d;refine⟨p,s.drop (p.length+1),?_,h1 ▸ mX hs _,p8 hs _,?_,h,.inr ⟨q,qs,rfl,rfl⟩⟩
  ·rw [f];exact rt (a:=[p]) sM
  rw [qL];lia
def Ee (hP:mC) (hG:Zj) (hO:lB) (hX:VX) (hE:lh) (hV:li) (hR:lT):uH:=fun s w hv hs hl=>by
 have bM:=hv.size
 have HV:=Z hv
 obtain⟨X,z⟩:∃X,(w.alloc (.cells #[J 2,J 1,J 1,J 1,J 3,J 2,J 32,.pointer none,.slice none 0 0] 45)).alloc (.cells #[.pointer none,.slice none 0 0] 43)=X:=⟨_,rfl⟩
 have aX:Hid (Bw w X):=by show Below _ _ _;rw [<-z];exact QB _ _ _
 have aV:Hid (jV w.z w.z (w.z+1) lE [] sN #[.pointer none,sN] sN [] X):=by
  refine⟨⟨⟨.pointer none,⟨.inl ⟨rfl,rfl,rfl⟩,?_,Qc _,.inl rfl,rfl,⟨rfl,.inl ⟨rfl,rfl⟩⟩⟩⟩,fun _=>rfl⟩,⟨.inr ⟨rfl,rfl,rfl⟩,?_,Ep _,.inl rfl,rfl,⟨rfl,.inl ⟨rfl,rfl⟩⟩⟩,oM,fun g o=>(by cases o)⟩
  ·rw [<-z,Qr _ _ _ sM];exact zm _ _ _
  ·rw [<-z,<-World.size_alloc];exact zm _ _ _
 have j:zS lE:=tQ
 have bE:=Z hs
 have HX:=Z z
 clear hv z hs
 go_enter func7,ntmps7
 go_wp2_with fail
 rw [HX]
 clear HX
 go_loopw [0,14] (fun sv iv wr=>∃(k:Nat) (f tx out:Li) (t:Tg) (v vo:vO) (cs:Array vO),k<=60/\sv=.string (strOfNums f)/\iv=J k/\jV w.z w.z (w.z+1) t tx v cs vo out wr/\(out=[]->vo=sN)/\Bw w wr/\zS t/\By tx/\By f/\tx.length+f.length<=1100000/\out.length<=10001*k/\∀m,Ya t tx ((Vh (zx 10 f)).take (60 - k)) m->Ya lE [] (nf s) (out++m)) (fun _ iv _=>60 - (intOf iv).toNat)
 case atStart=>exact⟨0,s,[],[],lE,_,_,_,Ql _,rfl,rfl,aV,fun _=>rfl,aX,j,fun c O=>(by cases O),bE,by simpa using hl,Ql _,fun m h=>h⟩
 case round =>
  clear aV aX j
  obtain⟨k,f,tx,out,t,v,vo,cs,hk,rfl,rfl,n,H,hb,j,N,i,hlen,I,C⟩:=hrel
  have HT:=Z n
  have HB:=Z hb
  have HP:=Z C
  have aU:=Z j
  have aT:=Z N
  have bO:=Z i
  have U:=Z hlen
  have V:=Z I
  have aW:=Z (HV.on hb)
  have bz:=hb.size
  have x:Hid ((f=[]\/k=60)->Cp 17 #[.pointer (pA (w.z+1))] wr fun e w'=>e=.returned (.string (strOfNums out))/\Vx s out/\out.length<=600060/\Bw w w'):=fun D=>by
   refine (BX wr n.bo H oM).m fun e w' ⟨h1,_,h3,_⟩=>⟨h1,?_,oM,hb.t (h3.gE n.bo.hB (fun g o=>(n.bo.lt.2 g o).1) bz)⟩
   have:=C [] (by
    rcases D with D | D
    ·rw [D,so];show Ya t tx (([]:List Li).take _) [];rw [List.take_nil];rfl
    ·rw [D];show Ya t tx ((Vh (zx 10 f)).take 0) [];rfl)
   rw [WJ] at this
   exact this
  have bf:=nZ f
  by_cases F:k<60
  ·have bP:(k:Int)<60:=oM
   by_cases d:f=[]
   ·rw [Qi d] at bf
    have R:=Z (x (.inl d))
    clear n H hb C j N i hlen I d x
    go_wp2_with fail
    refine R.m ?_
    rintro e y ⟨rfl,G,B,A⟩
    have W:=Z G
    have p:=Z A
    have T:=Z B
    clear G A B
    go_wp2_with fail
    go_ret
    exact⟨out,rfl,W,T,p⟩
   ·rw [Qk d] at bf
    obtain⟨l,rest,bj,aY,aZ,bg,bQ,ai⟩:=uK i d
    have bK:=Z bj
    have aS:=Z aY
    have bD:=Z aZ
    have bG:=Z bg
    have af:Hid (∃b,Cp 12 #[.string (strOfNums f),.string (ByteArray.mk #[10])] wr (Rt wr (.tuple #[.string (strOfNums l),.string (strOfNums rest),.bool b]))):=by
     rcases ai with ⟨h1,rfl,rfl⟩ | ⟨q,qs,h1,rfl⟩
     ·exact⟨false,sP _ 10 _ rfl wr aW i oM oM h1⟩
     ·exact⟨true,sQ _ 10 _ rfl wr aW i oM oM h1⟩
    obtain⟨bb,O⟩:=af.o
    have HC:=Z O
    clear n H hb C j N i hlen I d x af O ai bj aY aZ bg
    go_wp2_with fail
    refine HC.mr fun w1 aL=>?_
    have L:=Z (HT.gE aL)
    have K:=Z (HB.t (aL.m bz))
    obtain⟨p0,p1,p2,q0,q1,q2,r⟩:=t
    have HA:=Z (Om hP hG hO hX hE hV hR ⟨p0,p1,p2,q0,q1,q2,r⟩ l w1 L.pl (HV.on K) K.size bM aT (by have:=U.o;omega) aS.o (by have:=U.o;omega) aU)
    clear aL
    go_wp2_with fail
    refine HA.m ?_
    rintro e w2 ⟨u,ws,t',tx',v',rfl,hu,bh,aO,aN,aR⟩
    have bI:=Z (L.said aO bh)
    have p:=Z (K.o.t (aO.gE L.o.pl.ge.1 L.o.pl.ge.2 K.o.size))
    have HJ:=Z (D' w2 hu aN)
    have bF:=Z (CA aR aU.o aT.o aS.o)
    have bH:=Z (uJ F (by have h:=HP.o;rw [bK.o] at h;exact h) aR)
    have S:=Z aN
    clear hu bh aO aN aR
    generalize yD 32 ws=a at *
    go_wp2_with fail
    refine HJ.o.mr fun w3 aM=>?_
    have M:=Z (bI.o.gE aM)
    have P:=Z (p.o.t (aM.m p.o.size))
    have HW:=Z (BU a w3 M.o.bo P.o.size (by have:=V.o;omega) (by have:=S.o;omega))
    clear aM
    go_wp2_with fail
    refine HW.o.m ?_
    rintro e w4 ⟨rfl,vo1,h4,aP⟩
    have Q:=Z (P.o.t (aP.gE M.o.bo.hB (fun g o=>(M.o.bo.lt.2 g o).1) P.o.size))
    have aK:=Z (M.o.put aP h4)
    have bL:=Z (BV w4 h4 Q.o.size (by have:=V.o;have:=S.o;simp;omega))
    clear h4 aP
    go_wp2_with fail
    refine bL.o.m ?_
    rintro e w5 ⟨rfl,vo2,h5,aQ⟩
    have bC:=Z (Q.o.t (aQ.gE aK.o.bo.hB (fun g o=>(aK.o.bo.lt.2 g o).1) Q.o.size))
    have bJ:=Z (aK.o.put aQ h5)
    clear h5 aQ
    go_wp2_with fail
    go_roundw
    case rel =>
     obtain⟨m1,m2,m3⟩:=bF.o
     exact⟨k+1,rest,tx',(out++a)++[10],t',_,_,_,oM,rfl,nQ,bJ.o,fun h=>absurd h sM,bC.o,m1,m2,bD.o,by have:=U.o;have:=bG.o;omega,by have:=V.o;have:=S.o;simp;omega,bH.o⟩
    case measure=>simp [intOf];omega
  ·have e:k=60:=oM
   subst e
   have R:=Z (x (.inr rfl))
   clear n H hb C j N i hlen I x
   go_wp2_with fail
   refine R.m ?_
   rintro e y ⟨rfl,G,B,A⟩
   have W:=Z G
   have p:=Z A
   have T:=Z B
   clear G A B
   go_wp2
   go_ret
   exact⟨out,rfl,W,T,p⟩
end
end Go.Proofs.YtjlfcbccpcigeacGreatDoor
