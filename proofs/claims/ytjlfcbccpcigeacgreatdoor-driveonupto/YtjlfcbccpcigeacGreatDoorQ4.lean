import Derived.Test.YtjlfcbccpcigeacGreatDoorQ3
set_option maxHeartbeats 40000000
set_option linter.defProp false
namespace Go.Proofs.YtjlfcbccpcigeacGreatDoor
open Go.Proofs.Tryz Go.RowKit Go.Joins
set_option linter.unusedVariables false
set_option linter.unusedSimpArgs false
set_option maxRecDepth 8192
section
variable {B b o pb:Nat} {T:TypeId} {cs:Array Value} {v:Value} {l tx:List Int} {w w':World} {t:Tg}
structure Pl (B pb:Nat) (t:Tg) (tx:List Int) (v:Value) (w:World):Prop where
 bd:∃p,BdA B pb 7 45 #[J t.u0,J t.u1,J t.u2,J t.w0,J t.w1,J t.w2,J t.r,p,v] v tx w
 nl:tx=[]->v=.slice none 0 0
def BdA.keep (h:BdA B b o T cs v l w) (hb:w'.heap[b]?=w.heap[b]?) (f:∀g,v.ownBlock=some g->w'.heap[g]?=w.heap[g]?):BdA B b o T cs v l w':=by
 refine { h with hb:=hb.trans h.hb,own:=?_ };obtain⟨c,h0 | ⟨g,cap,a,x,rfl,hB,d,r⟩⟩:=h.own
 ·exact⟨c,.inl h0⟩
 exact⟨c,.inr ⟨g,cap,a,x,rfl,hB,(f g rfl).trans d,r⟩⟩
def BdA.lt (h:BdA B b o T cs v l w):b<w.heap.size/\∀g,v.ownBlock=some g->B<=g/\g<w.heap.size:=by
 refine⟨(lo h.hb),fun g a=>⟨ygy h.own g a,?_⟩⟩;rcases h.own.2 with ⟨h0,_⟩ | ⟨d,cap,c,f,h0,_,i,_⟩
 ·rw [h0] at a;cases a
 rw [h0] at a;have e:d=g:=by simpa [Value.ownBlock] using a
 grind
def BdA.gE (h:BdA B b o T cs v l w) (hb:Bw w w'):BdA B b o T cs v l w':=h.keep (hb.block _ h.lt.1) fun g a=>hb.block _ (h.lt.2 g a).2
def Pl.keep (h:Pl B pb t tx v w) (hb:w'.heap[pb]?=w.heap[pb]?) (b:∀g,v.ownBlock=some g->w'.heap[g]?=w.heap[g]?):Pl B pb t tx v w':=by obtain⟨⟨p,h1⟩,a⟩:=h;exact⟨⟨p,h1.keep hb b⟩,a⟩
def Pl.gE (h:Pl B pb t tx v w) (hb:Bw w w'):Pl B pb t tx v w':=by obtain⟨⟨p,h1⟩,a⟩:=h;exact⟨⟨p,h1.gE hb⟩,a⟩
def Pl.pc (h:Pl B pb t tx v w):PC w pb t:=by obtain⟨⟨p,h1⟩,a⟩:=h;exact⟨_,_,h1.hb⟩
def Pl.ge (h:Pl B pb t tx v w):B<=pb/\∀g,v.ownBlock=some g->B<=g:=by obtain⟨⟨p,h1⟩,b⟩:=h;exact⟨h1.hB,fun g a=>(h1.lt.2 g a).1⟩
def zqm (B pb:Nat) (ws:List (List Int)) (t:Tg) (tx:List Int) (v:Value) (w:World) (e:Ending) (w':World):Prop:=∃u v',e=.returned u/\Xq w' w.heap.size u ws/\Pl B pb t tx v' w'/\Kp pb v v' w w'
def zri (m:List Int) (w:World) (h:Pl B pb t tx v w) (M:VarsP w) (hB:B<=w.heap.size) (s:9<=B) (aE:tx.length<=3000000) (hm:m.length<=3000000) :
  Calls prog 30 #[.pointer (pA pb),.string (strOfNums m)] w (zqm B pb [okW,zo ((tx++m++[10]).length:Int)] t (tx++m++[10]) v w):=by
 obtain⟨⟨p,h1⟩,-⟩:=h;have O:=Z hB;have T:Hid (((tx++m++[10]).length:Int)<=6000001):=by show _<=_;simp;omega
 have S:=Z (yev m w h1 hB (by omega) (by omega));have R:Hid (∀{u:Value} {y:World},Kp pb v u w y->VarsP y):=fun k=>M.gE (k.gE h1.hB (fun g hg=>(h1.lt.2 g hg).1) hB) s;clear M hB s h1;go_enter func30,ntmps30;go_wp2_with fail;refine S.mono ?_;rintro e w1 ⟨rfl,v1,h1,i⟩;have W:=Z (yeu w1 h1 (QH O i.size) (by simp;omega));have az:=Z i;clear h1 i;go_wp2_with fail;refine W.mono ?_;rintro e w2 ⟨rfl,v2,I,C⟩;have f:=Z (az.trans C);have r:=Z I;clear I C;go_wp2;refine rg 99 (fun w'=>True) trivial fun h9=>?_;refine uk2 1 ?_;refine uk 3 ?_;refine uo 0 fun K a=>?_;go_simp;refine (zgb w2.drew).mono ?_;rintro e n ⟨u1,rfl,j,x⟩;obtain⟨G,D,rfl⟩:=j.2;have U:=Z j;have c:Hid (Bw w2 n):=(Qm _ _ 1).trans (show Below w2.drew.heap.size w2.drew n from x);refine nxt a.out (.inr trivial) ?_;clear a K j x;refine uo 4 fun K a=>?_;go_simp;refine (yge n (r.gE c)).mono ?_;rintro e y2 ⟨rfl,rfl⟩;refine nxt a.out (.inr trivial) ?_;clear a K;have Q:=Z (zd3 [((tx++m++[10]).length:Int)] y2 ((R f).on c) (by grind) (yhd (by omega) (by have:=T.out;omega)));generalize ((tx++m++[10]).length:Int)=N at *
 refine uo 5 fun K a=>?_;go_simp;refine nxt a.out (.inr trivial) ?_;clear a K;refine uo 6 fun K a=>?_;go_simp;refine (show Calls _ _ _ _ _ from Q).mono ?_;rintro e o ⟨u3,rfl,l,z⟩;obtain⟨H,F,rfl⟩:=l.2;have V:=Z l;have d:=Z z;refine nxt a.out (.inr trivial) ?_;clear a K l z;have b:=Z (Qd o (.cells #[.slice (pA G) 1 D,.slice (pA H) 1 F] 22));have X:=Z (UJ [[okW],[zo N]] o.heap.size 2 2 _ rfl (zhb (vs:=[.slice (pA G) 1 D,.slice (pA H) 1 F]) ⟨yS (Uh U (d.tm b)) (Ql _),yS (Uh V b) (Ql _),trivial⟩ (zm o _ _)) (by show 0<2;omega) (by show 2<=300;omega) (Qc _) (by omega));refine uo 7 fun K a=>?_;go_simp;refine nxt a.out (.inr trivial) ?_;clear a K;refine uo 8 fun K a=>?_;go_simp;refine (show Calls _ _ _ _ _ from X).mono ?_;rintro e q ⟨u,rfl,L,A⟩;have P:Hid (zqm B pb [okW,zo N] t (tx++m++[10]) v w (.returned u) q):=by have hb:Bw w2 q:=c.tm (d.trans ((b.trans ((show Below _ _ q from A).mono b.size)).mono d.size));refine⟨u,v2,rfl,yS L ?_,⟨⟨_,r.gE hb⟩,fun h=>absurd h (by simp)⟩,f.trans (Kp.of_below hb)⟩;have:=f.size;have:=c.size;have:=d.size;have:=b.size;omega
 refine nxt a.out (.inr trivial) ?_;clear a K L A;refine uk 9 ?_;refine rd ?_;go_wp2;go_ret;exact P
def zwu (w:World) (h:Pl B pb t tx v w) :
  Calls prog 34 #[.pointer (pA pb)] w (zqm B pb [okW] t [] v w):=by obtain⟨⟨p,h1⟩,-⟩:=h;have g:=Z (zyn w h1);clear h1;go_enter func34,ntmps34;go_wp2_with fail;refine g.mono ?_;rintro e w1 ⟨rfl,h1,b⟩;have d:=Z h1;have a:=Z b;clear h1 b;go_wp2_with fail;refine (zgb w1).mono ?_;rintro e y ⟨u,rfl,c,hb⟩;have f:Hid (zqm B pb [okW] t [] v w (.returned u) y):=⟨u,_,rfl,yS c a.size,⟨⟨_,d.gE hb⟩,fun _=>rfl⟩,a.trans (Kp.of_below hb)⟩;clear c hb;go_wp2;go_ret;exact f
end
section
variable {w y:World} {N0 pb g:Nat} {nv:Value} {cs:Array Value}
def zse {a:List Int} (h:w.ownsRow N0 3 1 nv 7 (a.map (.int .i64))) (hb:w.heap[pb]?=some (.cells cs 45 (0,0))) (k:a.length=7):∃g c,nv=.slice (pA g) 7 c/\7<=c/\c<=9223372036854775807/\g≠pb/\g<w.heap.size/\∀i,i<7->w.cell? (E g i)=Y (nth a i):=by
 obtain⟨g,c,rfl,-,h1,b,d⟩:=yC h (.inr (by omega));unfold maxLen at b;refine⟨g,c,rfl,h1,b,fun e=>?_,d.lt,fun i hi=>?_⟩
 ·obtain⟨f,j,-⟩:=d;simp_all
 grind [zr.cell,nth]
structure Pk (pb g:Nat) (w y:World) (cs:Array Value):Prop where
 hb:y.heap[pb]?=some (.cells cs 45 (0,0))
 kp:Kp pb (.slice none 0 0) (.slice none 0 0) w y
theorem Pk.set {i:Nat} (h:Pk pb g w y cs) (u:Value):Pk pb g w (y.setCell (E pb i) u) (cs.setIfInBounds i u) :=
 ⟨Yc h.hb,h.kp.trans ⟨rfl,rfl,rfl,by simp [World.setCell],fun k _ a _=>Qj _ _ _ _ a,fun _ h=>.inl h⟩⟩
def Pk.on {z:World} (h:Pk pb g w y cs) (hb:Bw y z):Pk pb g w z cs:=⟨(hb.block _ (lo h.hb)).trans h.hb,h.kp.trans (Kp.of_below hb)⟩
def Pk.cells {k:Nat} (h:Pk pb g w y cs) (a:k<w.heap.size) (hn:k≠pb):∀i,y.cell? (E k i)=w.cell? (E k i):=fun i=>xX (h.kp.block k a hn (fun e=>by cases e)) i
def Pk.lt (h:Pk pb g w y cs):pb<y.heap.size/\∀i,y.frozen? (E pb i)=false:=⟨(lo h.hb),fun i=>by simp [World.frozen?,h.hb]⟩
def zok {B:Nat} {tx:List Int} {v:Value} (t:Tg) (a:List Int) (w:World) (h:Pl B pb t tx v w) (hn:w.ownsRow N0 3 1 nv 7 (a.map (.int .i64))) (hl:a.length=7) :
  Calls Tryz.prog 35 #[.pointer (pA pb),nv] w (zqm B pb [if zS (tgD a)=true then okW else ZV] (if zS (tgD a)=true then tgD a else t) tx v w):=by
 obtain⟨⟨p,h1⟩,hnl⟩:=h;obtain⟨g,c,rfl,aI,aJ,aC,aD,F⟩:=zse hn h1.hb hl;have aL:pb≠g:=Ne.symm aC;have H0:Hid (Pk pb g w w #[J t.u0,J t.u1,J t.u2,J t.w0,J t.w1,J t.w2,J t.r,p,v]):=⟨h1.hb,Kp.refl _ _ _⟩;have HF:Hid (∀(u0 u1 u2 u3 u4 u5 u6:Int) (ws:List (List Int)) (u:Value) (y H:World),Pk pb g w y #[J u0,J u1,J u2,J u3,J u4,J u5,J u6,p,v]->Xq H y.heap.size u ws->Bw y H->zqm B pb ws ⟨u0,u1,u2,u3,u4,u5,u6⟩ tx v w (.returned u) H):=fun u0 u1 u2 u3 u4 u5 u6 ws u y H f K hb=>by
  refine⟨u,v,rfl,yS K f.kp.size,Pl.gE (w:=y) ⟨⟨p,⟨h1.hT,f.hb,h1.hB,h1.h0,h1.h1,?_⟩⟩,hnl⟩ hb,Kp.trans (v:=v) ⟨f.kp.os,f.kp.tape,f.kp.output,f.kp.size,fun k hk1 o _=>f.kp.block k hk1 o (fun e=>by cases e),fun _ h=>.inl h⟩ (Kp.of_below hb)⟩;obtain⟨aE,h0 | ⟨g',cap,cur,x,rfl,hB,hh,rr⟩⟩:=h1.own
  ·exact⟨aE,.inl h0⟩
  exact⟨aE,.inr ⟨g',cap,cur,x,rfl,hB,(f.kp.block g' (lo hh) (fun e=>h1.ne (by rw [<-e];rfl)) (fun e=>by cases e)).trans hh,rr⟩⟩
 obtain⟨an,al⟩:∃an,(if zS (tgD a)=true then okW else ZV)=an:=⟨_,rfl⟩;obtain⟨t',ao⟩:∃t',(if zS (tgD a)=true then tgD a else t)=t':=⟨_,rfl⟩;rw [al,ao];have HY:Hid (zS ⟨nth a 0,nth a 1,nth a 2,nth a 3,nth a 4,nth a 5,nth a 6⟩=true->an=okW/\t'=⟨nth a 0,nth a 1,nth a 2,nth a 3,nth a 4,nth a 5,nth a 6⟩):=fun h=>by grind [tgD]
 have HN:Hid (zS ⟨nth a 0,nth a 1,nth a 2,nth a 3,nth a 4,nth a 5,nth a 6⟩=false->an=ZV/\t'=t):=fun h=>by
  grind [tgD]
 clear al ao;have O:=F 0 (by omega);have P:=F 1 (by omega);have Q:=F 2 (by omega);have R:=F 3 (by omega);have S:=F 4 (by omega);have T:=F 5 (by omega);have U:=F 6 (by omega);clear F hn hl h1 hnl;generalize nth a 0=m at *
 generalize nth a 1=n1 at *
 generalize nth a 2=n2 at *
 generalize nth a 3=z at *
 generalize nth a 4=A at *
 generalize nth a 5=C at *
 generalize nth a 6=G at *
 have HC:=Z (And.intro O (And.intro P (And.intro Q (And.intro R (And.intro S (And.intro T U))))));clear O P Q R S T U;obtain⟨⟨t0,t1,t2,t3,t4,t5,t6⟩,tz⟩:(w.cell? (E pb 0)=Y t.u0/\w.cell? (E pb 1)=Y t.u1/\w.cell? (E pb 2)=Y t.u2/\w.cell? (E pb 3)=Y t.w0/\w.cell? (E pb 4)=Y t.w1/\w.cell? (E pb 5)=Y t.w2/\w.cell? (E pb 6)=Y t.r)/\pb<w.heap.size:=⟨by refine⟨?_,?_,?_,?_,?_,?_,?_⟩ <;> (rw [Qa H0.hb];rfl),H0.lt.1⟩;go_enter Tryz.func35,Tryz.ntmps35;go_upto_region 2 with fail;have ay:Hid (∀{y:World} {cs:Array Value},Pk pb g w y cs->(y.cell? (E g 0)=Y m/\y.cell? (E g 1)=Y n1/\y.cell? (E g 2)=Y n2/\y.cell? (E g 3)=Y z/\y.cell? (E g 4)=Y A/\y.cell? (E g 5)=Y C/\y.cell? (E g 6)=Y G)/\g<y.heap.size):=fun {y cs} f=>by obtain⟨O,P,Q,R,S,T,U⟩:=HC;have o:=f.cells aD aC;exact⟨⟨(o _).trans O,(o _).trans P,(o _).trans Q,(o _).trans R,(o _).trans S,(o _).trans T,(o _).trans U⟩,Qu aD f.kp.size⟩
 obtain⟨j,ai⟩:=nm (w.alloc (tO t));have L:Hid (Pk pb g w j #[J t.u0,J t.u1,J t.u2,J t.w0,J t.w1,J t.w2,J t.r,p,v]):=by show Pk _ _ _ _ _;rw [<-ai];exact H0.on (Qd _ _)
 have aB:Hid (j.heap[w.heap.size]?=some (tO t)):=by show _=_;rw [<-ai];exact zm _ _ _
 have s:pb<w.heap.size:=H0.lt.1;have aH:Hid (Bw w j):=by show Below _ _ _;rw [<-ai];exact Qd _ _
 rw [ai];obtain⟨⟨O,P,Q,-⟩,d⟩:=ay L;obtain⟨q,b⟩:=L.lt;have f0:=b 0;have f1:=b 1;have f2:=b 2;have V:j.cell? (E pb 0)=Y t.u0:=cb L.hb
 have W:j.cell? (E pb 1)=Y t.u1:=cb L.hb
 have X:j.cell? (E pb 2)=Y t.u2:=cb L.hb
 clear t0 t1 t2 t3 t4 t5 t6 tz b ai;go_region;go_upto_region 3 with fail;obtain⟨N,hX⟩:=nm ((((j.setCell (E pb 0) (J m)).setCell (E pb 1) (J n1)).setCell (E pb 2) (J n2)).drew);have M:Hid (Pk pb g w N #[J m,J n1,J n2,J t.w0,J t.w1,J t.w2,J t.r,p,v]):=by show Pk _ _ _ _ _;rw [<-hX];exact (((L.set _).set _).set _).on (Qm _ _ 1)
 have az:Hid (N.heap[w.heap.size]?=j.heap[w.heap.size]?):=by show _=_;rw [<-hX];exact ((Qj _ _ _ _ (Ez s)).trans (Qj _ _ _ _ (Ez s))).trans (Qj _ _ _ _ (Ez s))
 rw [hX];clear O P Q d q f0 f1 f2 V W X hX;obtain⟨⟨-,-,-,R,S,T,-⟩,d⟩:=ay M;obtain⟨q,b⟩:=M.lt;have f3:=b 3;have f4:=b 4;have f5:=b 5;have d3:N.cell? (E pb 3)=Y t.w0:=cb M.hb
 have d4:N.cell? (E pb 4)=Y t.w1:=cb M.hb
 have d5:N.cell? (E pb 5)=Y t.w2:=cb M.hb
 clear b;go_region;go_upto_region 4 with fail;obtain⟨X3,hX⟩:=nm ((((N.setCell (E pb 3) (J z)).setCell (E pb 4) (J A)).setCell (E pb 5) (J C)).drew);have H3:Hid (Pk pb g w X3 #[J m,J n1,J n2,J z,J A,J C,J t.r,p,v]):=by show Pk _ _ _ _ _;rw [<-hX];exact (((M.set _).set _).set _).on (Qm _ _ 1)
 have aA:Hid (X3.heap[w.heap.size]?=j.heap[w.heap.size]?):=by show _=_;rw [<-hX];exact (((Qj _ _ _ _ (Ez s)).trans (Qj _ _ _ _ (Ez s))).trans (Qj _ _ _ _ (Ez s))).trans az
 rw [hX];clear R S T d q f3 f4 f5 d3 d4 d5 hX;obtain⟨⟨-,-,-,-,-,-,U⟩,d⟩:=ay H3;obtain⟨q,b⟩:=H3.lt;have f6:=b 6;have d6:X3.cell? (E pb 6)=Y t.r:=cb H3.hb
 clear b;go_upto_region 5 with fail;obtain⟨l,hX⟩:=nm (X3.setCell (E pb 6) (J G));have i:Hid (Pk pb g w l #[J m,J n1,J n2,J z,J A,J C,J G,p,v]):=by show Pk _ _ _ _ _;rw [<-hX];exact H3.set _
 have ah:Hid (l.heap[w.heap.size]?=j.heap[w.heap.size]?):=by show _=_;rw [<-hX];exact (Qj _ _ _ _ (Ez s)).trans aA
 rw [hX];clear U d q f6 d6 hX;obtain⟨q,-⟩:=i.lt;have V:l.cell? (E pb 0)=Y m:=cb i.hb
 have W:l.cell? (E pb 1)=Y n1:=cb i.hb
 have X:l.cell? (E pb 2)=Y n2:=cb i.hb
 have d3:l.cell? (E pb 3)=Y z:=cb i.hb
 have d4:l.cell? (E pb 4)=Y A:=cb i.hb
 have d5:l.cell? (E pb 5)=Y C:=cb i.hb
 have d6:l.cell? (E pb 6)=Y G:=cb i.hb
 go_wp2_with fail;refine (Y8 ⟨m,n1,n2,z,A,C,G⟩ l).mono ?_;rintro e y ⟨rfl,hb⟩;have au:=Z hb;cases I:zS ⟨m,n1,n2,z,A,C,G⟩ with
 | true =>obtain⟨rfl,rfl⟩:=HY I;clear hb I V W X d3 d4 d5 d6;go_wp2_with fail;refine (zgb y).mono ?_;rintro e H ⟨u,rfl,K,aj⟩;have HE:=Z (HF m n1 n2 z A C G [okW] u y H (i.on au) K aj);clear K aj;go_wp2;go_ret;exact HE
 | false =>
  obtain⟨rfl,hq⟩:=HN I;obtain rfl:=hq.symm;have n:=Z (i.on au);have D:Hid (y.heap[w.heap.size]?=some (tO t)):=(au.block _ (lo (ah.trans aB))).trans (ah.trans aB);clear hb V W X d3 d4 d5 d6 q;obtain⟨q,b⟩:=n.lt;have aG:=(lo D);have b0:y.cell? (E w.heap.size 0)=Y t.u0:=cb D
  have b1:y.cell? (E w.heap.size 1)=Y t.u1:=cb D
  have b2:y.cell? (E w.heap.size 2)=Y t.u2:=cb D
  have b3:y.cell? (E w.heap.size 3)=Y t.w0:=cb D
  have b4:y.cell? (E w.heap.size 4)=Y t.w1:=cb D
  have b5:y.cell? (E w.heap.size 5)=Y t.w2:=cb D
  have b6:y.cell? (E w.heap.size 6)=Y t.r:=cb D
  have V:y.cell? (E pb 0)=Y m:=cb n.hb
  have f0:=b 0;have W:y.cell? (E pb 1)=Y n1:=cb n.hb
  have f1:=b 1;have X:y.cell? (E pb 2)=Y n2:=cb n.hb
  have f2:=b 2;have d3:y.cell? (E pb 3)=Y z:=cb n.hb
  have f3:=b 3;have d4:y.cell? (E pb 4)=Y A:=cb n.hb
  have f4:=b 4;have d5:y.cell? (E pb 5)=Y C:=cb n.hb
  have f5:=b 5;have d6:y.cell? (E pb 6)=Y G:=cb n.hb
  have f6:=b 6;clear b;have aK:¬w.heap.size=pb:=Ez s;have aF:¬pb=w.heap.size:=Nat.ne_of_lt s;go_upto_region 7 with fail;obtain⟨X6,hX⟩:∃X6,((((((y.setCell (E pb 0) (J t.u0)).setCell (E pb 1) (J t.u1)).setCell (E pb 2) (J t.u2)).setCell (E pb 3) (J t.w0)).setCell (E pb 4) (J t.w1)).setCell (E pb 5) (J t.w2)).setCell (E pb 6) (J t.r)=X6:=⟨_,rfl⟩;have H6:Hid (Pk pb g w X6 #[J t.u0,J t.u1,J t.u2,J t.w0,J t.w1,J t.w2,J t.r,p,v]):=by show Pk _ _ _ _ _;rw [<-hX];exact ((((((n.set _).set _).set _).set _).set _).set _).set _
  rw [hX];clear hX b0 V f0 b1 W f1 b2 X f2 b3 d3 f3 b4 d4 f4 b5 d5 f5 b6 d6 f6 q aG;go_wp2_with fail;refine (xM X6).mono ?_;rintro e H ⟨u,rfl,K,aj⟩;have HE:=Z (HF t.u0 t.u1 t.u2 t.w0 t.w1 t.w2 t.r [ZV] u X6 H H6 K aj);clear K aj;go_wp2;go_ret;exact HE
end
def yky (fv va:Value) (W:World) (Q:Ending->World->Prop):Prop:=match fv with
 | .func (.func f) first cap=>Calls prog f (first++#[va]++cap) W Q
 | _=>False
def ykz (pb:Nat) (fv:Value):Prop:=(fv=.func (.func 37) #[.pointer (pA pb)] #[]\/fv=.func (.func 38) #[.pointer (pA pb)] #[]\/fv=.func (.func 39) #[.pointer (pA pb)] #[])\/∃a b,fv=.func (.func 40) #[] #[.pointer a,.pointer b]
def OfW (tx:List Int) (R:List (List Int)->Prop) (ws:List (List Int)):Prop:=if (yt tx).2.1≠0 then ws=[zey,zo ((yt tx).2.2:Int)] else R ws
def OfP (B pb:Nat) (t:Tg) (tx:List Int) (v:Value) (R:List (List Int)->Prop) (w:World) (e:Ending) (w':World):Prop:=∃ws u,e=.returned u/\Xq w' w.heap.size u ws/\Pl B pb t tx v w'/\Kp pb v v w w'/\OfW tx R ws
def Uf (hP:zlm) {B pb:Nat} {t:Tg} {tx:List Int} {v fv:Value} {R:List (List Int)->Prop} (w:World) (h:Pl B pb t tx v w) (A:xq w) (hB:B<=w.heap.size) (aF:9<=B) (aY:zmt tx) (bg:tx.length<=2000000) (aL:ykz pb fv)
  (hF:∀va W,Kp pb v v w W->PC W pb t->zI W va (yt tx).1->LoopIn (yt tx).1->zQ (yt tx).1=true->yky fv va W fun e w'=>∃ws,Zb ws W e w'/\R ws) :
  Calls prog 36 #[.pointer (pA pb),fv] w (OfP B pb t tx v R w):=by
 obtain⟨⟨p,h1⟩,o⟩:=h;have HS:=Z (zv4 w h1 o (by omega));have aV:=Z o;have U:Hid (∀{u:Value} {y:World},Kp pb v u w y->xq y):=fun k=>A.gE (k.gE h1.hB (fun g hg=>(h1.lt.2 g hg).1) hB) aF;have M:=Z (fun W hw=>hP tx W hw aY bg);unfold Y9 at M;have aB:Hid ((yt tx).2.1=0->zQ (yt tx).1=true):=zu8 (zx 10 tx) ⟨[],[],[]⟩ 0;have aX:=zoz tx;have T:=Z hF;unfold OfP OfW;generalize yt tx=pr at *
 obtain⟨L,j,f⟩:=pr;simp only at M aB T aX ⊢;have aC:Hid (∀ws u y,Xq y w.heap.size u ws->Pl B pb t tx v y->Kp pb v v w y->(if j≠0 then ws=[zey,zo (f:Int)] else R ws)->∃ws u',Ending.returned u=.returned u'/\Xq y w.heap.size u' ws/\Pl B pb t tx v y/\Kp pb v v w y/\(if j≠0 then ws=[zey,zo (f:Int)] else R ws)):=fun ws u y a b c d=>⟨ws,u,rfl,a,b,c,d⟩;obtain⟨Q,hQ⟩:∃Q:Ending->World->Prop,(fun e w'=>∃ws u,e=.returned u/\Xq w' w.heap.size u ws/\Pl B pb t tx v w'/\Kp pb v v w w'/\(if j≠0 then ws=[zey,zo (f:Int)] else R ws))=Q:=⟨_,rfl⟩;have q:Hid (∀ws u y,Xq y w.heap.size u ws->Pl B pb t tx v y->Kp pb v v w y->(if j≠0 then ws=[zey,zo (f:Int)] else R ws)->Q (.returned u) y):=fun ws u y a b c d=>by grind
 rw [hQ];have aQ:=Z aL;clear h1 o A hB aF hF hQ aC aL;go_enter func36,ntmps36;go_wp2_with fail;refine HS.out.mono ?_;rintro e w1 ⟨rfl,aI,aM,bf⟩;have aA:=Z aM;have aR:=Z aI;clear aI aM bf;go_wp2_with fail;refine (M.out _ (U.out aA.out)).mono ?_;rintro e l ⟨v0,v1,v2,rfl,hL,aG,aK⟩;have HL:=Z hL;have aU:=Z aG;obtain⟨v0',v1',v2',A,⟨a0,gA,rfl,-⟩,⟨V,gB,rfl,-⟩,⟨X,gC,rfl,-⟩⟩:=hL;simp only [El,Ex,W9,and_true] at A;obtain⟨rfl,rfl,rfl⟩:=A;have aE:=Z aK;clear aK aG;obtain⟨i,O⟩:=nm ((l.alloc (lC L a0 V X gA gB gC)).alloc (.cells #[J j,J f] 65));have ay:Hid (Bw l i):=by show Below _ _ _;rw [<-O];exact QB _ _ _
 have az:=Z (aE.out.trans (ay.out.mono aE.out.size));have s:=Z (aA.out.trans (Kp.of_below (u:=v) az.out));have N:Hid (Pl B pb t tx v i):=⟨⟨_,aR.out.gE az.out⟩,aV.out⟩;have aN:i.heap[l.heap.size]?=some (lC L a0 V X gA gB gC):=by rw [<-O,Qr _ _ _ (by simp)];exact zm _ _ _
 have F:i.heap[l.heap.size+1]?=some (.cells #[J j,J f] 65 (0,0)):=by rw [<-O,<-World.size_alloc];exact zm _ _ _
 have f0:i.cell? (E (l.heap.size+1) 0)=Y j:=by rw [Qa F];rfl
 have f1:i.cell? (E (l.heap.size+1) 1)=Y f:=by rw [Qa F];rfl
 obtain⟨l0,l1,l2,lz⟩:=Vy (w:=w) aN (QA _ _);have P:l.heap.size+1<i.heap.size:=(Qb.1 F).1;clear aN F;by_cases n:j=0
 ·subst n;have aO:=aB.out rfl;have aT:=Z (T.out _ i s.out N.out.pc (HL.out.gE ay.out) aU.out aO);have q:=Z (fun ws u y a b c (d:R ws)=>q.out ws u y a b c (by rw [Qe (by decide)];exact d));clear f1 aO;rcases aQ.out with (rfl | rfl | rfl) | ⟨b2,b8,rfl⟩
  all_goals
   go_wp2_with fail
   refine (show Calls _ _ _ _ _ from aT.out).mono ?_
   rintro e y ⟨ws,⟨u,rfl,z,hb⟩,hr⟩
   have H:=Z (q.out ws u y (yS z s.out.size) (N.out.gE hb) (s.out.trans (Kp.of_below hb)) hr)
   clear z hb hr
   go_wp2_with fail
   exact H.out
 have bh:(j == 0)=false:=by simp [n]
 have q:=Z (fun u y a b c=>q.out [zey,zo (f:Int)] u y a b c (by rw [Qf n]));obtain⟨m,aH⟩:∃m,i.alloc (.cells #[.string (ByteArray.mk #[98,97,100])] 9)=m:=⟨_,rfl⟩;have aD:=Z (za8 i zey);rw [show i.alloc (.cells #[.string (strOfNums zey)] 9)=m from aH] at aD;have r:Hid (Bw i m):=by show Below _ _ _;rw [<-aH];exact Qd _ _
 have HT:=Z (zd3 [(f:Int)] m ((U.out s.out).toVarsP.on r.out) (by show 1<=1000;omega) (yhd (by omega) (by omega)));have g1:m.cell? (E (l.heap.size+1) 1)=Y f:=(ze r.out _ _ P).trans f1;have g0:m.cell? (E (l.heap.size+1) 0)=Y j:=(ze r.out _ _ P).trans f0;have aZ:l.heap.size+1<m.heap.size:=Qu P r.out.size;clear l0 l1 l2 lz;go_wp2_with fail;refine (show Calls _ _ _ _ _ from HT.out).mono ?_;rintro e C ⟨u3,rfl,S,D⟩;obtain⟨g3,c3,rfl⟩:=S.2;have aW:=Z S;have K:=Z (r.out.trans ((show Below _ _ C from D).mono r.out.size));obtain⟨u1,I,aP,-⟩:=aD.out;injection I with I;subst I;have x:=Z (Qd C (.cells #[.slice (pA i.heap.size) 1 1,.slice (pA g3) 1 c3] 22));have aS:=Z (UJ [[zey],[zo (f:Int)]] C.heap.size 2 2 _ rfl (zhb (vs:=[.slice (pA i.heap.size) 1 1,.slice (pA g3) 1 c3]) ⟨yS (Uh aP ((show Below _ _ C from D).trans (x.out.mono D.size))) (Ql _),yS (Uh aW.out x.out) (Ql _),trivial⟩ (zm C _ _)) (by show 0<2;omega) (by show 2<=300;omega) (Qc _) (by omega));clear S D aP;go_wp2_with fail;refine (show Calls _ _ _ _ _ from aS.out).mono ?_;rintro e G ⟨u,rfl,z,aJ⟩;have H:Hid (Q (.returned u) G):=by have hb:Bw i G:=K.out.trans ((x.out.trans ((show Below _ _ G from aJ).mono x.out.size)).mono K.out.size);refine q.out u G (yS z ?_) (N.out.gE hb) (s.out.trans (Kp.of_below hb));have:=s.out.size;have:=K.out.size;have:=x.out.size;omega
 clear z aJ;go_wp2;exact H.out
section
variable {t t':Tg} {tx Y0 tx' l:List Int} {n:Int} {ws W:List (List Int)} {L:Lp} {B pb:Nat} {v:Value} {w x w':World} {e:Ending}
def zn3 (hX:VX) (R:zb8) (S:zba) (hR:zj1) (t:Tg) (L:Lp) (n:Int) (H:Value) (b2 b8 d k pb:Nat) (w:World) (D:VarsP w) (r:zI w H L) (s:LoopIn L) (B:PC w pb t) (hm:zQ L=true) (T:zS t=true) (v:0<=n) (x:n<=999999) (P:w.cell? (E b2 0)=some (.pointer (pA pb))) (Q:w.cell? (E b8 0)=some (.slice (pA d) 1 k)) (hn:w.cell? (E d 0)=Y n) (U:b2<w.heap.size/\b8<w.heap.size/\d<w.heap.size) (O:1<=k/\k<=9223372036854775807) :
  Calls prog 40 #[H,.pointer (pA b2),.pointer (pA b8)] w (zbc L t n w):=by
 obtain⟨v0,v1,v2,rfl,⟨a0,h,rfl,-⟩,⟨f,i,rfl,-⟩,⟨g,j,rfl,-⟩⟩:=id r;obtain⟨a,N⟩:=nm (w.alloc (lC L a0 f g h i j));have c:Hid (Bw w a):=by show Below _ _ _;rw [<-N];exact Qd _ _
 have q:a.heap[w.heap.size]?=some (lC L a0 f g h i j):=by grind [zm]
 have p:Hid (∀w',Bw a w'->(w'.cell? (E w.heap.size 0)=some (.slice a0 L.l.length h)/\w'.cell? (E w.heap.size 1)=some (.slice f L.b.length i)/\w'.cell? (E w.heap.size 2)=some (.slice g L.o.length j))/\w'.cell? (E b2 0)=some (.pointer (pA pb))/\w'.cell? (E b8 0)=some (.slice (pA d) 1 k)/\w'.cell? (E d 0)=Y n):=fun y G=>by obtain⟨l0,l1,l2,-⟩:=Vy (w:=w) q G;have hb:=c.out.tm G;grind [ze]
 have X:w.heap.size<a.heap.size:=(lo q);obtain⟨z2,z8,z9⟩:b2<a.heap.size/\b8<a.heap.size/\d<a.heap.size:=⟨by omega,by omega,by omega⟩;have M:=Z (zre hX R S hR t L n a0 f g h i j pb a.drew (D.on (c.out.tm (Qm _ _ 1))) (r.gE (c.out.tm (Qm _ _ 1))) s (B.gE (c.out.tm (Qm _ _ 1))) hm T v x);obtain⟨V,W⟩:=O;clear q U P Q hn r s B D v x;go_enter func40,ntmps40;go_wp2;refine rh 99 p.out (Qm _ _ 1) fun z=>?_;refine uk2 0 ?_;refine uk2 2 ?_;refine uk 4 ?_;refine uo 5 fun K A=>?_;go_simp;refine M.out.mono ?_;rintro e y ⟨ws,⟨u,rfl,C,hb⟩,F⟩;have m:Hid (Bw a y):=(Qm _ _ 1).trans (show Below a.drew.heap.size a.drew y from hb);have I:Hid (zbc L t n w (.returned u) y):=⟨ws,⟨u,rfl,yS C c.out.size,c.out.tm m.out⟩,F⟩;refine A.out _ _ (.inr (p.out _ m.out)) ?_;have z:=p.out _ m.out;clear A K C hb F;try simp only [Act.put,Qn,Qy,Qz]
 refine uk 6 ?_;refine rd ?_;clear z;go_wp2;go_ret;exact I.out
def zp2 (s:List Int) (b:ByteArray) (j:b=strOfNums [61,32]) (w:World) (hs:By s) :
  Calls prog 29 #[.string (strOfNums s),.string b] w fun e w'=>e=.returned (.tuple #[.string (strOfNums (if s.take 2=[61,32] then s.drop 2 else s)),.bool (decide (s.take 2=[61,32]))])/\w'=w:=by
 subst j;have a:=Tryz.strings_CutPrefix (strOfNums s) (strOfNums [61,32]) w;rw [yP,yP] at a;have f:Lib.hasPrefix (b8 s) (b8 [61,32])=decide (s.take 2=[61,32]):=by
  match s,hs with
  | [],_=>rfl
  | [c],hs =>show List.isPrefixOf [UInt8.ofNat 61,UInt8.ofNat 32] [UInt8.ofNat c.toNat]=_;simp [List.isPrefixOf]
  | c :: d :: l,hs =>
   have g:=hs c (QY ..);have i:=hs d (Wg _ (QY ..));show List.isPrefixOf [UInt8.ofNat 61,UInt8.ofNat 32] (UInt8.ofNat c.toNat :: UInt8.ofNat d.toNat :: b8 l)=decide ([c,d]=[61,32]);have k1:(UInt8.ofNat 61 == UInt8.ofNat c.toNat)=decide (c=61):=by
    by_cases e:c=61
    ·subst e;rfl
    rw [Qk e];exact Wf fun h=>e (zc1 (d:=c) (c:=61) (by omega) g h).symm
   have m:(UInt8.ofNat 32 == UInt8.ofNat d.toNat)=decide (d=32):=by
    by_cases e:d=32
    ·subst e;rfl
    rw [Qk e];exact Wf fun h=>e (zc1 (d:=d) (c:=32) (by omega) i h).symm
   grind
 have k:(⟨(Lib.trimPrefix (b8 s) (b8 [61,32])).toArray⟩:ByteArray)=strOfNums (if s.take 2=[61,32] then s.drop 2 else s):=by
  unfold Lib.trimPrefix;rw [f];by_cases h:s.take 2=[61,32]
  ·rw [Qi h,Qf rfl,Qf h,show (b8 [61,32]).length=2 from rfl,<-zfb];rfl
  rw [Qk h,Qe WM,Qe h];rfl
 rw [f,k] at a;exact a
def zzx (L:Lp) (t:Tg) (Y0:List Int) (n:Int) (a:List Int):Prop :=
 if Y0=yz then a=yV [] [((zf L t).length:Int)]
 else if Y0=yx then a=yV [] [(ZL L t:Int),(xS L t:Int)]
 else if Y0=yy then ∃r,yN L t 1 r/\a=match r with
  | none=>Uu
  | some K=>zug K
 else if inR n 0 200=false then a=ZV
 else ∃r,yN L t 1 r/\a=match r with
  | none=>Uu
  | some K=>ze7 L t K n
def zfr (L:Lp) (t:Tg) (Y0:List Int) (n:Int) (ws:List (List Int)):Prop:=(yD 32 ws).length<=10000/\zzx L t Y0 n (yD 32 ws)
def yik (h:OfW tx (zfr (yt tx).1 t Y0 n) ws) (c:tx.length<=2000000):(yD 32 ws).length<=10000/\UC t tx Y0 n (yD 32 ws):=by
 unfold OfW at h;unfold UC;by_cases e:(yt tx).2.1≠0
 ·rw [Qf e] at h ⊢;have a:=zoz tx;have b:=zdc (n:=((yt tx).2.2:Int)) (by omega) (by omega);rw [h];refine⟨?_,ybm _⟩;show (98 :: 97 :: 100 :: 32 :: zo ((yt tx).2.2:Int)).length<=10000;grind
 rw [Qe e] at h ⊢;exact h
def UL {zs:List Int} (a:∀i,i<zs.length->-9223372036854775808<=nth zs i/\nth zs i<=9223372036854775807):(yD 32 (zs.map zo)).length<=21*zs.length:=by grind [ze2,VG]
def zqs (h:(zf L t).length<=9223372036854775807):zfr L t yz 0 [zo ((zf L t).length:Int)] :=
 ⟨QH (UL (zs:=[((zf L t).length:Int)]) (yhd (by omega) (by omega))) (by simp_all),by unfold zzx;rw [Qf rfl];exact VG [((zf L t).length:Int)]⟩
def zqq (hm:zQ L=true) (a:zS t=true):zfr L t yx 0 [zo (ZL L t:Int),zo (xS L t:Int)]:=by obtain⟨h1,b⟩:=zed hm a;exact⟨QH (UL (zs:=[(ZL L t:Int),(xS L t:Int)]) (yko (by omega) (by omega) (by omega) (by omega))) (by simp_all),by unfold zzx;rw [Qe (by decide),Qf rfl];exact VG [(ZL L t:Int),(xS L t:Int)]⟩
def zqr {z:Option Kn} (a:ws=match z with
  | none=>[Uu]
  | some K=>(Ym K K.ops.length).map zo) (h:yN L t 1 z):zfr L t yy 0 ws:=by
 unfold zfr zzx;rw [Qe (by decide),Qe (by decide),Qf rfl,a];cases z with
 | none=>exact⟨by show Uu.length<=10000;decide,none,h,rfl⟩
 | some K =>refine⟨QH (UL (zgs h)) ?_,some K,h,zww K⟩;have:=(zbi h).1;rw [zjr];omega
def zqt (h:yaa L t n ws):zfr L t yM n ws:=by
 refine⟨h.1,?_⟩;unfold zzx;rw [Qe (by decide),Qe (by decide),Qe (by decide)];have a:=h.2;by_cases e:inR n 0 200=false
 ·rw [Qf e] at a ⊢;rw [a];rfl
 rw [Qe e] at a ⊢;obtain⟨z,b,c⟩:=a;refine⟨z,b,?_⟩;rw [c];cases z with
 | none=>rfl
 | some K=>exact zgr L t K n
def zrz {a:List Int} (h:Z7 t tx l a t' tx') (i:zS t=true) (k:By tx) (j:By l):zS t'=true/\By tx'/\tx'.length<=tx.length+l.length:=by
 have same:t'=t/\tx'=tx->zS t'=true/\By tx'/\tx'.length<=tx.length+l.length:=fun h=>by simp_all
 unfold Z7 at h;by_cases d:l.take 2=[61,32]
 ·rw [Qf d] at h;have f:2<=l.length:=by have:=congrArg List.length d;grind
  rw [h.2.1,h.2.2];refine⟨i,fun c b=>?_,by simp;omega⟩;rcases QK.1 b with b | b
  ·rcases QK.1 b with b | b
   ·exact k c b
   exact j c (q9 b)
  grind
 rw [Qe d] at h;by_cases f:l=yK
 ·rw [Qf f] at h;rw [h.2.1,h.2.2];exact⟨i,fun c b=>(by cases b),Ql _⟩
 rw [Qe f] at h;cases g:xB (zx 32 l).tail with
 | none=>rw [g] at h;exact same h.2
 | some m =>
  rw [g] at h;dsimp only at h;grind
def yjs {A B C D X F:Prop}:A\/B\/C\/D\/X\/F\/¬(A\/B\/C\/D\/X\/F):=by grind
def yil {s:List Int} (h:By s):zmt s:=fun i=>by
 unfold nth
 rw [Qw]
 by_cases hi:i<s.length
 ·rw [Qh hi];exact h _ (QW hi)
 ·simp_all
def Xi (B pb:Nat) (t:Tg) (tx l:List Int) (v:Value) (w:World) (e:Ending) (w':World):Prop:=∃u ws t' tx' v',e=.returned u/\Xq w' w.heap.size u ws/\Pl B pb t' tx' v' w'/\Kp pb v v' w w'/\(yD 32 ws).length<=10000/\Z7 t tx l (yD 32 ws) t' tx'
def Xi.of (h:zqm B pb ws t' tx' v x e w') (a:Bw w x) (c:(yD 32 ws).length<=10000) (hr:Z7 t tx l (yD 32 ws) t' tx'):Xi B pb t tx l v w e w':=by obtain⟨u,v',b,f,d,k⟩:=h;exact⟨u,ws,t',tx',v',b,yS f a.size,d,(Kp.of_below a).trans k,c,hr⟩
def Xi.words (h:Zb ws x e w') (d:Pl B pb t tx v x) (a:Bw w x) (c:(yD 32 ws).length<=10000) (hr:Z7 t tx l (yD 32 ws) t tx):Xi B pb t tx l v w e w':=by obtain⟨u,b,f,hb⟩:=h;exact⟨u,ws,t,tx,v,b,yS f a.size,d.gE hb,(Kp.of_below (a.tm hb)),c,hr⟩
def Xi.asked {p:List Int} (h:OfP B pb t tx v (zfr (yt tx).1 t Y0 n) x e w') (b:Bw w x) (c:tx.length<=2000000) (hr:∀a,UC t tx Y0 n a->Z7 t tx l a t tx):Xi B pb t tx l v w e w':=by obtain⟨ws,u,f,j,i,k,g⟩:=h;obtain⟨h1,d⟩:=yik g c;exact⟨u,ws,t,tx,v,f,yS j b.size,i,(Kp.of_below b).trans k,h1,hr _ d⟩
def zl3 {b m:Nat} (h:ZP w b 0 (m+1) W):ZP w b 1 m W.tail:=by grind [ZP]
def zto (h:Zk W):Zk W.tail:=by simp_all [Zk]
def zqo (hP:zlm) (hG:Zj) (hO:zbu) (hX:VX) (hE:zb8) (hV:zba) (hR:zj1) (T:Tg) (l:List Int) (w:World) (h:Pl B pb T tx v w) (hv:xq w) (hB:B<=w.heap.size) (aE:9<=B) (bO:By tx) (aX:tx.length<=1100000) (hl:By l) (bP:l.length<=1100000) (aP:zS T=true) :
  Calls prog 15 #[.pointer (pA pb),.string (strOfNums l)] w (Xi B pb T tx l v w):=by
 obtain⟨Q,aN⟩:∃Q,w.alloc (.cells #[.pointer (pA pb)] 39)=Q:=⟨_,rfl⟩;have ac:Hid (Bw w Q):=by show Below _ _ _;rw [<-aN];exact Qd _ _
 have aY:Hid (Q.heap[w.heap.size]?=some (.cells #[.pointer (pA pb)] 39 (0,0))):=by show _=_;grind [zm]
 have h0:Q.cell? (E w.heap.size 0)=some (.pointer (pA pb)):=by rw [Qa aY.out];rfl
 have cg:w.heap.size<Q.heap.size:=(Qb.1 aY.out).1;have bg:=Z (h.gE ac.out);have aV:=Z (hv.on ac.out);have bF:=Z (QH hB ac.out.size);have aT:=Z (zp2 l (ByteArray.mk #[61,32]) rfl Q hl);have aI:=Z (And.intro bO hl);have bG:Hid (pb<w.heap.size/\∀g,v.ownBlock=some g->g<w.heap.size):=by obtain⟨⟨p,h1⟩,-⟩:=h;exact⟨h1.lt.1,fun g hg=>(h1.lt.2 g hg).2⟩
 clear h hv hB;by_cases O:l.take 2=[61,32]
 ·rw [Qf O,Qi O] at aT;have q:=Z (yc4 (t:=T) (tx:=tx) O);have cu:=Z (zri (l.drop 2) Q bg.out aV.out.toVarsP bF.out aE (by omega) (by rw [qL];omega));have cA:Hid ((yD 32 [okW,zo ((tx++l.drop 2++[10]).length:Int)]).length<=10000):=by have h1:(tx++l.drop 2++[10]).length<=3000000:=(by simp;omega);have h3:=zdc (n:=((tx++l.drop 2++[10]).length:Int)) (by omega) (by omega);show (111 :: 107 :: 32 :: zo ((tx++l.drop 2++[10]).length:Int)).length<=10000;grind
  clear O;go_enter func15,ntmps15;go_wp2_with fail;refine aT.out.mono ?_;rintro e x ⟨rfl,hx⟩;have hx:=hx.symm;subst hx;go_wp2_with fail;refine cu.out.mono ?_;intro e y j;have HE:=Z (Xi.of (t:=T) (tx:=tx) (l:=l) j ac.out cA.out q.out);obtain⟨u,v',rfl,-⟩:=j;go_wp2_with fail;go_ret;exact HE.out
 rw [Qe O,Qk O] at aT;have aS:=Z O;have cE:=Z (zhv l 32 (ByteArray.mk #[32]) rfl 9 (by omega) (by omega) Q aV.out hl (by omega) (by omega));clear O;go_enter func15,ntmps15;go_wp2_with fail;refine aT.out.mono ?_;rintro e x ⟨rfl,hx⟩;have hx:=hx.symm;subst hx;go_wp2_with fail;refine cE.out.mono ?_;rintro e w2 ⟨W,m,cap,rfl,cF,cU,hW,bY,ce,bM⟩;have HW:=Z hW;have bK:=Z bY;have aL:=Z ce;have aD:=Z bM;have cO:Q.heap.size<w2.heap.size:=hW.2.1;have cW:cap<=9223372036854775807:=by omega
 have cC:Hid (∀a c,(0<m->a=some (E Q.heap.size 1))->m<=c->c<=1000->Calls prog 32 #[.slice a m c] w2 (zlk W.tail w2)):=fun a c j bj hc2=>ziu a W.tail m c w2 (aV.out.on aD.out) (zl3 HW.out).1 (fun hm=>⟨_,_,j hm,zl3 HW.out⟩) (zto bK.out) bj hc2;clear hW bY ce bM h0;go_wp2_with fail
 all_goals
  refine (cC.out _ _ (by intro hm;first | rfl | (exfalso;omega)) (by omega) (by omega)).mono ?_
  rintro e w3 ⟨v8,bb,rfl,bW,aQ,bN⟩
  have aG:=Z bN
  have bf:=Z bW
  have bh:=Z aQ
  clear bW aQ bN
  cases bb with
  | false =>
    obtain⟨rfl,aF⟩:=bf.out rfl
    have q:Hid (Z7 T tx l ZV T tx):=by
     rcases aL.out with e | ⟨-,e⟩
     ·exact zjy aS.out (by rw [<-e];exact aF)
     ·exact zjx aS.out e
    clear aF
    go_wp2_with fail
    obtain⟨o,ao⟩:∃o,w3.alloc (.cells #[.slice none 0 0] 34)=o:=⟨_,rfl⟩
    have bD:Hid (Bw Q o):=by show Below _ _ _;rw [<-ao];exact aD.out.trans ((aG.out.trans ((Qd _ _).mono aG.out.size)).mono aD.out.size)
    rw [ao]
    clear ao
    refine (xM o).mono ?_
    intro e y j
    have s:Hid (Xi B pb T tx l v w e y):=Xi.words j (bg.out.gE bD.out) (ac.out.trans (bD.out.mono ac.out.size)) (by decide) q.out
    obtain⟨u,rfl,-⟩:=j
    go_wp2_with fail
    go_ret
    exact s.out
  | true =>
    obtain⟨f,na,nc,rfl,aF,bZ⟩:=bh.out rfl
    have cD:=Z bZ
    have bI:=Z aF
    have bV:f.length=m:=by rw [zct aF,List.length_tail,HW.out.1];rfl
    have S:=Z bV
    clear aF bZ
    go_wp2_with fail
    obtain⟨o,ao⟩:∃o,w3.alloc (.cells #[.slice na m nc] 34)=o:=⟨_,rfl⟩
    have aH:Hid (Bw w3 o):=by show Below _ _ _;rw [<-ao];exact Qd _ _
    have bE:Hid (o.heap[w3.heap.size]?=some (.cells #[.slice na m nc] 34 (0,0))):=by show _=_;rw [<-ao];exact zm _ _ _
    rw [ao]
    clear ao
    have ay:=Z (aG.out.trans (aH.out.mono aG.out.size))
    have af:=Z (aD.out.trans (ay.out.mono aD.out.size))
    obtain⟨p,aW⟩:∃p,W.getD 0 []=p:=⟨_,rfl⟩
    have c0:o.cell? (E Q.heap.size 0)=some (.string (strOfNums p)):=by rw [ze ay.out _ _ cO,HW.out.2.2 0 (by omega),aW]
    have c8:o.cell? (E w3.heap.size 0)=some (.slice na m nc):=by rw [Qa bE.out];rfl
    have h0:o.cell? (E w.heap.size 0)=some (.pointer (pA pb)):=by rw [ze af.out _ _ cg,Qa aY.out];rfl
    have z8:w3.heap.size<o.heap.size:=(Qb.1 bE.out).1
    have z0:Q.heap.size<o.heap.size:=by have:=ay.out.size;omega
    have zw:w.heap.size<o.heap.size:=by omega
    have U:Hid (∀a t' tx',(if p=yK/\f.length=0 then a=okW/\t'=T/\tx'=[]
     else if p=zW/\f.length=7 then (if zS (tgD f)=true then a=okW/\t'=tgD f/\tx'=tx else a=ZV/\t'=T/\tx'=tx)
     else if (p=yz\/p=yx\/p=yy)/\f.length=0 then UC T tx p 0 a/\t'=T/\tx'=tx
     else if p=yM/\f.length=1 then UC T tx yM (nth f 0) a/\t'=T/\tx'=tx
     else a=ZV/\t'=T/\tx'=tx)->Z7 T tx l a t' tx'):=fun a t' tx' hr=>by
     rcases aL.out with e | ⟨r,e⟩
     ·refine zjz (p:=p) (qs:=W.tail) aS.out ?_ bI.out hr
      rw [<-e,<-aW]
      cases W with
      | nil=>exact absurd HW.out.1 (by simp)
      | cons x xs=>rfl
     ·have h8:=S.out
      rw [Qe (by omega),Qe (by omega),Qe (by omega),Qe (by omega)] at hr
      obtain⟨rfl,rfl,rfl⟩:=hr
      exact zjx aS.out e
    have aC:∀c∈p,0<=c/\c<=255:=by rw [<-aW];exact (bK.out 0).1
    have G:=yn aC (m:=yK) (by decide) (b:=[102,114,101,115,104]) rfl
    have r:=yn aC (m:=zW) (by decide) (b:=[109,97,99,104,105,110,101]) rfl
    have H:=yn aC (m:=yz) (by decide) (b:=[101,100,103,101,115]) rfl
    have I:=yn aC (m:=yx) (by decide) (b:=[98,111,117,110,100]) rfl
    have K:=yn aC (m:=yy) (by decide) (b:=[98,117,105,108,100]) rfl
    have L:=yn aC (m:=yM) (by decide) (b:=[116,117,114,110,115]) rfl
    have aj:Hid (Pl B pb T tx v o.drew):=bg.out.gE (af.out.trans ((Qm _ _ 1).mono af.out.size))
    have ag:Hid (Bw w o.drew):=ac.out.trans ((af.out.trans ((Qm _ _ 1).mono af.out.size)).mono ac.out.size)
    have aM:Hid (xq o.drew):=aV.out.on (af.out.trans ((Qm _ _ 1).mono af.out.size))
    have az:Hid (o.ownsRow w2.heap.size 3 1 (.slice na m nc) m (f.map (.int .i64))):=by have h:=zp cD.out aH.out;rw [S.out] at h;exact h
    have aK:Hid (B<=o.drew.heap.size):=QH bF.out af.out.size
    have aU:Hid (∀W,Kp pb v v o.drew W->VarsP W):=fun W k=>(aM.out.gE (k.gE aj.out.ge.1 aj.out.ge.2 aK.out) aE).toVarsP
    have al:=Z (And.intro aX bP)
    have aR:Hid (zmt tx):=yil aI.out.1
    have aA:Hid (∀a:List Int,Z7 T tx l ZV T tx->∀e y,Zb [ZV] o.drew e y->Xi B pb T tx l v w e y):=fun _ hl e y j=>Xi.words j aj.out ag.out (by decide) hl
    obtain⟨P,bL⟩:∃P,strOfNums p=P:=⟨_,rfl⟩
    rw [bL] at c0 G r H I K L
    clear aC aW bL bV aX bP bO hl
    rcases yjs (A:=p=yK) (B:=p=zW) (C:=p=yz) (D:=p=yx) (X:=p=yy) (F:=p=yM) with d | d | d | d | d | d | d
    ·by_cases M:m=0
     ·have V:((m:Int) == 0)=true:=by rw [M];rfl
      replace G:=G.trans (show decide (p=yK)=true by rw [d];decide)
      replace r:=r.trans (show decide (p=zW)=false by rw [d];decide)
      replace H:=H.trans (show decide (p=yz)=false by rw [d];decide)
      replace I:=I.trans (show decide (p=yx)=false by rw [d];decide)
      replace K:=K.trans (show decide (p=yy)=false by rw [d];decide)
      replace L:=L.trans (show decide (p=yM)=false by rw [d];decide)
      have N:f.length=0:=S.out.trans M
      have q:=Z (U.out okW T [] (by rw [Qf ⟨d,N⟩];exact⟨rfl,rfl,rfl⟩))
      clear d M N
      go_region
      all_goals
       go_wp2_with fail
       refine (zwu o.drew aj.out).mono ?_
       intro e y j
       have s:Hid (Xi B pb T tx l v w e y):=Xi.of j ag.out (by decide) q.out
       obtain⟨u,_,rfl,-⟩:=j
       go_wp2_with fail
       go_ret
       exact s.out
     ·have V:((m:Int) == 0)=false:=Wf (by omega)
      have aO:(m:Int)≠0:=by omega
      replace G:=G.trans (show decide (p=yK)=true by rw [d];decide)
      replace r:=r.trans (show decide (p=zW)=false by rw [d];decide)
      replace H:=H.trans (show decide (p=yz)=false by rw [d];decide)
      replace I:=I.trans (show decide (p=yx)=false by rw [d];decide)
      replace K:=K.trans (show decide (p=yy)=false by rw [d];decide)
      replace L:=L.trans (show decide (p=yM)=false by rw [d];decide)
      have q:=Z (U.out ZV T tx (by
       rw [Qe (fun h:p=yK/\f.length=0=>by have:=S.out;omega),Qe (fun h:p=zW/\f.length=7=>absurd (d.symm.trans h.1) (by decide)),Qe (fun h:(p=yz\/p=yx\/p=yy)/\f.length=0=>by rcases h.1 with e | e | e <;> exact absurd (d.symm.trans e) (by decide)),Qe (fun h:p=yM/\f.length=1=>absurd (d.symm.trans h.1) (by decide))];exact⟨rfl,rfl,rfl⟩))
      clear d
      go_region
      all_goals
       go_wp2_with fail
       refine (xM o.drew).mono ?_
       intro e y j
       have s:=Z (aA.out [] q.out e y j)
       obtain⟨u,rfl,-⟩:=j
       go_wp2_with fail
       go_ret
       exact s.out
    ·by_cases M:m=7
     ·have V:((m:Int) == 7)=true:=by rw [M];rfl
      replace G:=G.trans (show decide (p=yK)=false by rw [d];decide)
      replace r:=r.trans (show decide (p=zW)=true by rw [d];decide)
      replace H:=H.trans (show decide (p=yz)=false by rw [d];decide)
      replace I:=I.trans (show decide (p=yx)=false by rw [d];decide)
      replace K:=K.trans (show decide (p=yy)=false by rw [d];decide)
      replace L:=L.trans (show decide (p=yM)=false by rw [d];decide)
      have N:f.length=7:=S.out.trans M
      have q:Hid (Z7 T tx l (yD 32 [if zS (tgD f)=true then okW else ZV]) (if zS (tgD f)=true then tgD f else T) tx):=U.out _ _ _ (by
       rw [Qe (fun h:p=yK/\f.length=0=>absurd (d.symm.trans h.1) (by decide)),Qf ⟨d,N⟩]
       by_cases hq:zS (tgD f)=true
       ·rw [Qf hq,Qf hq,Qf hq];exact⟨rfl,rfl,rfl⟩
       ·rw [Qe hq,Qe hq,Qe hq];exact⟨rfl,rfl,rfl⟩)
      have cx:Hid ((yD 32 [if zS (tgD f)=true then okW else ZV]).length<=10000):=by show _<=_;split <;> decide
      have HM:=Z (zok (B:=B) (pb:=pb) (N0:=w2.heap.size) (tx:=tx) (v:=v) (nv:=.slice na m nc) T f o.drew aj.out (by have h:=az.out;rw [M] at h ⊢;exact h) N)
      generalize (if zS (tgD f)=true then okW else ZV)=an at *
      generalize (if zS (tgD f)=true then tgD f else T)=t' at *
      clear d M N
      go_region
      all_goals
       go_wp2_with fail
       refine (HM.out).mono ?_
       intro e y j
       have s:Hid (Xi B pb T tx l v w e y):=Xi.of j ag.out cx.out q.out
       obtain⟨u,_,rfl,-⟩:=j
       go_wp2_with fail
       go_ret
       exact s.out
     ·have V:((m:Int) == 7)=false:=Wf (by omega)
      have aO:(m:Int)≠7:=by omega
      replace G:=G.trans (show decide (p=yK)=false by rw [d];decide)
      replace r:=r.trans (show decide (p=zW)=true by rw [d];decide)
      replace H:=H.trans (show decide (p=yz)=false by rw [d];decide)
      replace I:=I.trans (show decide (p=yx)=false by rw [d];decide)
      replace K:=K.trans (show decide (p=yy)=false by rw [d];decide)
      replace L:=L.trans (show decide (p=yM)=false by rw [d];decide)
      have q:=Z (U.out ZV T tx (by
       rw [Qe (fun h:p=yK/\f.length=0=>absurd (d.symm.trans h.1) (by decide)),Qe (fun h:p=zW/\f.length=7=>by have:=S.out;omega),Qe (fun h:(p=yz\/p=yx\/p=yy)/\f.length=0=>by rcases h.1 with e | e | e <;> exact absurd (d.symm.trans e) (by decide)),Qe (fun h:p=yM/\f.length=1=>absurd (d.symm.trans h.1) (by decide))];exact⟨rfl,rfl,rfl⟩))
      clear d
      go_region
      all_goals
       go_wp2_with fail
       refine (xM o.drew).mono ?_
       intro e y j
       have s:=Z (aA.out [] q.out e y j)
       obtain⟨u,rfl,-⟩:=j
       go_wp2_with fail
       go_ret
       exact s.out
    ·by_cases M:m=0
     ·have V:((m:Int) == 0)=true:=by rw [M];rfl
      replace G:=G.trans (show decide (p=yK)=false by rw [d];decide)
      replace r:=r.trans (show decide (p=zW)=false by rw [d];decide)
      replace H:=H.trans (show decide (p=yz)=true by rw [d];decide)
      replace I:=I.trans (show decide (p=yx)=false by rw [d];decide)
      replace K:=K.trans (show decide (p=yy)=false by rw [d];decide)
      replace L:=L.trans (show decide (p=yM)=false by rw [d];decide)
      have N:f.length=0:=S.out.trans M
      have q:Hid (∀a,UC T tx yz 0 a->Z7 T tx l a T tx):=fun a j=>U.out a T tx (by
       rw [Qe (fun h:p=yK/\f.length=0=>absurd (d.symm.trans h.1) (by decide)),Qe (fun h:p=zW/\f.length=7=>absurd (d.symm.trans h.1) (by decide)),Qf ⟨(.inl d),N⟩];exact⟨by rw [d];exact j,rfl,rfl⟩)
      have HF:=Z (Uf hP (fv:=.func (.func 37) #[.pointer (pA pb)] #[]) (R:=zfr (yt tx).1 T yz 0) o.drew aj.out aM.out aK.out aE aR.out (by have:=al.out.1;omega) (.inl (.inl rfl)) (fun va W hk hpc hL aB au=>by
       obtain⟨v0,v1,v2,rfl,⟨a0,gA,rfl,-⟩,⟨a1,gB,rfl,-⟩,⟨a2,gC,rfl,-⟩⟩:=id hL
       exact (zrb hG T _ a0 a1 a2 gA gB gC pb W (aU.out W hk) hL hpc au aP).mono fun e w' h=>⟨_,h.1,zqs h.2⟩))
      clear d M N
      go_region
      all_goals
       go_wp2_with fail
       refine ((show Calls _ _ _ _ _ from HF.out)).mono ?_
       intro e y j
       have s:Hid (Xi B pb T tx l v w e y):=Xi.asked (p:=[]) j ag.out (by have:=al.out.1;omega) q.out
       obtain⟨_,u,rfl,-⟩:=j
       go_wp2_with fail
       go_ret
       exact s.out
     ·have V:((m:Int) == 0)=false:=Wf (by omega)
      have aO:(m:Int)≠0:=by omega
      replace G:=G.trans (show decide (p=yK)=false by rw [d];decide)
      replace r:=r.trans (show decide (p=zW)=false by rw [d];decide)
      replace H:=H.trans (show decide (p=yz)=true by rw [d];decide)
      replace I:=I.trans (show decide (p=yx)=false by rw [d];decide)
      replace K:=K.trans (show decide (p=yy)=false by rw [d];decide)
      replace L:=L.trans (show decide (p=yM)=false by rw [d];decide)
      have q:=Z (U.out ZV T tx (by
       rw [Qe (fun h:p=yK/\f.length=0=>absurd (d.symm.trans h.1) (by decide)),Qe (fun h:p=zW/\f.length=7=>absurd (d.symm.trans h.1) (by decide)),Qe (fun h:(p=yz\/p=yx\/p=yy)/\f.length=0=>by have:=S.out;omega),Qe (fun h:p=yM/\f.length=1=>absurd (d.symm.trans h.1) (by decide))];exact⟨rfl,rfl,rfl⟩))
      clear d
      go_region
      all_goals
       go_wp2_with fail
       refine (xM o.drew).mono ?_
       intro e y j
       have s:=Z (aA.out [] q.out e y j)
       obtain⟨u,rfl,-⟩:=j
       go_wp2_with fail
       go_ret
       exact s.out
    ·by_cases M:m=0
     ·have V:((m:Int) == 0)=true:=by rw [M];rfl
      replace G:=G.trans (show decide (p=yK)=false by rw [d];decide)
      replace r:=r.trans (show decide (p=zW)=false by rw [d];decide)
      replace H:=H.trans (show decide (p=yz)=false by rw [d];decide)
      replace I:=I.trans (show decide (p=yx)=true by rw [d];decide)
      replace K:=K.trans (show decide (p=yy)=false by rw [d];decide)
      replace L:=L.trans (show decide (p=yM)=false by rw [d];decide)
      have N:f.length=0:=S.out.trans M
      have q:Hid (∀a,UC T tx yx 0 a->Z7 T tx l a T tx):=fun a j=>U.out a T tx (by
       rw [Qe (fun h:p=yK/\f.length=0=>absurd (d.symm.trans h.1) (by decide)),Qe (fun h:p=zW/\f.length=7=>absurd (d.symm.trans h.1) (by decide)),Qf ⟨(.inr (.inl d)),N⟩];exact⟨by rw [d];exact j,rfl,rfl⟩)
      have HF:=Z (Uf hP (fv:=.func (.func 38) #[.pointer (pA pb)] #[]) (R:=zfr (yt tx).1 T yx 0) o.drew aj.out aM.out aK.out aE aR.out (by have:=al.out.1;omega) (.inl (.inr (.inl rfl))) (fun va W hk hpc hL aB au=>by
       obtain⟨v0,v1,v2,rfl,⟨a0,gA,rfl,-⟩,⟨a1,gB,rfl,-⟩,⟨a2,gC,rfl,-⟩⟩:=id hL
       exact (zr9 hO T _ a0 a1 a2 gA gB gC pb W (aU.out W hk) hL hpc au aP).mono fun e w' h=>⟨_,h,zqq au aP⟩))
      clear d M N
      go_region
      all_goals
       go_wp2_with fail
       refine ((show Calls _ _ _ _ _ from HF.out)).mono ?_
       intro e y j
       have s:Hid (Xi B pb T tx l v w e y):=Xi.asked (p:=[]) j ag.out (by have:=al.out.1;omega) q.out
       obtain⟨_,u,rfl,-⟩:=j
       go_wp2_with fail
       go_ret
       exact s.out
     ·have V:((m:Int) == 0)=false:=Wf (by omega)
      have aO:(m:Int)≠0:=by omega
      replace G:=G.trans (show decide (p=yK)=false by rw [d];decide)
      replace r:=r.trans (show decide (p=zW)=false by rw [d];decide)
      replace H:=H.trans (show decide (p=yz)=false by rw [d];decide)
      replace I:=I.trans (show decide (p=yx)=true by rw [d];decide)
      replace K:=K.trans (show decide (p=yy)=false by rw [d];decide)
      replace L:=L.trans (show decide (p=yM)=false by rw [d];decide)
      have q:=Z (U.out ZV T tx (by
       rw [Qe (fun h:p=yK/\f.length=0=>absurd (d.symm.trans h.1) (by decide)),Qe (fun h:p=zW/\f.length=7=>absurd (d.symm.trans h.1) (by decide)),Qe (fun h:(p=yz\/p=yx\/p=yy)/\f.length=0=>by have:=S.out;omega),Qe (fun h:p=yM/\f.length=1=>absurd (d.symm.trans h.1) (by decide))];exact⟨rfl,rfl,rfl⟩))
      clear d
      go_region
      all_goals
       go_wp2_with fail
       refine (xM o.drew).mono ?_
       intro e y j
       have s:=Z (aA.out [] q.out e y j)
       obtain⟨u,rfl,-⟩:=j
       go_wp2_with fail
       go_ret
       exact s.out
    ·by_cases M:m=0
     ·have V:((m:Int) == 0)=true:=by rw [M];rfl
      replace G:=G.trans (show decide (p=yK)=false by rw [d];decide)
      replace r:=r.trans (show decide (p=zW)=false by rw [d];decide)
      replace H:=H.trans (show decide (p=yz)=false by rw [d];decide)
      replace I:=I.trans (show decide (p=yx)=false by rw [d];decide)
      replace K:=K.trans (show decide (p=yy)=true by rw [d];decide)
      replace L:=L.trans (show decide (p=yM)=false by rw [d];decide)
      have N:f.length=0:=S.out.trans M
      have q:Hid (∀a,UC T tx yy 0 a->Z7 T tx l a T tx):=fun a j=>U.out a T tx (by
       rw [Qe (fun h:p=yK/\f.length=0=>absurd (d.symm.trans h.1) (by decide)),Qe (fun h:p=zW/\f.length=7=>absurd (d.symm.trans h.1) (by decide)),Qf ⟨(.inr (.inr d)),N⟩];exact⟨by rw [d];exact j,rfl,rfl⟩)
      have HF:=Z (Uf hP (fv:=.func (.func 39) #[.pointer (pA pb)] #[]) (R:=zfr (yt tx).1 T yy 0) o.drew aj.out aM.out aK.out aE aR.out (by have:=al.out.1;omega) (.inl (.inr (.inr rfl))) (fun va W hk hpc hL aB au=>by
       obtain⟨v0,v1,v2,rfl,⟨a0,gA,rfl,-⟩,⟨a1,gB,rfl,-⟩,⟨a2,gC,rfl,-⟩⟩:=id hL
       exact (zra hX T _ a0 a1 a2 gA gB gC pb W (aU.out W hk) hL hpc au aP).mono fun e w' ⟨z,h1,h2⟩=>⟨_,h2,zqr rfl h1⟩))
      clear d M N
      go_region
      all_goals
       go_wp2_with fail
       refine ((show Calls _ _ _ _ _ from HF.out)).mono ?_
       intro e y j
       have s:Hid (Xi B pb T tx l v w e y):=Xi.asked (p:=[]) j ag.out (by have:=al.out.1;omega) q.out
       obtain⟨_,u,rfl,-⟩:=j
       go_wp2_with fail
       go_ret
       exact s.out
     ·have V:((m:Int) == 0)=false:=Wf (by omega)
      have aO:(m:Int)≠0:=by omega
      replace G:=G.trans (show decide (p=yK)=false by rw [d];decide)
      replace r:=r.trans (show decide (p=zW)=false by rw [d];decide)
      replace H:=H.trans (show decide (p=yz)=false by rw [d];decide)
      replace I:=I.trans (show decide (p=yx)=false by rw [d];decide)
      replace K:=K.trans (show decide (p=yy)=true by rw [d];decide)
      replace L:=L.trans (show decide (p=yM)=false by rw [d];decide)
      have q:=Z (U.out ZV T tx (by
       rw [Qe (fun h:p=yK/\f.length=0=>absurd (d.symm.trans h.1) (by decide)),Qe (fun h:p=zW/\f.length=7=>absurd (d.symm.trans h.1) (by decide)),Qe (fun h:(p=yz\/p=yx\/p=yy)/\f.length=0=>by have:=S.out;omega),Qe (fun h:p=yM/\f.length=1=>absurd (d.symm.trans h.1) (by decide))];exact⟨rfl,rfl,rfl⟩))
      clear d
      go_region
      all_goals
       go_wp2_with fail
       refine (xM o.drew).mono ?_
       intro e y j
       have s:=Z (aA.out [] q.out e y j)
       obtain⟨u,rfl,-⟩:=j
       go_wp2_with fail
       go_ret
       exact s.out
    ·by_cases M:m=1
     ·have V:((m:Int) == 1)=true:=by rw [M];rfl
      replace G:=G.trans (show decide (p=yK)=false by rw [d];decide)
      replace r:=r.trans (show decide (p=zW)=false by rw [d];decide)
      replace H:=H.trans (show decide (p=yz)=false by rw [d];decide)
      replace I:=I.trans (show decide (p=yx)=false by rw [d];decide)
      replace K:=K.trans (show decide (p=yy)=false by rw [d];decide)
      replace L:=L.trans (show decide (p=yM)=true by rw [d];decide)
      have N:f.length=1:=S.out.trans M
      have q:Hid (∀a,UC T tx yM (nth f 0) a->Z7 T tx l a T tx):=fun a j=>U.out a T tx (by
       rw [Qe (fun h:p=yK/\f.length=0=>absurd (d.symm.trans h.1) (by decide)),Qe (fun h:p=zW/\f.length=7=>absurd (d.symm.trans h.1) (by decide)),Qe (fun h=>by omega),Qf ⟨d,N⟩];exact⟨j,rfl,rfl⟩)
      obtain⟨ng,nc',cN,-,bR,bS,bT⟩:=yC az.out (.inr (by omega))
      injection cN with e7 _ e9
      subst e7
      subst e9
      have cw:=Z (zR az.out ng rfl)
      have bH:=Z bT
      have aJ:=Z (And.intro bR bS)
      have cB:Hid ((f.map (Value.int .i64)).getD 0 (.bool false)=J (nth f 0)):=by show _=_;cases f with
       | nil=>exact absurd N (by decide)
       | cons a b=>rfl
      have bJ:=Z (zh6 bI.out 0 (by omega))
      clear bR bS bT
      have HF:=Z (Uf hP (fv:=.func (.func 40) #[] #[.pointer (pA w.heap.size),.pointer (pA w3.heap.size)]) (R:=zfr (yt tx).1 T yM (nth f 0)) o.drew aj.out aM.out aK.out aE aR.out (by have:=al.out.1;omega) (.inr ⟨_,_,rfl⟩) (fun va W hk hpc hL aB au=>by
       have bz:∀k,w.heap.size<=k->k<o.heap.size->∀i,W.cell? (E k i)=o.cell? (E k i):=fun k h1 h2 i=>xX (hk.block k h2 (fun e=>by have:=bG.out.1;omega) (fun e=>by have:=bG.out.2 k e;omega)) i
       have cY:o.heap.size<=W.heap.size:=hk.size
       have cZ:=ac.out.size;have de:=aD.out.size;have df:=aG.out.size;have cX:=cw.out;have cH:=bH.out.lt
       have cI:(Value.slice (pA ng) m nc)=.slice (pA ng) 1 nc:=by rw [M]
       exact (zn3 hX hE hV hR T _ (nth f 0) va w.heap.size w3.heap.size ng nc pb W (aU.out W hk) hL aB hpc au aP bJ.out.1 bJ.out.2 ((bz _ (Qc _) zw 0).trans h0) ((bz _ (by omega) z8 0).trans (c8.trans (by rw [cI]))) ((bz _ (by omega) cH 0).trans ((bH.out.cell (by omega)).trans (by rw [cB.out]))) ⟨by omega,by omega,by omega⟩ ⟨by have:=aJ.out.1;omega,aJ.out.2⟩).mono fun e w' ⟨ws,h1,h2⟩=>⟨ws,h1,zqt h2⟩))
      clear d M N
      go_region
      all_goals
       go_wp2_with fail
       refine ((show Calls _ _ _ _ _ from HF.out)).mono ?_
       intro e y j
       have s:Hid (Xi B pb T tx l v w e y):=Xi.asked (p:=[]) j ag.out (by have:=al.out.1;omega) q.out
       obtain⟨_,u,rfl,-⟩:=j
       go_wp2_with fail
       go_ret
       exact s.out
     ·have V:((m:Int) == 1)=false:=Wf (by omega)
      have aO:(m:Int)≠1:=by omega
      replace G:=G.trans (show decide (p=yK)=false by rw [d];decide)
      replace r:=r.trans (show decide (p=zW)=false by rw [d];decide)
      replace H:=H.trans (show decide (p=yz)=false by rw [d];decide)
      replace I:=I.trans (show decide (p=yx)=false by rw [d];decide)
      replace K:=K.trans (show decide (p=yy)=false by rw [d];decide)
      replace L:=L.trans (show decide (p=yM)=true by rw [d];decide)
      have q:=Z (U.out ZV T tx (by
       rw [Qe (fun h:p=yK/\f.length=0=>absurd (d.symm.trans h.1) (by decide)),Qe (fun h:p=zW/\f.length=7=>absurd (d.symm.trans h.1) (by decide)),Qe (fun h:(p=yz\/p=yx\/p=yy)/\f.length=0=>by rcases h.1 with e | e | e <;> exact absurd (d.symm.trans e) (by decide)),Qe (fun h:p=yM/\f.length=1=>by have:=S.out;omega)];exact⟨rfl,rfl,rfl⟩))
      clear d
      go_region
      all_goals
       go_wp2_with fail
       refine (xM o.drew).mono ?_
       intro e y j
       have s:=Z (aA.out [] q.out e y j)
       obtain⟨u,rfl,-⟩:=j
       go_wp2_with fail
       go_ret
       exact s.out
    ·replace G:=G.trans (Qk (fun h:p=yK=>d (by simp [h])))
     replace r:=r.trans (Qk (fun h:p=zW=>d (by simp [h])))
     replace H:=H.trans (Qk (fun h:p=yz=>d (by simp [h])))
     replace I:=I.trans (Qk (fun h:p=yx=>d (by simp [h])))
     replace K:=K.trans (Qk (fun h:p=yy=>d (by simp [h])))
     replace L:=L.trans (Qk (fun h:p=yM=>d (by simp [h])))
     have q:=Z (U.out ZV T tx (by
      rw [Qe (fun h:p=yK/\f.length=0=>d (.inl h.1)),Qe (fun h:p=zW/\f.length=7=>d (.inr (.inl h.1))),Qe (fun h:(p=yz\/p=yx\/p=yy)/\f.length=0=>d (.inr (.inr (h.1.elim .inl (fun e=>.inr (e.elim .inl (fun e=>.inr (.inl e)))))))),Qe (fun h:p=yM/\f.length=1=>d (.inr (.inr (.inr (.inr (.inr h.1))))))];exact⟨rfl,rfl,rfl⟩))
     clear d
     go_region
     all_goals
      go_wp2_with fail
      refine (xM o.drew).mono ?_
      intro e y j
      have s:=Z (aA.out [] q.out e y j)
      obtain⟨u,rfl,-⟩:=j
      go_wp2_with fail
      go_ret
      exact s.out
end
section
variable {B pb ob:Nat} {t t':Tg} {tx out tx':List Int} {v vo:Value} {cs:Array Value} {w w':World}
structure Two (B pb ob:Nat) (t:Tg) (tx:List Int) (v:Value) (cs:Array Value) (vo:Value) (out:List Int) (w:World):Prop where
 pl:Pl B pb t tx v w
 bo:BdA B ob 0 43 cs vo out w
 nb:pb≠ob
 ap:∀g,v.ownBlock=some g->vo.ownBlock≠some g
def Two.gE (h:Two B pb ob t tx v cs vo out w) (hb:Bw w w'):Two B pb ob t tx v cs vo out w':=⟨h.pl.gE hb,h.bo.gE hb,h.nb,h.ap⟩
def Two.said {v':Value} (h:Two B pb ob t tx v cs vo out w) (b:Kp pb v v' w w') (d:Pl B pb t' tx' v' w'):Two B pb ob t' tx' v' cs vo out w':=by
 obtain⟨⟨p,c⟩,-⟩:=id h.pl;refine⟨d,h.bo.keep (b.block ob h.bo.lt.1 (Ne.symm h.nb) (zat h.bo.hb c.own (by decide))) (fun g a=>b.block g (h.bo.lt.2 g a).2 (fun e=>zat c.hb h.bo.own (by decide) (e ▸ a)) (fun e=>h.ap g e a)),h.nb,fun g a e=>?_⟩;rcases b.new g a with h1 | h1
 ·exact h.ap g h1 e
 have:=(h.bo.lt.2 g e).2;omega
def Two.put {a:List Int} {b:Value} {d:Array Value} (h:Two B pb ob t tx v cs vo out w) (i:Kp ob vo b w w') (hb:BdA B ob 0 43 d b a w'):Two B pb ob t tx v d b a w':=by
 obtain⟨⟨p,f⟩,-⟩:=id h.pl;refine⟨h.pl.keep (i.block pb f.lt.1 h.nb (zat f.hb h.bo.own (by decide))) (fun g c=>i.block g (f.lt.2 g c).2 (fun e=>zat h.bo.hb f.own (by decide) (e ▸ c)) (h.ap g c)),hb,h.nb,fun g c e=>?_⟩;rcases i.new g e with h1 | h1
 ·exact h.ap g c h1
 have:=(f.lt.2 g c).2;omega
def ybl {u:Value} {ws:List (List Int)} (w:World) (h:Xq w B u ws) (n:(yD 32 ws).length<=10000) :
  Calls prog 14 #[u,.string (ByteArray.mk #[32])] w (Rt w (.string (strOfNums (yD 32 ws)))):=by
 obtain⟨g,c,rfl,h1,l,d,f⟩:=zkh h;have i:∀ws:List (List Int),ws.length<=(yD 32 ws).length+1:=fun ws=>by
  induction ws with
  | nil=>exact Ql _
  | cons p k ih=>cases k with
    | nil=>show 1<=_;omega
    | cons q qs=>show _<=(p++32 :: yD 32 (q :: qs)).length+1;simp only [Qt,Q5] at ih ⊢;omega
 have m:=i ws;have h:=Tryz.strings_Join g 0 c (ws.map strOfNums) (strOfNums [32]) w (fun j x b=>by
  rw [Wc] at b;obtain⟨p,a,rfl⟩:=WT.1 b;rw [QO,f j (qx.1 a).1,Qw,a];rfl) d (by rw [Q9];omega) (by rw [Q9];omega) (by
  rw [E2,show ((fun x:ByteArray=>x.data.toList) ∘ strOfNums)=b8 from funext yP,yP,zue,UE];omega)
 rw [E2,show ((fun x:ByteArray=>x.data.toList) ∘ strOfNums)=b8 from funext yP,yP,zue,Q9] at h;exact h
def zy8 {f:Tg} {c l a:List Int} {R d:List (List Int)} {k:Nat} (j:k<60) (h:∀b,Ya t tx ((l :: R).take (60 - k)) b->Ya f c d (out++b)) (g:Z7 t tx l a t' tx'):∀b,Ya t' tx' (R.take (60 - (k+1))) b->Ya f c d ((out++a)++[10]++b):=fun b i=>by
 rw [show 60 - k=60 - (k+1)+1 by omega] at h
 have:=h (a++10 :: b) ⟨a,t',tx',b,g,i,rfl⟩
 simp_all
def zsy {s:List Int} (hs:By s) (hn:s≠[]):∃l rest,Vh (zx 10 s)=l :: Vh (zx 10 rest)/\By l/\By rest/\l.length+rest.length<=s.length/\l.length<=s.length/\((zx 10 s=[s]/\l=s/\rest=[])\/∃q qs,zx 10 s=l :: q :: qs/\rest=s.drop (l.length+1)):=by
 match hsp:zx 10 s with
 | []=>exact absurd hsp (xQ 10 s)
 | [p] =>have i:=VQ hsp;subst i;exact⟨p,[],by grind [zzf],hs,fun c g=>(by cases g),by simp,Qc _,.inl ⟨rfl,rfl,rfl⟩⟩
 | p :: q :: qs =>
  obtain⟨-,h1,f⟩:=YE (x:=10) (by omega) hs hsp;have h:p.length<=s.length:=by grind
  have b:=ZH 10 s;rw [hsp] at b;have d:=congrArg List.length (show p++10 :: yD 10 (q :: qs)=s from b);simp only [Qt,Q5] at d;refine⟨p,s.drop (p.length+1),?_,h1 ▸ zfd hs _,zfc hs _,?_,h,.inr ⟨q,qs,rfl,rfl⟩⟩
  ·rw [f];exact zi0 (a:=[p]) (by simp)
  rw [qL];omega
def zy9 (hP:zlm) (hG:Zj) (hO:zbu) (hX:VX) (hE:zb8) (hV:zba) (hR:zj1):ya5:=fun s w hv hs hl=>by
 have bM:=hv.size
 have HV:=Z hv
 obtain⟨X,z⟩:∃X,(w.alloc (.cells #[J 2,J 1,J 1,J 1,J 3,J 2,J 32,.pointer none,.slice none 0 0] 45)).alloc (.cells #[.pointer none,.slice none 0 0] 43)=X:=⟨_,rfl⟩
 have aX:Hid (Bw w X):=by show Below _ _ _;rw [<-z];exact QB _ _ _
 have aV:Hid (Two w.heap.size w.heap.size (w.heap.size+1) t0D [] (.slice none 0 0) #[.pointer none,.slice none 0 0] (.slice none 0 0) [] X):=by
  refine⟨⟨⟨.pointer none,⟨.inl ⟨rfl,rfl,rfl⟩,?_,Qc _,.inl rfl,rfl,⟨rfl,.inl ⟨rfl,rfl⟩⟩⟩⟩,fun _=>rfl⟩,⟨.inr ⟨rfl,rfl,rfl⟩,?_,Ep _,.inl rfl,rfl,⟨rfl,.inl ⟨rfl,rfl⟩⟩⟩,by omega,fun g o=>(by cases o)⟩
  ·rw [<-z,Qr _ _ _ (by simp)];exact zm _ _ _
  ·rw [<-z,<-World.size_alloc];exact zm _ _ _
 have j:zS t0D=true:=by decide
 have bE:=Z hs
 have HX:=Z z
 clear hv z hs
 go_enter func7,ntmps7
 go_wp2_with fail
 rw [HX]
 clear HX
 go_loopw [0,14] (fun sv iv wr=>∃(k:Nat) (f tx out:List Int) (t:Tg) (v vo:Value) (cs:Array Value),k<=60/\sv=.string (strOfNums f)/\iv=J k/\Two w.heap.size w.heap.size (w.heap.size+1) t tx v cs vo out wr/\(out=[]->vo=.slice none 0 0)/\Bw w wr/\zS t=true/\By tx/\By f/\tx.length+f.length<=1100000/\out.length<=10001*k/\∀m,Ya t tx ((Vh (zx 10 f)).take (60 - k)) m->Ya t0D [] (zgu s) (out++m)) (fun _ iv _=>60 - (intOf iv).toNat)
 case atStart=>exact⟨0,s,[],[],t0D,_,_,_,Ql _,rfl,rfl,aV,fun _=>rfl,aX,j,fun c O=>(by cases O),bE,by simpa using hl,Ql _,fun m h=>h⟩
 case round =>
  clear aV aX j
  obtain⟨k,f,tx,out,t,v,vo,cs,hk,rfl,rfl,n,H,hb,j,N,i,hlen,I,C⟩:=hrel
  have HT:=Z n
  have HB:=Z hb
  have HP:=Z C
  have aU:=Z j
  have aT:=Z N
  have bO:=Z i
  have U:=Z hlen
  have V:=Z I
  have aW:=Z (HV.on hb)
  have bz:=hb.size
  have x:Hid ((f=[]\/k=60)->Calls prog 17 #[.pointer (pA (w.heap.size+1))] wr fun e w'=>e=.returned (.string (strOfNums out))/\Vx s out/\out.length<=600060/\Bw w w'):=fun D=>by
   refine (zv4 wr n.bo H (by omega)).mono fun e w' ⟨h1,_,h3,_⟩=>⟨h1,?_,by omega,hb.trans (h3.gE n.bo.hB (fun g o=>(n.bo.lt.2 g o).1) bz)⟩
   have:=C [] (by
    rcases D with D | D
    ·rw [D,yej];show Ya t tx (([]:List (List Int)).take _) [];rw [List.take_nil];rfl
    ·rw [D];show Ya t tx ((Vh (zx 10 f)).take 0) [];rfl)
   rw [WJ] at this
   exact this
  have bf:=zl1 f
  by_cases F:k<60
  ·have bP:(k:Int)<60:=by omega
   by_cases d:f=[]
   ·rw [Qi d] at bf
    have R:=Z (x (.inl d))
    clear n H hb C j N i hlen I d x
    go_wp2_with fail
    refine R.mono ?_
    rintro e y ⟨rfl,G,B,A⟩
    have W:=Z G
    have p:=Z A
    have T:=Z B
    clear G A B
    go_wp2_with fail
    go_ret
    exact⟨out,rfl,W,T,p⟩
   ·rw [Qk d] at bf
    obtain⟨l,rest,bj,aY,aZ,bg,bQ,ai⟩:=zsy i d
    have bK:=Z bj
    have aS:=Z aY
    have bD:=Z aZ
    have bG:=Z bg
    have af:Hid (∃b,Calls prog 12 #[.string (strOfNums f),.string (ByteArray.mk #[10])] wr (Rt wr (.tuple #[.string (strOfNums l),.string (strOfNums rest),.bool b]))):=by
     rcases ai with ⟨h1,rfl,rfl⟩ | ⟨q,qs,h1,rfl⟩
     ·exact⟨false,zg9 _ 10 _ rfl wr aW i (by omega) (by omega) h1⟩
     ·exact⟨true,zga _ 10 _ rfl wr aW i (by omega) (by omega) h1⟩
    obtain⟨bb,O⟩:=af.out
    have HC:=Z O
    clear n H hb C j N i hlen I d x af O ai bj aY aZ bg
    go_wp2_with fail
    refine HC.mono ?_
    rintro e w1 ⟨rfl,aL⟩
    have L:=Z (HT.gE aL)
    have K:=Z (HB.trans (aL.mono bz))
    obtain⟨p0,p1,p2,q0,q1,q2,r⟩:=t
    have HA:=Z (zqo hP hG hO hX hE hV hR ⟨p0,p1,p2,q0,q1,q2,r⟩ l w1 L.pl (HV.on K) K.size bM aT (by have:=U.out;omega) aS.out (by have:=U.out;omega) aU)
    clear aL
    go_wp2_with fail
    refine HA.mono ?_
    rintro e w2 ⟨u,ws,t',tx',v',rfl,hu,bh,aO,aN,aR⟩
    have bI:=Z (L.said aO bh)
    have p:=Z (K.out.trans (aO.gE L.out.pl.ge.1 L.out.pl.ge.2 K.out.size))
    have HJ:=Z (ybl w2 hu aN)
    have bF:=Z (zrz aR aU.out aT.out aS.out)
    have bH:=Z (zy8 F (by have h:=HP.out;rw [bK.out] at h;exact h) aR)
    have S:=Z aN
    clear hu bh aO aN aR
    generalize yD 32 ws=a at *
    go_wp2_with fail
    refine HJ.out.mono ?_
    rintro e w3 ⟨rfl,aM⟩
    have M:=Z (bI.out.gE aM)
    have P:=Z (p.out.trans (aM.mono p.out.size))
    have HW:=Z (yev a w3 M.out.bo P.out.size (by have:=V.out;omega) (by have:=S.out;omega))
    clear aM
    go_wp2_with fail
    refine HW.out.mono ?_
    rintro e w4 ⟨rfl,vo1,h4,aP⟩
    have Q:=Z (P.out.trans (aP.gE M.out.bo.hB (fun g o=>(M.out.bo.lt.2 g o).1) P.out.size))
    have aK:=Z (M.out.put aP h4)
    have bL:=Z (yeu w4 h4 Q.out.size (by have:=V.out;have:=S.out;simp;omega))
    clear h4 aP
    go_wp2_with fail
    refine bL.out.mono ?_
    rintro e w5 ⟨rfl,vo2,h5,aQ⟩
    have bC:=Z (Q.out.trans (aQ.gE aK.out.bo.hB (fun g o=>(aK.out.bo.lt.2 g o).1) Q.out.size))
    have bJ:=Z (aK.out.put aQ h5)
    clear h5 aQ
    go_wp2_with fail
    go_roundw
    case rel =>
     obtain⟨m1,m2,m3⟩:=bF.out
     exact⟨k+1,rest,tx',(out++a)++[10],t',_,_,_,by omega,rfl,by go_num,bJ.out,fun h=>absurd h (by simp),bC.out,m1,m2,bD.out,by have:=U.out;have:=bG.out;omega,by have:=V.out;have:=S.out;simp;omega,bH.out⟩
    case measure=>simp [intOf];omega
  ·have e:k=60:=by omega
   subst e
   have R:=Z (x (.inr rfl))
   clear n H hb C j N i hlen I x
   go_wp2_with fail
   refine R.mono ?_
   rintro e y ⟨rfl,G,B,A⟩
   have W:=Z G
   have p:=Z A
   have T:=Z B
   clear G A B
   go_wp2
   go_ret
   exact⟨out,rfl,W,T,p⟩
end
end Go.Proofs.YtjlfcbccpcigeacGreatDoor
