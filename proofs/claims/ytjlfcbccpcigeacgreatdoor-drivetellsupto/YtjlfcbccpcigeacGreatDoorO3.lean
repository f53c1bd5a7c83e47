import Derived.Test.YtjlfcbccpcigeacGreatDoorO2
set_option maxHeartbeats 40000000
set_option linter.defProp false
namespace Go.Proofs.YtjlfcbccpcigeacGreatDoor
open Go.Proofs.Tryz Go.RowKit Go.Joins
set_option linter.unusedVariables false
set_option linter.unusedSimpArgs false
set_option maxRecDepth 8192
section
variable {s:Li} {k:Nat}
def Vv (base sz lim:Nat) (e:TypeId) (v:vO) (n:Nat) (xs ys:List vO) (w:wO) (en:Ending) (w':wO):Prop :=
 (lim<n/\en=.returned v/\Bw w w')\/(n<=lim/\∃g cap wm,en=.returned (.slice (pA g) (n+1) cap)/\Bw w wm/\w'.ownsRow base e sz (.slice (pA g) (n+1) cap) (n+1) (xs++ys)/\wm.grownBy w' v.ownBlock/\(v.ownBlock=some g\/g=wm.heap.size))
def CG (base n b:Nat) (a:Option Addr) (c:Nat) (f:List vO) (x:Int) (w:wO) (d:w.ownsRow base 3 1 (.slice a n c) n f) (hb:base<=w.heap.size) (hn:n<=20) (B:b<=16) :
  Cp 124 #[.slice a n c,J x,J b] w (Vv base 1 b 3 (.slice a n c) n f [J x] w):=by
 obtain⟨z,hi,v,s,t⟩:=info_parts Tryz.iintP;by_cases h:b<n
 ·have y:(b:Int)<(n:Int):=by omega
  have g:Hid (Vv base 1 b 3 (.slice a n c) n f [J x] w (.returned (.slice a n c)) w):=.inl ⟨h,rfl,QA _ _⟩;clear d;go_enter func124,ntmps124;go_wp2;go_ret;exact g
 have y:¬(b:Int)<(n:Int):=by omega
 have p:=Z (zp d (Qd w (Ia x 3)));have r:=Z (Qd w (Ia x 3));have q:=Z (show n<=b by omega);clear d;go_enter func124,ntmps124;go_wp2_with (at_builtin;refine wpList_append_lies _ rfl (.tmp 12) (.tmp 14) 34 rfl base 3 z (J 0) 1 8 underlying34 hi v s t rfl (by decide) _ n f rfl p (E w.z 0) 1 1 [J x] rfl rfl (World.news_of_block (rp w #[J x] 3)) (by intro u o;simp at o;subst o;rfl) (by decide) (by unfold maxLen;omega) (by omega) (by simp;omega) _ rfl ?_);intro l k A d m j i;have g:Hid (Vv base 1 b 3 (.slice a n c) n f [J x] w (.returned (vP l (n+1) k)) A):=.inr ⟨q,l,k,_,rfl,r,d,m,j.imp id fun h=>h.t (by simp)⟩;clear d m j i;go_wp2;go_ret;exact g
def yX (x1:wO) (y:Nat) (R:Option Lp) (e:Ending) (w':wO):Prop :=
 (R=none/\e=.returned (.bool false)/\Below y x1 w')\/∃L lv bv ov nl nb no,R=some L/\e=.returned (.bool true)/\ds x1 y lv bv ov nl nb no (Z0 L).l (Z0 L).b (Z0 L).o w'
def ds.same {g wr:wO} {y:Nat} {lv a b:vO} {nl nb no:Nat} {d f:Li} {c:List St} (h:ds g y lv a b nl nb no d c f wr):ds g y lv a b nl nb no d c f (wr.setCell (E y 0) lv)/\ds g y lv a b nl nb no d c f (wr.setCell (E y 1) a)/\ds g y lv a b nl nb no d c f (wr.setCell (E y 2) b):=by refine⟨⟨h.bel.setCell (Qc _) _,?_,zX h.ol_ (QF _),zX h.ob (QF _),zX h.oo (QF _),h.alb,h.alo,h.abo⟩,⟨h.bel.setCell (Qc _) _,?_,zX h.ol_ (QF _),zX h.ob (QF _),zX h.oo (QF _),h.alb,h.alo,h.abo⟩,⟨h.bel.setCell (Qc _) _,?_,zX h.ol_ (QF _),zX h.ob (QF _),zX h.oo (QF _),h.alb,h.alo,h.abo⟩⟩ <;> simp [World.setCell,QC,h.blk]
def CH (h:false=(zT s k).isSome):zT s k=none:=by
 simp_all
def CJ {v:Int} (h:true=(zT s k).isSome) (a:∀r,zT s k=some r->v=r):zT s k=some v:=by
 grind [zT]
def Ow (f:wO) (y nl nb no:Nat) (r ba oa:Option Addr) (s bc oc:Nat) (L:Lp) (ws:List Li) (b n cap:Nat) (w:wO) (Q:xq w) (A:ds f y (.slice r nl s) (.slice ba nb bc) (.slice oa no oc) nl nb no (Z0 L).l (Z0 L).b (Z0 L).o w) (hs:ZP w b 0 n ws) (S:Zk ws) (aj:n<=cap) (aE:cap<=9223372036854775807) :
  Cp 74 #[.pointer (pA y),.slice (pA b) n cap] w (yX f y (if n=2/\L.b.length+L.o.length=0 then (zT (ws.getD 1 []) 18).map (fun v=>{ L with l:=L.l++[v] }) else none)):=by
 have aL:=Z (UU ws b n cap w Q hs S aj aE);have W:=Z A;obtain⟨x,N,O⟩:=A.nums;have aX:nl<=20:=by rw [x];show (L.l.take 4).length<=20;rw [Wh];omega
 have G:Hid (nb=0↔L.b.length=0):=by show _↔_;rw [N];exact tD _ _
 have F:Hid (no=0↔L.o.length=0):=by show _↔_;rw [O];exact tD _ _
 have M:=Z x;generalize ws.getD 1 []=p1 at *
 obtain⟨R,hR⟩:∃R,(if n=2/\L.b.length+L.o.length=0 then (zT p1 18).map (fun v=>{ L with l:=L.l++[v] }) else none)=R:=⟨_,rfl⟩;rw [hR];have p:=Z hR;clear Q hs S A x N O hR;go_enter func74,ntmps74;go_wp2_with fail;refine aL.m ?_;rintro e w1 ⟨v,ok,rfl,D,i,lo,hi,B⟩;have c:=Z (W.gE B);obtain⟨T,U,V⟩:=c.cells;have aP:=c.lt;cases ok with
 | false =>
  have a:Hid (yX f y R (.returned (.bool false)) w1):=.inl ⟨by
   rw [<-p];by_cases d:n=2/\L.b.length+L.o.length=0
   ·rw [Qf d,CH (i d.1).1];rfl
   rw [Qe d],rfl,c.bel⟩
  clear D i B;go_wp2;go_ret;exact a
 | true =>
  have q:n=2:=by
   by_cases d:n=2
   ·exact d
   simp_all
  have aS:=Z (CJ (i q).1 (i q).2);have aR:=Z q;clear D i B q;by_cases j:nb=0
  ·by_cases t:no=0
   ·have C:Hid (R=some { L with l:=L.l++[v] }):=(by show _=_;rw [<-p,Qf ⟨aR,by rw [G.1 j,F.1 t]⟩,aS];rfl);subst j;subst t;go_wp2_with fail;refine (CG (y+1) nl 3 r s _ v _ c.ol_ oM aX oM).m ?_;rintro e w2 (⟨ae,rfl,u⟩ | ⟨ae,g,gC,wm,rfl,I,P,z,H⟩)
    ·have k:=Z (c.gE u);have fz:w2.frozen? (E y 0)=false:=(qZ k.blk);have yc:=k.cells.1;have aF:=k.lt;have a:Hid (yX f y R (.returned (.bool true)) (w2.st y 0 (.slice r nl s))):=.inr ⟨_,_,_,_,_,_,_,C,rfl,by have h:=k.same.1;have e:(Z0 { L with l:=L.l++[v] }).l=(Z0 L).l:=(by show (L.l++[v]).take 4=L.l.take 4;rw [Xo,Qf (by have h9:nl=(L.l.take (3+1)).length:=M;omega)]);rw [e];exact h⟩;clear u T U V;go_wp2;go_ret;exact a
    have K:=Z (c.gE I);obtain⟨m,aD⟩:=K.grow_l z;have X:=Z (K.push_l P z H rfl);have fz:w2.frozen? (E y 0)=false:=(qZ m);have yc:w2.cell? (E y 0)=some (.slice r nl s):=(by rw [Qa m];rfl);have aG:y<w2.z:=(Qb.1 m).1;have a:Hid (yX f y R (.returned (.bool true)) (w2.st y 0 (vP g (nl+1) gC))):=.inr ⟨_,_,_,_,_,_,_,C,rfl,by have h:=X;have e:(Z0 { L with l:=L.l++[v] }).l=(Z0 L).l++[v]:=(by show (L.l++[v]).take 4=L.l.take 4++[v];rw [Xo,Qe (by have h9:nl=(L.l.take (3+1)).length:=M;omega)]);rw [e];exact h⟩;clear P z H m aD I T U V;go_wp2;go_ret;exact a
   have a:Hid (yX f y R (.returned (.bool false)) w1):=.inl ⟨by rw [<-p,Qe fun d=>t (F.2 oM)],rfl,c.bel⟩;have aZ:(0:Int)<(no:Int):=(by omega);have bf:0<no:=(by omega);subst j;go_wp2;go_ret;exact a
  have a:Hid (yX f y R (.returned (.bool false)) w1):=.inl ⟨by rw [<-p,Qe fun d=>j (G.2 oM)],rfl,c.bel⟩;have bE:(0:Int)<(nb:Int):=oM
  have u:0<nb:=oM
  go_wp2;go_ret;exact a
def Ox (i:wO) (y nl nb no:Nat) (la ba p:Option Addr) (lc bc q:Nat) (L:Lp) (ws:List Li) (b n cap:Nat) (w:wO) (I:xq w) (u:ds i y (.slice la nl lc) (.slice ba nb bc) (.slice p no q) nl nb no (Z0 L).l (Z0 L).b (Z0 L).o w) (hs:ZP w b 0 n ws) (K:Zk ws) (X:n<=cap) (T:cap<=9223372036854775807) :
  Cp 75 #[.pointer (pA y),.slice (pA b) n cap] w (yX i y (if n=2 then (zT (ws.getD 1 []) 18).map (fun v=>{ L with o:=L.o++[v] }) else none)):=by
 have U:=Z (UU ws b n cap w I hs K X T);have P:=Z u;obtain⟨e1,e2,s⟩:=u.nums;have V:no<=20:=by rw [s];show (L.o.take 17).length<=20;rw [Wh];omega
 have G:=Z s;generalize ws.getD 1 []=p1 at *
 obtain⟨R,hR⟩:∃R,(if n=2 then (zT p1 18).map (fun v=>{ L with o:=L.o++[v] }) else none)=R:=⟨_,rfl⟩;rw [hR];have B:=Z hR;clear I hs K u e1 e2 s hR;go_enter func75,ntmps75;go_wp2_with fail;refine U.m ?_;rintro e w1 ⟨v,ok,rfl,r,f,lo,hi,x⟩;have a:=Z (P.gE x);obtain⟨M,N,O⟩:=a.cells;have aP:=a.lt;cases ok with
 | false =>
  have d:Hid (yX i y R (.returned (.bool false)) w1):=.inl ⟨by
   rw [<-B];by_cases c:n=2
   ·rw [Qf c,CH (f c).1];rfl
   rw [Qe c],rfl,a.bel⟩
  clear r f x;go_wp2;go_ret;exact d
 | true =>
  have m:n=2:=by
   by_cases c:n=2
   ·exact c
   have:=r c;cases this
  have z:Hid (R=some { L with o:=L.o++[v] }):=by show _=_;rw [<-B,Qf m,CJ (f m).1 (f m).2];rfl
  clear r f x m;go_wp2_with fail;refine (CG (y+1) no 16 p q _ v _ a.oo oM V oM).m ?_;rintro e w2 (⟨W,rfl,C⟩ | ⟨W,g,gC,wm,rfl,D,H,t,A⟩)
  ·have j:=Z (a.gE C);have fz:w2.frozen? (E y 2)=false:=(qZ j.blk);have yc:=j.cells.2.2;have aF:=j.lt;have d:Hid (yX i y R (.returned (.bool true)) (w2.st y 2 (.slice p no q))):=.inr ⟨_,_,_,_,_,_,_,z,rfl,by have h:=j.same.2.2;have e:(Z0 { L with o:=L.o++[v] }).o=(Z0 L).o:=(by show (L.o++[v]).take 17=L.o.take 17;rw [Xo,Qf (by have h9:no=(L.o.take (16+1)).length:=G;omega)]);rw [e];exact h⟩;clear C M N O;go_wp2;go_ret;exact d
  have F:=Z (a.gE D);obtain⟨k,S⟩:=F.grow_o t;have Q:=Z (F.push_o H t A rfl);have fz:w2.frozen? (E y 2)=false:=qZ k
  have yc:w2.cell? (E y 2)=some (.slice p no q):=by rw [Qa k];rfl
  have aG:y<w2.z:=(Qb.1 k).1;have d:Hid (yX i y R (.returned (.bool true)) (w2.st y 2 (vP g (no+1) gC))):=.inr ⟨_,_,_,_,_,_,_,z,rfl,by have h:=Q;have e:(Z0 { L with o:=L.o++[v] }).o=(Z0 L).o++[v]:=(by show (L.o++[v]).take 17=L.o.take 17++[v];rw [Xo,Qe (by have h9:no=(L.o.take (16+1)).length:=G;omega)]);rw [e];exact h⟩;clear H t A k S D M N O;go_wp2;go_ret;exact d
def Oy (base n b:Nat) (a:Option Addr) (c:Nat) (f:List vO) (v:St) (w:wO) (d:w.ownsRow base 144 9 (.slice a n c) n f) (hb:base<=w.heap.size) (hn:n<=20) (C:b<=16) :
  Cp 126 #[.slice a n c,.agg #[J v.o,J v.xa,J v.xb,J v.ya,J v.yb,J v.ar,J v.sp,J v.pl,J v.nn],J b] w (Vv base 9 b 144 (.slice a n c) n f (zG v).toList w):=by
 obtain⟨A,y,t,u,x⟩:=info_parts Tryz.istP;by_cases h:b<n
 ·have z:(b:Int)<(n:Int):=by omega
  have g:Hid (Vv base 9 b 144 (.slice a n c) n f (zG v).toList w (.returned (.slice a n c)) (w.alloc (Ii v.o v.xa v.xb v.ya v.yb v.ar v.sp v.pl v.nn 144))):=.inl ⟨h,rfl,Qd _ _⟩;clear d;go_enter func126,ntmps126;go_wp2;go_ret;exact g
 have z:¬(b:Int)<(n:Int):=by omega
 have p:=Z (zp d (D4 w v));have r:=Z (D4 w v);have s:=Z (R1 w v);have q:=Z (show n<=b by omega);clear d;go_enter func126,ntmps126;go_wp2_with (at_builtin;refine wpList_append_lies _ rfl (.tmp 12) (.tmp 14) 60 rfl base 144 A (.agg #[J 0,J 0,J 0,J 0,J 0,J 0,J 0,J 0,J 0]) 9 72 underlying60 y t u x rfl (by decide) _ n f rfl p (E (w.z+1) 0) 1 1 (zG v).toList rfl rfl s (R0 v) (by decide) (by unfold maxLen;omega) (by omega) (by simp;omega) _ rfl ?_);intro l k B d m j i;have g:Hid (Vv base 9 b 144 (.slice a n c) n f (zG v).toList w (.returned (vP l (n+1) k)) B):=.inr ⟨q,l,k,_,rfl,r,d,m,j.imp id fun h=>h.t (by simp)⟩;clear d m j i;go_wp2;go_ret;exact g
def Oz (j:wO) (y nl nb no:Nat) (la p oa:Option Addr) (lc bc oc:Nat) (L:Lp) (ws:List Li) (b m cap:Nat) (w:wO) (U:xq w) (I:ds j y (.slice la nl lc) (.slice p nb bc) (.slice oa no oc) nl nb no (Z0 L).l (Z0 L).b (Z0 L).o w) (hs:ZP w b 0 (m+1) ws) (V:Zk ws) (aj:m+1<=cap) (aE:cap<=9223372036854775807) :
  Cp 76 #[.pointer (pA y),.slice (pA b) (m+1) cap] w (yX j y (if L.o.length=0 then (gK ws).map (fun s=>{ L with b:=L.b++[s] }) else none)):=by
 have aU:Hid (Cp 125 #[vP b (m+1) cap] w (RZ ws w)):=Q2 ws b m cap w U hs V aj aE;have q:=Z I;obtain⟨e1,H,S⟩:=I.nums;have aW:nb<=20:=by rw [H];show (L.b.take 17).length<=20;rw [Wh];omega
 have N:Hid (no=0↔L.o.length=0):=by show _↔_;rw [S];exact tD _ _
 have Q:=Z H;obtain⟨R,hR⟩:∃R,(if L.o.length=0 then (gK ws).map (fun s=>{ L with b:=L.b++[s] }) else none)=R:=⟨_,rfl⟩;rw [hR];have D:=Z hR;clear U hs V I e1 H S hR;go_enter func76,ntmps76;go_wp2_with fail;refine aU.m ?_;rintro e w1 ⟨v,ok,rfl,t,B,i⟩;have C:=Z ((q.gE i).gE (R2 w1 v));have aQ:=Z (q.gE i);obtain⟨z0,z1,z2⟩:=(q.gE i).cells;have aP:=(q.gE i).lt;cases ok with
 | false =>have f:Hid (yX j y R (.returned (.bool false)) (w1.alloc (Ii v.o v.xa v.xb v.ya v.yb v.ar v.sp v.pl v.nn 144))):=.inl ⟨by rw [<-D,RX t];split <;> rfl,rfl,C.bel⟩;clear t B i;go_wp2;go_ret;exact f
 | true =>
  have aV:=Z (RY t B);clear t B i;by_cases z:no=0
  ·have M:Hid (R=some { L with b:=L.b++[v] }):=(by show _=_;rw [<-D,Qf (N.1 z),aV];rfl);have HZ:Hid ((w1.alloc (Ii v.o v.xa v.xb v.ya v.yb v.ar v.sp v.pl v.nn 144)).heap.size=w1.heap.size+1):=(by show _=_;simp);have A:Hid (∀w':wO,w'.heap[w1.heap.size]?=some (Ii v.o v.xa v.xb v.ya v.yb v.ar v.sp v.pl v.nn 144)->w'.cell? (E w1.heap.size 0)=Y v.o/\w'.cell? (E w1.heap.size 1)=Y v.xa/\w'.cell? (E w1.heap.size 2)=Y v.xb/\w'.cell? (E w1.heap.size 3)=Y v.ya/\w'.cell? (E w1.heap.size 4)=Y v.yb/\w'.cell? (E w1.heap.size 5)=Y v.ar/\w'.cell? (E w1.heap.size 6)=Y v.sp/\w'.cell? (E w1.heap.size 7)=Y v.pl/\w'.cell? (E w1.heap.size 8)=Y v.nn):=fun y hb=>by refine⟨?_,?_,?_,?_,?_,?_,?_,?_,?_⟩ <;> (rw [Qa hb];rfl)
   subst z;go_wp2;clear z0 z1 z2;have r:=Z (C.gE (zL (w1.alloc (Ii v.o v.xa v.xb v.ya v.yb v.ar v.sp v.pl v.nn 144)).heap.size (w1.alloc (Ii v.o v.xa v.xb v.ya v.yb v.ar v.sp v.pl v.nn 144))));refine rg 11 (fun w'=>w'.c y 1=some (.slice p nb bc)/\w'.c w1.heap.size 0=Y v.o/\w'.c w1.heap.size 1=Y v.xa/\w'.c w1.heap.size 2=Y v.xb/\w'.c w1.heap.size 3=Y v.ya/\w'.c w1.heap.size 4=Y v.yb/\w'.c w1.heap.size 5=Y v.ar/\w'.c w1.heap.size 6=Y v.sp/\w'.c w1.heap.size 7=Y v.pl/\w'.c w1.heap.size 8=Y v.nn) ⟨r.cells.2.1,A _ (zm w1 _ _)⟩ fun d=>?_;refine aq 0 ?_;refine aq 2 ?_;refine aq 4 ?_;refine uk 6 ?_;refine uo 7 fun K a=>?_;go_simp;refine (Oy (y+1) nb 16 p bc _ v _ r.ob (by show _<=(w1.alloc (Ii v.o v.xa v.xb v.ya v.yb v.ar v.sp v.pl v.nn 144)).heap.size;rw [HZ];omega) aW oM).m ?_;rintro e w2 (⟨ae,rfl,F⟩ | ⟨ae,g,gC,wm,rfl,G,T,x,O⟩)
   ·have k:=Z (r.gE F);have n:=(F.block w1.heap.size sM).t (zm w1 _ _);have c:=And.intro k.cells.2.1 (A _ n);refine bq a.o (.inr c) ?_;clear a K;refine uo 8 fun K a=>?_;go_simp;refine bq a.o (.inr c) ?_;clear a K;refine uo 9 fun K a=>?_;go_simp;refine bq a.o (.inr c) ?_;clear a K;refine uo 10 fun K a=>?_;go_simp;refine bq a.o (.inr c) ?_;clear a K;have fz:w2.frozen? (E y 1)=false:=(qZ k.blk);have W:=k.cells.2.1;have aF:=k.lt;have f:Hid (yX j y R (.returned (.bool true)) (w2.st y 1 (.slice p nb bc))):=.inr ⟨_,_,_,_,_,_,_,M,rfl,by have h:=k.same.2.1;have e:(Z0 { L with b:=L.b++[v] }).b=(Z0 L).b:=(by show (L.b++[v]).take 17=L.b.take 17;rw [Xo,Qf (by have h9:nb=(L.b.take (16+1)).length:=Q;omega)]);rw [e];exact h⟩;clear F n c d;refine uo 11 fun K a=>?_;go_simp;refine bq a.o (.inl rfl) ?_;clear a K;refine rd ?_;go_wp2;go_ret;exact f
   have P:=Z (r.gE G);obtain⟨u,aD⟩:=P.grow_b x;have X:=Z (P.push_b T x O rfl);have fz:w2.frozen? (E y 1)=false:=(qZ u);have W:w2.c y 1=some (.slice p nb bc):=(cb u);have aG:y<w2.heap.size:=(lo u);have n:w2.heap[w1.heap.size]?=some (Ii v.o v.xa v.xb v.ya v.yb v.ar v.sp v.pl v.nn 144):=(by have h1:=(G.block w1.heap.size sM).t (zm w1 _ _);rw [x.block w1.heap.size (lo h1) (fun e=>by have:=XJ aQ.ob _ e.s;omega)];exact h1);have c:=And.intro W (A _ n);have f:Hid (yX j y R (.returned (.bool true)) (w2.st y 1 (vP g (nb+1) gC))):=.inr ⟨_,_,_,_,_,_,_,M,rfl,by have h:=X;have e:(Z0 { L with b:=L.b++[v] }).b=(Z0 L).b++[v]:=(by show (L.b++[v]).take 17=L.b.take 17++[v];rw [Xo,Qe (by have h9:nb=(L.b.take (16+1)).length:=Q;omega)]);rw [e];exact h⟩;refine bq a.o (.inr c) ?_;clear a K;refine uo 8 fun K a=>?_;go_simp;refine bq a.o (.inr c) ?_;clear a K;refine uo 9 fun K a=>?_;go_simp;refine bq a.o (.inr c) ?_;clear a K;refine uo 10 fun K a=>?_;go_simp;refine bq a.o (.inr c) ?_;clear a K;clear T x O u aD G n c d;refine uo 11 fun K a=>?_;go_simp;refine bq a.o (.inl rfl) ?_;clear a K;refine rd ?_;go_wp2;go_ret;exact f
  have f:Hid (yX j y R (.returned (.bool false)) (w1.alloc (Ii v.o v.xa v.xb v.ya v.yb v.ar v.sp v.pl v.nn 144))):=.inl ⟨by rw [<-D,Qe fun hc=>z (N.2 hc)],rfl,C.bel⟩;have aZ:(0:Int)<(no:Int):=oM
  have bf:0<no:=oM
  go_wp2;go_ret;exact f
end
def MG {a:List ByteArray} {W:List Li} (h:a.map (·.data.toList)=W.map b8):a=W.map strOfNums:=by
 have c:=congrArg (List.map fun l:List UInt8=>(⟨l.toArray⟩:ByteArray)) h;rw [E2,E2] at c;have d:((fun l:List UInt8=>(⟨l.toArray⟩:ByteArray)) ∘ fun x:ByteArray=>x.data.toList)=id:=by funext b;rfl
 have f:((fun l:List UInt8=>(⟨l.toArray⟩:ByteArray)) ∘ b8)=strOfNums:=by funext p;rfl
 simp_all
def MH (x:Int) (s:Li) (n:Nat) (w:wO) (e:Ending) (w':wO):Prop:=∃(W:List Li) (m cap:Nat),e=.returned (.slice (pA w.heap.size) (m+1) cap)/\m+1<=cap/\cap<=n/\ZP w' w.heap.size 0 (m+1) W/\Zk W/\(W=zx x s\/(m+1=n/\n<(zx x s).length))/\Bw w w'
def BQ (s:Li) (x:Int) (b:ByteArray) (g:b=strOfNums [x]) (n:Nat) (hn:1<=n) (o:n<=1000) (w:wO) (j:xq w) (hs:By s) (k:0<=x/\x<=255) (t:s.length<=2000000) :
  Cp 31 #[.string (strOfNums s),.string b,J n] w (MH x s n w):=by
 subst g;obtain⟨m,hm⟩:=j.most;have a:=Tryz.strings_SplitN (strOfNums s) (strOfNums [x]) n m w (by rw [strOfNums_size];lia) hm (by rw [strOfNums_size];exact Qc _) hn lI;rw [strOfNums_size] at a;obtain⟨W,w1,w2,u,v,y⟩:=NJ k (min n (s.length+1) - 1) s hs;have hB:Lib.splitB (strOfNums [x]) 0 (min n (s.length+1) - 1) (strOfNums s)=W.map strOfNums:=MG (by rw [Lib.splitB_data,yP,yP];exact w1);have hlen:=Lib.splitB_length_le (strOfNums [x]) 0 (min n (s.length+1) - 1) (strOfNums s);rw [hB] at a hlen;rw [Q9] at a hlen;have r:1<=W.length:=by
  grind
 obtain⟨q,f⟩:∃q,W.length=q+1:=⟨W.length - 1,lI⟩;rw [f] at a hlen;obtain⟨p,l⟩:=RU x s;refine a.m fun e w' ⟨h,d⟩=>⟨W,q,min n (s.length+1),h,lI,lI,?_,?_,?_,by rw [d];exact Qd _ _⟩
 ·refine⟨f,by rw [d];simp,fun i hi=>?_⟩;rw [d,QO,Qa (zm w _ _)];unfold Lib.cellsOf;rw [qY,Wj (by simp;lia),Wc,Wc,Qw,Qh lI];rfl
 ·intro i;rw [Qw];rcases Nat.lt_or_ge i W.length with hi | hi
  ·grind
  rw [Q0 hi];exact⟨fun c a=>(by cases a),Ql _⟩
 grind
def BR {L:Lp} {ws:List Li} (h:6<=ws.length):YS L ws=none:=by
 match ws,h with
 | a :: b :: c :: d :: e :: f :: l,_ =>show (if L.o.length=0 then Option.map _ (gK (a :: b :: c :: d :: e :: f :: l)) else none)=none;have:gK (a :: b :: c :: d :: e :: f :: l)=none:=rfl;rw [this];split <;> rfl
def yX.to {a:wO} {y:Nat} {R R':Option Lp} {e:Ending} {w':wO} (h:yX a y R e w') (b:R=R'):yX a y R' e w':=b ▸ h
def MI (k:wO) (y nl nb no:Nat) (q p t:Option Addr) (r bc u:Nat) (L:Lp) (s:Li) (w:wO) (H:xq w) (O:ds k y (.slice q nl r) (.slice p nb bc) (.slice t no u) nl nb no (Z0 L).l (Z0 L).b (Z0 L).o w) (hs:By s) (Q:s.length<=2000000) :
  Cp 42 #[.pointer (pA y),.string (strOfNums s)] w (yX k y (YS L (zx 32 s))):=by
 have U:=Z (BQ s 32 (ByteArray.mk #[32]) rfl 6 oM oM w H hs oM Q);have S:=Z O;have T:=Z H;obtain⟨R,hR⟩:∃R,YS L (zx 32 s)=R:=⟨_,rfl⟩;have I:=Z hR;rw [hR];generalize strOfNums s=P at *
 clear H O hs Q hR;go_enter func42,ntmps42;go_wp2_with fail;refine U.m ?_;rintro e w1 ⟨W,m,cap,rfl,A,X,f,n,N,hb⟩;have B:=Z (S.gE hb);have D:=Z (T.on hb);have x:=Z f;have C:=Z n;have F:cap<=9223372036854775807:=oM
 have z:Hid (YS L W=R):=by
  show _=_;rcases N with h | ⟨h1,h2⟩
  ·rw [h];exact I
  rw [BR (by have:=f.1;omega),<-I,BR oM]
 have V:=f.2.2 0 oM;have aE:=f.2.1;rw [WG] at V;have ea:=yn (n 0).1 (m:=YY) tQ (b:=[97,114,114,97,121]) rfl;have G:=yn (n 0).1 (m:=kq) tQ (b:=[111,117,116]) rfl;have M:=Z f.1;clear N f n hb;by_cases d:W.getD 0 []=YY
 ·rw [Qi d] at ea;have i:Hid ((if m+1=2/\L.b.length+L.o.length=0 then (zT (W.getD 1 []) 18).map (fun v=>{ L with l:=L.l++[v] }) else none)=R):=by show _=_;rw [<-z,B6 d,M]
  clear d G;generalize strOfNums (W.getD 0 [])=K at *
  go_wp2_with fail;refine (Ow k y nl nb no q p t r bc u L W w.z (m+1) cap w1 D B x C A F).m ?_;intro e w2 c;have a:=c.to i;have j:=Z a;rcases a with ⟨-,rfl,-⟩ | ⟨-,-,-,-,-,-,-,-,rfl,-⟩
  all_goals
   clear c
   go_wp2_with fail
   go_ret
   exact j
 rw [Qk d] at ea;by_cases g:W.getD 0 []=kq
 ·rw [Qi g] at G;have i:Hid ((if m+1=2 then (zT (W.getD 1 []) 18).map (fun v=>{ L with o:=L.o++[v] }) else none)=R):=by show _=_;rw [<-z,B7 g,M]
  clear d g;generalize strOfNums (W.getD 0 [])=K at *
  go_wp2_with fail;refine (Ox k y nl nb no q p t r bc u L W w.z (m+1) cap w1 D B x C A F).m ?_;intro e w2 c;have a:=c.to i;have j:=Z a;rcases a with ⟨-,rfl,-⟩ | ⟨-,-,-,-,-,-,-,-,rfl,-⟩
  all_goals
   clear c
   go_wp2_with fail
   go_ret
   exact j
 rw [Qk g] at G;have i:Hid ((if L.o.length=0 then (gK W).map (fun s=>{ L with b:=L.b++[s] }) else none)=R):=by show _=_;rw [<-z,B8 d g]
 clear d g;generalize strOfNums (W.getD 0 [])=K at *
 go_wp2_with fail;refine (Oz k y nl nb no q p t r bc u L W w.z m cap w1 D B x C A F).m ?_;intro e w2 c;have a:=c.to i;have j:=Z a;rcases a with ⟨-,rfl,-⟩ | ⟨-,-,-,-,-,-,-,-,rfl,-⟩
 all_goals
  clear c
  go_wp2
  go_ret
  exact j
def Pr {L f:Lp} {ws:List Li} (c:jL L) (h:YS L ws=some f):jL f:=by
 have j:∀{a:Li} {v:Int},zT a 18=some v->-9223372036854775808<=v/\v<=9223372036854775807:=fun h=>(mz h).2;by_cases g:ws.getD 0 []=YY
 ·rw [B6 g] at h;split at h
  ·obtain⟨v,d,rfl⟩:=WT.1 h;refine⟨fun z b=>?_,c.2.1,c.2.2⟩;rcases QK.1 b with b | b
   ·exact c.1 z b
   grind
  cases h
 by_cases i:ws.getD 0 []=kq
 ·rw [B7 i] at h;split at h
  ·obtain⟨v,d,rfl⟩:=WT.1 h;refine⟨c.1,fun z b=>?_,c.2.2⟩;rcases QK.1 b with b | b
   ·exact c.2.1 z b
   grind
  cases h
 rw [B8 g i] at h;split at h
 ·obtain⟨v,d,rfl⟩:=WT.1 h;refine⟨c.1,c.2.1,fun z b=>?_⟩;rcases QK.1 b with b | b
  ·exact c.2.2 z b
  rw [QT] at b;subst b;exact RV d
 cases h
def Pt:vO->Nat
 | .string b=>b.size
 | _=>0
def Dk:mC:=fun s w hv hsb hsl=>by
 have bC:By s:=jg hsb
 have HV:=Z hv
 have bj:Hid (((w.alloc (.cells #[.slice none 0 0,.slice none 0 0,.slice none 0 0] 62)).alloc (.cells #[J 0,J 0] 65)).heap.size=w.heap.size+1+1):=by show _=_;simp
 obtain⟨T,V⟩:=nm ((w.alloc (.cells #[.slice none 0 0,.slice none 0 0,.slice none 0 0] 62)).alloc (.cells #[J 0,J 0] 65))
 have HR:Hid (∀u,Below (w.heap.size+1+1) T u->u.heap[w.heap.size]?=some (.cells #[.slice none 0 0,.slice none 0 0,.slice none 0 0] 62 (0,0))/\u.heap[w.heap.size+1]?=some (.cells #[J 0,J 0] 65 (0,0))/\Bw w u):=fun u h2=>by
  subst V
  refine⟨?_,?_,(QB w _ _).t (h2.m oM)⟩
  ·rw [h2.block _ oM,Qr _ _ _ sM];exact rp _ _ _
  ·rw [h2.block _ oM]
   have e:(w.alloc (.cells #[.slice none 0 0,.slice none 0 0,.slice none 0 0] 62)).heap.size=w.heap.size+1:=sM
   grind [rp]
 have aO:Hid (ds T (w.heap.size+1+1) (.slice none 0 0) (.slice none 0 0) (.slice none 0 0) 0 0 0 (Z0 ⟨[],[],[]⟩).l (Z0 ⟨[],[],[]⟩).b (Z0 ⟨[],[],[]⟩).o (((w.alloc (.cells #[.slice none 0 0,.slice none 0 0,.slice none 0 0] 62)).alloc (.cells #[J 0,J 0] 65)).alloc (.cells #[.slice none 0 0,.slice none 0 0,.slice none 0 0] 94))):=by
  have h:=ds.start T
  rw [show T.heap.size=w.heap.size+1+1 by rw [<-V];exact bj.o,<-V] at h
  rw [<-V]
  exact h
 have aL:Hid (yt s=jx ⟨[],[],[]⟩ (zx 10 s) 0):=rfl
 clear hv hsb V
 go_enter func21,ntmps21
 go_wp2
 go_loopw [0,5] (fun sv kv wr=>∃(a:Li) (k nl nb no m bc r:Nat) (L:Lp) (j i n:Option Addr),sv=.string (strOfNums a)/\kv=J k/\ds T (w.heap.size+1+1) (.slice j nl m) (.slice i nb bc) (.slice n no r) nl nb no (Z0 L).l (Z0 L).b (Z0 L).o wr/\yt s=jx L (zx 10 a) k/\By a/\a.length+k<=2000000/\jL L) (fun sv _ _=>Pt sv)
 case atStart=>exact⟨s,0,0,0,0,0,0,0,⟨[],[],[]⟩,none,none,none,rfl,rfl,aO.o,aL.o,bC,oM,D3⟩
 case round =>
  clear aO aL
  obtain⟨a,k,nl,nb,no,m,bc,r,L,j,i,n,rfl,rfl,hM,aS,aP,bJ,aT⟩:=hrel
  have U:=Z hM
  have X:=Z aS
  have ao:=Z aT
  have W:=Z aP
  have bK:=hM.lt
  obtain⟨bl1,bl2,aF⟩:=HR.o wr hM.bel
  have bF:=Z aF
  have aD:=Z (HV.o.on aF)
  have bG:=Z bl1
  have bH:=Z bl2
  have aR:=nZ a
  clear hM aS aT aP aF bl1 bl2
  by_cases y:a=[]
  ·rw [Qi y] at aR
   have aJ:Hid (jx L (zx 10 a) k=if zQ L=true then (L,0,0) else (⟨[],[],[]⟩,2,k)):=by
    show _=_
    rw [y]
    show (if ([]:Li)=[]/\zQ L then (L,0,0) else _)=_
    simp_all
   obtain⟨z0,z1,z2⟩:=U.o.cells
   have aK:=Z (Yo (.agg #[.slice j nl m,.slice i nb bc,.slice n no r]) (Z0 L) wr (U.o.loop ao.o.cut.1 ao.o.cut.2.1))
   rw [Nr] at aK
   clear y
   generalize strOfNums a=P at *
   go_wp2_with fail
   refine aK.o.m ?_
   rintro e w2 ⟨rfl,z⟩
   have A:=Z (U.o.gE z)
   obtain⟨b1,b2,B⟩:=HR.o w2 A.o.bel
   have S:=Z B
   clear z0 z1 z2 z B
   obtain⟨z0,z1,z2⟩:=A.o.cells
   have bE:=A.o.lt
   cases hm:zQ L with
   | false =>
     have au:Hid (yt s=(⟨[],[],[]⟩,2,k)):=by show _=_;rw [X.o,aJ.o,hm,Qe WM]
     clear hm
     have k0:w2.cell? (E w.heap.size 0)=some sN:=cb b1
     have f0:w2.frozen? (E w.heap.size 0)=false:=qZ b1
     have k1:w2.cell? (E w.heap.size 1)=some sN:=cb b1
     have f1:w2.frozen? (E w.heap.size 1)=false:=qZ b1
     have k2:w2.cell? (E w.heap.size 2)=some sN:=cb b1
     have f2:w2.frozen? (E w.heap.size 2)=false:=qZ b1
     have k3:w2.cell? (E (w.heap.size+1) 0)=Y 0:=cb b2
     have f3:w2.frozen? (E (w.heap.size+1) 0)=false:=qZ b2
     have k4:w2.cell? (E (w.heap.size+1) 1)=Y 0:=cb b2
     have f4:w2.frozen? (E (w.heap.size+1) 1)=false:=qZ b2
     obtain⟨d,t⟩:=rq (a':=sN) (b':=sN) (c':=sN) (u':=J 2) (v':=J (k:Int)) b1 b2
     have C:Hid ((((((w2.setCell (E w.heap.size 0) sN).setCell (E w.heap.size 1) sN).setCell (E w.heap.size 2) sN).setCell (E (w.heap.size+1) 0) (J 2)).setCell (E (w.heap.size+1) 1) (J (k:Int))).cell? (E w.heap.size 0)=some sN):=by show _=_;rw [Qa d];rfl
     have D:Hid ((((((w2.setCell (E w.heap.size 0) sN).setCell (E w.heap.size 1) sN).setCell (E w.heap.size 2) sN).setCell (E (w.heap.size+1) 0) (J 2)).setCell (E (w.heap.size+1) 1) (J (k:Int))).cell? (E w.heap.size 1)=some sN):=by show _=_;rw [Qa d];rfl
     have F:Hid ((((((w2.setCell (E w.heap.size 0) sN).setCell (E w.heap.size 1) sN).setCell (E w.heap.size 2) sN).setCell (E (w.heap.size+1) 0) (J 2)).setCell (E (w.heap.size+1) 1) (J (k:Int))).cell? (E w.heap.size 2)=some sN):=by show _=_;rw [Qa d];rfl
     have G:Hid ((((((w2.setCell (E w.heap.size 0) sN).setCell (E w.heap.size 1) sN).setCell (E w.heap.size 2) sN).setCell (E (w.heap.size+1) 0) (J 2)).setCell (E (w.heap.size+1) 1) (J (k:Int))).cell? (E (w.heap.size+1) 0)=Y 2):=by show _=_;rw [Qa t];rfl
     have H:Hid ((((((w2.setCell (E w.heap.size 0) sN).setCell (E w.heap.size 1) sN).setCell (E w.heap.size 2) sN).setCell (E (w.heap.size+1) 0) (J 2)).setCell (E (w.heap.size+1) 1) (J (k:Int))).cell? (E (w.heap.size+1) 1)=Y (k:Int)):=by show _=_;rw [Qa t];rfl
     have I:=Z (U9 (a':=sN) (b':=sN) (c':=sN) (u':=J 2) (v':=J (k:Int)) S.o)
     have K:Hid (Y9 s w (.returned (.tuple #[.agg #[sN,sN,sN],.agg #[J 2,J (k:Int)]])) (((((w2.setCell (E w.heap.size 0) sN).setCell (E w.heap.size 1) sN).setCell (E w.heap.size 2) sN).setCell (E (w.heap.size+1) 0) (J 2)).setCell (E (w.heap.size+1) 1) (J (k:Int)))):=uF au.o I.o
     clear b1 b2 d t
     go_wp2
     have M:=C.o
     have N:=D.o
     have O:=F.o
     have Q:=G.o
     have R:=H.o
     exact bodyPost_ret (v:=.tuple #[.agg #[sN,sN,sN],.agg #[J 2,J (k:Int)]]) (by simp [results,results21,go_sem,M,N,O,Q,R]) rfl K.o
   | true =>
     have aE:Hid (yt s=(L,0,0)):=by show _=_;rw [X.o,aJ.o,hm,Qf rfl]
     have aW:=Z (Nq hm)
     clear hm
     have k0:w2.cell? (E w.heap.size 0)=some sN:=cb b1
     have f0:w2.frozen? (E w.heap.size 0)=false:=qZ b1
     have k1:w2.cell? (E w.heap.size 1)=some sN:=cb b1
     have f1:w2.frozen? (E w.heap.size 1)=false:=qZ b1
     have k2:w2.cell? (E w.heap.size 2)=some sN:=cb b1
     have f2:w2.frozen? (E w.heap.size 2)=false:=qZ b1
     have k3:w2.cell? (E (w.heap.size+1) 0)=Y 0:=cb b2
     have f3:w2.frozen? (E (w.heap.size+1) 0)=false:=qZ b2
     have k4:w2.cell? (E (w.heap.size+1) 1)=Y 0:=cb b2
     have f4:w2.frozen? (E (w.heap.size+1) 1)=false:=qZ b2
     obtain⟨d,t⟩:=rq (a':=.slice j nl m) (b':=.slice i nb bc) (c':=.slice n no r) (u':=J 0) (v':=J 0) b1 b2
     have C:Hid ((((((w2.setCell (E w.heap.size 0) (.slice j nl m)).setCell (E w.heap.size 1) (.slice i nb bc)).setCell (E w.heap.size 2) (.slice n no r)).setCell (E (w.heap.size+1) 0) (J 0)).setCell (E (w.heap.size+1) 1) (J 0)).cell? (E w.heap.size 0)=some (.slice j nl m)):=by show _=_;rw [Qa d];rfl
     have D:Hid ((((((w2.setCell (E w.heap.size 0) (.slice j nl m)).setCell (E w.heap.size 1) (.slice i nb bc)).setCell (E w.heap.size 2) (.slice n no r)).setCell (E (w.heap.size+1) 0) (J 0)).setCell (E (w.heap.size+1) 1) (J 0)).cell? (E w.heap.size 1)=some (.slice i nb bc)):=by show _=_;rw [Qa d];rfl
     have F:Hid ((((((w2.setCell (E w.heap.size 0) (.slice j nl m)).setCell (E w.heap.size 1) (.slice i nb bc)).setCell (E w.heap.size 2) (.slice n no r)).setCell (E (w.heap.size+1) 0) (J 0)).setCell (E (w.heap.size+1) 1) (J 0)).cell? (E w.heap.size 2)=some (.slice n no r)):=by show _=_;rw [Qa d];rfl
     have G:Hid ((((((w2.setCell (E w.heap.size 0) (.slice j nl m)).setCell (E w.heap.size 1) (.slice i nb bc)).setCell (E w.heap.size 2) (.slice n no r)).setCell (E (w.heap.size+1) 0) (J 0)).setCell (E (w.heap.size+1) 1) (J 0)).cell? (E (w.heap.size+1) 0)=Y 0):=by show _=_;rw [Qa t];rfl
     have H:Hid ((((((w2.setCell (E w.heap.size 0) (.slice j nl m)).setCell (E w.heap.size 1) (.slice i nb bc)).setCell (E w.heap.size 2) (.slice n no r)).setCell (E (w.heap.size+1) 0) (J 0)).setCell (E (w.heap.size+1) 1) (J 0)).cell? (E (w.heap.size+1) 1)=Y 0):=by show _=_;rw [Qa t];rfl
     have I:=Z (U9 (a':=.slice j nl m) (b':=.slice i nb bc) (c':=.slice n no r) (u':=J 0) (v':=J 0) S.o)
     have K:Hid (Y9 s w (.returned (.tuple #[.agg #[.slice j nl m,.slice i nb bc,.slice n no r],.agg #[J 0,J 0]])) (((((w2.setCell (E w.z 0) (.slice j nl m)).setCell (E w.z 1) (.slice i nb bc)).setCell (E w.z 2) (.slice n no r)).setCell (E (w.z+1) 0) (J 0)).setCell (E (w.z+1) 1) (J 0))):=R3 aE.o (by have h:=Np A.o (u':=J 0) (v':=J 0) (g:=w.z) (Qc _) ao.o.cut;rw [show (⟨(Z0 L).l,(Z0 L).b,(Z0 L).o⟩:Lp)=L from aW.o] at h;exact h) ao.o I.o
     clear b1 b2 d t
     go_wp2
     have M:=C.o
     have N:=D.o
     have O:=F.o
     have Q:=G.o
     have R:=H.o
     exact bodyPost_ret (v:=.tuple #[.agg #[.slice j nl m,.slice i nb bc,.slice n no r],.agg #[J 0,J 0]]) (by simp [results,results21,go_sem,M,N,O,Q,R]) rfl K.o
  ·rw [Qk y] at aR
   cases c:zx 10 a with
   | nil=>exact absurd c (xQ 10 a)
   | cons p ps =>
     cases ps with
     | nil =>
       have au:Hid (yt s=(⟨[],[],[]⟩,2,k)):=by
        show _=_
        rw [X.o,c]
        have hp:p=a:=by have:=ZH 10 a;rw [c] at this;exact this
        show (if p=[]/\zQ L then (L,0,0) else _)=_
        simp_all
       have aB:=Z (sP a 10 (ByteArray.mk #[10]) rfl wr aD.o W.o oM oM c)
       clear c y
       generalize strOfNums a=P at *
       go_wp2_with fail
       refine aB.o.m ?_
       rintro e w2 ⟨rfl,z⟩
       have A:=Z (U.o.gE z)
       obtain⟨b1,b2,B⟩:=HR.o w2 A.o.bel
       have S:=Z B
       clear z B
       have k0:w2.cell? (E w.z 0)=some sN:=cb b1
       have f0:w2.frozen? (E w.z 0)=false:=qZ b1
       have k1:w2.cell? (E w.z 1)=some sN:=cb b1
       have f1:w2.frozen? (E w.z 1)=false:=qZ b1
       have k2:w2.cell? (E w.z 2)=some sN:=cb b1
       have f2:w2.frozen? (E w.z 2)=false:=qZ b1
       have k3:w2.cell? (E (w.z+1) 0)=Y 0:=cb b2
       have f3:w2.frozen? (E (w.z+1) 0)=false:=qZ b2
       have k4:w2.cell? (E (w.z+1) 1)=Y 0:=cb b2
       have f4:w2.frozen? (E (w.z+1) 1)=false:=qZ b2
       obtain⟨d,t⟩:=rq (a':=sN) (b':=sN) (c':=sN) (u':=J 2) (v':=J (k:Int)) b1 b2
       have C:Hid ((((((w2.setCell (E w.z 0) sN).setCell (E w.z 1) sN).setCell (E w.z 2) sN).setCell (E (w.z+1) 0) (J 2)).setCell (E (w.z+1) 1) (J (k:Int))).cell? (E w.z 0)=some sN):=by show _=_;rw [Qa d];rfl
       have D:Hid ((((((w2.setCell (E w.z 0) sN).setCell (E w.z 1) sN).setCell (E w.z 2) sN).setCell (E (w.z+1) 0) (J 2)).setCell (E (w.z+1) 1) (J (k:Int))).cell? (E w.z 1)=some sN):=by show _=_;rw [Qa d];rfl
       have F:Hid ((((((w2.setCell (E w.z 0) sN).setCell (E w.z 1) sN).setCell (E w.z 2) sN).setCell (E (w.z+1) 0) (J 2)).setCell (E (w.z+1) 1) (J (k:Int))).cell? (E w.z 2)=some sN):=by show _=_;rw [Qa d];rfl
       have G:Hid ((((((w2.setCell (E w.z 0) sN).setCell (E w.z 1) sN).setCell (E w.z 2) sN).setCell (E (w.z+1) 0) (J 2)).setCell (E (w.z+1) 1) (J (k:Int))).cell? (E (w.z+1) 0)=Y 2):=by show _=_;rw [Qa t];rfl
       have H:Hid ((((((w2.setCell (E w.z 0) sN).setCell (E w.z 1) sN).setCell (E w.z 2) sN).setCell (E (w.z+1) 0) (J 2)).setCell (E (w.z+1) 1) (J (k:Int))).cell? (E (w.z+1) 1)=Y (k:Int)):=by show _=_;rw [Qa t];rfl
       have I:=Z (U9 (a':=sN) (b':=sN) (c':=sN) (u':=J 2) (v':=J (k:Int)) S.o)
       have K:Hid (Y9 s w (.returned (.tuple #[.agg #[sN,sN,sN],.agg #[J 2,J (k:Int)]])) (((((w2.setCell (E w.z 0) sN).setCell (E w.z 1) sN).setCell (E w.z 2) sN).setCell (E (w.z+1) 0) (J 2)).setCell (E (w.z+1) 1) (J (k:Int)))):=uF au.o I.o
       clear b1 b2 d t
       go_wp2
       have M:=C.o
       have N:=D.o
       have O:=F.o
       have Q:=G.o
       have R:=H.o
       exact bodyPost_ret (v:=.tuple #[.agg #[sN,sN,sN],.agg #[J 2,J (k:Int)]]) (by simp [results,results21,go_sem,M,N,O,Q,R]) rfl K.o
     | cons q qs =>
       have aB:=Z (sQ a 10 (ByteArray.mk #[10]) rfl wr aD.o W.o oM oM c)
       obtain⟨-,aV,aQ⟩:=YE (x:=10) oM W.o c
       have bD:p.length<a.length:=by
        have h9:=congrArg List.length (ZH 10 a)
        grind [yD]
       have bf:Hid (By p):=by show By p;rw [<-aV];exact mX W.o _
       have bg:Hid (By (a.drop (p.length+1))):=p8 W.o _
       have aa:Hid (jx L (zx 10 a) k=match YS L (zx 32 p) with | some L'=>jx L' (zx 10 (a.drop (p.length+1))) (k+1) | none=>(⟨[],[],[]⟩,2,k)):=by
        show _=_
        rw [c,aQ]
        rfl
       have aH:(a.drop (p.length+1)).length=a.length - (p.length+1):=qL
       have bh:=Z aH
       have aM:=Z bD
       have bz:Hid ((strOfNums a).size=a.length):=strOfNums_size _
       have aC:Hid ((strOfNums (a.drop (p.length+1))).size=a.length - (p.length+1)):=by show _=_;rw [strOfNums_size,aH]
       have bI:wrap64 ((k:Int)+1)=(k:Int)+1:=by unfold wrap64;omega
       obtain⟨lo,aG⟩:∃lo,YS L (zx 32 p)=lo:=⟨_,rfl⟩
       rw [aG] at aa
       have aI:=Z aG
       generalize a.drop (p.length+1)=rs at *
       clear c y aV aQ aH aG
       generalize hP:strOfNums a=P at *
       go_wp2_with fail
       refine aB.o.m ?_
       rintro e w2 ⟨rfl,z⟩
       have A:=Z (U.o.gE z)
       have aN:=Z (MI T (w.z+1+1) nl nb no j i n m bc r L p w2 (aD.o.on z) A.o bf.o oM)
       rw [aI.o] at aN
       clear z
       go_wp2_with fail
       refine aN.o.m ?_
       rintro e f (⟨aU,rfl,gH⟩ | ⟨L',lv,bv,ov,nl',nb',no',ah,rfl,ay⟩)
       ·have au:Hid (yt s=(⟨[],[],[]⟩,2,k)):=by show _=_;rw [X.o,aa.o,aU]
        obtain⟨b1,b2,B⟩:=HR.o f gH
        have S:=Z B
        clear aU gH B
        have k0:f.cell? (E w.z 0)=some sN:=cb b1
        have f0:f.frozen? (E w.z 0)=false:=qZ b1
        have k1:f.cell? (E w.z 1)=some sN:=cb b1
        have f1:f.frozen? (E w.z 1)=false:=qZ b1
        have k2:f.cell? (E w.z 2)=some sN:=cb b1
        have f2:f.frozen? (E w.z 2)=false:=qZ b1
        have k3:f.cell? (E (w.z+1) 0)=Y 0:=cb b2
        have f3:f.frozen? (E (w.z+1) 0)=false:=qZ b2
        have k4:f.cell? (E (w.z+1) 1)=Y 0:=cb b2
        have f4:f.frozen? (E (w.z+1) 1)=false:=qZ b2
        obtain⟨d,t⟩:=rq (a':=sN) (b':=sN) (c':=sN) (u':=J 2) (v':=J (k:Int)) b1 b2
        have C:Hid ((((((f.setCell (E w.z 0) sN).setCell (E w.z 1) sN).setCell (E w.z 2) sN).setCell (E (w.z+1) 0) (J 2)).setCell (E (w.z+1) 1) (J (k:Int))).cell? (E w.z 0)=some sN):=by show _=_;rw [Qa d];rfl
        have D:Hid ((((((f.setCell (E w.z 0) sN).setCell (E w.z 1) sN).setCell (E w.z 2) sN).setCell (E (w.z+1) 0) (J 2)).setCell (E (w.z+1) 1) (J (k:Int))).cell? (E w.z 1)=some sN):=by show _=_;rw [Qa d];rfl
        have F:Hid ((((((f.setCell (E w.z 0) sN).setCell (E w.z 1) sN).setCell (E w.z 2) sN).setCell (E (w.z+1) 0) (J 2)).setCell (E (w.z+1) 1) (J (k:Int))).cell? (E w.z 2)=some sN):=by show _=_;rw [Qa d];rfl
        have G:Hid ((((((f.setCell (E w.z 0) sN).setCell (E w.z 1) sN).setCell (E w.z 2) sN).setCell (E (w.z+1) 0) (J 2)).setCell (E (w.z+1) 1) (J (k:Int))).cell? (E (w.z+1) 0)=Y 2):=by show _=_;rw [Qa t];rfl
        have H:Hid ((((((f.setCell (E w.z 0) sN).setCell (E w.z 1) sN).setCell (E w.z 2) sN).setCell (E (w.z+1) 0) (J 2)).setCell (E (w.z+1) 1) (J (k:Int))).cell? (E (w.z+1) 1)=Y (k:Int)):=by show _=_;rw [Qa t];rfl
        have I:=Z (U9 (a':=sN) (b':=sN) (c':=sN) (u':=J 2) (v':=J (k:Int)) S.o)
        have K:Hid (Y9 s w (.returned (.tuple #[.agg #[sN,sN,sN],.agg #[J 2,J (k:Int)]])) (((((f.setCell (E w.z 0) sN).setCell (E w.z 1) sN).setCell (E w.z 2) sN).setCell (E (w.z+1) 0) (J 2)).setCell (E (w.z+1) 1) (J (k:Int)))):=uF au.o I.o
        clear b1 b2 d t
        go_wp2
        have M:=C.o
        have N:=D.o
        have O:=F.o
        have Q:=G.o
        have R:=H.o
        exact bodyPost_ret (v:=.tuple #[.agg #[sN,sN,sN],.agg #[J 2,J (k:Int)]]) (by simp [results,results21,go_sem,M,N,O,Q,R]) rfl K.o
       ·have aX:Hid (yt s=jx L' (zx 10 rs) (k+1)):=by show _=_;rw [X.o,aa.o,ah]
        have aY:=Z (Pr ao.o (aI.o.t ah))
        obtain⟨la',lc',rfl,-,-⟩:=zD ay.ol_
        obtain⟨ba',bc',rfl,-,-⟩:=zD ay.ob
        obtain⟨oa',oc',rfl,-,-⟩:=zD ay.oo
        have aZ:=Z ay
        clear ah ay
        go_wp2
        go_roundw
        case rel=>exact⟨rs,k+1,nl',nb',no',lc',bc',oc',L',la',ba',oa',rfl,nQ,aZ.o,aX.o,bg.o,by have:=bh.o;have:=aM.o;omega,aY.o⟩
        case measure =>
         show (strOfNums rs).size<P.size
         have:=bz.o
         have:=aC.o
         omega
end Go.Proofs.YtjlfcbccpcigeacGreatDoor
