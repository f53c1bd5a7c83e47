import Derived.Test.YtjlfcbccpcigeacGreatDoorO
set_option maxHeartbeats 40000000
set_option linter.defProp false
namespace Go.Proofs.YtjlfcbccpcigeacGreatDoor
open Go.Proofs.Tryz Go.RowKit Go.Joins
set_option linter.unusedVariables false
set_option linter.unusedSimpArgs false
set_option maxRecDepth 8192
section
variable {p a b c:Li} {x w w':wO} {g:Nat} {e:TypeId} {b0 b1 b2 b3 b4 b5 b6 b7 b8:vO} {y z x1:Int} {ok k0 k1:Bool}
def DD (d:By p):∃bc c a b:Bool,((strOfNums p).toList == [99,111,110,115,116])=bc/\((strOfNums p).toList == [116,117,114,110])=c/\((strOfNums p).toList == [108,111,97,100])=a/\((strOfNums p).toList == [115,116,111,114,101])=b /\
  ((p=yO/\bc/\c=false/\a=false/\b=false)\/(p=Zt/\bc=false/\c/\a=false/\b=false)\/(p=xT/\bc=false/\c=false/\a/\b=false)\/(p=yT/\bc=false/\c=false/\a=false/\b)\/(¬p=yO/\¬p=Zt/\¬p=xT/\¬p=yT/\bc=false/\c=false/\a=false/\b=false)):=by
 refine⟨_,_,_,_,yn d (m:=yO) tQ rfl,yn d (m:=Zt) tQ rfl,yn d (m:=xT) tQ rfl,yn d (m:=yT) tQ rfl,?_⟩;by_cases h1:p=yO
 ·subst h1;exact .inl ⟨rfl,tQ,tQ,tQ,tQ⟩
 grind [Zt,xT,yT]
def xl (h:x.heap[g]?=some (.cells #[b0,b1,b2,b3,b4,b5,b6,b7,b8] e (0,0))):(x.cell? (E g 0)=some b0/\x.cell? (E g 1)=some b1/\x.cell? (E g 2)=some b2/\x.cell? (E g 3)=some b3/\x.cell? (E g 4)=some b4/\x.cell? (E g 5)=some b5/\x.cell? (E g 6)=some b6/\x.cell? (E g 7)=some b7/\x.cell? (E g 8)=some b8)/\x.frozen? (E g 0)=false/\x.frozen? (E g 1)=false/\x.frozen? (E g 2)=false/\x.frozen? (E g 3)=false/\x.frozen? (E g 4)=false/\x.frozen? (E g 5)=false/\x.frozen? (E g 6)=false/\x.frozen? (E g 7)=false/\x.frozen? (E g 8)=false:=by refine⟨⟨?_,?_,?_,?_,?_,?_,?_,?_,?_⟩,?_,?_,?_,?_,?_,?_,?_,?_,?_⟩;all_goals first | (rw [Qa h];rfl) | simp [World.frozen?,h]
def oD (h:x.heap[g]?=some (.cells #[b0,b1,b2,b3,b4,b5,b6,b7,b8] e (0,0))) (a:Array vO) (t:TypeId):(x.alloc (.cells a t)).heap[g]?=some (.cells #[b0,b1,b2,b3,b4,b5,b6,b7,b8] e (0,0)):=by rw [Qr _ _ _ (lo h)];exact h
def YV (ws:List Li) (a:Li) (b m cap:Nat) (w:wO) (k:w.cell? (E b 0)=some (.string (strOfNums a))) (o:b<w.heap.size) (M:m+1<=cap) (N:cap<=9223372036854775807) (l:By a) (t:m≠2) (u:a=yO->m≠1) (y:a=Zt->m≠0) (x:a=xT->m≠3) (hs:a=yT->m≠4) (j:gK ws=none) :
  Cp 125 #[.slice (pA b) (m+1) cap] w (xF ws w):=by
 have i:Hid (Bw w (w.alloc (nB 0 0 0 0 0 0 0 0 0))):=Qd _ _;obtain⟨bc,g,d,f,ec,R,P,Q,n⟩:=DD l;have r:(w.alloc (nB 0 0 0 0 0 0 0 0 0)).c b 0=some (.string (strOfNums a)):=(ze i _ _ o).t k;have O:((m:Int) == 2)=false:=Wf oM;have q:=Z j;generalize strOfNums a=L at *
 clear k j t;have p:(bc/\g=false/\d=false/\f=false/\((m:Int) == 1)=false)\/(bc=false/\g/\d=false/\f=false/\((m:Int) == 0)=false)\/(bc=false/\g=false/\d/\f=false/\((m:Int) == 3)=false)\/(bc=false/\g=false/\d=false/\f/\((m:Int) == 4)=false)\/(bc=false/\g=false/\d=false/\f=false/\True):=by
  grind
 clear n u y x hs l;rcases p with ⟨rfl,rfl,rfl,rfl,h⟩ | ⟨rfl,rfl,rfl,rfl,h⟩ | ⟨rfl,rfl,rfl,rfl,h⟩ | ⟨rfl,rfl,rfl,rfl,h⟩ | ⟨rfl,rfl,rfl,rfl,h⟩
 all_goals (
  go_enter func125,ntmps125
  go_wp2
  go_big_quiet (fail)
  go_wp2
  all_goals (
   have bb:((w.alloc (nB 0 0 0 0 0 0 0 0 0)).drewN nq).heap[w.z]?=some (nB 0 0 0 0 0 0 0 0 0):=zm w _ _
   obtain⟨⟨A,B,C,D,F,G,H,I,K⟩,-⟩:=xl (XF (b0:=J 0) (b1:=J 0) (b2:=J 0) (b3:=J 0) (b4:=J 0) (b5:=J 0) (b6:=J 0) (b7:=J 0) (b8:=J 0) bb)
   exact bodyPost_ret (v:=.tuple #[.agg #[J 0,J 0,J 0,J 0,J 0,J 0,J 0,J 0,J 0],.bool false]) (by simp [results,results125,go_sem,A,B,C,D,F,G,H,I,K]) rfl (NS (s:=⟨0,0,0,0,0,0,0,0,0⟩) q ((((((((((i.t (xK _ nq _)).setCell (Qc _) _).setCell (Qc _) _).setCell (Qc _) _).setCell (Qc _) _).setCell (Qc _) _).setCell (Qc _) _).setCell (Qc _) _).setCell (Qc _) _).setCell (Qc _) _))))
def P6 (b cap:Nat) (w:wO) (f:xq w) (h:ZP w b 0 1 [Zt]) (i:Zk [Zt]) (B:1<=cap) (D:cap<=9223372036854775807) :
  Cp 125 #[.slice (pA b) 1 cap] w (xF [Zt] w):=by
 have c:Hid (Bw w (w.alloc (nB 0 0 0 0 0 0 0 0 0))):=Qd _ _;have g:Hid ((w.alloc (nB 0 0 0 0 0 0 0 0 0)).heap.size=w.heap.size+1):=by show _=_;simp
 have C:Hid (∀y,Below (w.heap.size+1) (w.alloc (nB 0 0 0 0 0 0 0 0 0)) y->y.heap[w.heap.size]?=some (nB 0 0 0 0 0 0 0 0 0)/\w.z+1<=y.z/\Bw w y):=fun y a=>⟨(a.block _ oM).t (zm _ _ _),by have:=a.size;rw [g] at this;exact this,c.t (a.m oM)⟩;have x:Hid (∀nq,Below (w.z+1) (w.alloc (nB 0 0 0 0 0 0 0 0 0)) ((w.alloc (nB 0 0 0 0 0 0 0 0 0)).drewN nq)):=fun nq=>xK _ _ _;have F:=h.2.1;have d:Hid (∀y,Bw w y->y.c b 0=some (.string (strOfNums Zt))/\True):=fun y a=>⟨(h.gE a).2.2 0 oM,trivial⟩;have z:=Z f;have ec:((strOfNums Zt).toList == [99,111,110,115,116])=false:=(yn (l:=Zt) tQ (m:=yO) tQ (b:=[99,111,110,115,116]) rfl).t tQ;have K:((strOfNums Zt).toList == [116,117,114,110]):=(yn (l:=Zt) tQ (m:=Zt) tQ (b:=[116,117,114,110]) rfl).t tQ;have H:((strOfNums Zt).toList == [108,111,97,100])=false:=(yn (l:=Zt) tQ (m:=xT) tQ (b:=[108,111,97,100]) rfl).t tQ;have I:((strOfNums Zt).toList == [115,116,111,114,101])=false:=(yn (l:=Zt) tQ (m:=yT) tQ (b:=[115,116,111,114,101]) rfl).t tQ;obtain⟨G,-⟩:=d _ c;generalize strOfNums Zt=A at *
 clear h i f d;go_enter func125,ntmps125;go_wp2;go_big_quiet (fail);go_wp2
 all_goals (
  have bb:((w.alloc (nB 0 0 0 0 0 0 0 0 0)).drewN nq).heap[w.z]?=some (nB 0 0 0 0 0 0 0 0 0):=zm w _ _
  obtain⟨⟨j,k,n,o,p,q,s,t,u⟩,-⟩:=xl (XF (b0:=J 2) (b1:=J 0) (b2:=J 0) (b3:=J 0) (b4:=J 0) (b5:=J 0) (b6:=J 0) (b7:=J 0) (b8:=J 0) bb)
  exact bodyPost_ret (v:=.tuple #[.agg #[J 2,J 0,J 0,J 0,J 0,J 0,J 0,J 0,J 0],.bool true]) (by simp [results,results125,go_sem,j,k,n,o,p,q,s,t,u]) rfl (⟨⟨2,0,0,0,0,0,0,0,0⟩,true,rfl,rfl,fun r hr=>QD hr,((((((((((c.t (xK _ nq _)).setCell (Qc _) _).setCell (Qc _) _).setCell (Qc _) _).setCell (Qc _) _).setCell (Qc _) _).setCell (Qc _) _).setCell (Qc _) _).setCell (Qc _) _).setCell (Qc _) _)⟩))
def P7 {b:Int} {b0:Bool} (hb:b0=(zT a 19).isSome) (hn:∀m,zT a 19=some m->b=m) (c:Bw w w'):xF [yO,a] w (.returned (.tuple #[.agg (zG ⟨1,0,0,0,0,0,0,0,b⟩),.bool b0])) w':=by grind [zT,xF,gK]
def P8 (p1:Li) (b cap:Nat) (w:wO) (r:xq w) (h:ZP w b 0 2 [yO,p1]) (k:Zk [yO,p1]) (V:2<=cap) (X:cap<=9223372036854775807) :
  Cp 125 #[.slice (pA b) 2 cap] w (xF [yO,p1] w):=by
 have i:Hid (Bw w (w.alloc (nB 0 0 0 0 0 0 0 0 0))):=Qd _ _;have B:Hid ((w.alloc (nB 0 0 0 0 0 0 0 0 0)).heap.size=w.heap.size+1):=by show _=_;simp
 have g:Hid (∀y,Below (w.heap.size+1) (w.alloc (nB 0 0 0 0 0 0 0 0 0)) y->y.heap[w.heap.size]?=some (nB 0 0 0 0 0 0 0 0 0)/\w.heap.size+1<=y.heap.size/\Bw w y):=fun y a=>⟨(a.block _ oM).t (zm _ _ _),by have:=a.size;rw [B] at this;exact this,i.t (a.m oM)⟩;have f:Hid (∀nq,Below (w.heap.size+1) (w.alloc (nB 0 0 0 0 0 0 0 0 0)) ((w.alloc (nB 0 0 0 0 0 0 0 0 0)).drewN nq)):=fun nq=>xK _ _ _;have ao:=h.2.1;have d:Hid (∀y,Bw w y->y.c b 0=some (.string (strOfNums yO))/\y.c b 1=some (.string (strOfNums p1))):=fun y a=>⟨(h.gE a).2.2 0 oM,(h.gE a).2.2 1 oM⟩;have t:=Z r;have x:=Z (fun W H=>vd p1 W H (k 1).1 (k 1).2);have ec:((strOfNums yO).toList == [99,111,110,115,116]):=(yn (l:=yO) tQ (m:=yO) tQ (b:=[99,111,110,115,116]) rfl).t tQ;have et:((strOfNums yO).toList == [116,117,114,110])=false:=(yn (l:=yO) tQ (m:=Zt) tQ (b:=[116,117,114,110]) rfl).t tQ;have el:((strOfNums yO).toList == [108,111,97,100])=false:=(yn (l:=yO) tQ (m:=xT) tQ (b:=[108,111,97,100]) rfl).t tQ;have es:((strOfNums yO).toList == [115,116,111,114,101])=false:=(yn (l:=yO) tQ (m:=yT) tQ (b:=[115,116,111,114,101]) rfl).t tQ;obtain⟨G,-⟩:=d _ i;generalize strOfNums yO=T at *
 obtain⟨-,q⟩:=d _ i;clear h k r d;go_enter func125,ntmps125;go_wp2;go_big_quiet (fail);have j:((w.alloc (nB 0 0 0 0 0 0 0 0 0)).drewN nq).c b 1=some (.string (strOfNums p1)):=q;go_wp2_with fail;refine (x _ (t.on (g _ (f nq)).2.2)).m ?_;rintro e s ⟨c,b0,rfl,o,p,I,bL,a⟩;have D:Hid (Below (w.heap.size+1) (w.alloc (nB 0 0 0 0 0 0 0 0 0)) s):=(f nq).t (a.m (g _ (f nq)).2.1);obtain⟨bb,U,n⟩:=g _ D;have C:=Z n;have u:=Z o;have F:=Z p;clear a n o p G q j;obtain⟨⟨k0,k1,k2,k3,k4,k5,k6,k7,k8⟩,f0,f1,f2,f3,f4,f5,f6,f7,f8⟩:=xl bb;have A:=Z (XF (b0:=J 1) (b1:=J 0) (b2:=J 0) (b3:=J 0) (b4:=J 0) (b5:=J 0) (b6:=J 0) (b7:=J 0) (b8:=J c) bb);have z:Hid (xF [yO,p1] w (.returned (.tuple #[.agg #[J 1,J 0,J 0,J 0,J 0,J 0,J 0,J 0,J c],.bool b0])) (((((((((s.st w.z 0 (J 1)).st w.z 1 (J 0)).st w.z 2 (J 0)).st w.z 3 (J 0)).st w.z 4 (J 0)).st w.z 5 (J 0)).st w.z 6 (J 0)).st w.z 7 (J 0)).st w.z 8 (J c))):=P7 u F (((((((((C.setCell (Qc _) _).setCell (Qc _) _).setCell (Qc _) _).setCell (Qc _) _).setCell (Qc _) _).setCell (Qc _) _).setCell (Qc _) _).setCell (Qc _) _).setCell (Qc _) _);clear bb;go_wp2;obtain⟨⟨K,L,M,N,O,P,Q,R,S⟩,-⟩:=xl A;exact bodyPost_ret (v:=.tuple #[.agg #[J 1,J 0,J 0,J 0,J 0,J 0,J 0,J 0,J c],.bool b0]) (by simp [results,results125,go_sem,K,L,M,N,O,P,Q,R,S]) rfl z
def Qo {x:Int} (hb:ok=((zT a 18).isSome && (zT b 18).isSome && (zT c 18).isSome)) (h1:∀m,zT a 18=some m->x=m) (f:∀m,zT b 18=some m->y=m) (g:∀m,zT c 18=some m->z=m) (d:Bw w w'):xF [xT,a,b,c] w (.returned (.tuple #[.agg (zG ⟨3,0,0,0,0,x,y,z,0⟩),.bool ok])) w':=by grind [zT,xF,gK]
def Qp (p1 p2 c:Li) (b cap:Nat) (w:wO) (r:xq w) (h:ZP w b 0 4 [xT,p1,p2,c]) (s:Zk [xT,p1,p2,c]) (aa:4<=cap) (af:cap<=9223372036854775807) :
  Cp 125 #[.slice (pA b) 4 cap] w (xF [xT,p1,p2,c] w):=by
 have k:Hid (Bw w (w.alloc (nB 0 0 0 0 0 0 0 0 0))):=Qd _ _;have I:Hid ((w.alloc (nB 0 0 0 0 0 0 0 0 0)).heap.size=w.heap.size+1):=by show _=_;simp
 have f:Hid (∀y,Below (w.heap.size+1) (w.alloc (nB 0 0 0 0 0 0 0 0 0)) y->y.heap[w.heap.size]?=some (nB 0 0 0 0 0 0 0 0 0)/\w.heap.size+1<=y.heap.size/\Bw w y):=fun y a=>⟨(a.block _ oM).t (zm _ _ _),by have:=a.size;rw [I] at this;exact this,k.t (a.m oM)⟩;have d:Hid (∀nq,Below (w.heap.size+1) (w.alloc (nB 0 0 0 0 0 0 0 0 0)) ((w.alloc (nB 0 0 0 0 0 0 0 0 0)).drewN nq)):=fun nq=>xK _ _ _;have K:=h.2.1;have g:Hid (∀y,Bw w y->y.c b 0=some (.string (strOfNums xT))/\y.c b 1=some (.string (strOfNums p1))/\y.c b 2=some (.string (strOfNums p2))/\y.c b 3=some (.string (strOfNums c))):=fun y a=>⟨(h.gE a).2.2 0 oM,(h.gE a).2.2 1 oM,(h.gE a).2.2 2 oM,(h.gE a).2.2 3 oM⟩;have u:=Z r;have j:=Z (fun W R (hS:ZP W b 1 3 [p1,p2,c])=>Ah 3 [p1,p2,c] b 1 (cap - 1) W R hS (fun i=>by have:=s (i+1);exact this) oM oM);unfold pC at j;have ec:((strOfNums xT).toList == [99,111,110,115,116])=false:=(yn (l:=xT) tQ (m:=yO) tQ (b:=[99,111,110,115,116]) rfl).t tQ;have et:((strOfNums xT).toList == [116,117,114,110])=false:=(yn (l:=xT) tQ (m:=Zt) tQ (b:=[116,117,114,110]) rfl).t tQ;have el:((strOfNums xT).toList == [108,111,97,100]):=(yn (l:=xT) tQ (m:=xT) tQ (b:=[108,111,97,100]) rfl).t tQ;have es:((strOfNums xT).toList == [115,116,111,114,101])=false:=(yn (l:=xT) tQ (m:=yT) tQ (b:=[115,116,111,114,101]) rfl).t tQ;obtain⟨N,-⟩:=g _ k;generalize strOfNums xT=P0 at *
 have F:Hid (∀y,Bw w y->ZP y b 1 3 [p1,p2,c]):=fun y a=>by obtain⟨-,O,P,Q⟩:=g y a;exact⟨rfl,Qu K a.size,fun i hi=>match i,hi with | 0,_=>O | 1,_=>P | 2,_=>Q⟩
 clear h s r g;go_enter func125,ntmps125;go_wp2;go_big_quiet (fail);go_wp2_with fail;refine (j _ (u.on (f _ (d nq)).2.2) (F _ (f _ (d nq)).2.2)).m ?_;rintro e t ⟨x,y,z,ok,rfl,o,h1,p,q,a⟩;have M:Hid (Below (w.heap.size+1) (w.alloc (nB 0 0 0 0 0 0 0 0 0)) t):=(d nq).t (a.m (f _ (d nq)).2.1);obtain⟨bb,aW,n⟩:=f _ M;have L:=Z n;have A:=Z o;have B:=Z h1;have C:=Z p;have D:=Z q;clear a n o h1 p q N;obtain⟨⟨k0,k1,k2,k3,k4,k5,k6,k7,k8⟩,f0,f1,f2,f3,f4,f5,f6,f7,f8⟩:=xl bb;have H:=Z (XF (b0:=J 3) (b1:=J 0) (b2:=J 0) (b3:=J 0) (b4:=J 0) (b5:=J x) (b6:=J y) (b7:=J z) (b8:=J 0) bb);have G:Hid (xF [xT,p1,p2,c] w (.returned (.tuple #[.agg #[J 3,J 0,J 0,J 0,J 0,J x,J y,J z,J 0],.bool ok])) (((((((((t.st w.z 0 (J 3)).st w.z 1 (J 0)).st w.z 2 (J 0)).st w.z 3 (J 0)).st w.z 4 (J 0)).st w.z 5 (J x)).st w.z 6 (J y)).st w.z 7 (J z)).st w.z 8 (J 0))):=Qo A B C D (((((((((L.setCell (Qc _) _).setCell (Qc _) _).setCell (Qc _) _).setCell (Qc _) _).setCell (Qc _) _).setCell (Qc _) _).setCell (Qc _) _).setCell (Qc _) _).setCell (Qc _) _);clear bb;go_wp2;obtain⟨⟨S,T,U,V,X,s5,s6,s7,s8⟩,-⟩:=xl H;exact bodyPost_ret (v:=.tuple #[.agg #[J 3,J 0,J 0,J 0,J 0,J x,J y,J z,J 0],.bool ok]) (by simp [results,results125,go_sem,S,T,U,V,X,s5,s6,s7,s8]) rfl G
def Qx {o j i k:Int} {h:Bool} (l:ok=(k0 && k1 && h)) (h0:k0=(kh p).isSome) (n:∀m,kh p=some m->o=m) (h1:k1=(Zw a).isSome) (d:∀r,Zw a=some r->x1=r.1/\j=r.2) (s:h=(Zw b).isSome) (f:∀r,Zw b=some r->i=r.1/\k=r.2) (q:Bw w w'):xF [p,a,b] w (.returned (.tuple #[.agg (zG ⟨o,x1,j,i,k,0,0,0,0⟩),.bool ok])) w':=by
 have e:gK [p,a,b]=match kh p with
  | some o=>match Zw a,Zw b with
    | some x,some y=>some ⟨o,x.1,x.2,y.1,y.2,0,0,0,0⟩
    | _,_=>none
  | none=>none:=rfl
 refine⟨_,ok,rfl,?_,fun r hr=>?_,q⟩
 ·rw [e,l,h0,h1,s];cases kh p <;> cases Zw a <;> cases Zw b <;> rfl
 rw [e] at hr;cases g:kh p <;> cases c:Zw a <;> cases hb:Zw b <;> rw [g,c,hb] at hr <;> first | (cases hr;rw [n _ g,(d _ c).1,(d _ c).2,(f _ hb).1,(f _ hb).2]) | cases hr
def QG (f p1 p2:Li) (b cap:Nat) (w:wO) (hv:xq w) (h:ZP w b 0 3 [f,p1,p2]) (k:Zk [f,p1,p2]) (aa:3<=cap) (af:cap<=9223372036854775807) :
  Cp 125 #[.slice (pA b) 3 cap] w (xF [f,p1,p2] w):=by
 have ae:Hid (Bw w (w.alloc (nB 0 0 0 0 0 0 0 0 0))):=Qd _ _;have aj:Hid ((w.alloc (nB 0 0 0 0 0 0 0 0 0)).heap.size=w.heap.size+1):=by show _=_;simp
 have g:Hid (∀y,Below (w.heap.size+1) (w.alloc (nB 0 0 0 0 0 0 0 0 0)) y->y.heap[w.heap.size]?=some (nB 0 0 0 0 0 0 0 0 0)/\w.heap.size+1<=y.heap.size/\Bw w y):=fun y a=>⟨(a.block _ oM).t (zm _ _ _),by have:=a.size;rw [aj] at this;exact this,ae.t (a.m oM)⟩;have q:Hid (∀nq,Below (w.heap.size+1) (w.alloc (nB 0 0 0 0 0 0 0 0 0)) ((w.alloc (nB 0 0 0 0 0 0 0 0 0)).drewN nq)):=fun nq=>xK _ _ _;have ao:=h.2.1;have L:Hid (∀y,Bw w y->y.c b 0=some (.string (strOfNums f))/\y.c b 1=some (.string (strOfNums p1))/\y.c b 2=some (.string (strOfNums p2))):=fun y a=>⟨(h.gE a).2.2 0 oM,(h.gE a).2.2 1 oM,(h.gE a).2.2 2 oM⟩;have M:=Z hv;have V:=Z (fun W s=>Ot f W s (k 0).1);have Q:=Z (fun W s=>su p1 W s (k 1).1 (k 1).2);have X:=Z (fun W s=>su p2 W s (k 2).1 (k 2).2);obtain⟨bc,p,m,n,ec,et,el,es,R⟩:=DD (k 0).1;change ((strOfNums f).toList == [99,111,110,115,116])=bc at ec;change ((strOfNums f).toList == [116,117,114,110])=p at et;change ((strOfNums f).toList == [108,111,97,100])=m at el;change ((strOfNums f).toList == [115,116,111,114,101])=n at es;have az:(bc/\p=false/\m=false/\n=false)\/(bc=false/\p/\m=false/\n=false)\/(bc=false/\p=false/\m/\n=false)\/(bc=false/\p=false/\m=false/\n)\/(bc=false/\p=false/\m=false/\n=false):=R.imp (fun h=>h.2) (fun h=>h.imp (fun h=>h.2) (fun h=>h.imp (fun h=>h.2) (fun h=>h.imp (fun h=>h.2) (fun h=>h.2.2.2.2))));have U:=Z L;unfold qk at V;unfold oA at Q X;obtain⟨c0,-,-⟩:=L _ ae;generalize strOfNums f=P0 at *
 clear h k hv L R;rcases az with ⟨rfl,rfl,rfl,rfl⟩ | ⟨rfl,rfl,rfl,rfl⟩ | ⟨rfl,rfl,rfl,rfl⟩ | ⟨rfl,rfl,rfl,rfl⟩ | ⟨rfl,rfl,rfl,rfl⟩
 all_goals (
  go_enter func125,ntmps125
  go_wp2
  go_big_quiet (fail)
  go_wp2_with fail
  refine (V _ (M.on (g _ (q nq)).2.2)).m ?_
  rintro e x ⟨o,q0,rfl,bf,ho,rfl⟩
  have bF:=Z bf
  have HO:=Z ho
  obtain⟨-,c1,-⟩:=U _ (g _ (q nq)).2.2
  clear bf ho c0
  go_wp2_with fail
  refine (Q _ (M.on (g _ (q nq)).2.2)).m ?_
  rintro e i ⟨x1,j,q1,rfl,S,T,a⟩
  have O:Hid (Below (w.heap.size+1) (w.alloc (nB 0 0 0 0 0 0 0 0 0)) i):=(q nq).t (a.m (g _ (q nq)).2.1)
  have aP:=Z S
  have aO:=Z T
  have H:Hid (Below (w.heap.size+1) (w.alloc (nB 0 0 0 0 0 0 0 0 0)) (i.alloc (Ib x1 j 142))):=O.alloc (g _ O).2.1 _
  obtain⟨-,-,c2⟩:=U _ (g _ H).2.2
  have bK:=(g _ O).2.1
  clear S T a c1
  go_wp2_with fail
  refine (X _ (M.on (g _ H).2.2)).m ?_
  rintro e l ⟨c,d,P,rfl,bg,bz,a⟩
  have aU:Hid (Below (w.heap.size+1) (w.alloc (nB 0 0 0 0 0 0 0 0 0)) l):=H.t (a.m (g _ H).2.1)
  have bG:=Z bg
  have bE:=Z bz
  have I:=(a.block i.heap.size sM).t (zm i _ _)
  have d0:l.c i.heap.size 0=Y x1:=cb I
  have d1:l.c i.heap.size 1=Y j:=cb I
  have bJ:i.heap.size<l.heap.size:=(lo I)
  obtain⟨bb,aW,ai⟩:=g _ aU
  have au:=Z ai
  have aA:¬w.heap.size=i.heap.size:=oM
  have aV:¬i.heap.size=w.heap.size:=oM
  clear bg bz a c2 I ai
  go_upto_region 18 with fail
  have bN:w.heap.size<l.heap.size:=oM
  obtain⟨⟨k0,k1,k2,k3,k4,k5,k6,k7,k8⟩,f0,f1,f2,f3,f4,f5,f6,f7,f8⟩:=xl bb
  have K:=Z (XF (b0:=J o) (b1:=J x1) (b2:=J j) (b3:=J c) (b4:=J d) (b5:=J 0) (b6:=J 0) (b7:=J 0) (b8:=J 0) bb)
  have aN:Hid (Bw w ((((((((((l.st w.heap.size 0 (J o)).st w.heap.size 1 (J x1)).st w.heap.size 2 (J j)).st w.heap.size 3 (J c)).st w.heap.size 4 (J d)).st w.heap.size 5 (J 0)).st w.heap.size 6 (J 0)).st w.heap.size 7 (J 0)).st w.heap.size 8 (J 0)).alloc (Ib c d 142))):=Q6 (((((((((au.setCell (Qc _) _).setCell (Qc _) _).setCell (Qc _) _).setCell (Qc _) _).setCell (Qc _) _).setCell (Qc _) _).setCell (Qc _) _).setCell (Qc _) _).setCell (Qc _) _) (Q7 (lo K)) _
  have N:Hid (∀ok,ok=(q0 && q1 && P)->xF [f,p1,p2] w (.returned (.tuple #[.agg #[J o,J x1,J j,J c,J d,J 0,J 0,J 0,J 0],.bool ok])) ((((((((((l.st w.heap.size 0 (J o)).st w.heap.size 1 (J x1)).st w.heap.size 2 (J j)).st w.heap.size 3 (J c)).st w.heap.size 4 (J d)).st w.heap.size 5 (J 0)).st w.heap.size 6 (J 0)).st w.heap.size 7 (J 0)).st w.heap.size 8 (J 0)).alloc (Ib c d 142))):=fun ok aB=>Qx aB bF HO aP aO bG bE aN
  clear bb
  cases q0 with
  | false =>
    have r:=Z (N false rfl)
    go_wp2
    obtain⟨⟨t,u,z,A,B,C,D,F,G⟩,-⟩:=xl (oD K #[J c,J d] 142)
    exact bodyPost_ret (v:=.tuple #[.agg #[J o,J x1,J j,J c,J d,J 0,J 0,J 0,J 0],.bool false]) (by simp [results,results125,go_sem,t,u,z,A,B,C,D,F,G]) rfl r
  | true =>
    cases q1 with
    | false =>
      have r:=Z (N false rfl)
      go_wp2
      obtain⟨⟨t,u,z,A,B,C,D,F,G⟩,-⟩:=xl (oD K #[J c,J d] 142)
      exact bodyPost_ret (v:=.tuple #[.agg #[J o,J x1,J j,J c,J d,J 0,J 0,J 0,J 0],.bool false]) (by simp [results,results125,go_sem,t,u,z,A,B,C,D,F,G]) rfl r
    | true =>
      have r:=Z (N P rfl)
      go_wp2
      obtain⟨⟨t,u,z,A,B,C,D,F,G⟩,-⟩:=xl (oD K #[J c,J d] 142)
      exact bodyPost_ret (v:=.tuple #[.agg #[J o,J x1,J j,J c,J d,J 0,J 0,J 0,J 0],.bool P]) (by simp [results,results125,go_sem,t,u,z,A,B,C,D,F,G]) rfl r)
def QN {d:Li} {x f:Int} (g:ok=(k0 && k1)) (hb:k0=((zT a 18).isSome && (zT b 18).isSome && (zT c 18).isSome)) (h1:∀m,zT a 18=some m->x=m) (j:∀m,zT b 18=some m->y=m) (k:∀m,zT c 18=some m->z=m) (l:k1=(Zw d).isSome) (h:∀r,Zw d=some r->x1=r.1/\f=r.2) (i:Bw w w'):xF [yT,a,b,c,d] w (.returned (.tuple #[.agg (zG ⟨4,x1,f,0,0,x,y,z,0⟩),.bool ok])) w':=by grind [zT,Zw,xF,gK]
def QZ (p1 p2 o p:Li) (b cap:Nat) (w:wO) (hv:xq w) (h:ZP w b 0 5 [yT,p1,p2,o,p]) (u:Zk [yT,p1,p2,o,p]) (aa:5<=cap) (af:cap<=9223372036854775807) :
  Cp 125 #[.slice (pA b) 5 cap] w (xF [yT,p1,p2,o,p] w):=by
 have ae:Hid (Bw w (w.alloc (nB 0 0 0 0 0 0 0 0 0))):=Qd _ _;have aj:Hid ((w.alloc (nB 0 0 0 0 0 0 0 0 0)).heap.size=w.heap.size+1):=by show _=_;simp
 have n:Hid (∀y,Below (w.heap.size+1) (w.alloc (nB 0 0 0 0 0 0 0 0 0)) y->y.heap[w.heap.size]?=some (nB 0 0 0 0 0 0 0 0 0)/\w.heap.size+1<=y.heap.size/\Bw w y):=fun y f=>⟨(f.block _ oM).t (zm _ _ _),by have:=f.size;rw [aj] at this;exact this,ae.t (f.m oM)⟩;have r:Hid (∀nq,Below (w.heap.size+1) (w.alloc (nB 0 0 0 0 0 0 0 0 0)) ((w.alloc (nB 0 0 0 0 0 0 0 0 0)).drewN nq)):=fun nq=>xK _ _ _;have ao:=h.2.1;have q:Hid (∀y,Bw w y->y.c b 0=some (.string (strOfNums yT))/\y.c b 1=some (.string (strOfNums p1))/\y.c b 2=some (.string (strOfNums p2))/\y.c b 3=some (.string (strOfNums o))/\y.c b 4=some (.string (strOfNums p))):=fun y f=>⟨(h.gE f).2.2 0 oM,(h.gE f).2.2 1 oM,(h.gE f).2.2 2 oM,(h.gE f).2.2 3 oM,(h.gE f).2.2 4 oM⟩;have U:=Z hv;have T:=Z (fun W H (hS:ZP W b 1 3 [p1,p2,o])=>Ah 4 [p1,p2,o] b 1 (cap - 1) W H hS (fun i=>by
  have:=u (i+1);match i with
  | 0=>exact this
  | 1=>exact this
  | 2=>exact this
  | i+3=>exact⟨fun c hc=>(by cases hc),Ql _⟩) oM oM)
 have aF:=Z (fun W H=>su p W H (u 4).1 (u 4).2);unfold pC at T;unfold oA at aF;have ec:((strOfNums yT).toList == [99,111,110,115,116])=false:=(yn (l:=yT) tQ (m:=yO) tQ (b:=[99,111,110,115,116]) rfl).t tQ;have et:((strOfNums yT).toList == [116,117,114,110])=false:=(yn (l:=yT) tQ (m:=Zt) tQ (b:=[116,117,114,110]) rfl).t tQ;have el:((strOfNums yT).toList == [108,111,97,100])=false:=(yn (l:=yT) tQ (m:=xT) tQ (b:=[108,111,97,100]) rfl).t tQ;have es:((strOfNums yT).toList == [115,116,111,114,101]):=(yn (l:=yT) tQ (m:=yT) tQ (b:=[115,116,111,114,101]) rfl).t tQ;obtain⟨c0,-⟩:=q _ ae;generalize strOfNums yT=P0 at *
 have aS:Hid (∀y,Bw w y->ZP y b 1 3 [p1,p2,o]):=fun y f=>by obtain⟨-,D,F,G,-⟩:=q y f;exact⟨rfl,Qu ao f.size,fun i hi=>match i,hi with | 0,_=>D | 1,_=>F | 2,_=>G⟩
 have bD:Hid (∀y,Bw w y->y.c b 4=some (.string (strOfNums p))):=fun y f=>(q y f).2.2.2.2;clear h u hv q;go_enter func125,ntmps125;go_wp2;go_big_quiet (fail);go_wp2_with fail;refine (T _ (U.on (n _ (r nq)).2.2) (aS _ (n _ (r nq)).2.2)).m ?_;rintro e a ⟨x,y,z,q0,rfl,al,h1,h2,h3,f⟩;have C:Hid (Below (w.heap.size+1) (w.alloc (nB 0 0 0 0 0 0 0 0 0)) a):=(r nq).t (f.m (n _ (r nq)).2.1);have aD:=Z al;have aE:=Z h1;have aQ:=Z h2;have aR:=Z h3;have s:Hid (Below (w.heap.size+1) (w.alloc (nB 0 0 0 0 0 0 0 0 0)) (a.alloc (nB 4 0 0 0 0 x y z 0))):=C.alloc (n _ C).2.1 _;have c4:=bD _ (n _ s).2.2;have aJ:=(n _ C).2.1;clear f al h1 h2 h3 c0;go_wp2_with fail;refine (aF _ (U.on (n _ s).2.2)).m ?_;rintro e g ⟨x1,j,I,rfl,aH,aI,f⟩;have aU:Hid (Below (w.heap.size+1) (w.alloc (nB 0 0 0 0 0 0 0 0 0)) g):=s.t (f.m (n _ s).2.1);have aP:=Z aH;have aO:=Z aI;have d:=(f.block a.heap.size sM).t (zm a _ _);have bJ:a.heap.size<g.heap.size:=(lo d);obtain⟨bb,aW,ai⟩:=n _ aU;have au:=Z ai;have d0:g.c a.heap.size 0=Y 4:=cb d
 have g0:g.frozen? (E a.heap.size 0)=false:=qZ d
 have D:g.c a.heap.size 1=Y 0:=cb d
 have g1:g.frozen? (E a.heap.size 1)=false:=qZ d
 have F:g.c a.heap.size 2=Y 0:=cb d
 have g2:g.frozen? (E a.heap.size 2)=false:=qZ d
 have G:g.c a.heap.size 3=Y 0:=cb d
 have g3:g.frozen? (E a.heap.size 3)=false:=qZ d
 have d4:g.c a.heap.size 4=Y 0:=cb d
 have g4:g.frozen? (E a.heap.size 4)=false:=qZ d
 have d5:g.c a.heap.size 5=Y x:=cb d
 have g5:g.frozen? (E a.heap.size 5)=false:=qZ d
 have d6:g.c a.heap.size 6=Y y:=cb d
 have g6:g.frozen? (E a.heap.size 6)=false:=qZ d
 have d7:g.c a.heap.size 7=Y z:=cb d
 have g7:g.frozen? (E a.heap.size 7)=false:=qZ d
 have d8:g.c a.heap.size 8=Y 0:=cb d
 have g8:g.frozen? (E a.heap.size 8)=false:=qZ d
 have V:¬w.heap.size=a.heap.size:=oM
 have aV:¬a.heap.size=w.heap.size:=oM
 clear aH aI f c4;go_upto_region 13 with fail;obtain⟨X,hX⟩:=nm ((g.st a.z 1 (J x1)).setCell (E a.z 2) (J j));have t:X.heap[w.z]?=some (nB 0 0 0 0 0 0 0 0 0):=by rw [<-hX,Qj _ _ _ _ V,Qj _ _ _ _ V];exact bb
 have k:X.heap[a.z]?=some (nB 4 x1 j 0 0 x y z 0):=by rw [<-hX];simp [World.setCell,QC,d]
 have bC:Hid (Bw w X):=by show Below _ _ _;rw [<-hX];exact ((au.setCell (Nat.le_of_succ_le aJ) _).setCell (Nat.le_of_succ_le aJ) _)
 have bP:a.z<X.z:=(lo k);have bO:w.z<X.z:=(lo t);rw [hX];clear hX d0 D F G d4 d5 d6 d7 d8 g0 g1 g2 g3 g4 g5 g6 g7 g8 ai bb d;have e0:X.cell? (E a.z 0)=Y 4:=cb k
 have e1:X.c a.z 1=Y x1:=cb k
 have e2:X.c a.z 2=Y j:=cb k
 have e3:X.c a.z 3=Y 0:=cb k
 have e4:X.c a.z 4=Y 0:=cb k
 have e5:X.c a.z 5=Y x:=cb k
 have e6:X.c a.z 6=Y y:=cb k
 have e7:X.c a.z 7=Y z:=cb k
 have e8:X.c a.z 8=Y 0:=cb k
 obtain⟨⟨k0,k1,k2,k3,k4,k5,k6,k7,k8⟩,f0,f1,f2,f3,f4,f5,f6,f7,f8⟩:=xl t;have B:=Z (XF (b0:=J 4) (b1:=J x1) (b2:=J j) (b3:=J 0) (b4:=J 0) (b5:=J x) (b6:=J y) (b7:=J z) (b8:=J 0) t);have aN:Hid (Bw w ((((((((((X.st w.z 0 (J 4)).st w.z 1 (J x1)).st w.z 2 (J j)).st w.z 3 (J 0)).st w.z 4 (J 0)).st w.z 5 (J x)).st w.z 6 (J y)).st w.z 7 (J z)).st w.z 8 (J 0)).alloc (Ib x1 j 142))):=Q6 (((((((((bC.setCell (Qc _) _).setCell (Qc _) _).setCell (Qc _) _).setCell (Qc _) _).setCell (Qc _) _).setCell (Qc _) _).setCell (Qc _) _).setCell (Qc _) _).setCell (Qc _) _) (Q7 (lo B)) _;have aC:Hid (∀ok,ok=(q0 && I)->xF [yT,p1,p2,o,p] w (.returned (.tuple #[.agg #[J 4,J x1,J j,J 0,J 0,J x,J y,J z,J 0],.bool ok])) ((((((((((X.st w.z 0 (J 4)).st w.z 1 (J x1)).st w.z 2 (J j)).st w.z 3 (J 0)).st w.z 4 (J 0)).st w.z 5 (J x)).st w.z 6 (J y)).st w.z 7 (J z)).st w.z 8 (J 0)).alloc (Ib x1 j 142))):=fun ok aB=>QN aB aD aE aQ aR aP aO aN;clear t k;cases q0 with
 | false =>have A:=Z (aC false rfl);go_wp2;obtain⟨⟨K,L,M,N,O,P,Q,R,S⟩,-⟩:=xl (oD B #[J x1,J j] 142);exact bodyPost_ret (v:=.tuple #[.agg #[J 4,J x1,J j,J 0,J 0,J x,J y,J z,J 0],.bool false]) (by simp [results,results125,go_sem,K,L,M,N,O,P,Q,R,S]) rfl A
 | true =>have A:=Z (aC I rfl);go_wp2;obtain⟨⟨K,L,M,N,O,P,Q,R,S⟩,-⟩:=xl (oD B #[J x1,J j] 142);exact bodyPost_ret (v:=.tuple #[.agg #[J 4,J x1,J j,J 0,J 0,J x,J y,J z,J 0],.bool I]) (by simp [results,results125,go_sem,K,L,M,N,O,P,Q,R,S]) rfl A
def Q2 (ws:List Li) (b m cap:Nat) (w:wO) (k:xq w) (h:ZP w b 0 (m+1) ws) (c:Zk ws) (g:m+1<=cap) (i:cap<=9223372036854775807) :
  Cp 125 #[.slice (pA b) (m+1) cap] w (xF ws w):=by
 have f:=h.1;have d:=h.2.2 0 lI;rw [WG] at d;match ws,f,h,c,d with
 | [a],f,h,c,d =>
  obtain rfl:m=0:=by simp at f;lia
  by_cases e:a=Zt
  ·subst e;exact P6 b cap w k h c g i
  exact YV [a] a b 0 cap w d h.2.1 g i (c 0).1 lI (fun _=>lI) (fun h=>absurd h e) (fun _=>lI) (fun _=>lI) (Qe e)
 | [a,p1],f,h,c,d =>
  obtain rfl:m=1:=by simp at f;lia
  by_cases e:a=yO
  ·subst e;exact P8 p1 b cap w k h c g i
  exact YV [a,p1] a b 1 cap w d h.2.1 g i (c 0).1 lI (fun h=>absurd h e) (fun _=>lI) (fun _=>lI) (fun _=>lI) (Qe e)
 | [a,p1,p2],f,h,c,d =>
  obtain rfl:m=2:=by simp at f;lia
  exact QG a p1 p2 b cap w k h c g i
 | [a,p1,p2,j],f,h,c,d =>
  obtain rfl:m=3:=by simp at f;lia
  by_cases e:a=xT
  ·subst e;exact Qp p1 p2 j b cap w k h c g i
  exact YV [a,p1,p2,j] a b 3 cap w d h.2.1 g i (c 0).1 lI (fun _=>lI) (fun _=>lI) (fun h=>absurd h e) (fun _=>lI) (Qe e)
 | [a,p1,p2,j,n],f,h,c,d =>
  obtain rfl:m=4:=by simp at f;lia
  by_cases e:a=yT
  ·subst e;exact QZ p1 p2 j n b cap w k h c g i
  exact YV [a,p1,p2,j,n] a b 4 cap w d h.2.1 g i (c 0).1 lI (fun _=>lI) (fun _=>lI) (fun _=>lI) (fun h=>absurd h e) (Qe e)
 | a :: p1 :: p2 :: j :: n :: o :: l,f,h,c,d =>
  have hm:5<=m:=by simp at f;lia
  exact YV (a :: p1 :: p2 :: j :: n :: o :: l) a b m cap w d h.2.1 g i (c 0).1 lI (fun _=>lI) (fun _=>lI) (fun _=>lI) (fun _=>lI) rfl
end
end Go.Proofs.YtjlfcbccpcigeacGreatDoor
