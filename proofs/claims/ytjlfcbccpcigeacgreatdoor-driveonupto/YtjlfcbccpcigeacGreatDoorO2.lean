import Derived.Test.YtjlfcbccpcigeacGreatDoorO
set_option maxHeartbeats 40000000
set_option linter.defProp false
namespace Go.Proofs.YtjlfcbccpcigeacGreatDoor
open Go.Proofs.Tryz Go.RowKit Go.Joins
set_option linter.unusedVariables false
set_option linter.unusedSimpArgs false
set_option maxRecDepth 8192
section
variable {p a b c:List Int} {x w w':World} {g:Nat} {e:TypeId} {b0 b1 b2 b3 b4 b5 b6 b7 b8:Value} {y z x1:Int} {ok k0 k1:Bool}
def zig (d:By p):∃bc c a b:Bool,((strOfNums p).toList == [99,111,110,115,116])=bc/\((strOfNums p).toList == [116,117,114,110])=c/\((strOfNums p).toList == [108,111,97,100])=a/\((strOfNums p).toList == [115,116,111,114,101])=b /\
  ((p=yO/\bc=true/\c=false/\a=false/\b=false)\/(p=Zt/\bc=false/\c=true/\a=false/\b=false)\/(p=xT/\bc=false/\c=false/\a=true/\b=false)\/(p=yT/\bc=false/\c=false/\a=false/\b=true)\/(¬p=yO/\¬p=Zt/\¬p=xT/\¬p=yT/\bc=false/\c=false/\a=false/\b=false)):=by
 refine⟨_,_,_,_,yn d (m:=yO) (by decide) rfl,yn d (m:=Zt) (by decide) rfl,yn d (m:=xT) (by decide) rfl,yn d (m:=yT) (by decide) rfl,?_⟩;by_cases h1:p=yO
 ·subst h1;exact .inl ⟨rfl,by decide,by decide,by decide,by decide⟩
 grind [Zt,xT,yT]
def xl (h:x.heap[g]?=some (.cells #[b0,b1,b2,b3,b4,b5,b6,b7,b8] e (0,0))):(x.cell? (E g 0)=some b0/\x.cell? (E g 1)=some b1/\x.cell? (E g 2)=some b2/\x.cell? (E g 3)=some b3/\x.cell? (E g 4)=some b4/\x.cell? (E g 5)=some b5/\x.cell? (E g 6)=some b6/\x.cell? (E g 7)=some b7/\x.cell? (E g 8)=some b8)/\x.frozen? (E g 0)=false/\x.frozen? (E g 1)=false/\x.frozen? (E g 2)=false/\x.frozen? (E g 3)=false/\x.frozen? (E g 4)=false/\x.frozen? (E g 5)=false/\x.frozen? (E g 6)=false/\x.frozen? (E g 7)=false/\x.frozen? (E g 8)=false:=by refine⟨⟨?_,?_,?_,?_,?_,?_,?_,?_,?_⟩,?_,?_,?_,?_,?_,?_,?_,?_,?_⟩;all_goals first | (rw [Qa h];rfl) | simp [World.frozen?,h]
def zcq (h:x.heap[g]?=some (.cells #[b0,b1,b2,b3,b4,b5,b6,b7,b8] e (0,0))) (a:Array Value) (t:TypeId):(x.alloc (.cells a t)).heap[g]?=some (.cells #[b0,b1,b2,b3,b4,b5,b6,b7,b8] e (0,0)):=by rw [Qr _ _ _ (lo h)];exact h
def YV (ws:List (List Int)) (p0:List Int) (b m cap:Nat) (w:World) (c0:w.cell? (E b 0)=some (.string (strOfNums p0))) (ao:b<w.heap.size) (aa:m+1<=cap) (af:cap<=9223372036854775807) (hp:By p0) (h2:m≠2) (hc:p0=yO->m≠1) (ht:p0=Zt->m≠0) (hl:p0=xT->m≠3) (hs:p0=yT->m≠4) (bj:stO ws=none) :
  Calls prog 125 #[.slice (pA b) (m+1) cap] w (xF ws w):=by
 have ae:Hid (Bw w (w.alloc (nB 0 0 0 0 0 0 0 0 0))):=Qd _ _;obtain⟨bc,bt,bl,bs,ec,et,el,es,aG⟩:=zig hp;have c0':(w.alloc (nB 0 0 0 0 0 0 0 0 0)).cell? (E b 0)=some (.string (strOfNums p0)):=(ze ae _ _ ao).trans c0;have bM:((m:Int) == 2)=false:=Wf (by omega);have bI:=Z bj;generalize strOfNums p0=P0 at *
 clear c0 bj h2;have az:(bc=true/\bt=false/\bl=false/\bs=false/\((m:Int) == 1)=false)\/(bc=false/\bt=true/\bl=false/\bs=false/\((m:Int) == 0)=false)\/(bc=false/\bt=false/\bl=true/\bs=false/\((m:Int) == 3)=false)\/(bc=false/\bt=false/\bl=false/\bs=true/\((m:Int) == 4)=false)\/(bc=false/\bt=false/\bl=false/\bs=false/\True):=by
  grind
 clear aG hc ht hl hs hp;rcases az with ⟨rfl,rfl,rfl,rfl,aM⟩ | ⟨rfl,rfl,rfl,rfl,aM⟩ | ⟨rfl,rfl,rfl,rfl,aM⟩ | ⟨rfl,rfl,rfl,rfl,aM⟩ | ⟨rfl,rfl,rfl,rfl,aM⟩
 all_goals (
  go_enter func125,ntmps125
  go_wp2
  go_big_quiet (fail)
  go_wp2
  all_goals (
   have bb:((w.alloc (nB 0 0 0 0 0 0 0 0 0)).drewN nq).heap[w.heap.size]?=some (nB 0 0 0 0 0 0 0 0 0):=zm w _ _
   obtain⟨⟨s0,s1,s2,s3,s4,s5,s6,s7,s8⟩,-⟩:=xl (XF (b0:=J 0) (b1:=J 0) (b2:=J 0) (b3:=J 0) (b4:=J 0) (b5:=J 0) (b6:=J 0) (b7:=J 0) (b8:=J 0) bb)
   exact bodyPost_ret (v:=.tuple #[.agg #[J 0,J 0,J 0,J 0,J 0,J 0,J 0,J 0,J 0],.bool false]) (by simp [results,results125,go_sem,s0,s1,s2,s3,s4,s5,s6,s7,s8]) rfl (yhm (s:=⟨0,0,0,0,0,0,0,0,0⟩) bI ((((((((((ae.trans (xK _ nq _)).setCell (Qc _) _).setCell (Qc _) _).setCell (Qc _) _).setCell (Qc _) _).setCell (Qc _) _).setCell (Qc _) _).setCell (Qc _) _).setCell (Qc _) _).setCell (Qc _) _))))
def zpr (b cap:Nat) (w:World) (f:xq w) (h:ZP w b 0 1 [Zt]) (i:Zk [Zt]) (B:1<=cap) (D:cap<=9223372036854775807) :
  Calls prog 125 #[.slice (pA b) 1 cap] w (xF [Zt] w):=by
 have c:Hid (Bw w (w.alloc (nB 0 0 0 0 0 0 0 0 0))):=Qd _ _;have g:Hid ((w.alloc (nB 0 0 0 0 0 0 0 0 0)).heap.size=w.heap.size+1):=by show _=_;simp
 have C:Hid (∀y,Below (w.heap.size+1) (w.alloc (nB 0 0 0 0 0 0 0 0 0)) y->y.heap[w.heap.size]?=some (nB 0 0 0 0 0 0 0 0 0)/\w.heap.size+1<=y.heap.size/\Bw w y):=fun y a=>⟨(a.block _ (by omega)).trans (zm _ _ _),by have:=a.size;rw [g] at this;exact this,c.trans (a.mono (by omega))⟩;have x:Hid (∀nq,Below (w.heap.size+1) (w.alloc (nB 0 0 0 0 0 0 0 0 0)) ((w.alloc (nB 0 0 0 0 0 0 0 0 0)).drewN nq)):=fun nq=>xK _ _ _;have F:=h.2.1;have d:Hid (∀y,Bw w y->y.cell? (E b 0)=some (.string (strOfNums Zt))/\True):=fun y a=>⟨(h.gE a).2.2 0 (by omega),trivial⟩;have z:=Z f;have ec:((strOfNums Zt).toList == [99,111,110,115,116])=false:=(yn (l:=Zt) (by decide) (m:=yO) (by decide) (b:=[99,111,110,115,116]) rfl).trans (by decide);have K:((strOfNums Zt).toList == [116,117,114,110])=true:=(yn (l:=Zt) (by decide) (m:=Zt) (by decide) (b:=[116,117,114,110]) rfl).trans (by decide);have H:((strOfNums Zt).toList == [108,111,97,100])=false:=(yn (l:=Zt) (by decide) (m:=xT) (by decide) (b:=[108,111,97,100]) rfl).trans (by decide);have I:((strOfNums Zt).toList == [115,116,111,114,101])=false:=(yn (l:=Zt) (by decide) (m:=yT) (by decide) (b:=[115,116,111,114,101]) rfl).trans (by decide);obtain⟨G,-⟩:=d _ c;generalize strOfNums Zt=A at *
 clear h i f d;go_enter func125,ntmps125;go_wp2;go_big_quiet (fail);go_wp2
 all_goals (
  have bb:((w.alloc (nB 0 0 0 0 0 0 0 0 0)).drewN nq).heap[w.heap.size]?=some (nB 0 0 0 0 0 0 0 0 0):=zm w _ _
  obtain⟨⟨j,k,n,o,p,q,s,t,u⟩,-⟩:=xl (XF (b0:=J 2) (b1:=J 0) (b2:=J 0) (b3:=J 0) (b4:=J 0) (b5:=J 0) (b6:=J 0) (b7:=J 0) (b8:=J 0) bb)
  exact bodyPost_ret (v:=.tuple #[.agg #[J 2,J 0,J 0,J 0,J 0,J 0,J 0,J 0,J 0],.bool true]) (by simp [results,results125,go_sem,j,k,n,o,p,q,s,t,u]) rfl (⟨⟨2,0,0,0,0,0,0,0,0⟩,true,rfl,rfl,fun r hr=>QD hr,((((((((((c.trans (xK _ nq _)).setCell (Qc _) _).setCell (Qc _) _).setCell (Qc _) _).setCell (Qc _) _).setCell (Qc _) _).setCell (Qc _) _).setCell (Qc _) _).setCell (Qc _) _).setCell (Qc _) _)⟩))
def zz9 {b:Int} {b0:Bool} (hb:b0=(zT a 19).isSome) (hn:∀m,zT a 19=some m->b=m) (c:Bw w w'):xF [yO,a] w (.returned (.tuple #[.agg (zG ⟨1,0,0,0,0,0,0,0,b⟩),.bool b0])) w':=by grind [zT,xF,stO]
def zmm (p1:List Int) (b cap:Nat) (w:World) (r:xq w) (h:ZP w b 0 2 [yO,p1]) (k:Zk [yO,p1]) (V:2<=cap) (X:cap<=9223372036854775807) :
  Calls prog 125 #[.slice (pA b) 2 cap] w (xF [yO,p1] w):=by
 have i:Hid (Bw w (w.alloc (nB 0 0 0 0 0 0 0 0 0))):=Qd _ _;have B:Hid ((w.alloc (nB 0 0 0 0 0 0 0 0 0)).heap.size=w.heap.size+1):=by show _=_;simp
 have g:Hid (∀y,Below (w.heap.size+1) (w.alloc (nB 0 0 0 0 0 0 0 0 0)) y->y.heap[w.heap.size]?=some (nB 0 0 0 0 0 0 0 0 0)/\w.heap.size+1<=y.heap.size/\Bw w y):=fun y a=>⟨(a.block _ (by omega)).trans (zm _ _ _),by have:=a.size;rw [B] at this;exact this,i.trans (a.mono (by omega))⟩;have f:Hid (∀nq,Below (w.heap.size+1) (w.alloc (nB 0 0 0 0 0 0 0 0 0)) ((w.alloc (nB 0 0 0 0 0 0 0 0 0)).drewN nq)):=fun nq=>xK _ _ _;have ao:=h.2.1;have d:Hid (∀y,Bw w y->y.cell? (E b 0)=some (.string (strOfNums yO))/\y.cell? (E b 1)=some (.string (strOfNums p1))):=fun y a=>⟨(h.gE a).2.2 0 (by omega),(h.gE a).2.2 1 (by omega)⟩;have t:=Z r;have x:=Z (fun W H=>zcs p1 W H (k 1).1 (k 1).2);have ec:((strOfNums yO).toList == [99,111,110,115,116])=true:=(yn (l:=yO) (by decide) (m:=yO) (by decide) (b:=[99,111,110,115,116]) rfl).trans (by decide);have et:((strOfNums yO).toList == [116,117,114,110])=false:=(yn (l:=yO) (by decide) (m:=Zt) (by decide) (b:=[116,117,114,110]) rfl).trans (by decide);have el:((strOfNums yO).toList == [108,111,97,100])=false:=(yn (l:=yO) (by decide) (m:=xT) (by decide) (b:=[108,111,97,100]) rfl).trans (by decide);have es:((strOfNums yO).toList == [115,116,111,114,101])=false:=(yn (l:=yO) (by decide) (m:=yT) (by decide) (b:=[115,116,111,114,101]) rfl).trans (by decide);obtain⟨G,-⟩:=d _ i;generalize strOfNums yO=T at *
 obtain⟨-,q⟩:=d _ i;clear h k r d;go_enter func125,ntmps125;go_wp2;go_big_quiet (fail);have j:((w.alloc (nB 0 0 0 0 0 0 0 0 0)).drewN nq).cell? (E b 1)=some (.string (strOfNums p1)):=q;go_wp2_with fail;refine (x _ (t.on (g _ (f nq)).2.2)).mono ?_;rintro e s ⟨c,b0,rfl,o,p,I,bL,a⟩;have D:Hid (Below (w.heap.size+1) (w.alloc (nB 0 0 0 0 0 0 0 0 0)) s):=(f nq).trans (a.mono (g _ (f nq)).2.1);obtain⟨bb,U,n⟩:=g _ D;have C:=Z n;have u:=Z o;have F:=Z p;clear a n o p G q j;obtain⟨⟨k0,k1,k2,k3,k4,k5,k6,k7,k8⟩,f0,f1,f2,f3,f4,f5,f6,f7,f8⟩:=xl bb;have A:=Z (XF (b0:=J 1) (b1:=J 0) (b2:=J 0) (b3:=J 0) (b4:=J 0) (b5:=J 0) (b6:=J 0) (b7:=J 0) (b8:=J c) bb);have z:Hid (xF [yO,p1] w (.returned (.tuple #[.agg #[J 1,J 0,J 0,J 0,J 0,J 0,J 0,J 0,J c],.bool b0])) (((((((((s.setCell (E w.heap.size 0) (J 1)).setCell (E w.heap.size 1) (J 0)).setCell (E w.heap.size 2) (J 0)).setCell (E w.heap.size 3) (J 0)).setCell (E w.heap.size 4) (J 0)).setCell (E w.heap.size 5) (J 0)).setCell (E w.heap.size 6) (J 0)).setCell (E w.heap.size 7) (J 0)).setCell (E w.heap.size 8) (J c))):=zz9 u F (((((((((C.setCell (Qc _) _).setCell (Qc _) _).setCell (Qc _) _).setCell (Qc _) _).setCell (Qc _) _).setCell (Qc _) _).setCell (Qc _) _).setCell (Qc _) _).setCell (Qc _) _);clear bb;go_wp2;obtain⟨⟨K,L,M,N,O,P,Q,R,S⟩,-⟩:=xl A;exact bodyPost_ret (v:=.tuple #[.agg #[J 1,J 0,J 0,J 0,J 0,J 0,J 0,J 0,J c],.bool b0]) (by simp [results,results125,go_sem,K,L,M,N,O,P,Q,R,S]) rfl z
def ye8 {x:Int} (hb:ok=((zT a 18).isSome && (zT b 18).isSome && (zT c 18).isSome)) (h1:∀m,zT a 18=some m->x=m) (f:∀m,zT b 18=some m->y=m) (g:∀m,zT c 18=some m->z=m) (d:Bw w w'):xF [xT,a,b,c] w (.returned (.tuple #[.agg (zG ⟨3,0,0,0,0,x,y,z,0⟩),.bool ok])) w':=by grind [zT,xF,stO]
def zpq (p1 p2 c:List Int) (b cap:Nat) (w:World) (r:xq w) (h:ZP w b 0 4 [xT,p1,p2,c]) (s:Zk [xT,p1,p2,c]) (aa:4<=cap) (af:cap<=9223372036854775807) :
  Calls prog 125 #[.slice (pA b) 4 cap] w (xF [xT,p1,p2,c] w):=by
 have k:Hid (Bw w (w.alloc (nB 0 0 0 0 0 0 0 0 0))):=Qd _ _;have I:Hid ((w.alloc (nB 0 0 0 0 0 0 0 0 0)).heap.size=w.heap.size+1):=by show _=_;simp
 have f:Hid (∀y,Below (w.heap.size+1) (w.alloc (nB 0 0 0 0 0 0 0 0 0)) y->y.heap[w.heap.size]?=some (nB 0 0 0 0 0 0 0 0 0)/\w.heap.size+1<=y.heap.size/\Bw w y):=fun y a=>⟨(a.block _ (by omega)).trans (zm _ _ _),by have:=a.size;rw [I] at this;exact this,k.trans (a.mono (by omega))⟩;have d:Hid (∀nq,Below (w.heap.size+1) (w.alloc (nB 0 0 0 0 0 0 0 0 0)) ((w.alloc (nB 0 0 0 0 0 0 0 0 0)).drewN nq)):=fun nq=>xK _ _ _;have K:=h.2.1;have g:Hid (∀y,Bw w y->y.cell? (E b 0)=some (.string (strOfNums xT))/\y.cell? (E b 1)=some (.string (strOfNums p1))/\y.cell? (E b 2)=some (.string (strOfNums p2))/\y.cell? (E b 3)=some (.string (strOfNums c))):=fun y a=>⟨(h.gE a).2.2 0 (by omega),(h.gE a).2.2 1 (by omega),(h.gE a).2.2 2 (by omega),(h.gE a).2.2 3 (by omega)⟩;have u:=Z r;have j:=Z (fun W R (hS:ZP W b 1 3 [p1,p2,c])=>zcn 3 [p1,p2,c] b 1 (cap - 1) W R hS (fun i=>by have:=s (i+1);exact this) (by omega) (by omega));unfold zfa at j;have ec:((strOfNums xT).toList == [99,111,110,115,116])=false:=(yn (l:=xT) (by decide) (m:=yO) (by decide) (b:=[99,111,110,115,116]) rfl).trans (by decide);have et:((strOfNums xT).toList == [116,117,114,110])=false:=(yn (l:=xT) (by decide) (m:=Zt) (by decide) (b:=[116,117,114,110]) rfl).trans (by decide);have el:((strOfNums xT).toList == [108,111,97,100])=true:=(yn (l:=xT) (by decide) (m:=xT) (by decide) (b:=[108,111,97,100]) rfl).trans (by decide);have es:((strOfNums xT).toList == [115,116,111,114,101])=false:=(yn (l:=xT) (by decide) (m:=yT) (by decide) (b:=[115,116,111,114,101]) rfl).trans (by decide);obtain⟨N,-⟩:=g _ k;generalize strOfNums xT=P0 at *
 have F:Hid (∀y,Bw w y->ZP y b 1 3 [p1,p2,c]):=fun y a=>by obtain⟨-,O,P,Q⟩:=g y a;exact⟨rfl,Qu K a.size,fun i hi=>match i,hi with | 0,_=>O | 1,_=>P | 2,_=>Q⟩
 clear h s r g;go_enter func125,ntmps125;go_wp2;go_big_quiet (fail);go_wp2_with fail;refine (j _ (u.on (f _ (d nq)).2.2) (F _ (f _ (d nq)).2.2)).mono ?_;rintro e t ⟨x,y,z,ok,rfl,o,h1,p,q,a⟩;have M:Hid (Below (w.heap.size+1) (w.alloc (nB 0 0 0 0 0 0 0 0 0)) t):=(d nq).trans (a.mono (f _ (d nq)).2.1);obtain⟨bb,aW,n⟩:=f _ M;have L:=Z n;have A:=Z o;have B:=Z h1;have C:=Z p;have D:=Z q;clear a n o h1 p q N;obtain⟨⟨k0,k1,k2,k3,k4,k5,k6,k7,k8⟩,f0,f1,f2,f3,f4,f5,f6,f7,f8⟩:=xl bb;have H:=Z (XF (b0:=J 3) (b1:=J 0) (b2:=J 0) (b3:=J 0) (b4:=J 0) (b5:=J x) (b6:=J y) (b7:=J z) (b8:=J 0) bb);have G:Hid (xF [xT,p1,p2,c] w (.returned (.tuple #[.agg #[J 3,J 0,J 0,J 0,J 0,J x,J y,J z,J 0],.bool ok])) (((((((((t.setCell (E w.heap.size 0) (J 3)).setCell (E w.heap.size 1) (J 0)).setCell (E w.heap.size 2) (J 0)).setCell (E w.heap.size 3) (J 0)).setCell (E w.heap.size 4) (J 0)).setCell (E w.heap.size 5) (J x)).setCell (E w.heap.size 6) (J y)).setCell (E w.heap.size 7) (J z)).setCell (E w.heap.size 8) (J 0))):=ye8 A B C D (((((((((L.setCell (Qc _) _).setCell (Qc _) _).setCell (Qc _) _).setCell (Qc _) _).setCell (Qc _) _).setCell (Qc _) _).setCell (Qc _) _).setCell (Qc _) _).setCell (Qc _) _);clear bb;go_wp2;obtain⟨⟨S,T,U,V,X,s5,s6,s7,s8⟩,-⟩:=xl H;exact bodyPost_ret (v:=.tuple #[.agg #[J 3,J 0,J 0,J 0,J 0,J x,J y,J z,J 0],.bool ok]) (by simp [results,results125,go_sem,S,T,U,V,X,s5,s6,s7,s8]) rfl G
def yjx {o j i k:Int} {h:Bool} (l:ok=(k0 && k1 && h)) (h0:k0=(opF p).isSome) (n:∀m,opF p=some m->o=m) (h1:k1=(Zw a).isSome) (d:∀r,Zw a=some r->x1=r.1/\j=r.2) (s:h=(Zw b).isSome) (f:∀r,Zw b=some r->i=r.1/\k=r.2) (q:Bw w w'):xF [p,a,b] w (.returned (.tuple #[.agg (zG ⟨o,x1,j,i,k,0,0,0,0⟩),.bool ok])) w':=by
 have e:stO [p,a,b]=match opF p with
  | some o=>match Zw a,Zw b with
    | some x,some y=>some ⟨o,x.1,x.2,y.1,y.2,0,0,0,0⟩
    | _,_=>none
  | none=>none:=rfl
 refine⟨_,ok,rfl,?_,fun r hr=>?_,q⟩
 ·rw [e,l,h0,h1,s];cases opF p <;> cases Zw a <;> cases Zw b <;> rfl
 rw [e] at hr;cases g:opF p <;> cases c:Zw a <;> cases hb:Zw b <;> rw [g,c,hb] at hr <;> first | (cases hr;rw [n _ g,(d _ c).1,(d _ c).2,(f _ hb).1,(f _ hb).2]) | cases hr
def zz4 (f p1 p2:List Int) (b cap:Nat) (w:World) (hv:xq w) (h:ZP w b 0 3 [f,p1,p2]) (k:Zk [f,p1,p2]) (aa:3<=cap) (af:cap<=9223372036854775807) :
  Calls prog 125 #[.slice (pA b) 3 cap] w (xF [f,p1,p2] w):=by
 have ae:Hid (Bw w (w.alloc (nB 0 0 0 0 0 0 0 0 0))):=Qd _ _;have aj:Hid ((w.alloc (nB 0 0 0 0 0 0 0 0 0)).heap.size=w.heap.size+1):=by show _=_;simp
 have g:Hid (∀y,Below (w.heap.size+1) (w.alloc (nB 0 0 0 0 0 0 0 0 0)) y->y.heap[w.heap.size]?=some (nB 0 0 0 0 0 0 0 0 0)/\w.heap.size+1<=y.heap.size/\Bw w y):=fun y a=>⟨(a.block _ (by omega)).trans (zm _ _ _),by have:=a.size;rw [aj] at this;exact this,ae.trans (a.mono (by omega))⟩;have q:Hid (∀nq,Below (w.heap.size+1) (w.alloc (nB 0 0 0 0 0 0 0 0 0)) ((w.alloc (nB 0 0 0 0 0 0 0 0 0)).drewN nq)):=fun nq=>xK _ _ _;have ao:=h.2.1;have L:Hid (∀y,Bw w y->y.cell? (E b 0)=some (.string (strOfNums f))/\y.cell? (E b 1)=some (.string (strOfNums p1))/\y.cell? (E b 2)=some (.string (strOfNums p2))):=fun y a=>⟨(h.gE a).2.2 0 (by omega),(h.gE a).2.2 1 (by omega),(h.gE a).2.2 2 (by omega)⟩;have M:=Z hv;have V:=Z (fun W s=>ztm f W s (k 0).1);have Q:=Z (fun W s=>zdy p1 W s (k 1).1 (k 1).2);have X:=Z (fun W s=>zdy p2 W s (k 2).1 (k 2).2);obtain⟨bc,p,m,n,ec,et,el,es,R⟩:=zig (k 0).1;change ((strOfNums f).toList == [99,111,110,115,116])=bc at ec;change ((strOfNums f).toList == [116,117,114,110])=p at et;change ((strOfNums f).toList == [108,111,97,100])=m at el;change ((strOfNums f).toList == [115,116,111,114,101])=n at es;have az:(bc=true/\p=false/\m=false/\n=false)\/(bc=false/\p=true/\m=false/\n=false)\/(bc=false/\p=false/\m=true/\n=false)\/(bc=false/\p=false/\m=false/\n=true)\/(bc=false/\p=false/\m=false/\n=false):=R.imp (fun h=>h.2) (fun h=>h.imp (fun h=>h.2) (fun h=>h.imp (fun h=>h.2) (fun h=>h.imp (fun h=>h.2) (fun h=>h.2.2.2.2))));have U:=Z L;unfold zll at V;unfold zbx at Q X;obtain⟨c0,-,-⟩:=L _ ae;generalize strOfNums f=P0 at *
 clear h k hv L R;rcases az with ⟨rfl,rfl,rfl,rfl⟩ | ⟨rfl,rfl,rfl,rfl⟩ | ⟨rfl,rfl,rfl,rfl⟩ | ⟨rfl,rfl,rfl,rfl⟩ | ⟨rfl,rfl,rfl,rfl⟩
 all_goals (
  go_enter func125,ntmps125
  go_wp2
  go_big_quiet (fail)
  go_wp2_with fail
  refine (V _ (M.on (g _ (q nq)).2.2)).mono ?_
  rintro e x ⟨o,q0,rfl,bf,ho,rfl⟩
  have bF:=Z bf
  have HO:=Z ho
  obtain⟨-,c1,-⟩:=U _ (g _ (q nq)).2.2
  clear bf ho c0
  go_wp2_with fail
  refine (Q _ (M.on (g _ (q nq)).2.2)).mono ?_
  rintro e i ⟨x1,j,q1,rfl,S,T,a⟩
  have O:Hid (Below (w.heap.size+1) (w.alloc (nB 0 0 0 0 0 0 0 0 0)) i):=(q nq).trans (a.mono (g _ (q nq)).2.1)
  have aP:=Z S
  have aO:=Z T
  have H:Hid (Below (w.heap.size+1) (w.alloc (nB 0 0 0 0 0 0 0 0 0)) (i.alloc (.cells #[J x1,J j] 142))):=O.alloc (g _ O).2.1 _
  obtain⟨-,-,c2⟩:=U _ (g _ H).2.2
  have bK:=(g _ O).2.1
  clear S T a c1
  go_wp2_with fail
  refine (X _ (M.on (g _ H).2.2)).mono ?_
  rintro e l ⟨c,d,P,rfl,bg,bz,a⟩
  have aU:Hid (Below (w.heap.size+1) (w.alloc (nB 0 0 0 0 0 0 0 0 0)) l):=H.trans (a.mono (g _ H).2.1)
  have bG:=Z bg
  have bE:=Z bz
  have I:=(a.block i.heap.size (by simp)).trans (zm i _ _)
  have d0:l.cell? (E i.heap.size 0)=Y x1:=cb I
  have d1:l.cell? (E i.heap.size 1)=Y j:=cb I
  have bJ:i.heap.size<l.heap.size:=(lo I)
  obtain⟨bb,aW,ai⟩:=g _ aU
  have au:=Z ai
  have aA:¬w.heap.size=i.heap.size:=by omega
  have aV:¬i.heap.size=w.heap.size:=by omega
  clear bg bz a c2 I ai
  go_upto_region 18 with fail
  have bN:w.heap.size<l.heap.size:=by omega
  obtain⟨⟨k0,k1,k2,k3,k4,k5,k6,k7,k8⟩,f0,f1,f2,f3,f4,f5,f6,f7,f8⟩:=xl bb
  have K:=Z (XF (b0:=J o) (b1:=J x1) (b2:=J j) (b3:=J c) (b4:=J d) (b5:=J 0) (b6:=J 0) (b7:=J 0) (b8:=J 0) bb)
  have aN:Hid (Bw w ((((((((((l.setCell (E w.heap.size 0) (J o)).setCell (E w.heap.size 1) (J x1)).setCell (E w.heap.size 2) (J j)).setCell (E w.heap.size 3) (J c)).setCell (E w.heap.size 4) (J d)).setCell (E w.heap.size 5) (J 0)).setCell (E w.heap.size 6) (J 0)).setCell (E w.heap.size 7) (J 0)).setCell (E w.heap.size 8) (J 0)).alloc (.cells #[J c,J d] 142))):=Q6 (((((((((au.setCell (Qc _) _).setCell (Qc _) _).setCell (Qc _) _).setCell (Qc _) _).setCell (Qc _) _).setCell (Qc _) _).setCell (Qc _) _).setCell (Qc _) _).setCell (Qc _) _) (Q7 (lo K)) _
  have N:Hid (∀ok,ok=(q0 && q1 && P)->xF [f,p1,p2] w (.returned (.tuple #[.agg #[J o,J x1,J j,J c,J d,J 0,J 0,J 0,J 0],.bool ok])) ((((((((((l.setCell (E w.heap.size 0) (J o)).setCell (E w.heap.size 1) (J x1)).setCell (E w.heap.size 2) (J j)).setCell (E w.heap.size 3) (J c)).setCell (E w.heap.size 4) (J d)).setCell (E w.heap.size 5) (J 0)).setCell (E w.heap.size 6) (J 0)).setCell (E w.heap.size 7) (J 0)).setCell (E w.heap.size 8) (J 0)).alloc (.cells #[J c,J d] 142))):=fun ok aB=>yjx aB bF HO aP aO bG bE aN
  clear bb
  cases q0 with
  | false =>
    have r:=Z (N false rfl)
    go_wp2
    obtain⟨⟨t,u,z,A,B,C,D,F,G⟩,-⟩:=xl (zcq K #[J c,J d] 142)
    exact bodyPost_ret (v:=.tuple #[.agg #[J o,J x1,J j,J c,J d,J 0,J 0,J 0,J 0],.bool false]) (by simp [results,results125,go_sem,t,u,z,A,B,C,D,F,G]) rfl r
  | true =>
    cases q1 with
    | false =>
      have r:=Z (N false rfl)
      go_wp2
      obtain⟨⟨t,u,z,A,B,C,D,F,G⟩,-⟩:=xl (zcq K #[J c,J d] 142)
      exact bodyPost_ret (v:=.tuple #[.agg #[J o,J x1,J j,J c,J d,J 0,J 0,J 0,J 0],.bool false]) (by simp [results,results125,go_sem,t,u,z,A,B,C,D,F,G]) rfl r
    | true =>
      have r:=Z (N P rfl)
      go_wp2
      obtain⟨⟨t,u,z,A,B,C,D,F,G⟩,-⟩:=xl (zcq K #[J c,J d] 142)
      exact bodyPost_ret (v:=.tuple #[.agg #[J o,J x1,J j,J c,J d,J 0,J 0,J 0,J 0],.bool P]) (by simp [results,results125,go_sem,t,u,z,A,B,C,D,F,G]) rfl r)
def zza {d:List Int} {x f:Int} (g:ok=(k0 && k1)) (hb:k0=((zT a 18).isSome && (zT b 18).isSome && (zT c 18).isSome)) (h1:∀m,zT a 18=some m->x=m) (j:∀m,zT b 18=some m->y=m) (k:∀m,zT c 18=some m->z=m) (l:k1=(Zw d).isSome) (h:∀r,Zw d=some r->x1=r.1/\f=r.2) (i:Bw w w'):xF [yT,a,b,c,d] w (.returned (.tuple #[.agg (zG ⟨4,x1,f,0,0,x,y,z,0⟩),.bool ok])) w':=by grind [zT,Zw,xF,stO]
def zmn (p1 p2 o p:List Int) (b cap:Nat) (w:World) (hv:xq w) (h:ZP w b 0 5 [yT,p1,p2,o,p]) (u:Zk [yT,p1,p2,o,p]) (aa:5<=cap) (af:cap<=9223372036854775807) :
  Calls prog 125 #[.slice (pA b) 5 cap] w (xF [yT,p1,p2,o,p] w):=by
 have ae:Hid (Bw w (w.alloc (nB 0 0 0 0 0 0 0 0 0))):=Qd _ _;have aj:Hid ((w.alloc (nB 0 0 0 0 0 0 0 0 0)).heap.size=w.heap.size+1):=by show _=_;simp
 have n:Hid (∀y,Below (w.heap.size+1) (w.alloc (nB 0 0 0 0 0 0 0 0 0)) y->y.heap[w.heap.size]?=some (nB 0 0 0 0 0 0 0 0 0)/\w.heap.size+1<=y.heap.size/\Bw w y):=fun y f=>⟨(f.block _ (by omega)).trans (zm _ _ _),by have:=f.size;rw [aj] at this;exact this,ae.trans (f.mono (by omega))⟩;have r:Hid (∀nq,Below (w.heap.size+1) (w.alloc (nB 0 0 0 0 0 0 0 0 0)) ((w.alloc (nB 0 0 0 0 0 0 0 0 0)).drewN nq)):=fun nq=>xK _ _ _;have ao:=h.2.1;have q:Hid (∀y,Bw w y->y.cell? (E b 0)=some (.string (strOfNums yT))/\y.cell? (E b 1)=some (.string (strOfNums p1))/\y.cell? (E b 2)=some (.string (strOfNums p2))/\y.cell? (E b 3)=some (.string (strOfNums o))/\y.cell? (E b 4)=some (.string (strOfNums p))):=fun y f=>⟨(h.gE f).2.2 0 (by omega),(h.gE f).2.2 1 (by omega),(h.gE f).2.2 2 (by omega),(h.gE f).2.2 3 (by omega),(h.gE f).2.2 4 (by omega)⟩;have U:=Z hv;have T:=Z (fun W H (hS:ZP W b 1 3 [p1,p2,o])=>zcn 4 [p1,p2,o] b 1 (cap - 1) W H hS (fun i=>by
  have:=u (i+1);match i with
  | 0=>exact this
  | 1=>exact this
  | 2=>exact this
  | i+3=>exact⟨fun c hc=>(by cases hc),Ql _⟩) (by omega) (by omega))
 have aF:=Z (fun W H=>zdy p W H (u 4).1 (u 4).2);unfold zfa at T;unfold zbx at aF;have ec:((strOfNums yT).toList == [99,111,110,115,116])=false:=(yn (l:=yT) (by decide) (m:=yO) (by decide) (b:=[99,111,110,115,116]) rfl).trans (by decide);have et:((strOfNums yT).toList == [116,117,114,110])=false:=(yn (l:=yT) (by decide) (m:=Zt) (by decide) (b:=[116,117,114,110]) rfl).trans (by decide);have el:((strOfNums yT).toList == [108,111,97,100])=false:=(yn (l:=yT) (by decide) (m:=xT) (by decide) (b:=[108,111,97,100]) rfl).trans (by decide);have es:((strOfNums yT).toList == [115,116,111,114,101])=true:=(yn (l:=yT) (by decide) (m:=yT) (by decide) (b:=[115,116,111,114,101]) rfl).trans (by decide);obtain⟨c0,-⟩:=q _ ae;generalize strOfNums yT=P0 at *
 have aS:Hid (∀y,Bw w y->ZP y b 1 3 [p1,p2,o]):=fun y f=>by obtain⟨-,D,F,G,-⟩:=q y f;exact⟨rfl,Qu ao f.size,fun i hi=>match i,hi with | 0,_=>D | 1,_=>F | 2,_=>G⟩
 have bD:Hid (∀y,Bw w y->y.cell? (E b 4)=some (.string (strOfNums p))):=fun y f=>(q y f).2.2.2.2;clear h u hv q;go_enter func125,ntmps125;go_wp2;go_big_quiet (fail);go_wp2_with fail;refine (T _ (U.on (n _ (r nq)).2.2) (aS _ (n _ (r nq)).2.2)).mono ?_;rintro e a ⟨x,y,z,q0,rfl,al,h1,h2,h3,f⟩;have C:Hid (Below (w.heap.size+1) (w.alloc (nB 0 0 0 0 0 0 0 0 0)) a):=(r nq).trans (f.mono (n _ (r nq)).2.1);have aD:=Z al;have aE:=Z h1;have aQ:=Z h2;have aR:=Z h3;have s:Hid (Below (w.heap.size+1) (w.alloc (nB 0 0 0 0 0 0 0 0 0)) (a.alloc (nB 4 0 0 0 0 x y z 0))):=C.alloc (n _ C).2.1 _;have c4:=bD _ (n _ s).2.2;have aJ:=(n _ C).2.1;clear f al h1 h2 h3 c0;go_wp2_with fail;refine (aF _ (U.on (n _ s).2.2)).mono ?_;rintro e g ⟨x1,j,I,rfl,aH,aI,f⟩;have aU:Hid (Below (w.heap.size+1) (w.alloc (nB 0 0 0 0 0 0 0 0 0)) g):=s.trans (f.mono (n _ s).2.1);have aP:=Z aH;have aO:=Z aI;have d:=(f.block a.heap.size (by simp)).trans (zm a _ _);have bJ:a.heap.size<g.heap.size:=(lo d);obtain⟨bb,aW,ai⟩:=n _ aU;have au:=Z ai;have d0:g.cell? (E a.heap.size 0)=Y 4:=cb d
 have g0:g.frozen? (E a.heap.size 0)=false:=by simp [World.frozen?,d]
 have D:g.cell? (E a.heap.size 1)=Y 0:=cb d
 have g1:g.frozen? (E a.heap.size 1)=false:=by simp [World.frozen?,d]
 have F:g.cell? (E a.heap.size 2)=Y 0:=cb d
 have g2:g.frozen? (E a.heap.size 2)=false:=by simp [World.frozen?,d]
 have G:g.cell? (E a.heap.size 3)=Y 0:=cb d
 have g3:g.frozen? (E a.heap.size 3)=false:=by simp [World.frozen?,d]
 have d4:g.cell? (E a.heap.size 4)=Y 0:=cb d
 have g4:g.frozen? (E a.heap.size 4)=false:=by simp [World.frozen?,d]
 have d5:g.cell? (E a.heap.size 5)=Y x:=cb d
 have g5:g.frozen? (E a.heap.size 5)=false:=by simp [World.frozen?,d]
 have d6:g.cell? (E a.heap.size 6)=Y y:=cb d
 have g6:g.frozen? (E a.heap.size 6)=false:=by simp [World.frozen?,d]
 have d7:g.cell? (E a.heap.size 7)=Y z:=cb d
 have g7:g.frozen? (E a.heap.size 7)=false:=by simp [World.frozen?,d]
 have d8:g.cell? (E a.heap.size 8)=Y 0:=cb d
 have g8:g.frozen? (E a.heap.size 8)=false:=by simp [World.frozen?,d]
 have V:¬w.heap.size=a.heap.size:=by omega
 have aV:¬a.heap.size=w.heap.size:=by omega
 clear aH aI f c4;go_upto_region 13 with fail;obtain⟨X,hX⟩:=nm ((g.setCell (E a.heap.size 1) (J x1)).setCell (E a.heap.size 2) (J j));have t:X.heap[w.heap.size]?=some (nB 0 0 0 0 0 0 0 0 0):=by rw [<-hX,Qj _ _ _ _ V,Qj _ _ _ _ V];exact bb
 have k:X.heap[a.heap.size]?=some (nB 4 x1 j 0 0 x y z 0):=by rw [<-hX];simp [World.setCell,QC,d]
 have bC:Hid (Bw w X):=by show Below _ _ _;rw [<-hX];exact ((au.setCell (Nat.le_of_succ_le aJ) _).setCell (Nat.le_of_succ_le aJ) _)
 have bP:a.heap.size<X.heap.size:=(lo k);have bO:w.heap.size<X.heap.size:=(lo t);rw [hX];clear hX d0 D F G d4 d5 d6 d7 d8 g0 g1 g2 g3 g4 g5 g6 g7 g8 ai bb d;have e0:X.cell? (E a.heap.size 0)=Y 4:=cb k
 have e1:X.cell? (E a.heap.size 1)=Y x1:=cb k
 have e2:X.cell? (E a.heap.size 2)=Y j:=cb k
 have e3:X.cell? (E a.heap.size 3)=Y 0:=cb k
 have e4:X.cell? (E a.heap.size 4)=Y 0:=cb k
 have e5:X.cell? (E a.heap.size 5)=Y x:=cb k
 have e6:X.cell? (E a.heap.size 6)=Y y:=cb k
 have e7:X.cell? (E a.heap.size 7)=Y z:=cb k
 have e8:X.cell? (E a.heap.size 8)=Y 0:=cb k
 obtain⟨⟨k0,k1,k2,k3,k4,k5,k6,k7,k8⟩,f0,f1,f2,f3,f4,f5,f6,f7,f8⟩:=xl t;have B:=Z (XF (b0:=J 4) (b1:=J x1) (b2:=J j) (b3:=J 0) (b4:=J 0) (b5:=J x) (b6:=J y) (b7:=J z) (b8:=J 0) t);have aN:Hid (Bw w ((((((((((X.setCell (E w.heap.size 0) (J 4)).setCell (E w.heap.size 1) (J x1)).setCell (E w.heap.size 2) (J j)).setCell (E w.heap.size 3) (J 0)).setCell (E w.heap.size 4) (J 0)).setCell (E w.heap.size 5) (J x)).setCell (E w.heap.size 6) (J y)).setCell (E w.heap.size 7) (J z)).setCell (E w.heap.size 8) (J 0)).alloc (.cells #[J x1,J j] 142))):=Q6 (((((((((bC.setCell (Qc _) _).setCell (Qc _) _).setCell (Qc _) _).setCell (Qc _) _).setCell (Qc _) _).setCell (Qc _) _).setCell (Qc _) _).setCell (Qc _) _).setCell (Qc _) _) (Q7 (lo B)) _;have aC:Hid (∀ok,ok=(q0 && I)->xF [yT,p1,p2,o,p] w (.returned (.tuple #[.agg #[J 4,J x1,J j,J 0,J 0,J x,J y,J z,J 0],.bool ok])) ((((((((((X.setCell (E w.heap.size 0) (J 4)).setCell (E w.heap.size 1) (J x1)).setCell (E w.heap.size 2) (J j)).setCell (E w.heap.size 3) (J 0)).setCell (E w.heap.size 4) (J 0)).setCell (E w.heap.size 5) (J x)).setCell (E w.heap.size 6) (J y)).setCell (E w.heap.size 7) (J z)).setCell (E w.heap.size 8) (J 0)).alloc (.cells #[J x1,J j] 142))):=fun ok aB=>zza aB aD aE aQ aR aP aO aN;clear t k;cases q0 with
 | false =>have A:=Z (aC false rfl);go_wp2;obtain⟨⟨K,L,M,N,O,P,Q,R,S⟩,-⟩:=xl (zcq B #[J x1,J j] 142);exact bodyPost_ret (v:=.tuple #[.agg #[J 4,J x1,J j,J 0,J 0,J x,J y,J z,J 0],.bool false]) (by simp [results,results125,go_sem,K,L,M,N,O,P,Q,R,S]) rfl A
 | true =>have A:=Z (aC I rfl);go_wp2;obtain⟨⟨K,L,M,N,O,P,Q,R,S⟩,-⟩:=xl (zcq B #[J x1,J j] 142);exact bodyPost_ret (v:=.tuple #[.agg #[J 4,J x1,J j,J 0,J 0,J x,J y,J z,J 0],.bool I]) (by simp [results,results125,go_sem,K,L,M,N,O,P,Q,R,S]) rfl A
def ztb (ws:List (List Int)) (b m cap:Nat) (w:World) (k:xq w) (h:ZP w b 0 (m+1) ws) (c:Zk ws) (g:m+1<=cap) (i:cap<=9223372036854775807) :
  Calls prog 125 #[.slice (pA b) (m+1) cap] w (xF ws w):=by
 have f:=h.1;have d:=h.2.2 0 (by omega);rw [WG] at d;match ws,f,h,c,d with
 | [a],f,h,c,d =>
  obtain rfl:m=0:=by simp at f;omega
  by_cases e:a=Zt
  ·subst e;exact zpr b cap w k h c g i
  exact YV [a] a b 0 cap w d h.2.1 g i (c 0).1 (by omega) (fun _=>by omega) (fun h=>absurd h e) (fun _=>by omega) (fun _=>by omega) (Qe e)
 | [a,p1],f,h,c,d =>
  obtain rfl:m=1:=by simp at f;omega
  by_cases e:a=yO
  ·subst e;exact zmm p1 b cap w k h c g i
  exact YV [a,p1] a b 1 cap w d h.2.1 g i (c 0).1 (by omega) (fun h=>absurd h e) (fun _=>by omega) (fun _=>by omega) (fun _=>by omega) (Qe e)
 | [a,p1,p2],f,h,c,d =>
  obtain rfl:m=2:=by simp at f;omega
  exact zz4 a p1 p2 b cap w k h c g i
 | [a,p1,p2,j],f,h,c,d =>
  obtain rfl:m=3:=by simp at f;omega
  by_cases e:a=xT
  ·subst e;exact zpq p1 p2 j b cap w k h c g i
  exact YV [a,p1,p2,j] a b 3 cap w d h.2.1 g i (c 0).1 (by omega) (fun _=>by omega) (fun _=>by omega) (fun h=>absurd h e) (fun _=>by omega) (Qe e)
 | [a,p1,p2,j,n],f,h,c,d =>
  obtain rfl:m=4:=by simp at f;omega
  by_cases e:a=yT
  ·subst e;exact zmn p1 p2 j n b cap w k h c g i
  exact YV [a,p1,p2,j,n] a b 4 cap w d h.2.1 g i (c 0).1 (by omega) (fun _=>by omega) (fun _=>by omega) (fun _=>by omega) (fun h=>absurd h e) (Qe e)
 | a :: p1 :: p2 :: j :: n :: o :: l,f,h,c,d =>
  have hm:5<=m:=by simp at f;omega
  exact YV (a :: p1 :: p2 :: j :: n :: o :: l) a b m cap w d h.2.1 g i (c 0).1 (by omega) (fun _=>by omega) (fun _=>by omega) (fun _=>by omega) (fun _=>by omega) rfl
end
end Go.Proofs.YtjlfcbccpcigeacGreatDoor
