import Derived.Test.YtjlfcbccpcigeacGreatDoorD
set_option maxHeartbeats 40000000
set_option linter.defProp false
namespace Go.Proofs.YtjlfcbccpcigeacGreatDoor
open Go.Proofs.Tryz Go.RowKit Go.Joins
set_option linter.unusedVariables false
set_option linter.unusedSimpArgs false
set_option maxRecDepth 8192
section
open Go.RowKit Go.Joins Go.Maps
variable {z:Int} {f:Int->Int} {n b base sz g cap H:Nat} {x w1:World} {O F A Q:List Int} {v u:Value} {e:TypeId} {xs:List Value}
def UP:Keyed prog 3:=int_keyed underlying3
def zib (h1:-9223372036854775808<=z) (a:z<=9223372036854775807):(Lit.int .i64 z).wf=true:=WN ⟨h1,a⟩
def zaw (f:Int->Int) (n b:Nat) (x:World):Prop :=
 ∃D:DataW Unit,x.ownsMap prog 3 (plainElem prog 3) b n D/\IsMap D/\∀z,D.atKey (.int .i64 z) (.lit (.int .i64 0))=.lit (.int .i64 (f z))
def ykv (w:World):(zeroValue 3).run prog w=.ok (J 0) w:=by kernel_rfl
def zaw.gG {y:World} (h:zaw f n b x) (hb:y.heap[b]?=x.heap[b]?):zaw f n b y:=by obtain⟨D,⟨c,a,h1,i⟩,d,g⟩:=h;exact⟨D,⟨c,a,hb.trans h1,i⟩,d,g⟩
def zaw.lt (h:zaw f n b x):b<x.heap.size:=by obtain⟨D,h1,_⟩:=h;exact h1.lt
theorem zaw.made (w:World):zaw (fun _=>0) 0 w.heap.size (w.alloc (.map #[] 0)) :=
 ⟨_,World.ownsMap_made (H:=Unit) w prog 3 (plainElem prog 3),isMap_empty,fun z=>rfl⟩
def zaw.look (h:zaw f n b x) (z:Int) (d:(Lit.int .i64 z).wf=true):(Instr.lookup 288 (.map (some b)) (.int .i64 z) false).run prog x=.ok (.int .i64 (f z)) x:=by obtain⟨D,h1,g,c⟩:=h;obtain⟨q,hr,a,_⟩:=h1.lookup_int UP underlying288 underlying3 (ykv _) (keyOf_int_mk underlying3 d);rw [c z] at a;injection a with e1;injection e1 with _ e2;rw [hr,e2]
def zaw.put (h:zaw f n b x) (hn:n<maxLen) (z v:Int) (g:(Lit.int .i64 z).wf=true) (l:(Lit.int .i64 v).wf=true) :
  ∃c,(Instr.mapUpdate 288 (.map (some b)) (.int .i64 z) (.int .i64 v)).run prog x=.ok () c/\x.grownBy c (some b)/\zaw (fun a=>if a=z then v else f a) (n+1) b c:=by
 obtain⟨D,h1,d,i⟩:=h;obtain⟨c,hr,k,j⟩:=h1.update UP underlying288 hn (keyOf_int_mk underlying3 g) (plainElem_int underlying3 l);refine⟨c,hr,j,_,k,d.put _ _,fun a=>?_⟩;show _=DataW.lit (Lit.int IntKind.i64 (if a=z then v else f a));by_cases e:a=z
 ·subst e;rw [Qf rfl,atKey_put_same d (UP.key (keyOf_int_mk underlying3 g))]
 rw [Qe e,atKey_put_other (fun h=>e (by injection h))];exact i a
def YN (O:List Int) (z:Int):Nat->Int
 | 0=>0
 | k+1=>YN O z k+(if nth O k=z then 1 else 0)
def zg8 (O:List Int) (z:Int):∀k,0<=YN O z k/\YN O z k<=k:=by
 intro k;induction k with
 | zero=>exact⟨QR _,QR _⟩
 | succ k ih =>show 0<=YN O z k+_/\YN O z k+_<=((k+1:Nat):Int);split <;> omega
def zvz:∀k,(∀i,i<k->nth O i≠z)->YN O z k=0:=by
 intro k;induction k with
 | zero=>intro _;rfl
 | succ k ih =>intro h;show YN O z k+_=0;rw [ih (fun i hi=>h i (by omega)),Qe (h k (by omega))];rfl
def zw0:∀k i,i<k->nth O i=z->1<=YN O z k:=by
 intro k;induction k with
 | zero=>intro i h;omega
 | succ k ih =>
  intro i hi e;show 1<=YN O z k+_;have h0:=zg8 O z k;grind
def Uj (a q:Int):DataW Unit:=.agg [.lit (.int .i64 a),.lit (.int .i64 q)]
def Y3:Value->Option (DataW Unit × List MemPlace)
 | .agg xs=>match xs.toList with
   | [.int .i64 a,.int .i64 q]=>some (Uj a q,[])
   | _=>none
 | _=>none
def zbo (a q:Int):Y3 (.agg #[J a,J q])=some (Uj a q,[]):=rfl
def zeo {z:DataW Unit × List MemPlace} (h:Y3 v=some z):∃a q,v=.agg #[J a,J q]/\z=(Uj a q,[]):=by
 unfold Y3 at h;split at h
 ·split at h
  ·rename_i xs a q hx;cases h;refine⟨a,q,?_,rfl⟩;congr 1;apply Array.ext';rw [hx]
  cases h
 cases h
def Vw (F A Q:List Int) (p b:Nat) (x:World):Prop :=
 ∃D:DataW Unit,x.ownsMap prog 3 Y3 b p D/\IsMap D/\(∀z,Maps.has D (.int .i64 z)=true↔∃i,i<p/\nth F i=z)/\∀i,i<p->∀zd,D.atKey (.int .i64 (nth F i)) zd=Uj (nth A i) (nth Q i)
def ykq (w:World):(zeroValue 142).run prog w=.ok (.agg #[J 0,J 0]) w:=by kernel_rfl
def Vw.gG {y:World} (h:Vw F A Q n b x) (hb:y.heap[b]?=x.heap[b]?):Vw F A Q n b y:=by obtain⟨D,⟨c,a,h1,g⟩,d,f⟩:=h;exact⟨D,⟨c,a,hb.trans h1,g⟩,d,f⟩
def Vw.lt (h:Vw F A Q n b x):b<x.heap.size:=by obtain⟨D,h1,_⟩:=h;exact h1.lt
theorem Vw.made (F A Q:List Int) (w:World):Vw F A Q 0 w.heap.size (w.alloc (.map #[] 0)) :=
 ⟨_,World.ownsMap_made (H:=Unit) w prog 3 Y3,isMap_empty,fun z=>⟨fun h=>(by cases h),fun ⟨i,h,_⟩=>absurd h (Qv _)⟩,fun i h=>absurd h (Qv _)⟩
def Vw.look (h:Vw F A Q n b x) (z:Int) (f:(Lit.int .i64 z).wf=true):∃a q ok,(Instr.lookup 172 (.map (some b)) (.int .i64 z) true).run prog x=.ok (.tuple #[.agg #[.int .i64 a,.int .i64 q],.bool ok]) x/\(ok=true↔∃i,i<n/\nth F i=z):=by obtain⟨D,h1,g,c,j⟩:=h;obtain⟨v,k,hr,d⟩:=h1.look_ok UP underlying172 (ykq _) (zbo 0 0) (keyOf_int_mk underlying3 f);obtain⟨a,q,rfl,-⟩:=zeo d;exact⟨a,q,_,hr,c z⟩
def Vw.put (h:Vw F A Q n b x) (hn:n<maxLen) (f:(Lit.int .i64 (nth F n)).wf=true) (k:∀i,i<n->nth F i≠nth F n) :
  ∃a,(Instr.mapUpdate 172 (.map (some b)) (.int .i64 (nth F n)) (.agg #[.int .i64 (nth A n),.int .i64 (nth Q n)])).run prog x=.ok () a/\x.grownBy a (some b)/\Vw F A Q (n+1) b a:=by
 obtain⟨D,h1,c,j,o⟩:=h;obtain⟨a,hr,m,l⟩:=h1.update UP underlying172 hn (keyOf_int_mk underlying3 f) (zbo (nth A n) (nth Q n));have d:=UP.key (keyOf_int_mk underlying3 f);refine⟨a,hr,l,_,m,c.put _ _,fun z=>?_,fun i hi p=>?_⟩
 ·by_cases e:z=nth F n
  ·subst e;rw [has_put_same c d];grind
  rw [has_put_other (fun h=>e (by injection h)),j z];grind
 by_cases g:i=n
 ·subst g;exact atKey_put_same c d _ _
 rw [atKey_put_other (fun h=>k i (by omega) (by injection h))];grind
def zqk (h1:-9223372036854775808<=z) (a:z<=9223372036854775807):IntKind.i64.wrap z=z:=by rw [Wq];omega
def zg4 (o:zex) (t:Tg) (pc st:Int) (ops:List Kop) (L:Lp) (O:List Int) (a0 c d ka j:Option Addr) (f g i kc k:Nat) (w:World) (n:zI w ((lv L a0 c d f g i)) L) (m:Y5 w (.slice ka ops.length kc) ops) (p:zM w (.slice j O.length k) O) (h:ops.length≠L.b.length\/O.length≠L.b.length) :
  Calls prog 155 #[(lv L a0 c d f g i),(tV t),.agg #[J pc,J st,.slice ka ops.length kc],.slice j O.length k] w (Rt w (.bool (xW L t ⟨pc,st,ops⟩ O))):=by
 have a:Hid (xW L t ⟨pc,st,ops⟩ O=false):=by
  show _=_;grind [xW]
 rw [a];clear n m p o a;by_cases h1:ops.length=L.b.length
 ·have l:((ops.length:Int) != (L.b.length:Int))=false:=by simp;omega
  have q:((O.length:Int) != (L.b.length:Int))=true:=by
   grind
  clear h h1;go_enter func155,ntmps155;go_wp2;go_ret;exact⟨rfl,QJ _ _ _ _⟩
 have l:((ops.length:Int) != (L.b.length:Int))=true:=by simp;omega
 clear h h1;go_enter func155,ntmps155;go_wp2;go_ret;exact⟨rfl,QJ _ _ _ _⟩
def zg5 (s:zex) (t:Tg) (pc st:Int) (ops:List Kop) (L:Lp) (O:List Int) (a0 c d ka u:Option Addr) (a f g kc v:Nat) (w:World) (m:zI w ((lv L a0 c d a f g)) L) (r:Y5 w (.slice ka ops.length kc) ops) (B:zM w (.slice u O.length v) O) (h1:ops.length=L.b.length) (A:O.length=L.b.length) (h:zQ L=false\/zQ L=true/\X7 t ⟨pc,st,ops⟩ L.l=false) :
  Calls prog 155 #[(lv L a0 c d a f g),(tV t),.agg #[J pc,J st,.slice ka ops.length kc],.slice u O.length v] w (Rt w (.bool (xW L t ⟨pc,st,ops⟩ O))):=by
 have Q:((ops.length:Int) != (L.b.length:Int))=false:=by simp;omega
 have P:((O.length:Int) != (L.b.length:Int))=false:=by simp;omega
 have q:=Z (QJ w (lC L a0 c d a f g) (tO t) (kB pc st ka ops.length kc));have p:Hid ((((w.alloc (lC L a0 c d a f g)).alloc (tO t)).alloc (kB pc st ka ops.length kc)).heap.size=w.heap.size+1+1+1):=by show _=_;simp
 have k:=Z (Yo ((lv L a0 c d a f g)) L (((w.alloc (lC L a0 c d a f g)).alloc (tO t)).alloc (kB pc st ka ops.length kc)) (m.gE q));have o:=Z (fun W (hb:Bw w W) (h0:zM W (.slice a0 L.l.length a) L.l)=>s t (.agg #[J pc,J st,.slice ka ops.length kc]) ⟨pc,st,ops⟩ a0 a L.l W ⟨_,rfl,r.gE hb⟩ h0);have y:Hid (∀W,Bw w W->zM W (.slice a0 L.l.length a) L.l):=fun W hb=>by obtain⟨v0,T,v2,R,h0,-⟩:=m.gE hb;simp_all
 have n:Hid (xW L t ⟨pc,st,ops⟩ O=false):=by
  show _=_;grind [xW]
 rw [n];clear m r B s n h1 A;rcases h with h | ⟨h,z⟩
 ·rw [h] at k;go_enter func155,ntmps155;go_wp2_with fail;refine k.mono ?_;rintro e N ⟨rfl,hb⟩;have i:=Z (q.trans (hb.mono (by rw [p];omega)));clear hb;go_wp2_with fail;go_ret;exact⟨rfl,i⟩
 rw [h] at k;rw [z] at o;go_enter func155,ntmps155;go_wp2_with fail;refine k.mono ?_;rintro e N ⟨rfl,hb⟩;rw [p] at hb;obtain⟨⟨l0,l1,l2⟩,⟨D,F,G,H,I,K,M⟩,⟨k0,k1,C⟩,S,j⟩:=yL hb;have i:=Z j;clear hb j;go_wp2_with fail;refine (o _ i (y _ i)).mono ?_;rintro e U ⟨rfl,hb⟩;have x:=Z (i.tm hb);clear hb l0 l1 l2 D F G H I K M k0 k1 C;go_wp2;go_ret;exact⟨rfl,x⟩
def zne (hM:zex) (t:Tg) (pc st:Int) (ops:List Kop) (L:Lp) (O:List Int) (a0 N P ka oa:Option Addr) (u I R kc oc:Nat) (w:World) (hL:zI w ((lv L a0 N P u I R)) L) (q:Y5 w (.slice ka ops.length kc) ops) (hO:zM w (.slice oa O.length oc) O) (h1:ops.length=L.b.length) (h2:O.length=L.b.length) (hm:zQ L=true) (hk:X7 t ⟨pc,st,ops⟩ L.l=true) :
  Calls prog 155 #[(lv L a0 N P u I R),(tV t),.agg #[J pc,J st,.slice ka ops.length kc],.slice oa O.length oc] w (Rt w (.bool (xW L t ⟨pc,st,ops⟩ O))):=by
 have bh:((ops.length:Int) != (L.b.length:Int))=false:=by simp;omega
 have B:((O.length:Int) != (L.b.length:Int))=false:=by simp;omega
 have aI:=Z (QJ w (lC L a0 N P u I R) (tO t) (kB pc st ka ops.length kc));have aD:Hid ((((w.alloc (lC L a0 N P u I R)).alloc (tO t)).alloc (kB pc st ka ops.length kc)).heap.size=w.heap.size+1+1+1):=by show _=_;simp
 have aj:=Z (Yo ((lv L a0 N P u I R)) L (((w.alloc (lC L a0 N P u I R)).alloc (tO t)).alloc (kB pc st ka ops.length kc)) (hL.gE aI));have aB:=Z (fun W (hb:Bw w W) (h0:zM W (.slice a0 L.l.length u) L.l)=>hM t (.agg #[J pc,J st,.slice ka ops.length kc]) ⟨pc,st,ops⟩ a0 u L.l W ⟨_,rfl,q.gE hb⟩ h0);have aQ:Hid (∀W,Bw w W->zM W (.slice a0 L.l.length u) L.l):=fun W hb=>by obtain⟨v0,v1,v2,hv,h0,-⟩:=hL.gE hb;simp_all
 obtain⟨-,cN,cw,-⟩:=zy hm;have HD:Hid (xW L t ⟨pc,st,ops⟩ O=zF (fun s=>Yp L O s && XM L ⟨pc,st,ops⟩ O s) L.b.length):=by
  show _=_;grind [xW,X7]
 obtain⟨v0,v1,v2,hv,-,⟨a1',c1',bN,cM,ce,bJ⟩,-⟩:=hL;obtain⟨e0,H,e2⟩:(.slice a0 L.l.length u:Value)=v0/\(.slice N L.b.length I:Value)=v1/\(.slice P L.o.length R:Value)=v2:=by simp_all
 rw [bN] at H;injection H with H ex1 e1';subst H;subst e1';unfold maxLen at ce;obtain⟨bb,bo,rfl,hbb,gQ⟩:=bJ (by omega);obtain⟨ka',kc',bY,cJ,aK,bI⟩:=q;injection bY with H ex2 e1';subst H;subst e1';unfold maxLen at aK;obtain⟨kb,c,rfl,bW,aN⟩:=bI (by omega);obtain⟨oa',oc',cC,cO,cA,bM,bL⟩:=hO;injection cC with H ex3 e1';subst H;subst e1';unfold maxLen at cA;obtain⟨ob,oo,rfl,cB,aO⟩:=bL (by omega);have bO:=Z gQ;have bQ:=Z aN;have bR:=Z aO;have bP:=Z bM;have HH:=Z (And.intro h1 h2);rw [hm] at aj;rw [hk] at aB;clear hM bJ gQ bI aN bL aO bM hv e0 e2 bN hm hk h1 h2;go_enter func155,ntmps155;go_wp2_with fail;refine aj.mono ?_;rintro e x1 ⟨rfl,hb⟩;rw [aD] at hb;obtain⟨⟨l0,l1,l2⟩,⟨t0,t1,t2,t3,t4,t5,t6⟩,⟨k0,k1,k2⟩,hz,r⟩:=yL hb;have ai:=Z r;have ay:=Z hb;clear hb r;go_wp2_with fail;refine (aB _ ai (aQ _ ai)).mono ?_;rintro e g ⟨rfl,hb⟩;have B:=ay.trans (hb.mono (by omega));clear l0 l1 l2 t0 t1 t2 t3 t4 t5 t6 k0 k1 k2 hz;obtain⟨⟨l0,l1,l2⟩,⟨t0,t1,t2,t3,t4,t5,t6⟩,⟨k0,k1,k2⟩,hz,r⟩:=yL B;have aA:=Z r;clear B r hb aj aB aQ ai ay aI aD l0 l2 t0 t1 t2 t3 t4 t5 t6 k0 k1;have l1m:(g.alloc (.map #[] 0)).cell? (E w.heap.size 1)=some (.slice (some (E bb bo)) L.b.length I):=(ze (Qd g (.map #[] 0)) w.heap.size 1 (by omega)).trans l1;clear l1;have cg:=@run_makeMap prog;go_wp2;clear cg;have bE:=Z (zaw.made g);have K2:=Z k2;clear k2;go_loopw [43] (fun i wr=>∃k:Nat,k<=L.b.length/\i=J k/\zF (fun s=>Yp L O s && XM L ⟨pc,st,ops⟩ O s) k=true/\Bw g wr/\zaw (fun z=>YN O z k) k g.heap.size wr) (fun i _=>L.b.length - (intOf i).toNat)
 case atStart=>exact⟨0,Ql _,rfl,rfl,Qd _ _,bE⟩
 clear bE;obtain⟨k,hk,rfl,hall,gH,aM⟩:=hrel;have HA:=Z hall;have HB:=Z gH;have aZ:=Z aM;have aS:=Z (aA.tm gH);clear hall aM;by_cases hkl:k<L.b.length
 ·have bZ:(k:Int)<(L.b.length:Int):=by omega
  have cL:(k:Int)<(O.length:Int):=by have:=HH.2;omega
  obtain⟨c0,c1,c2,c3,c4,c5,c6,c7,c8⟩:=Ue (fun j hj=>(ze aS bb (bo+k*9+j) hbb).trans (bO k hkl j hj));have co:=(ze aS ob (oo+k) cB).trans (bR k (by omega));obtain⟨zl,zh⟩:=bP k (by omega);have cU:=aS.size;have cH:bb<wr.heap.size:=by omega
  have cS:ob<wr.heap.size:=by omega
  have cX:g.heap.size<wr.heap.size:=aZ.lt;have Q:Hid (Yp L O k=(inR (nth O k) 0 ((ops.length:Int) - 1) && zF (fun i=>!decide (nth O i=nth O k)) k)):=by grind [Yp]
  have F:Hid (XM L ⟨pc,st,ops⟩ O k=zu4 (zc L.b k).o (zc L.b k).ar (zc L.b k).sp (zc L.b k).pl (zc L.b k).nn (zv ops (nth O k).toNat).o (zv ops (nth O k).toNat).ar (zv ops (nth O k).toNat).sp (zv ops (nth O k).toNat).pl (zv ops (nth O k).toNat).nn):=rfl;obtain⟨z,aW⟩:=nm (nth O k);rw [aW] at co zl zh Q F;have HZ:=Z aW;generalize zc L.b k=xk at *
  obtain⟨M,xa,xb,ya,yb,ar,sp,pl,nn⟩:=xk;(try simp only at c0 c1 c2 c3 c4 c5 c6 c7 c8 F);obtain⟨W,hW⟩:=nm (wr.alloc (nB M xa xb ya yb ar sp pl nn));have bg:Bw wr W:=by rw [<-hW];exact Qd _ _
  have bU:W.heap.size=wr.heap.size+1:=by rw [<-hW];simp
  have bS:=Z hW;have bC:zaw (fun z=>YN O z k) k g.heap.size W:=aZ.gG (bg.block _ aZ.lt);obtain⟨g0,g1⟩:=zg8 O z k;have X:=bC.look z (zib zl zh);obtain⟨V,aH,aV,bK⟩:=bC.put (by unfold maxLen;omega) z (YN O z k+1) (zib zl zh) (zib (by omega) (by omega));have cE:wrap64 (YN O z k+1)=YN O z k+1:=by unfold wrap64;omega
  have aL:zaw (fun z'=>YN O z' (k+1)) (k+1) g.heap.size V:=by
   grind [YN]
  have aT:Bw g V:=(HB.tm bg).grown aV (by omega) (fun j hj=>by grind);have bT:W.heap.size<=V.heap.size:=aV.size;have bG:V.heap[wr.heap.size]?=some (nB M xa xb ya yb ar sp pl nn):=by rw [aV.block wr.heap.size (by omega) (by simp;omega),<-hW];exact Zd _ _ _
  have T:=Z aT;have G:=Z (aA.tm aT);have D:=Z aL;have kV:=(ze aT (w.heap.size+1+1) 2 (by omega)).trans (show g.cell? (E (w.heap.size+1+1) 2)=_ from K2);have aR:Hid (Yp L O k=true->XM L ⟨pc,st,ops⟩ O k=true->zF (fun s=>Yp L O s && XM L ⟨pc,st,ops⟩ O s) (k+1)=true):=fun h h'=>yr HA (by grind);have S:Hid (Yp L O k=false\/XM L ⟨pc,st,ops⟩ O k=false->xW L t ⟨pc,st,ops⟩ O=false):=fun h=>by
   rw [HD];refine yd hkl ?_;grind
  have cF:IntKind.i64.wrap ((ops.length:Int) - 1)=(ops.length:Int) - 1:=zqk (by omega) (by omega);have cW:wrap64 ((ops.length:Int) - 1)=(ops.length:Int) - 1:=by unfold wrap64;omega
  have U:=Z (fun W'=>UK z 0 ((ops.length:Int) - 1) W');rw [<-hW] at X aH;obtain⟨p,aU⟩:=nm (YN O z k);have aY:=Z aU;have aX:=Z aU;have bf:=Z aW;rw [aU] at X aH cE g0 g1;have m:=Z bG;have KV:=Z kV;have n:=Z (show wr.heap.size<V.heap.size by omega);clear hW bg bC bK aL aV gH aU aW aT bT bG kV bS bU;cases f:inR z 0 ((ops.length:Int) - 1) with
  | false =>
   have x:=Z (S (.inl (by rw [Q,f];rfl)));rw [f] at U;clear f aR S Q F;go_wp2;clear aH X c0 c1 c2 c3 c4 c5 c6 c7 c8 co;have A:Hid (∀w',Bw V w'->w'.cell? (E (w.heap.size+1+1) 2)=some (.slice (some (E kb c)) ops.length kc)):=fun w' hb=>(ze hb (w.heap.size+1+1) 2 (by have:=T.size;omega)).trans KV;refine YM (fun w'=>(Bw V w'/\w'.cell? (E (w.heap.size+1+1) 2)=some (.slice (some (E kb c)) ops.length kc))) 23 (by rfl) (by kernel_rfl) (by kernel_rfl) (by kernel_rfl) ⟨Qm _ _ 1,A _ (Qm _ _ 1)⟩ ?_;refine stk (i:=0) rfl ?_;refine stk (i:=1) rfl ?_;refine stk (i:=2) rfl ?_;refine stk (i:=3) rfl ?_;refine stk (i:=4) rfl ?_;refine YI (i:=5) (.bool false) rfl (by rfl) (fun w hSw K q=>?_) ?_
   ·go_simp;refine (U _).mono ?_;rintro e y ⟨rfl,rfl⟩;exact q _ _ (by simp only [Act.put,Qn,Qy,Qz]) hSw
   try simp only [Act.put,Qn,Qy,Qz]
   refine stk (i:=6) rfl ?_;refine stk (i:=7) rfl ?_;refine yo (i:=8) (v:=undef) rfl (Or.inr ⟨by rfl,rfl⟩) ?_;try simp only [Act.put,Qn,Qy,Qz]
   refine yo (i:=9) (v:=undef) rfl (Or.inr ⟨by rfl,rfl⟩) ?_;try simp only [Act.put,Qn,Qy,Qz]
   refine yo (i:=10) (v:=undef) rfl (Or.inr ⟨by rfl,rfl⟩) ?_;try simp only [Act.put,Qn,Qy,Qz]
   refine yo (i:=11) (v:=undef) rfl (Or.inr ⟨by rfl,rfl⟩) ?_;try simp only [Act.put,Qn,Qy,Qz]
   refine stk (i:=12) rfl ?_;refine stk (i:=13) rfl ?_;refine yo (i:=14) (v:=undef) rfl (Or.inr ⟨by rfl,rfl⟩) ?_;try simp only [Act.put,Qn,Qy,Qz]
   refine yo (i:=15) (v:=undef) rfl (Or.inr ⟨by rfl,rfl⟩) ?_;try simp only [Act.put,Qn,Qy,Qz]
   refine yo (i:=16) (v:=undef) rfl (Or.inr ⟨by rfl,rfl⟩) ?_;try simp only [Act.put,Qn,Qy,Qz]
   refine yo (i:=17) (v:=undef) rfl (Or.inr ⟨by rfl,rfl⟩) ?_;try simp only [Act.put,Qn,Qy,Qz]
   refine yo (i:=18) (v:=undef) rfl (Or.inr ⟨by rfl,rfl⟩) ?_;try simp only [Act.put,Qn,Qy,Qz]
   refine yo (i:=19) (v:=undef) rfl (Or.inr ⟨by rfl,rfl⟩) ?_;try simp only [Act.put,Qn,Qy,Qz]
   refine yo (i:=20) (v:=undef) rfl (Or.inr ⟨by rfl,rfl⟩) ?_;try simp only [Act.put,Qn,Qy,Qz]
   refine yo (i:=21) (v:=undef) rfl (Or.inr ⟨by rfl,rfl⟩) ?_;try simp only [Act.put,Qn,Qy,Qz]
   refine stk (i:=22) rfl ?_;refine Ul (fun y d=>?_);refine Qs ?_;try (try dsimp only at d)
   go_wp2;go_ret;exact⟨zi x.symm,G.trans (d.1.mono (by have:=G.size;omega))⟩
  | true =>
   rw [f] at U;have bH:=zH.1 f;obtain⟨a,cG⟩:∃a:Nat,z=a:=⟨z.toNat,by omega⟩;subst cG;have bD:a<ops.length:=(by omega);have cY:(a:Int)<(ops.length:Int):=(by omega);by_cases hc1:1<p+1
   ·have x:Hid (xW L t ⟨pc,st,ops⟩ O=false):=S (.inl (by rw [Q,f,Wb];rw [<-E8];intro h;have h0:=zvz (O:=O) (z:=(a:Int)) k (fun i hi e=>by have h3:=zq h i hi;rw [Qi e] at h3;cases h3);have:=aY.out;omega));clear f aR S Q F bH;go_wp2;clear aH X c0 c1 c2 c3 c4 c5 c6 c7 c8 co;have aJ:Hid (∀w',Bw V w'->(Instr.lookup 288 (.map (some g.heap.size)) (J (a:Int)) false).run prog w'=.ok (J (p+1)) w'):=fun w' hb=>by have h:=(D.gG (hb.block _ D.out.lt)).look (a:Int) (zib zl zh);have e:YN O (a:Int) (k+1)=p+1:=(by show YN O (a:Int) k+_=_;rw [aX.out,Qf bf.out]);simp only [e] at h;exact h
    have A:Hid (∀w',Bw V w'->w'.cell? (E (w.heap.size+1+1) 2)=some (.slice (some (E kb c)) ops.length kc)/\(Instr.lookup 288 (.map (some g.heap.size)) (J (a:Int)) false).run prog w'=.ok (J (p+1)) w'):=fun w' hb=>⟨(ze hb (w.heap.size+1+1) 2 (by have:=T.size;omega)).trans KV,(aJ _ hb)⟩;refine YM (fun w'=>(Bw V w'/\w'.cell? (E (w.heap.size+1+1) 2)=some (.slice (some (E kb c)) ops.length kc)/\(Instr.lookup 288 (.map (some g.heap.size)) (J (a:Int)) false).run prog w'=.ok (J (p+1)) w')) 23 (by rfl) (by kernel_rfl) (by kernel_rfl) (by kernel_rfl) ⟨Qm _ _ 1,A _ (Qm _ _ 1)⟩ ?_;refine stk (i:=0) rfl ?_;refine stk (i:=1) rfl ?_;refine stk (i:=2) rfl ?_;refine stk (i:=3) rfl ?_;refine stk (i:=4) rfl ?_;refine YI (i:=5) (.bool true) rfl (by rfl) (fun w hSw K q=>?_) ?_
    ·go_simp;refine (U _).mono ?_;rintro e y ⟨rfl,rfl⟩;exact q _ _ (by simp only [Act.put,Qn,Qy,Qz]) hSw
    try simp only [Act.put,Qn,Qy,Qz]
    refine stk (i:=6) rfl ?_;refine stk (i:=7) rfl ?_;refine stk (i:=8) rfl ?_;refine stk (i:=9) rfl ?_;refine stk (i:=10) rfl ?_;refine stk (i:=11) rfl ?_;refine stk (i:=12) rfl ?_;refine stk (i:=13) rfl ?_;refine yo (i:=14) (v:=undef) rfl (Or.inr ⟨by rfl,rfl⟩) ?_;try simp only [Act.put,Qn,Qy,Qz]
    refine yo (i:=15) (v:=undef) rfl (Or.inr ⟨by rfl,rfl⟩) ?_;try simp only [Act.put,Qn,Qy,Qz]
    refine yo (i:=16) (v:=undef) rfl (Or.inr ⟨by rfl,rfl⟩) ?_;try simp only [Act.put,Qn,Qy,Qz]
    refine yo (i:=17) (v:=undef) rfl (Or.inr ⟨by rfl,rfl⟩) ?_;try simp only [Act.put,Qn,Qy,Qz]
    refine yo (i:=18) (v:=undef) rfl (Or.inr ⟨by rfl,rfl⟩) ?_;try simp only [Act.put,Qn,Qy,Qz]
    refine yo (i:=19) (v:=undef) rfl (Or.inr ⟨by rfl,rfl⟩) ?_;try simp only [Act.put,Qn,Qy,Qz]
    refine yo (i:=20) (v:=undef) rfl (Or.inr ⟨by rfl,rfl⟩) ?_;try simp only [Act.put,Qn,Qy,Qz]
    refine yo (i:=21) (v:=undef) rfl (Or.inr ⟨by rfl,rfl⟩) ?_;try simp only [Act.put,Qn,Qy,Qz]
    refine stk (i:=22) rfl ?_;refine Ul (fun y d=>?_);refine Qs ?_;try (try dsimp only at d)
    go_wp2;go_ret;exact⟨zi x.symm,G.trans (d.1.mono (by have:=G.out.size;omega))⟩
   have bF:Hid (Yp L O k=true):=by
    show _=_;rw [Q.out,f,Wb];refine yk fun i hi=>?_;show (!decide (nth O i=(a:Int)))=true;by_cases e:nth O i=(a:Int)
    ·have h1:=zw0 k i hi e;have:=aY.out;omega
    rw [Qk e];rfl
   have cD:kb<V.heap.size:=(by have:=G.size;omega);obtain⟨d0,d1,d2,d3,d4,d5,d6,d7,d8,d9⟩:=ten (fun j hj=>(ze G kb (c+a*10+j) bW).trans (bQ a bD j hj));rw [show ((a:Int)).toNat=a from rfl] at F;generalize zv ops a=ox at *
   obtain⟨o0,o1,o2,o3,o4,o5,o6,o7,o8,o9⟩:=ox;(try simp only at d0 d1 d2 d3 d4 d5 d6 d7 d8 d9 F);have aP:=Z (fun W'=>zvu o0 o1 o2 o3 o4 o5 o6 o7 o8 o9 M xa xb ya yb ar sp pl nn W');have af:=Z (aR bF);have ae:Hid (XM L ⟨pc,st,ops⟩ O k=false->xW L t ⟨pc,st,ops⟩ O=false):=fun h=>S.out (.inr h);rw [F.out] at af ae;clear f aR S Q F bH bF HZ aY;cases C:zu4 M ar sp pl nn o2 o6 o7 o8 o9 with
   | false =>
    rw [C] at aP ae;have x:=Z (ae.out rfl);clear C af ae;go_wp2;clear aH X c0 c1 c2 c3 c4 c5 c6 c7 c8 co;have bj:¬1<p+1:=(by omega);have bz:decide (1<p+1)=false:=Qk bj;have aJ:Hid (∀w',Bw V w'->(Instr.lookup 288 (.map (some g.heap.size)) (J (a:Int)) false).run prog w'=.ok (J (p+1)) w'):=fun w' hb=>by have h:=(D.out.gG (hb.block _ D.out.lt)).look (a:Int) (zib zl zh);have e:YN O (a:Int) (k+1)=p+1:=(by show YN O (a:Int) k+_=_;rw [aX.out,Qf bf.out]);simp only [e] at h;exact h
    have A:Hid (∀w',Bw V w'->w'.cell? (E (w.heap.size+1+1) 2)=some (.slice (some (E kb c)) ops.length kc)/\(Instr.lookup 288 (.map (some g.heap.size)) (J (a:Int)) false).run prog w'=.ok (J (p+1)) w'/\w'.cell? (E wr.heap.size 0)=Y M/\w'.cell? (E wr.heap.size 1)=Y xa/\w'.cell? (E wr.heap.size 2)=Y xb/\w'.cell? (E wr.heap.size 3)=Y ya/\w'.cell? (E wr.heap.size 4)=Y yb/\w'.cell? (E wr.heap.size 5)=Y ar/\w'.cell? (E wr.heap.size 6)=Y sp/\w'.cell? (E wr.heap.size 7)=Y pl/\w'.cell? (E wr.heap.size 8)=Y nn/\w'.cell? (E kb (c+a*10))=Y o0/\w'.cell? (E kb (c+a*10+1))=Y o1/\w'.cell? (E kb (c+a*10+2))=Y o2/\w'.cell? (E kb (c+a*10+3))=Y o3/\w'.cell? (E kb (c+a*10+4))=Y o4/\w'.cell? (E kb (c+a*10+5))=Y o5/\w'.cell? (E kb (c+a*10+6))=Y o6/\w'.cell? (E kb (c+a*10+7))=Y o7/\w'.cell? (E kb (c+a*10+8))=Y o8/\w'.cell? (E kb (c+a*10+9))=Y o9):=fun w' hb=>⟨(ze hb (w.heap.size+1+1) 2 (by have:=T.size;omega)).trans KV,(aJ _ hb),((ze hb wr.heap.size 0 n).trans (cb m)),((ze hb wr.heap.size 1 n).trans (cb m)),((ze hb wr.heap.size 2 n).trans (cb m)),((ze hb wr.heap.size 3 n).trans (cb m)),((ze hb wr.heap.size 4 n).trans (cb m)),((ze hb wr.heap.size 5 n).trans (cb m)),((ze hb wr.heap.size 6 n).trans (cb m)),((ze hb wr.heap.size 7 n).trans (cb m)),((ze hb wr.heap.size 8 n).trans (cb m)),((ze hb kb (c+a*10) (by omega)).trans d0),((ze hb kb (c+a*10+1) (by omega)).trans d1),((ze hb kb (c+a*10+2) (by omega)).trans d2),((ze hb kb (c+a*10+3) (by omega)).trans d3),((ze hb kb (c+a*10+4) (by omega)).trans d4),((ze hb kb (c+a*10+5) (by omega)).trans d5),((ze hb kb (c+a*10+6) (by omega)).trans d6),((ze hb kb (c+a*10+7) (by omega)).trans d7),((ze hb kb (c+a*10+8) (by omega)).trans d8),((ze hb kb (c+a*10+9) (by omega)).trans d9)⟩;refine YM (fun w'=>(Bw V w'/\w'.cell? (E (w.heap.size+1+1) 2)=some (.slice (some (E kb c)) ops.length kc)/\(Instr.lookup 288 (.map (some g.heap.size)) (J (a:Int)) false).run prog w'=.ok (J (p+1)) w'/\w'.cell? (E wr.heap.size 0)=Y M/\w'.cell? (E wr.heap.size 1)=Y xa/\w'.cell? (E wr.heap.size 2)=Y xb/\w'.cell? (E wr.heap.size 3)=Y ya/\w'.cell? (E wr.heap.size 4)=Y yb/\w'.cell? (E wr.heap.size 5)=Y ar/\w'.cell? (E wr.heap.size 6)=Y sp/\w'.cell? (E wr.heap.size 7)=Y pl/\w'.cell? (E wr.heap.size 8)=Y nn/\w'.cell? (E kb (c+a*10))=Y o0/\w'.cell? (E kb (c+a*10+1))=Y o1/\w'.cell? (E kb (c+a*10+2))=Y o2/\w'.cell? (E kb (c+a*10+3))=Y o3/\w'.cell? (E kb (c+a*10+4))=Y o4/\w'.cell? (E kb (c+a*10+5))=Y o5/\w'.cell? (E kb (c+a*10+6))=Y o6/\w'.cell? (E kb (c+a*10+7))=Y o7/\w'.cell? (E kb (c+a*10+8))=Y o8/\w'.cell? (E kb (c+a*10+9))=Y o9)) 23 (by rfl) (by kernel_rfl) (by kernel_rfl) (by kernel_rfl) ⟨Qm _ _ 1,A _ (Qm _ _ 1)⟩ ?_;refine stk (i:=0) rfl ?_;refine stk (i:=1) rfl ?_;refine stk (i:=2) rfl ?_;refine stk (i:=3) rfl ?_;refine stk (i:=4) rfl ?_;refine YI (i:=5) (.bool true) rfl (by rfl) (fun w hSw K q=>?_) ?_
    ·go_simp;refine (U _).mono ?_;rintro e y ⟨rfl,rfl⟩;exact q _ _ (by simp only [Act.put,Qn,Qy,Qz]) hSw
    try simp only [Act.put,Qn,Qy,Qz]
    refine stk (i:=6) rfl ?_;refine stk (i:=7) rfl ?_;refine stk (i:=8) rfl ?_;refine stk (i:=9) rfl ?_;refine stk (i:=10) rfl ?_;refine stk (i:=11) rfl ?_;refine stk (i:=12) rfl ?_;refine stk (i:=13) rfl ?_;refine stk (i:=14) rfl ?_;refine stk (i:=15) rfl ?_;refine stk (i:=16) rfl ?_;refine stk (i:=17) rfl ?_;refine stk (i:=18) rfl ?_;refine stk (i:=19) rfl ?_;refine YI (i:=20) (.bool false) rfl (by rfl) (fun w hSw K q=>?_) ?_
    ·go_simp;refine (aP.out _).mono ?_;rintro e y ⟨rfl,hy⟩;have B:=hSw.1.tm hy;exact q.out _ _ (by simp only [Act.put,Qn,Qy,Qz]) ⟨B,A.out _ B⟩
    try simp only [Act.put,Qn,Qy,Qz]
    refine stk (i:=21) rfl ?_;refine stk (i:=22) rfl ?_;refine Ul (fun y d=>?_);refine Qs ?_;try (try dsimp only at d)
    go_wp2;go_ret;exact⟨zi x.out.symm,G.out.trans (d.1.mono (by have:=G.out.size;omega))⟩
   | true =>
    rw [C] at aP af;have x:=Z (af.out rfl);clear C af ae;go_wp2;clear aH X c0 c1 c2 c3 c4 c5 c6 c7 c8 co;have bj:¬1<p+1:=(by omega);have bz:decide (1<p+1)=false:=Qk bj;have aJ:Hid (∀w',Bw V w'->(Instr.lookup 288 (.map (some g.heap.size)) (J (a:Int)) false).run prog w'=.ok (J (p+1)) w'):=fun w' hb=>by have h:=(D.out.gG (hb.block _ D.out.lt)).look (a:Int) (zib zl zh);have e:YN O (a:Int) (k+1)=p+1:=(by show YN O (a:Int) k+_=_;rw [aX.out,Qf bf.out]);simp only [e] at h;exact h
    have A:Hid (∀w',Bw V w'->w'.cell? (E (w.heap.size+1+1) 2)=some (.slice (some (E kb c)) ops.length kc)/\(Instr.lookup 288 (.map (some g.heap.size)) (J (a:Int)) false).run prog w'=.ok (J (p+1)) w'/\w'.cell? (E wr.heap.size 0)=Y M/\w'.cell? (E wr.heap.size 1)=Y xa/\w'.cell? (E wr.heap.size 2)=Y xb/\w'.cell? (E wr.heap.size 3)=Y ya/\w'.cell? (E wr.heap.size 4)=Y yb/\w'.cell? (E wr.heap.size 5)=Y ar/\w'.cell? (E wr.heap.size 6)=Y sp/\w'.cell? (E wr.heap.size 7)=Y pl/\w'.cell? (E wr.heap.size 8)=Y nn/\w'.cell? (E kb (c+a*10))=Y o0/\w'.cell? (E kb (c+a*10+1))=Y o1/\w'.cell? (E kb (c+a*10+2))=Y o2/\w'.cell? (E kb (c+a*10+3))=Y o3/\w'.cell? (E kb (c+a*10+4))=Y o4/\w'.cell? (E kb (c+a*10+5))=Y o5/\w'.cell? (E kb (c+a*10+6))=Y o6/\w'.cell? (E kb (c+a*10+7))=Y o7/\w'.cell? (E kb (c+a*10+8))=Y o8/\w'.cell? (E kb (c+a*10+9))=Y o9):=fun w' hb=>⟨(ze hb (w.heap.size+1+1) 2 (by have:=T.size;omega)).trans KV,(aJ _ hb),((ze hb wr.heap.size 0 n).trans (cb m)),((ze hb wr.heap.size 1 n).trans (cb m)),((ze hb wr.heap.size 2 n).trans (cb m)),((ze hb wr.heap.size 3 n).trans (cb m)),((ze hb wr.heap.size 4 n).trans (cb m)),((ze hb wr.heap.size 5 n).trans (cb m)),((ze hb wr.heap.size 6 n).trans (cb m)),((ze hb wr.heap.size 7 n).trans (cb m)),((ze hb wr.heap.size 8 n).trans (cb m)),((ze hb kb (c+a*10) (by omega)).trans d0),((ze hb kb (c+a*10+1) (by omega)).trans d1),((ze hb kb (c+a*10+2) (by omega)).trans d2),((ze hb kb (c+a*10+3) (by omega)).trans d3),((ze hb kb (c+a*10+4) (by omega)).trans d4),((ze hb kb (c+a*10+5) (by omega)).trans d5),((ze hb kb (c+a*10+6) (by omega)).trans d6),((ze hb kb (c+a*10+7) (by omega)).trans d7),((ze hb kb (c+a*10+8) (by omega)).trans d8),((ze hb kb (c+a*10+9) (by omega)).trans d9)⟩;refine YM (fun w'=>(Bw V w'/\w'.cell? (E (w.heap.size+1+1) 2)=some (.slice (some (E kb c)) ops.length kc)/\(Instr.lookup 288 (.map (some g.heap.size)) (J (a:Int)) false).run prog w'=.ok (J (p+1)) w'/\w'.cell? (E wr.heap.size 0)=Y M/\w'.cell? (E wr.heap.size 1)=Y xa/\w'.cell? (E wr.heap.size 2)=Y xb/\w'.cell? (E wr.heap.size 3)=Y ya/\w'.cell? (E wr.heap.size 4)=Y yb/\w'.cell? (E wr.heap.size 5)=Y ar/\w'.cell? (E wr.heap.size 6)=Y sp/\w'.cell? (E wr.heap.size 7)=Y pl/\w'.cell? (E wr.heap.size 8)=Y nn/\w'.cell? (E kb (c+a*10))=Y o0/\w'.cell? (E kb (c+a*10+1))=Y o1/\w'.cell? (E kb (c+a*10+2))=Y o2/\w'.cell? (E kb (c+a*10+3))=Y o3/\w'.cell? (E kb (c+a*10+4))=Y o4/\w'.cell? (E kb (c+a*10+5))=Y o5/\w'.cell? (E kb (c+a*10+6))=Y o6/\w'.cell? (E kb (c+a*10+7))=Y o7/\w'.cell? (E kb (c+a*10+8))=Y o8/\w'.cell? (E kb (c+a*10+9))=Y o9)) 23 (by rfl) (by kernel_rfl) (by kernel_rfl) (by kernel_rfl) ⟨Qm _ _ 1,A _ (Qm _ _ 1)⟩ ?_;refine stk (i:=0) rfl ?_;refine stk (i:=1) rfl ?_;refine stk (i:=2) rfl ?_;refine stk (i:=3) rfl ?_;refine stk (i:=4) rfl ?_;refine YI (i:=5) (.bool true) rfl (by rfl) (fun w hSw K q=>?_) ?_
    ·go_simp;refine (U _).mono ?_;rintro e y ⟨rfl,rfl⟩;exact q _ _ (by simp only [Act.put,Qn,Qy,Qz]) hSw
    try simp only [Act.put,Qn,Qy,Qz]
    refine stk (i:=6) rfl ?_;refine stk (i:=7) rfl ?_;refine stk (i:=8) rfl ?_;refine stk (i:=9) rfl ?_;refine stk (i:=10) rfl ?_;refine stk (i:=11) rfl ?_;refine stk (i:=12) rfl ?_;refine stk (i:=13) rfl ?_;refine stk (i:=14) rfl ?_;refine stk (i:=15) rfl ?_;refine stk (i:=16) rfl ?_;refine stk (i:=17) rfl ?_;refine stk (i:=18) rfl ?_;refine stk (i:=19) rfl ?_;refine YI (i:=20) (.bool true) rfl (by rfl) (fun w hSw K q=>?_) ?_
    ·go_simp;refine (aP _).mono ?_;rintro e y ⟨rfl,hy⟩;have B:=hSw.1.tm hy;exact q _ _ (by simp only [Act.put,Qn,Qy,Qz]) ⟨B,A _ B⟩
    try simp only [Act.put,Qn,Qy,Qz]
    refine stk (i:=21) rfl ?_;refine stk (i:=22) rfl ?_;refine Ul (fun y d=>?_);refine Qs ?_;try (try dsimp only at d)
    go_wp2;go_roundw
    case rel=>exact⟨k+1,by omega,by go_num,x,T.trans (d.1.mono (by have:=T.size;omega)),D.gG (d.1.block _ D.lt)⟩
    simp [intOf];omega
 have e:k=L.b.length:=by omega
 subst e;have bZ:¬(L.b.length:Int)<(L.b.length:Int):=by omega
 have x:Hid (xW L t ⟨pc,st,ops⟩ O=true):=by show _=_;rw [HD,HA]
 clear gH;go_wp2;go_ret;exact⟨zi x.symm,aS⟩
section
def Zr {row:Option Nat} (h:x.ownsRow base e sz v n xs) (f:x.grownBy w1 row) (d:∀g,v.ownBlock=some g->row≠some g):w1.ownsRow base e sz v n xs:=by
 obtain⟨i,h⟩:=h;refine⟨i,?_⟩;rcases h with h | ⟨g,cap,a,c,hb,b,r⟩
 ·exact .inl h
 refine .inr ⟨g,cap,a,c,hb,?_,r⟩;rw [f.block g (lo b) (fun e=>d g (by rw [c];rfl) e.symm)];exact b
def Za {y:Nat} {o:Nat} (h:x.ownsRow base e sz v n xs) (f:y<base):(x.setCell (E y o) u).ownsRow base e sz v n xs:=by
 obtain⟨c,h⟩:=h;refine⟨c,?_⟩;rcases h with h | ⟨g,cap,a,d,hb,b,r⟩
 ·exact .inl h
 exact .inr ⟨g,cap,a,d,hb,by rw [Qj _ _ _ _ (show g≠y by omega)];exact b,r⟩
def apV (u v:Value):Prop:=∀g,u.ownBlock=some g->v.ownBlock≠some g
def apV.symm (h:apV u v):apV v u:=fun g h1 a=>h g a h1
def XC (l:List Rd):List Value:=l.flatMap fun x=>(Y2 x).toList
theorem znv (l:List Rd) (x:Rd):XC (l++[x])=XC l++(Y2 x).toList:=by simp [XC]
theorem zrn (l:List Rd):(XC l).length=l.length*5:=by
 induction l with
 | nil=>rfl
 | cons x l ih =>show ((Y2 x).toList++XC l).length=_;rw [Qt,ih,Q5];show 5+_=_;omega
def Yk (l:List Int):List Value:=l.map (Value.int .i64)
theorem UH (l:List Int) (z:Int):Yk (l++[z])=Yk l++[J z]:=by simp [Yk]
structure LyM (x3:World) (y:Nat) (l0 l1 l2:Value) (pc r:Int) (tv rv pv dv:Value) (nt nr np nd:Nat) (tl rl pl:List Int) (dl:List Rd) (wr:World):Prop where
 bel:Below y x3 wr
 blk:wr.heap[y]?=some (.cells #[l0,l1,l2,J pc,J r,tv,rv,pv,dv,.map none] 174 (0,0))
 ot:wr.ownsRow (y+1) 3 1 tv nt (Yk tl)
 or:wr.ownsRow (y+1) 3 1 rv nr (Yk rl)
 op:wr.ownsRow (y+1) 3 1 pv np (Yk pl)
 od:wr.ownsRow (y+1) 292 5 dv nd (XC dl)
 atr:apV tv rv
 atp:apV tv pv
 arp:apV rv pv
 atd:apV tv dv
 ard:apV rv dv
 apd:apV pv dv
variable {x3 wr wr':World} {y:Nat} {l0 l1 l2:Value} {pc r:Int} {tv rv pv dv:Value} {nt nr np nd:Nat} {tl rl pl:List Int} {dl:List Rd}
def LyM.lt (h:LyM x3 y l0 l1 l2 pc r tv rv pv dv nt nr np nd tl rl pl dl wr):y<wr.heap.size:=(lo h.blk)
def LyM.gE (h:LyM x3 y l0 l1 l2 pc r tv rv pv dv nt nr np nd tl rl pl dl wr) (hb:Bw wr wr'):LyM x3 y l0 l1 l2 pc r tv rv pv dv nt nr np nd tl rl pl dl wr' :=
 ⟨h.bel.trans (hb.mono (Q7 h.lt)),(hb.block _ h.lt).trans h.blk,zp h.ot hb,zp h.or hb,zp h.op hb,zp h.od hb,h.atr,h.atp,h.arp,h.atd,h.ard,h.apd⟩
def LyM.cells (h:LyM x3 y l0 l1 l2 pc r tv rv pv dv nt nr np nd tl rl pl dl wr):wr.cell? (E y 0)=some l0/\wr.cell? (E y 1)=some l1/\wr.cell? (E y 2)=some l2/\wr.cell? (E y 3)=Y pc/\wr.cell? (E y 4)=Y r/\wr.cell? (E y 5)=some tv/\wr.cell? (E y 6)=some rv/\wr.cell? (E y 7)=some pv/\wr.cell? (E y 8)=some dv:=by have key:=Qa h.blk;refine⟨?_,?_,?_,?_,?_,?_,?_,?_,?_⟩ <;> rw [key] <;> rfl
def YR {a:TypeId} {d:Array Value} (c:x.ownsRow base e sz v n xs) (i:x.grownBy w1 v.ownBlock) (hb:x.heap[b]?=some (.cells d a (0,0))) (l:a≠e):w1.heap[b]?=some (.cells d a (0,0)):=by
 rw [i.block b (lo hb) ?_]
 ·exact hb
 intro h;obtain⟨o,c⟩:=c;rcases c with ⟨rfl,_⟩ | ⟨g,cap,f,rfl,k,m,r⟩
 ·cases h
 have j:b=g:=by simpa [Value.ownBlock] using h
 simp_all
def LyM.grow_t (h:LyM x3 y l0 l1 l2 pc r tv rv pv dv nt nr np nd tl rl pl dl wr) (a:wr.grownBy w1 tv.ownBlock):w1.heap[y]?=some (.cells #[l0,l1,l2,J pc,J r,tv,rv,pv,dv,.map none] 174 (0,0))/\Below y x3 w1:=by have b:=zE h.ot;refine⟨?_,h.bel.grown a (Q7 h.lt) fun q c=>by grind⟩;rw [a.block y h.lt (fun e=>by grind)];exact h.blk
def LyM.push_t (h:LyM x3 y l0 l1 l2 pc r tv rv pv dv nt nr np nd tl rl pl dl wr) (f:w1.ownsRow (y+1) 3 1 (.slice (pA g) (nt+1) cap) (nt+1) (Yk tl++[J z])) (d:wr.grownBy w1 tv.ownBlock) (b:tv.ownBlock=some g\/g=H) (j:wr.heap.size=H) :
  LyM x3 y l0 l1 l2 pc r (.slice (pA g) (nt+1) cap) rv pv dv (nt+1) nr np nd (tl++[z]) rl pl dl (w1.setCell (E y 5) (.slice (pA g) (nt+1) cap)):=by
 obtain⟨hb,i⟩:=h.grow_t d;rw [<-UH] at f;have a_r:apV (.slice (pA g) (nt+1) cap) rv:=fun c h1 a=>by
  have e:g=c:=by simpa [Value.ownBlock] using h1
  subst e;rcases b with b | b
  ·exact h.atr g b a
  have:=zA h.or g a;omega
 have o_r:=Zr h.or d (fun c h1 a=>h.atr c a h1);have a_p:apV (.slice (pA g) (nt+1) cap) pv:=fun c h1 a=>by
  have e:g=c:=by simpa [Value.ownBlock] using h1
  subst e;rcases b with b | b
  ·exact h.atp g b a
  have:=zA h.op g a;omega
 have o_p:=Zr h.op d (fun c h1 a=>h.atp c a h1);have a_d:apV (.slice (pA g) (nt+1) cap) dv:=fun c h1 a=>by
  have e:g=c:=by simpa [Value.ownBlock] using h1
  subst e;rcases b with b | b
  ·exact h.atd g b a
  have:=zA h.od g a;omega
 have o_d:=Zr h.od d (fun c h1 a=>h.atd c a h1);refine⟨i.setCell (Qc _) _,?_,(Za f (QF _)),(Za o_r (QF _)),(Za o_p (QF _)),(Za o_d (QF _)),a_r,a_p,h.arp,a_d,h.ard,h.apd⟩;simp [World.setCell,QC,hb]
def LyM.grow_r (h:LyM x3 y l0 l1 l2 pc r tv rv pv dv nt nr np nd tl rl pl dl wr) (a:wr.grownBy w1 rv.ownBlock):w1.heap[y]?=some (.cells #[l0,l1,l2,J pc,J r,tv,rv,pv,dv,.map none] 174 (0,0))/\Below y x3 w1:=by have b:=zE h.or;refine⟨?_,h.bel.grown a (Q7 h.lt) fun q c=>by grind⟩;rw [a.block y h.lt (fun e=>by grind)];exact h.blk
def LyM.push_r (h:LyM x3 y l0 l1 l2 pc r tv rv pv dv nt nr np nd tl rl pl dl wr) (f:w1.ownsRow (y+1) 3 1 (.slice (pA g) (nr+1) cap) (nr+1) (Yk rl++[J z])) (d:wr.grownBy w1 rv.ownBlock) (b:rv.ownBlock=some g\/g=H) (j:wr.heap.size=H) :
  LyM x3 y l0 l1 l2 pc r tv (.slice (pA g) (nr+1) cap) pv dv nt (nr+1) np nd tl (rl++[z]) pl dl (w1.setCell (E y 6) (.slice (pA g) (nr+1) cap)):=by
 obtain⟨hb,i⟩:=h.grow_r d;rw [<-UH] at f;have a_t:apV (.slice (pA g) (nr+1) cap) tv:=fun c h1 a=>by
  have e:g=c:=by simpa [Value.ownBlock] using h1
  subst e;rcases b with b | b
  ·exact h.atr.symm g b a
  have:=zA h.ot g a;omega
 have o_t:=Zr h.ot d (fun c h1 a=>h.atr.symm c a h1);have a_p:apV (.slice (pA g) (nr+1) cap) pv:=fun c h1 a=>by
  have e:g=c:=by simpa [Value.ownBlock] using h1
  subst e;rcases b with b | b
  ·exact h.arp g b a
  have:=zA h.op g a;omega
 have o_p:=Zr h.op d (fun c h1 a=>h.arp c a h1);have a_d:apV (.slice (pA g) (nr+1) cap) dv:=fun c h1 a=>by
  have e:g=c:=by simpa [Value.ownBlock] using h1
  subst e;rcases b with b | b
  ·exact h.ard g b a
  have:=zA h.od g a;omega
 have o_d:=Zr h.od d (fun c h1 a=>h.ard c a h1);refine⟨i.setCell (Qc _) _,?_,(Za o_t (QF _)),(Za f (QF _)),(Za o_p (QF _)),(Za o_d (QF _)),a_t.symm,h.atp,a_p,h.atd,a_d,h.apd⟩;simp [World.setCell,QC,hb]
def LyM.grow_p (h:LyM x3 y l0 l1 l2 pc r tv rv pv dv nt nr np nd tl rl pl dl wr) (a:wr.grownBy w1 pv.ownBlock):w1.heap[y]?=some (.cells #[l0,l1,l2,J pc,J r,tv,rv,pv,dv,.map none] 174 (0,0))/\Below y x3 w1:=by have b:=zE h.op;refine⟨?_,h.bel.grown a (Q7 h.lt) fun q c=>by grind⟩;rw [a.block y h.lt (fun e=>by grind)];exact h.blk
def LyM.push_p (h:LyM x3 y l0 l1 l2 pc r tv rv pv dv nt nr np nd tl rl pl dl wr) (f:w1.ownsRow (y+1) 3 1 (.slice (pA g) (np+1) cap) (np+1) (Yk pl++[J z])) (d:wr.grownBy w1 pv.ownBlock) (b:pv.ownBlock=some g\/g=H) (j:wr.heap.size=H) :
  LyM x3 y l0 l1 l2 pc r tv rv (.slice (pA g) (np+1) cap) dv nt nr (np+1) nd tl rl (pl++[z]) dl (w1.setCell (E y 7) (.slice (pA g) (np+1) cap)):=by
 obtain⟨hb,i⟩:=h.grow_p d;rw [<-UH] at f;have a_t:apV (.slice (pA g) (np+1) cap) tv:=fun c h1 a=>by
  have e:g=c:=by simpa [Value.ownBlock] using h1
  subst e;rcases b with b | b
  ·exact h.atp.symm g b a
  have:=zA h.ot g a;omega
 have o_t:=Zr h.ot d (fun c h1 a=>h.atp.symm c a h1);have a_r:apV (.slice (pA g) (np+1) cap) rv:=fun c h1 a=>by
  have e:g=c:=by simpa [Value.ownBlock] using h1
  subst e;rcases b with b | b
  ·exact h.arp.symm g b a
  have:=zA h.or g a;omega
 have o_r:=Zr h.or d (fun c h1 a=>h.arp.symm c a h1);have a_d:apV (.slice (pA g) (np+1) cap) dv:=fun c h1 a=>by
  have e:g=c:=by simpa [Value.ownBlock] using h1
  subst e;rcases b with b | b
  ·exact h.apd g b a
  have:=zA h.od g a;omega
 have o_d:=Zr h.od d (fun c h1 a=>h.apd c a h1);refine⟨i.setCell (Qc _) _,?_,(Za o_t (QF _)),(Za o_r (QF _)),(Za f (QF _)),(Za o_d (QF _)),h.atr,a_t.symm,a_r.symm,h.atd,h.ard,a_d⟩;simp [World.setCell,QC,hb]
def LyM.grow_d (h:LyM x3 y l0 l1 l2 pc r tv rv pv dv nt nr np nd tl rl pl dl wr) (a:wr.grownBy w1 dv.ownBlock):w1.heap[y]?=some (.cells #[l0,l1,l2,J pc,J r,tv,rv,pv,dv,.map none] 174 (0,0))/\Below y x3 w1:=by have b:=zE h.od;refine⟨?_,h.bel.grown a (Q7 h.lt) fun q c=>by grind⟩;rw [a.block y h.lt (fun e=>by grind)];exact h.blk
def LyM.push_d (h:LyM x3 y l0 l1 l2 pc r tv rv pv dv nt nr np nd tl rl pl dl wr) {z:Rd} (f:w1.ownsRow (y+1) 292 5 (.slice (pA g) (nd+1) cap) (nd+1) (XC dl++(Y2 z).toList)) (d:wr.grownBy w1 dv.ownBlock) (b:dv.ownBlock=some g\/g=H) (j:wr.heap.size=H) :
  LyM x3 y l0 l1 l2 pc r tv rv pv (.slice (pA g) (nd+1) cap) nt nr np (nd+1) tl rl pl (dl++[z]) (w1.setCell (E y 8) (.slice (pA g) (nd+1) cap)):=by
 obtain⟨hb,i⟩:=h.grow_d d;rw [<-znv] at f;have a_t:apV (.slice (pA g) (nd+1) cap) tv:=fun c h1 a=>by
  have e:g=c:=by simpa [Value.ownBlock] using h1
  subst e;rcases b with b | b
  ·exact h.atd.symm g b a
  have:=zA h.ot g a;omega
 have o_t:=Zr h.ot d (fun c h1 a=>h.atd.symm c a h1);have a_r:apV (.slice (pA g) (nd+1) cap) rv:=fun c h1 a=>by
  have e:g=c:=by simpa [Value.ownBlock] using h1
  subst e;rcases b with b | b
  ·exact h.ard.symm g b a
  have:=zA h.or g a;omega
 have o_r:=Zr h.or d (fun c h1 a=>h.ard.symm c a h1);have a_p:apV (.slice (pA g) (nd+1) cap) pv:=fun c h1 a=>by
  have e:g=c:=by simpa [Value.ownBlock] using h1
  subst e;rcases b with b | b
  ·exact h.apd.symm g b a
  have:=zA h.op g a;omega
 have o_p:=Zr h.op d (fun c h1 a=>h.apd.symm c a h1);refine⟨i.setCell (Qc _) _,?_,(Za o_t (QF _)),(Za o_r (QF _)),(Za o_p (QF _)),(Za f (QF _)),h.atr,h.atp,h.arp,a_t.symm,a_r.symm,a_p.symm⟩;simp [World.setCell,QC,hb]
theorem LyM.start (x3:World) (l0 l1 l2:Value) (pc r:Int):LyM x3 x3.heap.size l0 l1 l2 pc r (.slice none 0 0) (.slice none 0 0) (.slice none 0 0) (.slice none 0 0) 0 0 0 0 [] [] [] [] (x3.alloc (.cells #[l0,l1,l2,J pc,J r,.slice none 0 0,.slice none 0 0,.slice none 0 0,.slice none 0 0,.map none] 174)):=by
 refine⟨Qd _ _,?_,⟨rfl,.inl ⟨rfl,rfl⟩⟩,⟨rfl,.inl ⟨rfl,rfl⟩⟩,⟨rfl,.inl ⟨rfl,rfl⟩⟩,⟨rfl,.inl ⟨rfl,rfl⟩⟩,?_,?_,?_,?_,?_,?_⟩
 ·show (x3.heap.push _)[x3.heap.size]?=_;simp
 all_goals (intro g h;cases h)
end
end
end Go.Proofs.YtjlfcbccpcigeacGreatDoor
