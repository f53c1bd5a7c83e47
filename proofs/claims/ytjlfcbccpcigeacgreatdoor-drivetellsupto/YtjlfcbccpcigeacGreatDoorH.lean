import Derived.Test.YtjlfcbccpcigeacGreatDoorD
set_option maxHeartbeats 40000000
set_option linter.defProp false
namespace Go.Proofs.YtjlfcbccpcigeacGreatDoor
open Go.Proofs.Tryz Go.RowKit Go.Joins
set_option linter.unusedVariables false
set_option linter.unusedSimpArgs false
set_option maxRecDepth 8192
section
open Go.RowKit Go.Joins Go.Maps
variable {z:Int} {f:Int->Int} {n b base sz g cap H:Nat} {x w1:wO} {O F A Q:Li} {v u:vO} {e:TypeId} {xs:List vO}
def UP:Keyed prog 3:=int_keyed underlying3
def mw (h1:-9223372036854775808<=z) (a:z<=9223372036854775807):(Lit.int .i64 z).wf:=WN ⟨h1,a⟩
def jp (f:Int->Int) (n b:Nat) (x:wO):Prop :=
 ∃D:DataW Unit,x.ownsMap prog 3 (plainElem prog 3) b n D/\IsMap D/\∀z,D.atKey (.int .i64 z) (.lit (.int .i64 0))=.lit (.int .i64 (f z))
def LI (w:wO):(zeroValue 3).run prog w=.ok (J 0) w:=kR
def jp.gG {y:wO} (h:jp f n b x) (hb:y.heap[b]?=x.heap[b]?):jp f n b y:=by obtain⟨D,⟨c,a,h1,i⟩,d,g⟩:=h;exact⟨D,⟨c,a,hb.t h1,i⟩,d,g⟩
def jp.lt (h:jp f n b x):b<x.heap.size:=by obtain⟨D,h1,_⟩:=h;exact h1.lt
theorem jp.made (w:wO):jp (fun _=>0) 0 w.heap.size (w.alloc (.map #[] 0)) :=
 ⟨_,World.ownsMap_made (H:=Unit) w prog 3 (plainElem prog 3),isMap_empty,fun z=>rfl⟩
def jp.look (h:jp f n b x) (z:Int) (d:(Lit.int .i64 z).wf):(Instr.lookup 288 (.map (some b)) (.int .i64 z) false).run prog x=.ok (.int .i64 (f z)) x:=by obtain⟨D,h1,g,c⟩:=h;obtain⟨q,hr,a,_⟩:=h1.lookup_int UP underlying288 underlying3 (LI _) (keyOf_int_mk underlying3 d);rw [c z] at a;injection a with e1;injection e1 with _ e2;rw [hr,e2]
def jp.put (h:jp f n b x) (hn:n<maxLen) (z v:Int) (g:(Lit.int .i64 z).wf) (l:(Lit.int .i64 v).wf) :
  ∃c,(Instr.mapUpdate 288 (.map (some b)) (.int .i64 z) (.int .i64 v)).run prog x=.ok () c/\x.grownBy c (some b)/\jp (fun a=>if a=z then v else f a) (n+1) b c:=by
 obtain⟨D,h1,d,i⟩:=h;obtain⟨c,hr,k,j⟩:=h1.update UP underlying288 hn (keyOf_int_mk underlying3 g) (plainElem_int underlying3 l);refine⟨c,hr,j,_,k,d.put _ _,fun a=>?_⟩;show _=DataW.lit (Lit.int IntKind.i64 (if a=z then v else f a));by_cases e:a=z
 ·subst e;rw [Qf rfl,atKey_put_same d (UP.key (keyOf_int_mk underlying3 g))]
 rw [Qe e,atKey_put_other (fun h=>e (by injection h))];exact i a
def YN (O:Li) (z:Int):Nat->Int
 | 0=>0
 | k+1=>YN O z k+(if ak O k=z then 1 else 0)
def A' (O:Li) (z:Int):∀k,0<=YN O z k/\YN O z k<=k:=by
 intro k;induction k with
 | zero=>exact⟨QR _,QR _⟩
 | succ k ih =>show 0<=YN O z k+_/\YN O z k+_<=((k+1:Nat):Int);split <;> lia
def LJ:∀k,(∀i,i<k->ak O i≠z)->YN O z k=0:=by
 intro k;induction k with
 | zero=>intro _;rfl
 | succ k ih =>intro h;show YN O z k+_=0;rw [ih (fun i hi=>h i lI),Qe (h k lI)];rfl
def LK:∀k i,i<k->ak O i=z->1<=YN O z k:=by
 intro k;induction k with
 | zero=>intro i h;lia
 | succ k ih =>
  intro i hi e;show 1<=YN O z k+_;have h0:=A' O z k;grind
def Uj (a q:Int):DataW Unit:=.agg [.lit (.int .i64 a),.lit (.int .i64 q)]
def Y3:vO->Option (DataW Unit × List MemPlace)
 | .agg xs=>match xs.toList with
   | [.int .i64 a,.int .i64 q]=>some (Uj a q,[])
   | _=>none
 | _=>none
def sY (a q:Int):Y3 (.agg #[J a,J q])=some (Uj a q,[]):=rfl
def Ba {z:DataW Unit × List MemPlace} (h:Y3 v=some z):∃a q,v=.agg #[J a,J q]/\z=(Uj a q,[]):=by
 unfold Y3 at h;split at h
 ·split at h
  ·rename_i xs a q hx;cases h;refine⟨a,q,?_,rfl⟩;congr 1;apply Array.ext';rw [hx]
  cases h
 cases h
def Vw (F A Q:Li) (p b:Nat) (x:wO):Prop :=
 ∃D:DataW Unit,x.ownsMap prog 3 Y3 b p D/\IsMap D/\(∀z,Maps.has D (.int .i64 z)=true↔∃i,i<p/\ak F i=z)/\∀i,i<p->∀zd,D.atKey (.int .i64 (ak F i)) zd=Uj (ak A i) (ak Q i)
def LL (w:wO):(zeroValue 142).run prog w=.ok (.agg #[J 0,J 0]) w:=kR
def Vw.gG {y:wO} (h:Vw F A Q n b x) (hb:y.heap[b]?=x.heap[b]?):Vw F A Q n b y:=by obtain⟨D,⟨c,a,h1,g⟩,d,f⟩:=h;exact⟨D,⟨c,a,hb.t h1,g⟩,d,f⟩
def Vw.lt (h:Vw F A Q n b x):b<x.heap.size:=by obtain⟨D,h1,_⟩:=h;exact h1.lt
theorem Vw.made (F A Q:Li) (w:wO):Vw F A Q 0 w.heap.size (w.alloc (.map #[] 0)) :=
 ⟨_,World.ownsMap_made (H:=Unit) w prog 3 Y3,isMap_empty,fun z=>⟨fun h=>(by cases h),fun ⟨i,h,_⟩=>absurd h (Qv _)⟩,fun i h=>absurd h (Qv _)⟩
def Vw.look (h:Vw F A Q n b x) (z:Int) (f:(Lit.int .i64 z).wf):∃a q ok,(Instr.lookup 172 (.map (some b)) (.int .i64 z) true).run prog x=.ok (.tuple #[.agg #[.int .i64 a,.int .i64 q],.bool ok]) x/\(ok=true↔∃i,i<n/\ak F i=z):=by obtain⟨D,h1,g,c,j⟩:=h;obtain⟨v,k,hr,d⟩:=h1.look_ok UP underlying172 (LL _) (sY 0 0) (keyOf_int_mk underlying3 f);obtain⟨a,q,rfl,-⟩:=Ba d;exact⟨a,q,_,hr,c z⟩
def Vw.put (h:Vw F A Q n b x) (hn:n<maxLen) (f:(Lit.int .i64 (ak F n)).wf) (k:∀i,i<n->ak F i≠ak F n) :
  ∃a,(Instr.mapUpdate 172 (.map (some b)) (.int .i64 (ak F n)) (.agg #[.int .i64 (ak A n),.int .i64 (ak Q n)])).run prog x=.ok () a/\x.grownBy a (some b)/\Vw F A Q (n+1) b a:=by
 obtain⟨D,h1,c,j,o⟩:=h;obtain⟨a,hr,m,l⟩:=h1.update UP underlying172 hn (keyOf_int_mk underlying3 f) (sY (ak A n) (ak Q n));have d:=UP.key (keyOf_int_mk underlying3 f);refine⟨a,hr,l,_,m,c.put _ _,fun z=>?_,fun i hi p=>?_⟩
 ·by_cases e:z=ak F n
  ·subst e;rw [has_put_same c d];grind
  rw [has_put_other (fun h=>e (by injection h)),j z];grind
 by_cases g:i=n
 ·subst g;exact atKey_put_same c d _ _
 rw [atKey_put_other (fun h=>k i lI (by injection h))];grind
def nT (h1:-9223372036854775808<=z) (a:z<=9223372036854775807):IntKind.i64.wrap z=z:=by rw [Wq];lia
def Bb (o:jK) (t:Tg) (pc st:Int) (ops:List bt) (L:Lp) (O:Li) (a0 c d ka j:Option Addr) (f g i kc k:Nat) (w:wO) (n:zI w ((lv L a0 c d f g i)) L) (m:Y5 w (.slice ka ops.length kc) ops) (p:zM w (.slice j O.length k) O) (h:ops.length≠L.b.length\/O.length≠L.b.length) :
  Cp 155 #[(lv L a0 c d f g i),(tV t),.agg #[J pc,J st,.slice ka ops.length kc],.slice j O.length k] w (Rt w (.bool (xW L t ⟨pc,st,ops⟩ O))):=by
 have a:Hid (xW L t ⟨pc,st,ops⟩ O=false):=by
  show _=_;grind [xW]
 rw [a];clear n m p o a;by_cases h1:ops.length=L.b.length
 ·have l:((ops.length:Int) != (L.b.length:Int))=false:=by simp;omega
  have q:((O.length:Int) != (L.b.length:Int)):=by
   grind
  clear h h1;go_enter func155,ntmps155;go_wp2;go_ret;exact⟨rfl,QJ _ _ _ _⟩
 have l:((ops.length:Int) != (L.b.length:Int)):=by simp;omega
 clear h h1;go_enter func155,ntmps155;go_wp2;go_ret;exact⟨rfl,QJ _ _ _ _⟩
def Bd (s:jK) (t:Tg) (pc st:Int) (ops:List bt) (L:Lp) (O:Li) (a0 c d ka u:Option Addr) (a f g kc v:Nat) (w:wO) (m:zI w ((lv L a0 c d a f g)) L) (r:Y5 w (.slice ka ops.length kc) ops) (B:zM w (.slice u O.length v) O) (h1:ops.length=L.b.length) (A:O.length=L.b.length) (h:zQ L=false\/zQ L/\X7 t ⟨pc,st,ops⟩ L.l=false) :
  Cp 155 #[(lv L a0 c d a f g),(tV t),.agg #[J pc,J st,.slice ka ops.length kc],.slice u O.length v] w (Rt w (.bool (xW L t ⟨pc,st,ops⟩ O))):=by
 have Q:((ops.length:Int) != (L.b.length:Int))=false:=by simp;omega
 have P:((O.length:Int) != (L.b.length:Int))=false:=by simp;omega
 have q:=Z (QJ w (lC L a0 c d a f g) (tO t) (kB pc st ka ops.length kc));have p:Hid ((((w.alloc (lC L a0 c d a f g)).alloc (tO t)).alloc (kB pc st ka ops.length kc)).heap.size=w.heap.size+1+1+1):=by show _=_;simp
 have k:=Z (Yo ((lv L a0 c d a f g)) L (((w.alloc (lC L a0 c d a f g)).alloc (tO t)).alloc (kB pc st ka ops.length kc)) (m.gE q));have o:=Z (fun W (hb:Bw w W) (h0:zM W (.slice a0 L.l.length a) L.l)=>s t (.agg #[J pc,J st,.slice ka ops.length kc]) ⟨pc,st,ops⟩ a0 a L.l W ⟨_,rfl,r.gE hb⟩ h0);have y:Hid (∀W,Bw w W->zM W (.slice a0 L.l.length a) L.l):=fun W hb=>by obtain⟨v0,T,v2,R,h0,-⟩:=m.gE hb;simp_all
 have n:Hid (xW L t ⟨pc,st,ops⟩ O=false):=by
  show _=_;grind [xW]
 rw [n];clear m r B s n h1 A;rcases h with h | ⟨h,z⟩
 ·rw [h] at k;go_enter func155,ntmps155;go_wp2_with fail;refine k.mr fun N hb=>?_;have i:=Z (q.t (hb.m (by rw [p];omega)));clear hb;go_wp2_with fail;go_ret;exact⟨rfl,i⟩
 rw [h] at k;rw [z] at o;go_enter func155,ntmps155;go_wp2_with fail;refine k.mr fun N hb=>?_;rw [p] at hb;obtain⟨⟨l0,l1,l2⟩,⟨D,F,G,H,I,K,M⟩,⟨k0,k1,C⟩,S,j⟩:=yL hb;have i:=Z j;clear hb j;go_wp2_with fail;refine (o _ i (y _ i)).mr fun U hb=>?_;have x:=Z (i.tm hb);clear hb l0 l1 l2 D F G H I K M k0 k1 C;go_wp2;go_ret;exact⟨rfl,x⟩
def LM (hM:jK) (t:Tg) (pc st:Int) (ops:List bt) (L:Lp) (O:Li) (a0 N P ka oa:Option Addr) (u I R kc oc:Nat) (w:wO) (hL:zI w ((lv L a0 N P u I R)) L) (q:Y5 w (.slice ka ops.length kc) ops) (hO:zM w (.slice oa O.length oc) O) (h1:ops.length=L.b.length) (h2:O.length=L.b.length) (hm:zQ L) (hk:X7 t ⟨pc,st,ops⟩ L.l) :
  Cp 155 #[(lv L a0 N P u I R),(tV t),.agg #[J pc,J st,.slice ka ops.length kc],.slice oa O.length oc] w (Rt w (.bool (xW L t ⟨pc,st,ops⟩ O))):=by
 have bh:((ops.length:Int) != (L.b.length:Int))=false:=by simp;omega
 have B:((O.length:Int) != (L.b.length:Int))=false:=by simp;omega
 have aI:=Z (QJ w (lC L a0 N P u I R) (tO t) (kB pc st ka ops.length kc));have aD:Hid ((((w.alloc (lC L a0 N P u I R)).alloc (tO t)).alloc (kB pc st ka ops.length kc)).heap.size=w.heap.size+1+1+1):=by show _=_;simp
 have aj:=Z (Yo ((lv L a0 N P u I R)) L (((w.alloc (lC L a0 N P u I R)).alloc (tO t)).alloc (kB pc st ka ops.length kc)) (hL.gE aI));have aB:=Z (fun W (hb:Bw w W) (h0:zM W (.slice a0 L.l.length u) L.l)=>hM t (.agg #[J pc,J st,.slice ka ops.length kc]) ⟨pc,st,ops⟩ a0 u L.l W ⟨_,rfl,q.gE hb⟩ h0);have aQ:Hid (∀W,Bw w W->zM W (.slice a0 L.l.length u) L.l):=fun W hb=>by obtain⟨v0,v1,v2,hv,h0,-⟩:=hL.gE hb;simp_all
 obtain⟨-,cN,cw,-⟩:=zy hm;have HD:Hid (xW L t ⟨pc,st,ops⟩ O=zF (fun s=>Yp L O s && XM L ⟨pc,st,ops⟩ O s) L.b.length):=by
  show _=_;grind [xW,X7]
 obtain⟨v0,v1,v2,hv,-,⟨a1',c1',bN,cM,ce,bJ⟩,-⟩:=hL;obtain⟨e0,H,e2⟩:(.slice a0 L.l.length u:vO)=v0/\(.slice N L.b.length I:vO)=v1/\(.slice P L.o.length R:vO)=v2:=by simp_all
 rw [bN] at H;injection H with H ex1 e1';subst H;subst e1';unfold maxLen at ce;obtain⟨bb,bo,rfl,hbb,gQ⟩:=bJ (by omega);obtain⟨ka',kc',bY,cJ,aK,bI⟩:=q;injection bY with H ex2 e1';subst H;subst e1';unfold maxLen at aK;obtain⟨kb,c,rfl,bW,aN⟩:=bI (by omega);obtain⟨oa',oc',cC,cO,cA,bM,bL⟩:=hO;injection cC with H ex3 e1';subst H;subst e1';unfold maxLen at cA;obtain⟨ob,oo,rfl,cB,aO⟩:=bL (by omega);have bO:=Z gQ;have bQ:=Z aN;have bR:=Z aO;have bP:=Z bM;have HH:=Z (And.intro h1 h2);rw [hm] at aj;rw [hk] at aB;clear hM bJ gQ bI aN bL aO bM hv e0 e2 bN hm hk h1 h2;go_enter func155,ntmps155;go_wp2_with fail;refine aj.mr fun x1 hb=>?_;rw [aD] at hb;obtain⟨⟨l0,l1,l2⟩,⟨t0,t1,t2,t3,t4,t5,t6⟩,⟨k0,k1,k2⟩,hz,r⟩:=yL hb;have ai:=Z r;have ay:=Z hb;clear hb r;go_wp2_with fail;refine (aB _ ai (aQ _ ai)).mr fun g hb=>?_;have B:=ay.t (hb.m (by omega));clear l0 l1 l2 t0 t1 t2 t3 t4 t5 t6 k0 k1 k2 hz;obtain⟨⟨l0,l1,l2⟩,⟨t0,t1,t2,t3,t4,t5,t6⟩,⟨k0,k1,k2⟩,hz,r⟩:=yL B;have aA:=Z r;clear B r hb aj aB aQ ai ay aI aD l0 l2 t0 t1 t2 t3 t4 t5 t6 k0 k1;have l1m:(g.alloc (.map #[] 0)).c w.heap.size 1=some (vE bb bo L.b.length I):=(ze (Qd g (.map #[] 0)) w.heap.size 1 (by omega)).t l1;clear l1;have cg:=@run_makeMap prog;go_wp2;clear cg;have bE:=Z (jp.made g);have K2:=Z k2;clear k2;go_loopw [43] (fun i wr=>∃k:Nat,k<=L.b.length/\i=J k/\zF (fun s=>Yp L O s && XM L ⟨pc,st,ops⟩ O s) k/\Bw g wr/\jp (fun z=>YN O z k) k g.heap.size wr) (fun i _=>L.b.length - (intOf i).toNat)
 case atStart=>exact⟨0,Ql _,rfl,rfl,Qd _ _,bE⟩
 clear bE;obtain⟨k,hk,rfl,hall,gH,aM⟩:=hrel;have HA:=Z hall;have HB:=Z gH;have aZ:=Z aM;have aS:=Z (aA.tm gH);clear hall aM;by_cases hkl:k<L.b.length
 ·have bZ:(k:Int)<(L.b.length:Int):=by omega
  have cL:(k:Int)<(O.length:Int):=by have:=HH.2;omega
  obtain⟨c0,c1,c2,c3,c4,c5,c6,c7,c8⟩:=Ue (fun j hj=>(ze aS bb (bo+k*9+j) hbb).t (bO k hkl j hj));have co:=(ze aS ob (oo+k) cB).t (bR k (by omega));obtain⟨zl,zh⟩:=bP k (by omega);have cU:=aS.size;have cH:bb<wr.heap.size:=by omega
  have cS:ob<wr.heap.size:=by omega
  have cX:g.heap.size<wr.heap.size:=aZ.lt;have Q:Hid (Yp L O k=(br (ak O k) 0 ((ops.length:Int) - 1) && zF (fun i=>!decide (ak O i=ak O k)) k)):=by grind [Yp]
  have F:Hid (XM L ⟨pc,st,ops⟩ O k=oQ (zc L.b k).o (zc L.b k).ar (zc L.b k).sp (zc L.b k).pl (zc L.b k).nn (zv ops (ak O k).toNat).o (zv ops (ak O k).toNat).ar (zv ops (ak O k).toNat).sp (zv ops (ak O k).toNat).pl (zv ops (ak O k).toNat).nn):=rfl;obtain⟨z,aW⟩:=nm (ak O k);rw [aW] at co zl zh Q F;have HZ:=Z aW;generalize zc L.b k=xk at *
  obtain⟨M,xa,xb,ya,yb,ar,sp,pl,nn⟩:=xk;(try simp only at c0 c1 c2 c3 c4 c5 c6 c7 c8 F);obtain⟨W,hW⟩:=nm (wr.alloc (nB M xa xb ya yb ar sp pl nn));have bg:Bw wr W:=hW ▸ Qd _ _
  have bU:W.heap.size=wr.heap.size+1:=by rw [<-hW];simp
  have bS:=Z hW;have bC:jp (fun z=>YN O z k) k g.heap.size W:=aZ.gG (bg.block _ aZ.lt);obtain⟨g0,g1⟩:=A' O z k;have X:=bC.look z (mw zl zh);obtain⟨V,aH,aV,bK⟩:=bC.put (by unfold maxLen;omega) z (YN O z k+1) (mw zl zh) (mw (by omega) (by omega));have cE:wrap64 (YN O z k+1)=YN O z k+1:=by unfold wrap64;omega
  have aL:jp (fun z'=>YN O z' (k+1)) (k+1) g.heap.size V:=by
   grind [YN]
  have aT:Bw g V:=(HB.tm bg).grown aV (by omega) (fun j hj=>by grind);have bT:W.heap.size<=V.heap.size:=aV.size;have bG:V.heap[wr.heap.size]?=some (nB M xa xb ya yb ar sp pl nn):=by rw [aV.block wr.heap.size (by omega) (by simp;omega),<-hW];exact Zd _ _ _
  have T:=Z aT;have G:=Z (aA.tm aT);have D:=Z aL;have kV:=(ze aT (w.heap.size+1+1) 2 (by omega)).t (show g.c (w.heap.size+1+1) 2=_ from K2);have aR:Hid (Yp L O k->XM L ⟨pc,st,ops⟩ O k->zF (fun s=>Yp L O s && XM L ⟨pc,st,ops⟩ O s) (k+1)):=fun h h'=>yr HA (by grind);have S:Hid (Yp L O k=false\/XM L ⟨pc,st,ops⟩ O k=false->xW L t ⟨pc,st,ops⟩ O=false):=fun h=>by
   rw [HD];apply yd hkl;grind
  have cF:IntKind.i64.wrap ((ops.length:Int) - 1)=(ops.length:Int) - 1:=nT (by omega) (by omega);have cW:wrap64 ((ops.length:Int) - 1)=(ops.length:Int) - 1:=by unfold wrap64;omega
  have U:=Z (fun W'=>UK z 0 ((ops.length:Int) - 1) W');rw [<-hW] at X aH;obtain⟨p,aU⟩:=nm (YN O z k);have aY:=Z aU;have aX:=Z aU;have bf:=Z aW;rw [aU] at X aH cE g0 g1;have m:=Z bG;have KV:=Z kV;have n:=Z (show wr.heap.size<V.heap.size by omega);clear hW bg bC bK aL aV gH aU aW aT bT bG kV bS bU;cases f:br z 0 ((ops.length:Int) - 1) with
  | false =>
   have x:=Z (S (.inl (by rw [Q,f];rfl)));rw [f] at U;clear f aR S Q F;go_wp2;clear aH X c0 c1 c2 c3 c4 c5 c6 c7 c8 co;have A:Hid (∀w',Bw V w'->w'.c (w.heap.size+1+1) 2=some (vE kb c ops.length kc)):=fun w' hb=>(ze hb (w.heap.size+1+1) 2 (by have:=T.size;omega)).t KV;refine YM (fun w'=>(Bw V w'/\w'.c (w.heap.size+1+1) 2=some (vE kb c ops.length kc))) 23 (by rfl) (by kernel_rfl) (by kernel_rfl) (by kernel_rfl) ⟨Qm _ _ 1,A _ (Qm _ _ 1)⟩ ?_;apply cz (i:=0) rfl;apply cz (i:=1) rfl;apply cz (i:=2) rfl;apply cz (i:=3) rfl;apply cz (i:=4) rfl;refine YI (i:=5) (.bool false) rfl (by rfl) (fun w hSw K q=>?_) ?_
   ·go_simp;apply (U _).m;rintro e y ⟨rfl,rfl⟩;exact q _ _ (by simp only [Act.put,Qn,Qy,Qz]) hSw
   try simp only [Act.put,Qn,Qy,Qz]
   apply cz (i:=6) rfl;apply cz (i:=7) rfl;apply yo (i:=8) (v:=undef) rfl (Or.inr ⟨by rfl,rfl⟩);try simp only [Act.put,Qn,Qy,Qz]
   apply yo (i:=9) (v:=undef) rfl (Or.inr ⟨by rfl,rfl⟩);try simp only [Act.put,Qn,Qy,Qz]
   apply yo (i:=10) (v:=undef) rfl (Or.inr ⟨by rfl,rfl⟩);try simp only [Act.put,Qn,Qy,Qz]
   apply yo (i:=11) (v:=undef) rfl (Or.inr ⟨by rfl,rfl⟩);try simp only [Act.put,Qn,Qy,Qz]
   apply cz (i:=12) rfl;apply cz (i:=13) rfl;apply yo (i:=14) (v:=undef) rfl (Or.inr ⟨by rfl,rfl⟩);try simp only [Act.put,Qn,Qy,Qz]
   apply yo (i:=15) (v:=undef) rfl (Or.inr ⟨by rfl,rfl⟩);try simp only [Act.put,Qn,Qy,Qz]
   apply yo (i:=16) (v:=undef) rfl (Or.inr ⟨by rfl,rfl⟩);try simp only [Act.put,Qn,Qy,Qz]
   apply yo (i:=17) (v:=undef) rfl (Or.inr ⟨by rfl,rfl⟩);try simp only [Act.put,Qn,Qy,Qz]
   apply yo (i:=18) (v:=undef) rfl (Or.inr ⟨by rfl,rfl⟩);try simp only [Act.put,Qn,Qy,Qz]
   apply yo (i:=19) (v:=undef) rfl (Or.inr ⟨by rfl,rfl⟩);try simp only [Act.put,Qn,Qy,Qz]
   apply yo (i:=20) (v:=undef) rfl (Or.inr ⟨by rfl,rfl⟩);try simp only [Act.put,Qn,Qy,Qz]
   apply yo (i:=21) (v:=undef) rfl (Or.inr ⟨by rfl,rfl⟩);try simp only [Act.put,Qn,Qy,Qz]
   apply cz (i:=22) rfl;refine Ul (fun y d=>?_);apply Qs;try (try dsimp only at d)
   go_wp2;go_ret;exact⟨zi x.s,G.t (d.1.m (by have:=G.size;omega))⟩
  | true =>
   rw [f] at U;have bH:=zH.1 f;obtain⟨a,cG⟩:∃a:Nat,z=a:=⟨z.toNat,by omega⟩;subst cG;have bD:a<ops.length:=(by omega);have cY:(a:Int)<(ops.length:Int):=(by omega);by_cases hc1:1<p+1
   ·have x:Hid (xW L t ⟨pc,st,ops⟩ O=false):=S (.inl (by rw [Q,f,Wb];rw [<-E8];intro h;have h0:=LJ (O:=O) (z:=(a:Int)) k (fun i hi e=>by have h3:=zq h i hi;rw [Qi e] at h3;cases h3);have:=aY.o;omega));clear f aR S Q F bH;go_wp2;clear aH X c0 c1 c2 c3 c4 c5 c6 c7 c8 co;have aJ:Hid (∀w',Bw V w'->(Instr.lookup 288 (.map (some g.heap.size)) (J (a:Int)) false).run prog w'=.ok (J (p+1)) w'):=fun w' hb=>by have h:=(D.gG (hb.block _ D.o.lt)).look (a:Int) (mw zl zh);have e:YN O (a:Int) (k+1)=p+1:=(by show YN O (a:Int) k+_=_;rw [aX.o,Qf bf.o]);simp only [e] at h;exact h
    have A:Hid (∀w',Bw V w'->w'.c (w.heap.size+1+1) 2=some (vE kb c ops.length kc)/\(Instr.lookup 288 (.map (some g.heap.size)) (J (a:Int)) false).run prog w'=.ok (J (p+1)) w'):=fun w' hb=>⟨(ze hb (w.heap.size+1+1) 2 (by have:=T.size;omega)).t KV,(aJ _ hb)⟩;refine YM (fun w'=>(Bw V w'/\w'.c (w.heap.size+1+1) 2=some (vE kb c ops.length kc)/\(Instr.lookup 288 (.map (some g.heap.size)) (J (a:Int)) false).run prog w'=.ok (J (p+1)) w')) 23 (by rfl) (by kernel_rfl) (by kernel_rfl) (by kernel_rfl) ⟨Qm _ _ 1,A _ (Qm _ _ 1)⟩ ?_;apply cz (i:=0) rfl;apply cz (i:=1) rfl;apply cz (i:=2) rfl;apply cz (i:=3) rfl;apply cz (i:=4) rfl;refine YI (i:=5) (.bool true) rfl (by rfl) (fun w hSw K q=>?_) ?_
    ·go_simp;apply (U _).m;rintro e y ⟨rfl,rfl⟩;exact q _ _ (by simp only [Act.put,Qn,Qy,Qz]) hSw
    try simp only [Act.put,Qn,Qy,Qz]
    apply cz (i:=6) rfl;apply cz (i:=7) rfl;apply cz (i:=8) rfl;apply cz (i:=9) rfl;apply cz (i:=10) rfl;apply cz (i:=11) rfl;apply cz (i:=12) rfl;apply cz (i:=13) rfl;apply yo (i:=14) (v:=undef) rfl (Or.inr ⟨by rfl,rfl⟩);try simp only [Act.put,Qn,Qy,Qz]
    apply yo (i:=15) (v:=undef) rfl (Or.inr ⟨by rfl,rfl⟩);try simp only [Act.put,Qn,Qy,Qz]
    apply yo (i:=16) (v:=undef) rfl (Or.inr ⟨by rfl,rfl⟩);try simp only [Act.put,Qn,Qy,Qz]
    apply yo (i:=17) (v:=undef) rfl (Or.inr ⟨by rfl,rfl⟩);try simp only [Act.put,Qn,Qy,Qz]
    apply yo (i:=18) (v:=undef) rfl (Or.inr ⟨by rfl,rfl⟩);try simp only [Act.put,Qn,Qy,Qz]
    apply yo (i:=19) (v:=undef) rfl (Or.inr ⟨by rfl,rfl⟩);try simp only [Act.put,Qn,Qy,Qz]
    apply yo (i:=20) (v:=undef) rfl (Or.inr ⟨by rfl,rfl⟩);try simp only [Act.put,Qn,Qy,Qz]
    apply yo (i:=21) (v:=undef) rfl (Or.inr ⟨by rfl,rfl⟩);try simp only [Act.put,Qn,Qy,Qz]
    apply cz (i:=22) rfl;refine Ul (fun y d=>?_);apply Qs;try (try dsimp only at d)
    go_wp2;go_ret;exact⟨zi x.s,G.t (d.1.m (by have:=G.o.size;omega))⟩
   have bF:Hid (Yp L O k):=by
    show _=_;rw [Q.o,f,Wb];refine yk fun i hi=>?_;show (!decide (ak O i=(a:Int)));by_cases e:ak O i=(a:Int)
    ·have h1:=LK k i hi e;have:=aY.o;omega
    rw [Qk e];rfl
   have cD:kb<V.heap.size:=(by have:=G.size;omega);obtain⟨d0,d1,d2,d3,d4,d5,d6,d7,d8,d9⟩:=jP (fun j hj=>(ze G kb (c+a*10+j) bW).t (bQ a bD j hj));rw [show ((a:Int)).toNat=a from rfl] at F;generalize zv ops a=ox at *
   obtain⟨o0,o1,o2,o3,o4,o5,o6,o7,o8,o9⟩:=ox;(try simp only at d0 d1 d2 d3 d4 d5 d6 d7 d8 d9 F);have aP:=Z (fun W'=>FR o0 o1 o2 o3 o4 o5 o6 o7 o8 o9 M xa xb ya yb ar sp pl nn W');have af:=Z (aR bF);have ae:Hid (XM L ⟨pc,st,ops⟩ O k=false->xW L t ⟨pc,st,ops⟩ O=false):=fun h=>S.o (.inr h);rw [F.o] at af ae;clear f aR S Q F bH bF HZ aY;cases C:oQ M ar sp pl nn o2 o6 o7 o8 o9 with
   | false =>
    rw [C] at aP ae;have x:=Z (ae.o rfl);clear C af ae;go_wp2;clear aH X c0 c1 c2 c3 c4 c5 c6 c7 c8 co;have bj:¬1<p+1:=(by omega);have bz:decide (1<p+1)=false:=Qk bj;have aJ:Hid (∀w',Bw V w'->(Instr.lookup 288 (.map (some g.heap.size)) (J (a:Int)) false).run prog w'=.ok (J (p+1)) w'):=fun w' hb=>by have h:=(D.o.gG (hb.block _ D.o.lt)).look (a:Int) (mw zl zh);have e:YN O (a:Int) (k+1)=p+1:=(by show YN O (a:Int) k+_=_;rw [aX.o,Qf bf.o]);simp only [e] at h;exact h
    have A:Hid (∀w',Bw V w'->w'.c (w.heap.size+1+1) 2=some (vE kb c ops.length kc)/\(Instr.lookup 288 (.map (some g.heap.size)) (J (a:Int)) false).run prog w'=.ok (J (p+1)) w'/\w'.c wr.heap.size 0=Y M/\w'.c wr.heap.size 1=Y xa/\w'.c wr.heap.size 2=Y xb/\w'.c wr.heap.size 3=Y ya/\w'.c wr.heap.size 4=Y yb/\w'.c wr.heap.size 5=Y ar/\w'.c wr.heap.size 6=Y sp/\w'.c wr.heap.size 7=Y pl/\w'.c wr.heap.size 8=Y nn/\w'.c kb (c+a*10)=Y o0/\w'.c kb (c+a*10+1)=Y o1/\w'.c kb (c+a*10+2)=Y o2/\w'.c kb (c+a*10+3)=Y o3/\w'.c kb (c+a*10+4)=Y o4/\w'.c kb (c+a*10+5)=Y o5/\w'.c kb (c+a*10+6)=Y o6/\w'.c kb (c+a*10+7)=Y o7/\w'.c kb (c+a*10+8)=Y o8/\w'.c kb (c+a*10+9)=Y o9):=fun w' hb=>⟨(ze hb (w.heap.size+1+1) 2 (by have:=T.size;omega)).t KV,(aJ _ hb),((ze hb wr.heap.size 0 n).t (cb m)),((ze hb wr.heap.size 1 n).t (cb m)),((ze hb wr.heap.size 2 n).t (cb m)),((ze hb wr.heap.size 3 n).t (cb m)),((ze hb wr.heap.size 4 n).t (cb m)),((ze hb wr.heap.size 5 n).t (cb m)),((ze hb wr.heap.size 6 n).t (cb m)),((ze hb wr.heap.size 7 n).t (cb m)),((ze hb wr.heap.size 8 n).t (cb m)),((ze hb kb (c+a*10) (by omega)).t d0),((ze hb kb (c+a*10+1) (by omega)).t d1),((ze hb kb (c+a*10+2) (by omega)).t d2),((ze hb kb (c+a*10+3) (by omega)).t d3),((ze hb kb (c+a*10+4) (by omega)).t d4),((ze hb kb (c+a*10+5) (by omega)).t d5),((ze hb kb (c+a*10+6) (by omega)).t d6),((ze hb kb (c+a*10+7) (by omega)).t d7),((ze hb kb (c+a*10+8) (by omega)).t d8),((ze hb kb (c+a*10+9) (by omega)).t d9)⟩;refine YM (fun w'=>(Bw V w'/\w'.c (w.heap.size+1+1) 2=some (vE kb c ops.length kc)/\(Instr.lookup 288 (.map (some g.heap.size)) (J (a:Int)) false).run prog w'=.ok (J (p+1)) w'/\w'.c wr.heap.size 0=Y M/\w'.c wr.heap.size 1=Y xa/\w'.c wr.heap.size 2=Y xb/\w'.c wr.heap.size 3=Y ya/\w'.c wr.heap.size 4=Y yb/\w'.c wr.heap.size 5=Y ar/\w'.c wr.heap.size 6=Y sp/\w'.c wr.heap.size 7=Y pl/\w'.c wr.heap.size 8=Y nn/\w'.c kb (c+a*10)=Y o0/\w'.c kb (c+a*10+1)=Y o1/\w'.c kb (c+a*10+2)=Y o2/\w'.c kb (c+a*10+3)=Y o3/\w'.c kb (c+a*10+4)=Y o4/\w'.c kb (c+a*10+5)=Y o5/\w'.c kb (c+a*10+6)=Y o6/\w'.c kb (c+a*10+7)=Y o7/\w'.c kb (c+a*10+8)=Y o8/\w'.cell? (E kb (c+a*10+9))=Y o9)) 23 (by rfl) (by kernel_rfl) (by kernel_rfl) (by kernel_rfl) ⟨Qm _ _ 1,A _ (Qm _ _ 1)⟩ ?_;apply cz (i:=0) rfl;apply cz (i:=1) rfl;apply cz (i:=2) rfl;apply cz (i:=3) rfl;apply cz (i:=4) rfl;refine YI (i:=5) (.bool true) rfl (by rfl) (fun w hSw K q=>?_) ?_
    ·go_simp;apply (U _).m;rintro e y ⟨rfl,rfl⟩;exact q _ _ (by simp only [Act.put,Qn,Qy,Qz]) hSw
    try simp only [Act.put,Qn,Qy,Qz]
    apply cz (i:=6) rfl;apply cz (i:=7) rfl;apply cz (i:=8) rfl;apply cz (i:=9) rfl;apply cz (i:=10) rfl;apply cz (i:=11) rfl;apply cz (i:=12) rfl;apply cz (i:=13) rfl;apply cz (i:=14) rfl;apply cz (i:=15) rfl;apply cz (i:=16) rfl;apply cz (i:=17) rfl;apply cz (i:=18) rfl;apply cz (i:=19) rfl;refine YI (i:=20) (.bool false) rfl (by rfl) (fun w hSw K q=>?_) ?_
    ·go_simp;refine (aP.o _).mr fun y hy=>?_;have B:=hSw.1.tm hy;exact q.o _ _ (by simp only [Act.put,Qn,Qy,Qz]) ⟨B,A.o _ B⟩
    try simp only [Act.put,Qn,Qy,Qz]
    apply cz (i:=21) rfl;apply cz (i:=22) rfl;refine Ul (fun y d=>?_);apply Qs;try (try dsimp only at d)
    go_wp2;go_ret;exact⟨zi x.o.s,G.o.t (d.1.m (by have:=G.o.size;omega))⟩
   | true =>
    rw [C] at aP af;have x:=Z (af.o rfl);clear C af ae;go_wp2;clear aH X c0 c1 c2 c3 c4 c5 c6 c7 c8 co;have bj:¬1<p+1:=(by omega);have bz:decide (1<p+1)=false:=Qk bj;have aJ:Hid (∀w',Bw V w'->(Instr.lookup 288 (.map (some g.heap.size)) (J (a:Int)) false).run prog w'=.ok (J (p+1)) w'):=fun w' hb=>by have h:=(D.o.gG (hb.block _ D.o.lt)).look (a:Int) (mw zl zh);have e:YN O (a:Int) (k+1)=p+1:=(by show YN O (a:Int) k+_=_;rw [aX.o,Qf bf.o]);simp only [e] at h;exact h
    have A:Hid (∀w',Bw V w'->w'.c (w.heap.size+1+1) 2=some (vE kb c ops.length kc)/\(Instr.lookup 288 (.map (some g.heap.size)) (J (a:Int)) false).run prog w'=.ok (J (p+1)) w'/\w'.c wr.heap.size 0=Y M/\w'.c wr.heap.size 1=Y xa/\w'.c wr.heap.size 2=Y xb/\w'.c wr.heap.size 3=Y ya/\w'.c wr.heap.size 4=Y yb/\w'.c wr.heap.size 5=Y ar/\w'.c wr.heap.size 6=Y sp/\w'.c wr.heap.size 7=Y pl/\w'.c wr.heap.size 8=Y nn/\w'.c kb (c+a*10)=Y o0/\w'.c kb (c+a*10+1)=Y o1/\w'.c kb (c+a*10+2)=Y o2/\w'.c kb (c+a*10+3)=Y o3/\w'.c kb (c+a*10+4)=Y o4/\w'.c kb (c+a*10+5)=Y o5/\w'.c kb (c+a*10+6)=Y o6/\w'.c kb (c+a*10+7)=Y o7/\w'.c kb (c+a*10+8)=Y o8/\w'.c kb (c+a*10+9)=Y o9):=fun w' hb=>⟨(ze hb (w.heap.size+1+1) 2 (by have:=T.size;omega)).t KV,(aJ _ hb),((ze hb wr.heap.size 0 n).t (cb m)),((ze hb wr.heap.size 1 n).t (cb m)),((ze hb wr.heap.size 2 n).t (cb m)),((ze hb wr.heap.size 3 n).t (cb m)),((ze hb wr.heap.size 4 n).t (cb m)),((ze hb wr.heap.size 5 n).t (cb m)),((ze hb wr.heap.size 6 n).t (cb m)),((ze hb wr.heap.size 7 n).t (cb m)),((ze hb wr.heap.size 8 n).t (cb m)),((ze hb kb (c+a*10) (by omega)).t d0),((ze hb kb (c+a*10+1) (by omega)).t d1),((ze hb kb (c+a*10+2) (by omega)).t d2),((ze hb kb (c+a*10+3) (by omega)).t d3),((ze hb kb (c+a*10+4) (by omega)).t d4),((ze hb kb (c+a*10+5) (by omega)).t d5),((ze hb kb (c+a*10+6) (by omega)).t d6),((ze hb kb (c+a*10+7) (by omega)).t d7),((ze hb kb (c+a*10+8) (by omega)).t d8),((ze hb kb (c+a*10+9) (by omega)).t d9)⟩;refine YM (fun w'=>(Bw V w'/\w'.c (w.heap.size+1+1) 2=some (vE kb c ops.length kc)/\(Instr.lookup 288 (.map (some g.heap.size)) (J (a:Int)) false).run prog w'=.ok (J (p+1)) w'/\w'.c wr.heap.size 0=Y M/\w'.c wr.heap.size 1=Y xa/\w'.c wr.heap.size 2=Y xb/\w'.c wr.heap.size 3=Y ya/\w'.c wr.heap.size 4=Y yb/\w'.c wr.heap.size 5=Y ar/\w'.c wr.heap.size 6=Y sp/\w'.c wr.heap.size 7=Y pl/\w'.c wr.heap.size 8=Y nn/\w'.c kb (c+a*10)=Y o0/\w'.c kb (c+a*10+1)=Y o1/\w'.c kb (c+a*10+2)=Y o2/\w'.c kb (c+a*10+3)=Y o3/\w'.c kb (c+a*10+4)=Y o4/\w'.c kb (c+a*10+5)=Y o5/\w'.c kb (c+a*10+6)=Y o6/\w'.c kb (c+a*10+7)=Y o7/\w'.cell? (E kb (c+a*10+8))=Y o8/\w'.cell? (E kb (c+a*10+9))=Y o9)) 23 (by rfl) (by kernel_rfl) (by kernel_rfl) (by kernel_rfl) ⟨Qm _ _ 1,A _ (Qm _ _ 1)⟩ ?_;apply cz (i:=0) rfl;apply cz (i:=1) rfl;apply cz (i:=2) rfl;apply cz (i:=3) rfl;apply cz (i:=4) rfl;refine YI (i:=5) (.bool true) rfl (by rfl) (fun w hSw K q=>?_) ?_
    ·go_simp;apply (U _).m;rintro e y ⟨rfl,rfl⟩;exact q _ _ (by simp only [Act.put,Qn,Qy,Qz]) hSw
    try simp only [Act.put,Qn,Qy,Qz]
    apply cz (i:=6) rfl;apply cz (i:=7) rfl;apply cz (i:=8) rfl;apply cz (i:=9) rfl;apply cz (i:=10) rfl;apply cz (i:=11) rfl;apply cz (i:=12) rfl;apply cz (i:=13) rfl;apply cz (i:=14) rfl;apply cz (i:=15) rfl;apply cz (i:=16) rfl;apply cz (i:=17) rfl;apply cz (i:=18) rfl;apply cz (i:=19) rfl;refine YI (i:=20) (.bool true) rfl (by rfl) (fun w hSw K q=>?_) ?_
    ·go_simp;refine (aP _).mr fun y hy=>?_;have B:=hSw.1.tm hy;exact q _ _ (by simp only [Act.put,Qn,Qy,Qz]) ⟨B,A _ B⟩
    try simp only [Act.put,Qn,Qy,Qz]
    apply cz (i:=21) rfl;apply cz (i:=22) rfl;refine Ul (fun y d=>?_);apply Qs;try (try dsimp only at d)
    go_wp2;go_roundw
    case rel=>exact⟨k+1,by omega,by go_num,x,T.t (d.1.m (by have:=T.size;omega)),D.gG (d.1.block _ D.lt)⟩
    simp [intOf];omega
 have e:k=L.b.length:=by omega
 subst e;have bZ:¬(L.b.length:Int)<(L.b.length:Int):=by omega
 have x:Hid (xW L t ⟨pc,st,ops⟩ O):=by show _=_;rw [HD,HA]
 clear gH;go_wp2;go_ret;exact⟨zi x.s,aS⟩
section
def Zr {row:Option Nat} (h:x.ownsRow base e sz v n xs) (f:x.grownBy w1 row) (d:∀g,v.ownBlock=some g->row≠some g):w1.ownsRow base e sz v n xs:=by
 obtain⟨i,h⟩:=h;refine⟨i,?_⟩;rcases h with h | ⟨g,cap,a,c,hb,b,r⟩
 ·exact .inl h
 refine .inr ⟨g,cap,a,c,hb,?_,r⟩;rw [f.block g (lo b) (fun e=>d g (by rw [c];rfl) e.s)];exact b
def Za {y:Nat} {o:Nat} (h:x.ownsRow base e sz v n xs) (f:y<base):(x.setCell (E y o) u).ownsRow base e sz v n xs:=by
 obtain⟨c,h⟩:=h;refine⟨c,?_⟩;rcases h with h | ⟨g,cap,a,d,hb,b,r⟩
 ·exact .inl h
 exact .inr ⟨g,cap,a,d,hb,by rw [Qj _ _ _ _ (show g≠y by lia)];exact b,r⟩
def jc (u v:vO):Prop:=∀g,u.ownBlock=some g->v.ownBlock≠some g
theorem jc.s (h:jc u v):jc v u:=fun g h1 a=>h g a h1
def XC (l:List Rd):List vO:=l.flatMap fun x=>(Y2 x).toList
theorem LN (l:List Rd) (x:Rd):XC (l++[x])=XC l++(Y2 x).toList:=by simp [XC]
theorem LO (l:List Rd):(XC l).length=l.length*5:=by
 induction l with
 | nil=>rfl
 | cons x l ih =>show ((Y2 x).toList++XC l).length=_;rw [Qt,ih,Q5];show 5+_=_;lia
def Yk (l:Li):List vO:=l.map (Value.int .i64)
theorem UH (l:Li) (z:Int):Yk (l++[z])=Yk l++[J z]:=by simp [Yk]
structure ew (x3:wO) (y:Nat) (l0 l1 l2:vO) (pc r:Int) (tv rv pv dv:vO) (nt nr np nd:Nat) (tl rl pl:Li) (dl:List Rd) (wr:wO):Prop where
 bel:Below y x3 wr
 blk:wr.heap[y]?=some (.cells #[l0,l1,l2,J pc,J r,tv,rv,pv,dv,.map none] 174 (0,0))
 ot:wr.ownsRow (y+1) 3 1 tv nt (Yk tl)
 or:wr.ownsRow (y+1) 3 1 rv nr (Yk rl)
 op:wr.ownsRow (y+1) 3 1 pv np (Yk pl)
 od:wr.ownsRow (y+1) 292 5 dv nd (XC dl)
 atr:jc tv rv
 atp:jc tv pv
 arp:jc rv pv
 atd:jc tv dv
 ard:jc rv dv
 apd:jc pv dv
variable {x3 wr wr':wO} {y:Nat} {l0 l1 l2:vO} {pc r:Int} {tv rv pv dv:vO} {nt nr np nd:Nat} {tl rl pl:Li} {dl:List Rd}
def ew.lt (h:ew x3 y l0 l1 l2 pc r tv rv pv dv nt nr np nd tl rl pl dl wr):y<wr.heap.size:=(lo h.blk)
def ew.gE (h:ew x3 y l0 l1 l2 pc r tv rv pv dv nt nr np nd tl rl pl dl wr) (hb:Bw wr wr'):ew x3 y l0 l1 l2 pc r tv rv pv dv nt nr np nd tl rl pl dl wr' :=
 ⟨h.bel.t (hb.m (Q7 h.lt)),(hb.block _ h.lt).t h.blk,zp h.ot hb,zp h.or hb,zp h.op hb,zp h.od hb,h.atr,h.atp,h.arp,h.atd,h.ard,h.apd⟩
def ew.cells (h:ew x3 y l0 l1 l2 pc r tv rv pv dv nt nr np nd tl rl pl dl wr):wr.cell? (E y 0)=some l0/\wr.cell? (E y 1)=some l1/\wr.cell? (E y 2)=some l2/\wr.cell? (E y 3)=Y pc/\wr.cell? (E y 4)=Y r/\wr.cell? (E y 5)=some tv/\wr.cell? (E y 6)=some rv/\wr.cell? (E y 7)=some pv/\wr.cell? (E y 8)=some dv:=by have key:=Qa h.blk;refine⟨?_,?_,?_,?_,?_,?_,?_,?_,?_⟩ <;> rw [key] <;> rfl
def YR {a:TypeId} {d:Array vO} (c:x.ownsRow base e sz v n xs) (i:x.grownBy w1 v.ownBlock) (hb:x.heap[b]?=some (.cells d a (0,0))) (l:a≠e):w1.heap[b]?=some (.cells d a (0,0)):=by
 rw [i.block b (lo hb) ?_]
 ·exact hb
 intro h;obtain⟨o,c⟩:=c;rcases c with ⟨rfl,_⟩ | ⟨g,cap,f,rfl,k,m,r⟩
 ·cases h
 have j:b=g:=by simpa [Value.ownBlock] using h
 simp_all
def ew.grow_t (h:ew x3 y l0 l1 l2 pc r tv rv pv dv nt nr np nd tl rl pl dl wr) (a:wr.grownBy w1 tv.ownBlock):w1.heap[y]?=some (.cells #[l0,l1,l2,J pc,J r,tv,rv,pv,dv,.map none] 174 (0,0))/\Below y x3 w1:=by have b:=zE h.ot;refine⟨?_,h.bel.grown a (Q7 h.lt) fun q c=>rQ⟩;rw [a.block y h.lt (fun e=>rQ)];exact h.blk
def ew.push_t (h:ew x3 y l0 l1 l2 pc r tv rv pv dv nt nr np nd tl rl pl dl wr) (f:w1.ownsRow (y+1) 3 1 (.slice (pA g) (nt+1) cap) (nt+1) (Yk tl++[J z])) (d:wr.grownBy w1 tv.ownBlock) (b:tv.ownBlock=some g\/g=H) (j:wr.heap.size=H) :
  ew x3 y l0 l1 l2 pc r (.slice (pA g) (nt+1) cap) rv pv dv (nt+1) nr np nd (tl++[z]) rl pl dl (w1.setCell (E y 5) (.slice (pA g) (nt+1) cap)):=by
 obtain⟨hb,i⟩:=h.grow_t d;rw [<-UH] at f;have a_r:jc (vP g (nt+1) cap) rv:=fun c h1 a=>by
  have e:g=c:=by simpa [Value.ownBlock] using h1
  subst e;rcases b with b | b
  ·exact h.atr g b a
  have:=zA h.or g a;lia
 have o_r:=Zr h.or d (fun c h1 a=>h.atr c a h1);have a_p:jc (vP g (nt+1) cap) pv:=fun c h1 a=>by
  have e:g=c:=by simpa [Value.ownBlock] using h1
  subst e;rcases b with b | b
  ·exact h.atp g b a
  have:=zA h.op g a;lia
 have o_p:=Zr h.op d (fun c h1 a=>h.atp c a h1);have a_d:jc (vP g (nt+1) cap) dv:=fun c h1 a=>by
  have e:g=c:=by simpa [Value.ownBlock] using h1
  subst e;rcases b with b | b
  ·exact h.atd g b a
  have:=zA h.od g a;lia
 have o_d:=Zr h.od d (fun c h1 a=>h.atd c a h1);refine⟨i.setCell (Qc _) _,?_,(Za f (QF _)),(Za o_r (QF _)),(Za o_p (QF _)),(Za o_d (QF _)),a_r,a_p,h.arp,a_d,h.ard,h.apd⟩;simp [World.setCell,QC,hb]
def ew.grow_r (h:ew x3 y l0 l1 l2 pc r tv rv pv dv nt nr np nd tl rl pl dl wr) (a:wr.grownBy w1 rv.ownBlock):w1.heap[y]?=some (.cells #[l0,l1,l2,J pc,J r,tv,rv,pv,dv,.map none] 174 (0,0))/\Below y x3 w1:=by have b:=zE h.or;refine⟨?_,h.bel.grown a (Q7 h.lt) fun q c=>rQ⟩;rw [a.block y h.lt (fun e=>rQ)];exact h.blk
def ew.push_r (h:ew x3 y l0 l1 l2 pc r tv rv pv dv nt nr np nd tl rl pl dl wr) (f:w1.ownsRow (y+1) 3 1 (.slice (pA g) (nr+1) cap) (nr+1) (Yk rl++[J z])) (d:wr.grownBy w1 rv.ownBlock) (b:rv.ownBlock=some g\/g=H) (j:wr.heap.size=H) :
  ew x3 y l0 l1 l2 pc r tv (.slice (pA g) (nr+1) cap) pv dv nt (nr+1) np nd tl (rl++[z]) pl dl (w1.setCell (E y 6) (.slice (pA g) (nr+1) cap)):=by
 obtain⟨hb,i⟩:=h.grow_r d;rw [<-UH] at f;have a_t:jc (vP g (nr+1) cap) tv:=fun c h1 a=>by
  have e:g=c:=by simpa [Value.ownBlock] using h1
  subst e;rcases b with b | b
  ·exact h.atr.s g b a
  have:=zA h.ot g a;lia
 have o_t:=Zr h.ot d (fun c h1 a=>h.atr.s c a h1);have a_p:jc (vP g (nr+1) cap) pv:=fun c h1 a=>by
  have e:g=c:=by simpa [Value.ownBlock] using h1
  subst e;rcases b with b | b
  ·exact h.arp g b a
  have:=zA h.op g a;lia
 have o_p:=Zr h.op d (fun c h1 a=>h.arp c a h1);have a_d:jc (vP g (nr+1) cap) dv:=fun c h1 a=>by
  have e:g=c:=by simpa [Value.ownBlock] using h1
  subst e;rcases b with b | b
  ·exact h.ard g b a
  have:=zA h.od g a;lia
 have o_d:=Zr h.od d (fun c h1 a=>h.ard c a h1);refine⟨i.setCell (Qc _) _,?_,(Za o_t (QF _)),(Za f (QF _)),(Za o_p (QF _)),(Za o_d (QF _)),a_t.s,h.atp,a_p,h.atd,a_d,h.apd⟩;simp [World.setCell,QC,hb]
def ew.grow_p (h:ew x3 y l0 l1 l2 pc r tv rv pv dv nt nr np nd tl rl pl dl wr) (a:wr.grownBy w1 pv.ownBlock):w1.heap[y]?=some (.cells #[l0,l1,l2,J pc,J r,tv,rv,pv,dv,.map none] 174 (0,0))/\Below y x3 w1:=by have b:=zE h.op;refine⟨?_,h.bel.grown a (Q7 h.lt) fun q c=>rQ⟩;rw [a.block y h.lt (fun e=>rQ)];exact h.blk
def ew.push_p (h:ew x3 y l0 l1 l2 pc r tv rv pv dv nt nr np nd tl rl pl dl wr) (f:w1.ownsRow (y+1) 3 1 (.slice (pA g) (np+1) cap) (np+1) (Yk pl++[J z])) (d:wr.grownBy w1 pv.ownBlock) (b:pv.ownBlock=some g\/g=H) (j:wr.heap.size=H) :
  ew x3 y l0 l1 l2 pc r tv rv (.slice (pA g) (np+1) cap) dv nt nr (np+1) nd tl rl (pl++[z]) dl (w1.setCell (E y 7) (.slice (pA g) (np+1) cap)):=by
 obtain⟨hb,i⟩:=h.grow_p d;rw [<-UH] at f;have a_t:jc (vP g (np+1) cap) tv:=fun c h1 a=>by
  have e:g=c:=by simpa [Value.ownBlock] using h1
  subst e;rcases b with b | b
  ·exact h.atp.s g b a
  have:=zA h.ot g a;lia
 have o_t:=Zr h.ot d (fun c h1 a=>h.atp.s c a h1);have a_r:jc (vP g (np+1) cap) rv:=fun c h1 a=>by
  have e:g=c:=by simpa [Value.ownBlock] using h1
  subst e;rcases b with b | b
  ·exact h.arp.s g b a
  have:=zA h.or g a;lia
 have o_r:=Zr h.or d (fun c h1 a=>h.arp.s c a h1);have a_d:jc (vP g (np+1) cap) dv:=fun c h1 a=>by
  have e:g=c:=by simpa [Value.ownBlock] using h1
  subst e;rcases b with b | b
  ·exact h.apd g b a
  have:=zA h.od g a;lia
 have o_d:=Zr h.od d (fun c h1 a=>h.apd c a h1);refine⟨i.setCell (Qc _) _,?_,(Za o_t (QF _)),(Za o_r (QF _)),(Za f (QF _)),(Za o_d (QF _)),h.atr,a_t.s,a_r.s,h.atd,h.ard,a_d⟩;simp [World.setCell,QC,hb]
def ew.grow_d (h:ew x3 y l0 l1 l2 pc r tv rv pv dv nt nr np nd tl rl pl dl wr) (a:wr.grownBy w1 dv.ownBlock):w1.heap[y]?=some (.cells #[l0,l1,l2,J pc,J r,tv,rv,pv,dv,.map none] 174 (0,0))/\Below y x3 w1:=by have b:=zE h.od;refine⟨?_,h.bel.grown a (Q7 h.lt) fun q c=>rQ⟩;rw [a.block y h.lt (fun e=>rQ)];exact h.blk
def ew.push_d (h:ew x3 y l0 l1 l2 pc r tv rv pv dv nt nr np nd tl rl pl dl wr) {z:Rd} (f:w1.ownsRow (y+1) 292 5 (.slice (pA g) (nd+1) cap) (nd+1) (XC dl++(Y2 z).toList)) (d:wr.grownBy w1 dv.ownBlock) (b:dv.ownBlock=some g\/g=H) (j:wr.heap.size=H) :
  ew x3 y l0 l1 l2 pc r tv rv pv (.slice (pA g) (nd+1) cap) nt nr np (nd+1) tl rl pl (dl++[z]) (w1.setCell (E y 8) (.slice (pA g) (nd+1) cap)):=by
 obtain⟨hb,i⟩:=h.grow_d d;rw [<-LN] at f;have a_t:jc (vP g (nd+1) cap) tv:=fun c h1 a=>by
  have e:g=c:=by simpa [Value.ownBlock] using h1
  subst e;rcases b with b | b
  ·exact h.atd.s g b a
  have:=zA h.ot g a;lia
 have o_t:=Zr h.ot d (fun c h1 a=>h.atd.s c a h1);have a_r:jc (vP g (nd+1) cap) rv:=fun c h1 a=>by
  have e:g=c:=by simpa [Value.ownBlock] using h1
  subst e;rcases b with b | b
  ·exact h.ard.s g b a
  have:=zA h.or g a;lia
 have o_r:=Zr h.or d (fun c h1 a=>h.ard.s c a h1);have a_p:jc (vP g (nd+1) cap) pv:=fun c h1 a=>by
  have e:g=c:=by simpa [Value.ownBlock] using h1
  subst e;rcases b with b | b
  ·exact h.apd.s g b a
  have:=zA h.op g a;lia
 have o_p:=Zr h.op d (fun c h1 a=>h.apd.s c a h1);refine⟨i.setCell (Qc _) _,?_,(Za o_t (QF _)),(Za o_r (QF _)),(Za o_p (QF _)),(Za f (QF _)),h.atr,h.atp,h.arp,a_t.s,a_r.s,a_p.s⟩;simp [World.setCell,QC,hb]
theorem ew.start (x3:wO) (l0 l1 l2:vO) (pc r:Int):ew x3 x3.heap.size l0 l1 l2 pc r (.slice none 0 0) (.slice none 0 0) (.slice none 0 0) (.slice none 0 0) 0 0 0 0 [] [] [] [] (x3.alloc (.cells #[l0,l1,l2,J pc,J r,.slice none 0 0,.slice none 0 0,.slice none 0 0,.slice none 0 0,.map none] 174)):=by
 refine⟨Qd _ _,?_,⟨rfl,.inl ⟨rfl,rfl⟩⟩,⟨rfl,.inl ⟨rfl,rfl⟩⟩,⟨rfl,.inl ⟨rfl,rfl⟩⟩,⟨rfl,.inl ⟨rfl,rfl⟩⟩,?_,?_,?_,?_,?_,?_⟩
 ·show (x3.heap.push _)[x3.z]?=_;simp
 all_goals (intro g h;cases h)
end
end
end Go.Proofs.YtjlfcbccpcigeacGreatDoor
