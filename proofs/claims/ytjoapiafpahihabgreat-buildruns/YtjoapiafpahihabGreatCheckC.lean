import Derived.Test.YtjoapiafpahihabGreatCheckB
import Derived.Maps.OwnSet
import Derived.Maps.RangeWalk
import Derived.Test.YtjoapiafpahihabGreatRef5B
import Derived.Test.YtjoapiafpahihabGreatSteady
import Derived.Test.YtjoapiafpahihabGreatRef10Lay
import Derived.Maps.AppendAt
set_option maxHeartbeats 20000000
namespace Go.Proofs.YtjoapiafpahihabGreat
open Go.Proofs.Tryz
open Go.RowKit Go.Joins Go.Maps
set_option linter.unusedVariables false
set_option linter.unusedSimpArgs false
set_option maxRecDepth 8192
open Go.RowKit Go.Joins
variable {z:Int} {f:Int->Int} {n b base sz g cap H:Nat} {x w1:World} {O F A Q:List Int} {v u:Value} {e:TypeId} {xs:List Value}
theorem Vx:Keyed prog 3:=int_keyed underlying3
theorem zea (h1:-9223372036854775808<=z) (h2:z<=9223372036854775807):(Lit.int .i64 z).wf=true:=WalkArith.wf_i64 ⟨h1,h2⟩
def Uf (f:Int->Int) (n b:Nat) (x:World):Prop :=
 ∃D:DataW Unit,x.ownsMap prog 3 (plainElem prog 3) b n D/\IsMap D/\∀z,D.atKey (.int .i64 z) (.lit (.int .i64 0))=.lit (.int .i64 (f z))
theorem ybp (w:World):(zeroValue 3).run prog w=.ok (iV 0) w:=by kernel_rfl
theorem Uf.gG {y:World} (h:Uf f n b x) (hb:y.heap[b]?=x.heap[b]?):Uf f n b y:=by
 obtain⟨D,⟨es,clock,h1,h4⟩,h2,h3⟩:=h
 exact⟨D,⟨es,clock,hb.trans h1,h4⟩,h2,h3⟩
theorem Uf.lt (h:Uf f n b x):b<x.heap.size:=by obtain⟨D,h1,_⟩:=h;exact h1.lt
theorem Uf.made (w:World):Uf (fun _=>0) 0 w.heap.size (w.alloc (.map #[] 0)) :=
 ⟨_,World.ownsMap_made (H:=Unit) w prog 3 (plainElem prog 3),isMap_empty,fun z=>rfl⟩
theorem Uf.look (h:Uf f n b x) (z:Int) (hz:(Lit.int .i64 z).wf=true):(Instr.lookup 181 (.map (some b)) (.int .i64 z) false).run prog x=.ok (.int .i64 (f z)) x:=by
 obtain⟨D,h1,h2,h3⟩:=h
 obtain⟨q,hr,hat,_⟩:=h1.lookup_int Vx underlying181 underlying3 (ybp _) (keyOf_int_mk underlying3 hz)
 rw [h3 z] at hat
 injection hat with e1
 injection e1 with _ e2
 rw [hr,e2]
theorem Uf.put (h:Uf f n b x) (hn:n<maxLen) (z v:Int) (hz:(Lit.int .i64 z).wf=true) (hv:(Lit.int .i64 v).wf=true) :
  ∃x',(Instr.mapUpdate 181 (.map (some b)) (.int .i64 z) (.int .i64 v)).run prog x=.ok () x'/\x.grownBy x' (some b)/\Uf (fun z'=>if z'=z then v else f z') (n+1) b x':=by
 obtain⟨D,h1,h2,h3⟩:=h
 obtain⟨x',hr,ho,hg⟩:=h1.update Vx underlying181 hn (keyOf_int_mk underlying3 hz) (plainElem_int underlying3 hv)
 refine⟨x',hr,hg,_,ho,h2.put _ _,fun z'=>?_⟩
 show _=DataW.lit (Lit.int IntKind.i64 (if z'=z then v else f z'))
 by_cases e:z'=z
 ·subst e
  rw [if_pos rfl,atKey_put_same h2 (Vx.key (keyOf_int_mk underlying3 hz))]
 ·rw [if_neg e,atKey_put_other (fun h=>e (by injection h))]
  exact h3 z'
def Yk (O:List Int) (z:Int):Nat->Int
 | 0=>0
 | k+1=>Yk O z k+(if nth O k=z then 1 else 0)
theorem zcr (O:List Int) (z:Int):∀k,0<=Yk O z k/\Yk O z k<=k:=by
 intro k
 induction k with
 | zero=>exact⟨Int.le_refl _,Int.le_refl _⟩
 | succ k ih =>
   show 0<=Yk O z k+_/\Yk O z k+_<=((k+1:Nat):Int)
   split <;> omega
theorem zpm:∀k,(∀i,i<k->nth O i≠z)->Yk O z k=0:=by
 intro k
 induction k with
 | zero=>intro _;rfl
 | succ k ih =>
   intro h
   show Yk O z k+_=0
   rw [ih (fun i hi=>h i (by omega)),if_neg (h k (by omega))];rfl
theorem zpn:∀k i,i<k->nth O i=z->1<=Yk O z k:=by
 intro k
 induction k with
 | zero=>intro i h;omega
 | succ k ih =>
   intro i hi e
   show 1<=Yk O z k+_
   have h0:=zcr O z k
   by_cases e2:i=k
   ·subst e2;rw [if_pos e];omega
   ·have:=ih i (by omega) e
    split <;> omega
def V8 (a q:Int):DataW Unit:=.agg [.lit (.int .i64 a),.lit (.int .i64 q)]
def Zz:Value->Option (DataW Unit × List MemPlace)
 | .agg xs=>match xs.toList with
   | [.int .i64 a,.int .i64 q]=>some (V8 a q,[])
   | _=>none
 | _=>none
theorem UD (a q:Int):Zz (.agg #[iV a,iV q])=some (V8 a q,[]):=rfl
theorem zbq {z:DataW Unit × List MemPlace} (h:Zz v=some z):∃a q,v=.agg #[iV a,iV q]/\z=(V8 a q,[]):=by
 unfold Zz at h
 split at h
 ·split at h
  ·rename_i xs a q hx
   cases h
   refine⟨a,q,?_,rfl⟩
   congr 1
   apply Array.ext'
   rw [hx]
  ·cases h
 ·cases h
def XE (F A Q:List Int) (p b:Nat) (x:World):Prop :=
 ∃D:DataW Unit,x.ownsMap prog 3 Zz b p D/\IsMap D/\(∀z,Maps.has D (.int .i64 z)=true↔∃i,i<p/\nth F i=z)/\∀i,i<p->∀zd,D.atKey (.int .i64 (nth F i)) zd=V8 (nth A i) (nth Q i)
theorem ybk (w:World):(zeroValue 39).run prog w=.ok (.agg #[iV 0,iV 0]) w:=by kernel_rfl
theorem XE.gG {y:World} (h:XE F A Q n b x) (hb:y.heap[b]?=x.heap[b]?):XE F A Q n b y:=by
 obtain⟨D,⟨es,clock,h1,h4⟩,h2,h3⟩:=h
 exact⟨D,⟨es,clock,hb.trans h1,h4⟩,h2,h3⟩
theorem XE.lt (h:XE F A Q n b x):b<x.heap.size:=by obtain⟨D,h1,_⟩:=h;exact h1.lt
theorem XE.made (F A Q:List Int) (w:World):XE F A Q 0 w.heap.size (w.alloc (.map #[] 0)) :=
 ⟨_,World.ownsMap_made (H:=Unit) w prog 3 Zz,isMap_empty,fun z=>⟨fun h=>(by cases h),fun ⟨i,h,_⟩=>absurd h (Nat.not_lt_zero _)⟩,fun i h=>absurd h (Nat.not_lt_zero _)⟩
theorem XE.look (h:XE F A Q n b x) (z:Int) (hz:(Lit.int .i64 z).wf=true):∃a q ok,(Instr.lookup 118 (.map (some b)) (.int .i64 z) true).run prog x=.ok (.tuple #[.agg #[.int .i64 a,.int .i64 q],.bool ok]) x/\(ok=true↔∃i,i<n/\nth F i=z):=by
 obtain⟨D,h1,h2,h3,h4⟩:=h
 obtain⟨v,ps,hr,hv⟩:=h1.look_ok Vx underlying118 (ybk _) (UD 0 0) (keyOf_int_mk underlying3 hz)
 obtain⟨a,q,rfl,-⟩:=zbq hv
 exact⟨a,q,_,hr,h3 z⟩
theorem XE.put (h:XE F A Q n b x) (hn:n<maxLen) (hz:(Lit.int .i64 (nth F n)).wf=true) (hf:∀i,i<n->nth F i≠nth F n) :
  ∃x',(Instr.mapUpdate 118 (.map (some b)) (.int .i64 (nth F n)) (.agg #[.int .i64 (nth A n),.int .i64 (nth Q n)])).run prog x=.ok () x'/\x.grownBy x' (some b)/\XE F A Q (n+1) b x':=by
 obtain⟨D,h1,h2,h3,h4⟩:=h
 obtain⟨x',hr,ho,hg⟩:=h1.update Vx underlying118 hn (keyOf_int_mk underlying3 hz) (UD (nth A n) (nth Q n))
 have hk:=Vx.key (keyOf_int_mk underlying3 hz)
 refine⟨x',hr,hg,_,ho,h2.put _ _,fun z=>?_,fun i hi zd=>?_⟩
 ·by_cases e:z=nth F n
  ·subst e
   rw [has_put_same h2 hk]
   exact⟨fun _=>⟨n,by omega,rfl⟩,fun _=>rfl⟩
  ·rw [has_put_other (fun h=>e (by injection h)),h3 z]
   constructor
   ·rintro ⟨i,hi,e2⟩;exact⟨i,by omega,e2⟩
   ·rintro ⟨i,hi,e2⟩
    by_cases e3:i=n
    ·subst e3;exact absurd e2.symm e
    ·exact⟨i,by omega,e2⟩
 ·by_cases e3:i=n
  ·subst e3;exact atKey_put_same h2 hk _ _
  ·rw [atKey_put_other (fun h=>hf i (by omega) (by injection h))]
   exact h4 i (by omega) zd
theorem zl5 (h1:-9223372036854775808<=z) (h2:z<=9223372036854775807):IntKind.i64.wrap z=z:=by
 rw [IntKind.wrap_i64];omega
theorem zco (hM:zbv) (p0 p1 p2 q0 q1 q2 r pc st:Int) (ops:List Kop) (L:Lp) (O:List Int) (a0 a1 a2 ka oa:Option Addr) (gA gB gC kc oc:Nat) (w:World) (hL:zE w ((lv L a0 a1 a2 gA gB gC)) L) (hK:Zf w (.slice ka ops.length kc) ops) (hO:zK w (.slice oa O.length oc) O) (h:ops.length≠L.b.length\/O.length≠L.b.length) :
  Calls prog 71 #[(lv L a0 a1 a2 gA gB gC),(tv p0 p1 p2 q0 q1 q2 r),.agg #[iV pc,iV st,.slice ka ops.length kc],.slice oa O.length oc] w (Rt w (.bool (xD L ⟨p0,p1,p2,q0,q1,q2,r⟩ ⟨pc,st,ops⟩ O))):=by
 have HN:Hid (xD L ⟨p0,p1,p2,q0,q1,q2,r⟩ ⟨pc,st,ops⟩ O=false):=by
  show _=_
  unfold xD
  rcases h with h | h
  ·rw [decide_eq_false (show ¬(⟨pc,st,ops⟩:Kn).ops.length=L.b.length from h)];simp
  ·rw [decide_eq_false h];simp
 rw [HN.out]
 clear hL hK hO hM HN
 by_cases h1:ops.length=L.b.length
 ·have hb1:((ops.length:Int) != (L.b.length:Int))=false:=by simp;omega
  have hb2:((O.length:Int) != (L.b.length:Int))=true:=by
   rcases h with h | h
   ·exact absurd h1 h
   ·simp;omega
  clear h h1
  go_enter func71,ntmps71
  go_wp2_with fail
  go_ret
  exact⟨rfl,below_alloc3 _ _ _ _⟩
 ·have hb1:((ops.length:Int) != (L.b.length:Int))=true:=by simp;omega
  clear h h1
  go_enter func71,ntmps71
  go_wp2_with fail
  go_ret
  exact⟨rfl,below_alloc3 _ _ _ _⟩
theorem zcp (hM:zbv) (p0 p1 p2 q0 q1 q2 r pc st:Int) (ops:List Kop) (L:Lp) (O:List Int) (a0 a1 a2 ka oa:Option Addr) (gA gB gC kc oc:Nat) (w:World) (hL:zE w ((lv L a0 a1 a2 gA gB gC)) L) (hK:Zf w (.slice ka ops.length kc) ops) (hO:zK w (.slice oa O.length oc) O) (h1:ops.length=L.b.length) (h2:O.length=L.b.length) (h:zY L=false\/zY L=true/\Yv ⟨p0,p1,p2,q0,q1,q2,r⟩ ⟨pc,st,ops⟩ L.l=false) :
  Calls prog 71 #[(lv L a0 a1 a2 gA gB gC),(tv p0 p1 p2 q0 q1 q2 r),.agg #[iV pc,iV st,.slice ka ops.length kc],.slice oa O.length oc] w (Rt w (.bool (xD L ⟨p0,p1,p2,q0,q1,q2,r⟩ ⟨pc,st,ops⟩ O))):=by
 have hb1:((ops.length:Int) != (L.b.length:Int))=false:=by simp;omega
 have hb2:((O.length:Int) != (L.b.length:Int))=false:=by simp;omega
 have HBZ:=z9 (below_alloc3 w (.cells #[.slice a0 L.l.length gA,.slice a1 L.b.length gB,.slice a2 L.o.length gC] 25) (.cells #[iV p0,iV p1,iV p2,iV q0,iV q1,iV q2,iV r] 28) (.cells #[iV pc,iV st,.slice ka ops.length kc] 31))
 have HS3:Hid ((((w.alloc (.cells #[.slice a0 L.l.length gA,.slice a1 L.b.length gB,.slice a2 L.o.length gC] 25)).alloc (.cells #[iV p0,iV p1,iV p2,iV q0,iV q1,iV q2,iV r] 28)).alloc (.cells #[iV pc,iV st,.slice ka ops.length kc] 31)).heap.size=w.heap.size+1+1+1):=by show _=_;simp
 have HMB:=z9 (Yh ((lv L a0 a1 a2 gA gB gC)) L (((w.alloc (.cells #[.slice a0 L.l.length gA,.slice a1 L.b.length gB,.slice a2 L.o.length gC] 25)).alloc (.cells #[iV p0,iV p1,iV p2,iV q0,iV q1,iV q2,iV r] 28)).alloc (.cells #[iV pc,iV st,.slice ka ops.length kc] 31)) (hL.gE HBZ.out))
 have HMK:=z9 (fun W (hb:Bw w W) (h0:zK W (.slice a0 L.l.length gA) L.l)=>hM ⟨p0,p1,p2,q0,q1,q2,r⟩ (.agg #[iV pc,iV st,.slice ka ops.length kc]) ⟨pc,st,ops⟩ a0 gA L.l W ⟨_,rfl,hK.gE hb⟩ h0)
 have HLG:Hid (∀W,Bw w W->zK W (.slice a0 L.l.length gA) L.l):=fun W hb=>by
  obtain⟨v0,v1,v2,hv,h0,-⟩:=hL.gE hb
  injection hv with hv
  have:=congrArg Array.toList hv
  simp at this
  rw [this.1]
  exact h0
 have HN:Hid (xD L ⟨p0,p1,p2,q0,q1,q2,r⟩ ⟨pc,st,ops⟩ O=false):=by
  show _=_
  unfold xD
  rcases h with h | ⟨-,h⟩
  ·rw [h];rfl
  ·rw [h];simp
 rw [HN.out]
 clear hL hK hO hM HN h1 h2
 rcases h with h | ⟨h,h'⟩
 ·rw [h] at HMB
  go_enter func71,ntmps71
  go_wp2_with fail
  refine HMB.out.mono ?_
  rintro e x1 ⟨rfl,hb⟩
  have HBX:=z9 (HBZ.out.trans (hb.mono (by rw [HS3.out];omega)))
  clear hb
  go_wp2_with fail
  go_ret
  exact⟨rfl,HBX.out⟩
 ·rw [h] at HMB
  rw [h'] at HMK
  go_enter func71,ntmps71
  go_wp2_with fail
  refine HMB.out.mono ?_
  rintro e x1 ⟨rfl,hb⟩
  rw [HS3.out] at hb
  obtain⟨⟨l0,l1,l2⟩,⟨t0,t1,t2,t3,t4,t5,t6⟩,⟨k0,k1,k2⟩,hz,hbw⟩:=yy hb
  have HBX:=z9 hbw
  clear hb hbw
  go_wp2_with fail
  refine (HMK.out _ HBX.out (HLG.out _ HBX.out)).mono ?_
  rintro e x2 ⟨rfl,hb⟩
  have HBY:=z9 (HBX.out.trans (hb.mono HBX.out.size))
  clear hb l0 l1 l2 t0 t1 t2 t3 t4 t5 t6 k0 k1 k2
  go_wp2_with fail
  go_ret
  exact⟨rfl,HBY.out⟩
theorem zig (hM:zbv) (p0 p1 p2 q0 q1 q2 r pc st:Int) (ops:List Kop) (L:Lp) (O:List Int) (a0 a1 a2 ka oa:Option Addr) (gA gB gC kc oc:Nat) (w:World) (hL:zE w ((lv L a0 a1 a2 gA gB gC)) L) (hK:Zf w (.slice ka ops.length kc) ops) (hO:zK w (.slice oa O.length oc) O) (h1:ops.length=L.b.length) (h2:O.length=L.b.length) (hm:zY L=true) (hk:Yv ⟨p0,p1,p2,q0,q1,q2,r⟩ ⟨pc,st,ops⟩ L.l=true) :
  Calls prog 71 #[(lv L a0 a1 a2 gA gB gC),(tv p0 p1 p2 q0 q1 q2 r),.agg #[iV pc,iV st,.slice ka ops.length kc],.slice oa O.length oc] w (Rt w (.bool (xD L ⟨p0,p1,p2,q0,q1,q2,r⟩ ⟨pc,st,ops⟩ O))):=by
 have hb1:((ops.length:Int) != (L.b.length:Int))=false:=by simp;omega
 have hb2:((O.length:Int) != (L.b.length:Int))=false:=by simp;omega
 have HBZ:=z9 (below_alloc3 w (.cells #[.slice a0 L.l.length gA,.slice a1 L.b.length gB,.slice a2 L.o.length gC] 25) (.cells #[iV p0,iV p1,iV p2,iV q0,iV q1,iV q2,iV r] 28) (.cells #[iV pc,iV st,.slice ka ops.length kc] 31))
 have HS3:Hid ((((w.alloc (.cells #[.slice a0 L.l.length gA,.slice a1 L.b.length gB,.slice a2 L.o.length gC] 25)).alloc (.cells #[iV p0,iV p1,iV p2,iV q0,iV q1,iV q2,iV r] 28)).alloc (.cells #[iV pc,iV st,.slice ka ops.length kc] 31)).heap.size=w.heap.size+1+1+1):=by show _=_;simp
 have HMB:=z9 (Yh ((lv L a0 a1 a2 gA gB gC)) L (((w.alloc (.cells #[.slice a0 L.l.length gA,.slice a1 L.b.length gB,.slice a2 L.o.length gC] 25)).alloc (.cells #[iV p0,iV p1,iV p2,iV q0,iV q1,iV q2,iV r] 28)).alloc (.cells #[iV pc,iV st,.slice ka ops.length kc] 31)) (hL.gE HBZ.out))
 have HMK:=z9 (fun W (hb:Bw w W) (h0:zK W (.slice a0 L.l.length gA) L.l)=>hM ⟨p0,p1,p2,q0,q1,q2,r⟩ (.agg #[iV pc,iV st,.slice ka ops.length kc]) ⟨pc,st,ops⟩ a0 gA L.l W ⟨_,rfl,hK.gE hb⟩ h0)
 have HLG:Hid (∀W,Bw w W->zK W (.slice a0 L.l.length gA) L.l):=fun W hb=>by
  obtain⟨v0,v1,v2,hv,h0,-⟩:=hL.gE hb
  injection hv with hv
  have:=congrArg Array.toList hv
  simp at this
  rw [this.1]
  exact h0
 obtain⟨-,hn1,hn16,-⟩:=zw hm
 have HD:Hid (xD L ⟨p0,p1,p2,q0,q1,q2,r⟩ ⟨pc,st,ops⟩ O=zC (fun s=>ZD L O s && Yz L ⟨pc,st,ops⟩ O s) L.b.length):=by
  show _=_
  unfold xD
  have hmt:yj ⟨p0,p1,p2,q0,q1,q2,r⟩=true:=by
   have hk2:=hk
   unfold Yv at hk2
   simp only [Bool.and_eq_true] at hk2
   exact hk2.1.1.1.1
  rw [hm,hk,hmt,decide_eq_true (show (⟨pc,st,ops⟩:Kn).ops.length=L.b.length from h1),decide_eq_true h2];rfl
 obtain⟨v0,v1,v2,hv,-,⟨a1',c1',hv1,hl1,hl2,hl3⟩,-⟩:=hL
 obtain⟨e0,e1,e2⟩:(.slice a0 L.l.length gA:Value)=v0/\(.slice a1 L.b.length gB:Value)=v1/\(.slice a2 L.o.length gC:Value)=v2:=by
  injection hv with hv
  have:=congrArg Array.toList hv
  simpa using this
 rw [hv1] at e1
 injection e1 with e1 ex1 e1'
 subst e1;subst e1'
 unfold maxLen at hl2
 obtain⟨bb,bo,rfl,hbb,gQ⟩:=hl3 (by omega)
 obtain⟨ka',kc',hke,hk1,hk2,hk3⟩:=hK
 injection hke with e1 ex2 e1'
 subst e1;subst e1'
 unfold maxLen at hk2
 obtain⟨kb,ko,rfl,hkb,hops⟩:=hk3 (by omega)
 obtain⟨oa',oc',hoe,ho1,ho2,hor,ho3⟩:=hO
 injection hoe with e1 ex3 e1'
 subst e1;subst e1'
 unfold maxLen at ho2
 obtain⟨ob,oo,rfl,hob,hord⟩:=ho3 (by omega)
 have HBO:=z9 gQ
 have HOP:=z9 hops
 have HOR:=z9 hord
 have HOI:=z9 hor
 have HH:=z9 (And.intro h1 h2)
 rw [hm] at HMB
 rw [hk] at HMK
 clear hM hl3 gQ hk3 hops ho3 hord hor hv e0 e2 hv1 hm hk h1 h2
 go_enter func71,ntmps71
 go_wp2_with fail
 refine HMB.out.mono ?_
 rintro e x1 ⟨rfl,hb⟩
 rw [HS3.out] at hb
 obtain⟨⟨l0,l1,l2⟩,⟨t0,t1,t2,t3,t4,t5,t6⟩,⟨k0,k1,k2⟩,hz,hbw⟩:=yy hb
 have HBX:=z9 hbw
 have HBX1:=z9 hb
 clear hb hbw
 go_wp2_with fail
 refine (HMK.out _ HBX.out (HLG.out _ HBX.out)).mono ?_
 rintro e x2 ⟨rfl,hb⟩
 have hb2:=HBX1.out.trans (hb.mono (by have:=HBX1.out.size;rw [HS3.out] at this;exact this))
 clear l0 l1 l2 t0 t1 t2 t3 t4 t5 t6 k0 k1 k2 hz
 obtain⟨⟨l0,l1,l2⟩,⟨t0,t1,t2,t3,t4,t5,t6⟩,⟨k0,k1,k2⟩,hz,hbw⟩:=yy hb2
 have HBY:=z9 hbw
 clear hb2 hbw hb HMB HMK HLG HBX HBX1 HBZ HS3 l0 l2 t0 t1 t2 t3 t4 t5 t6 k0 k1
 have l1m:(x2.alloc (.map #[] 0)).cell? (ad w.heap.size 1)=some (.slice (some (ad bb bo)) L.b.length gB):=(zf (below_alloc1 x2 (.map #[] 0)) w.heap.size 1 (by omega)).trans l1
 clear l1
 have hmm:=@run_makeMap prog
 go_wp2_with fail
 clear hmm
 have HMD:=z9 (Uf.made x2)
 have K2:=z9 k2
 clear k2
 go_loopw [43] (fun i wr=>∃k:Nat,k<=L.b.length/\i=iV k/\zC (fun s=>ZD L O s && Yz L ⟨pc,st,ops⟩ O s) k=true/\Bw x2 wr/\Uf (fun z=>Yk O z k) k x2.heap.size wr) (fun i _=>L.b.length - (intOf i).toNat)
 case atStart=>exact⟨0,Nat.zero_le _,rfl,rfl,below_alloc1 _ _,HMD.out⟩
 case round =>
  clear HMD
  obtain⟨k,hk,rfl,hall,gH,hmap⟩:=hrel
  have HA:=z9 hall
  have HB:=z9 gH
  have HMP:=z9 hmap
  have HWR:=z9 (HBY.out.trans (gH.mono HBY.out.size))
  clear hall hmap
  by_cases hkl:k<L.b.length
  ·have hki:(k:Int)<(L.b.length:Int):=by omega
   have hkO:(k:Int)<(O.length:Int):=by have:=HH.out.2;omega
   obtain⟨c0,c1,c2,c3,c4,c5,c6,c7,c8⟩:=V5 (fun j hj=>(zf HWR.out bb (bo+k*9+j) hbb).trans (HBO.out k hkl j hj))
   have co:=(zf HWR.out ob (oo+k) hob).trans (HOR.out k (by have:=HH.out.2;omega))
   obtain⟨zl,zh⟩:=HOI.out k (by have:=HH.out.2;omega)
   have hsz:=HWR.out.size
   have hbz:bb<wr.heap.size:=by omega
   have hoz:ob<wr.heap.size:=by omega
   have hxz:x2.heap.size<wr.heap.size:=HMP.out.lt
   have HSO:Hid (ZD L O k=(inR (nth O k) 0 ((ops.length:Int) - 1) && zC (fun i=>!decide (nth O i=nth O k)) k)):=by show _=_;unfold ZD;rw [HH.out.1]
   have HSS:Hid (Yz L ⟨pc,st,ops⟩ O k=zo2 (zc L.b k).o (zc L.b k).ar (zc L.b k).sp (zc L.b k).pl (zc L.b k).nn (zp ops (nth O k).toNat).o (zp ops (nth O k).toNat).ar (zp ops (nth O k).toNat).sp (zp ops (nth O k).toNat).pl (zp ops (nth O k).toNat).nn):=rfl
   obtain⟨z,hzz⟩:∃z,nth O k=z:=⟨_,rfl⟩
   rw [hzz] at co zl zh HSO HSS
   have HZ:=z9 hzz
   generalize zc L.b k=xk at *
   obtain⟨so,xa,xb,ya,yb,ar,sp,pl,nn⟩:=xk
   simp only at c0 c1 c2 c3 c4 c5 c6 c7 c8 HSS
   obtain⟨W,hW⟩:∃W,wr.alloc (.cells #[iV so,iV xa,iV xb,iV ya,iV yb,iV ar,iV sp,iV pl,iV nn] 41)=W:=⟨_,rfl⟩
   have hWb:Bw wr W:=by rw [<-hW];exact below_alloc1 _ _
   have hWz:W.heap.size=wr.heap.size+1:=by rw [<-hW];simp
   have HWW:=z9 hW
   have hmW:Uf (fun z=>Yk O z k) k x2.heap.size W:=HMP.out.gG (hWb.block _ HMP.out.lt)
   obtain⟨g0,g1⟩:=zcr O z k
   have hlk:=hmW.look z (zea zl zh)
   obtain⟨V,hup,hgr,hmV⟩:=hmW.put (by unfold maxLen;omega) z (Yk O z k+1) (zea zl zh) (zea (by omega) (by omega))
   have hwc:wrap64 (Yk O z k+1)=Yk O z k+1:=by unfold wrap64;omega
   have hmV2:Uf (fun z'=>Yk O z' (k+1)) (k+1) x2.heap.size V:=by
    have e:(fun z'=>if z'=z then Yk O z k+1 else Yk O z' k)=fun z'=>Yk O z' (k+1):=by
     funext z'
     show _=Yk O z' k+_
     rw [HZ.out]
     by_cases e:z'=z
     ·rw [if_pos e,if_pos e.symm,e]
     ·rw [if_neg e,if_neg (fun h=>e h.symm)];omega
    rw [<-e];exact hmV
   have hVx:Bw x2 V:=(HB.out.trans (hWb.mono HB.out.size)).grown hgr (by have:=HB.out.size;omega) (fun j hj=>by cases hj;exact Nat.le_refl _)
   have hVz:W.heap.size<=V.heap.size:=hgr.size
   have hVB:V.heap[wr.heap.size]?=some (.cells #[iV so,iV xa,iV xb,iV ya,iV yb,iV ar,iV sp,iV pl,iV nn] 41 (0,0)):=by
    rw [hgr.block wr.heap.size (by omega) (by simp;omega),<-hW];exact xT _ _ _
   have HVX:=z9 hVx
   have HWV:=z9 (HBY.out.trans (hVx.mono HBY.out.size))
   have HMV:=z9 hmV2
   have kV:=(zf hVx (w.heap.size+1+1) 2 (by omega)).trans (show x2.cell? (ad (w.heap.size+1+1) 2)=_ from K2.out)
   have HNX:Hid (ZD L O k=true->Yz L ⟨pc,st,ops⟩ O k=true->zC (fun s=>ZD L O s && Yz L ⟨pc,st,ops⟩ O s) (k+1)=true):=fun h h'=>yl HA.out (by show (ZD L O k && Yz L ⟨pc,st,ops⟩ O k)=true;rw [h,h'];rfl)
   have HNO:Hid (ZD L O k=false\/Yz L ⟨pc,st,ops⟩ O k=false->xD L ⟨p0,p1,p2,q0,q1,q2,r⟩ ⟨pc,st,ops⟩ O=false):=fun h=>by
    rw [HD.out]
    refine zZ hkl ?_
    show (ZD L O k && Yz L ⟨pc,st,ops⟩ O k)=false
    rcases h with h | h
    ·rw [h];rfl
    ·rw [h];simp
   have hwn2:IntKind.i64.wrap ((ops.length:Int) - 1)=(ops.length:Int) - 1:=zl5 (by omega) (by omega)
   have hwn:wrap64 ((ops.length:Int) - 1)=(ops.length:Int) - 1:=by unfold wrap64;omega
   have HWI:=z9 (fun W'=>Vs z 0 ((ops.length:Int) - 1) W')
   rw [<-hW] at hlk hup
   obtain⟨cz,hcz⟩:∃cz,Yk O z k=cz:=⟨_,rfl⟩
   have HCZ:=z9 hcz
   have HCX:=z9 hcz
   have HZX:=z9 hzz
   rw [hcz] at hlk hup hwc g0 g1
   have HVB:=z9 hVB
   have KV:=z9 kV
   have HVZ:=z9 (show wr.heap.size<V.heap.size by omega)
   clear hW hWb hmW hmV hmV2 hgr gH hcz hzz hVx hVz hVB kV HWW hWz
   cases hin:inR z 0 ((ops.length:Int) - 1) with
   | false =>
     have HN:=z9 (HNO.out (.inl (by rw [HSO.out,hin];rfl)))
     rw [hin] at HWI
     clear hin HNX HNO HSO HSS
     go_wp2_with fail
     clear hup hlk c0 c1 c2 c3 c4 c5 c6 c7 c8 co
     have HS:Hid (∀w',Bw V w'->w'.cell? (ad (w.heap.size+1+1) 2)=some (.slice (some (ad kb ko)) ops.length kc)):=fun w' hb=>(zf hb (w.heap.size+1+1) 2 (by have:=HVX.out.size;omega)).trans KV.out
     refine Yj (fun w'=>(Bw V w'/\w'.cell? (ad (w.heap.size+1+1) 2)=some (.slice (some (ad kb ko)) ops.length kc))) 23 (by rfl) (by kernel_rfl) (by kernel_rfl) (by kernel_rfl) ⟨below_draws _ _ 1,HS.out _ (below_draws _ _ 1)⟩ ?_
     refine stk (i:=0) rfl ?_
     refine stk (i:=1) rfl ?_
     refine stk (i:=2) rfl ?_
     refine stk (i:=3) rfl ?_
     refine stk (i:=4) rfl ?_
     refine Yd (i:=5) (.bool false) rfl (by rfl) (fun w hSw K hK=>?_) ?_
     ·go_simp
      refine (HWI.out _).mono ?_
      rintro e y ⟨rfl,rfl⟩
      exact hK.out _ _ (by simp only [Act.put,List.setIfInBounds_toArray,List.set_cons_zero,List.set_cons_succ]) hSw
     try simp only [Act.put,List.setIfInBounds_toArray,List.set_cons_zero,List.set_cons_succ]
     refine stk (i:=6) rfl ?_
     refine stk (i:=7) rfl ?_
     refine yi (i:=8) (v:=undef) rfl (Or.inr ⟨by rfl,rfl⟩) ?_
     try simp only [Act.put,List.setIfInBounds_toArray,List.set_cons_zero,List.set_cons_succ]
     refine yi (i:=9) (v:=undef) rfl (Or.inr ⟨by rfl,rfl⟩) ?_
     try simp only [Act.put,List.setIfInBounds_toArray,List.set_cons_zero,List.set_cons_succ]
     refine yi (i:=10) (v:=undef) rfl (Or.inr ⟨by rfl,rfl⟩) ?_
     try simp only [Act.put,List.setIfInBounds_toArray,List.set_cons_zero,List.set_cons_succ]
     refine yi (i:=11) (v:=undef) rfl (Or.inr ⟨by rfl,rfl⟩) ?_
     try simp only [Act.put,List.setIfInBounds_toArray,List.set_cons_zero,List.set_cons_succ]
     refine stk (i:=12) rfl ?_
     refine stk (i:=13) rfl ?_
     refine yi (i:=14) (v:=undef) rfl (Or.inr ⟨by rfl,rfl⟩) ?_
     try simp only [Act.put,List.setIfInBounds_toArray,List.set_cons_zero,List.set_cons_succ]
     refine yi (i:=15) (v:=undef) rfl (Or.inr ⟨by rfl,rfl⟩) ?_
     try simp only [Act.put,List.setIfInBounds_toArray,List.set_cons_zero,List.set_cons_succ]
     refine yi (i:=16) (v:=undef) rfl (Or.inr ⟨by rfl,rfl⟩) ?_
     try simp only [Act.put,List.setIfInBounds_toArray,List.set_cons_zero,List.set_cons_succ]
     refine yi (i:=17) (v:=undef) rfl (Or.inr ⟨by rfl,rfl⟩) ?_
     try simp only [Act.put,List.setIfInBounds_toArray,List.set_cons_zero,List.set_cons_succ]
     refine yi (i:=18) (v:=undef) rfl (Or.inr ⟨by rfl,rfl⟩) ?_
     try simp only [Act.put,List.setIfInBounds_toArray,List.set_cons_zero,List.set_cons_succ]
     refine yi (i:=19) (v:=undef) rfl (Or.inr ⟨by rfl,rfl⟩) ?_
     try simp only [Act.put,List.setIfInBounds_toArray,List.set_cons_zero,List.set_cons_succ]
     refine yi (i:=20) (v:=undef) rfl (Or.inr ⟨by rfl,rfl⟩) ?_
     try simp only [Act.put,List.setIfInBounds_toArray,List.set_cons_zero,List.set_cons_succ]
     refine yi (i:=21) (v:=undef) rfl (Or.inr ⟨by rfl,rfl⟩) ?_
     try simp only [Act.put,List.setIfInBounds_toArray,List.set_cons_zero,List.set_cons_succ]
     refine stk (i:=22) rfl ?_
     refine Va (fun y hSy=>?_)
     refine NoPanic.normal ?_
     try dsimp only at hSy
     go_wp2_with fail
     go_ret
     exact⟨zg HN.out.symm,HWV.out.trans (hSy.1.mono (by have:=HWV.out.size;omega))⟩
   | true =>
     rw [hin] at HWI
     have hir:=zx.1 hin
     obtain⟨zn,hzn⟩:∃zn:Nat,z=zn:=⟨z.toNat,by omega⟩
     subst hzn
     have hznl:zn<ops.length:=by omega
     have hzi:(zn:Int)<(ops.length:Int):=by omega
     by_cases hc1:1<cz+1
     ·have HN:Hid (xD L ⟨p0,p1,p2,q0,q1,q2,r⟩ ⟨pc,st,ops⟩ O=false):=HNO.out (.inl (by
       rw [HSO.out,hin,Bool.true_and]
       rw [<-Bool.not_eq_true]
       intro h
       have h0:=zpm (O:=O) (z:=(zn:Int)) k (fun i hi e=>by
        have h3:=zo h i hi
        rw [decide_eq_true e] at h3
        cases h3)
       have:=HCZ.out
       omega))
      clear hin HNX HNO HSO HSS hir
      go_wp2_with fail
      clear hup hlk c0 c1 c2 c3 c4 c5 c6 c7 c8 co
      have HLV:Hid (∀w',Bw V w'->(Instr.lookup 181 (.map (some x2.heap.size)) (iV (zn:Int)) false).run prog w'=.ok (iV (cz+1)) w'):=fun w' hb=>by
       have h:=(HMV.out.gG (hb.block _ HMV.out.lt)).look (zn:Int) (zea zl zh)
       have e:Yk O (zn:Int) (k+1)=cz+1:=by show Yk O (zn:Int) k+_=_;rw [HCX.out,if_pos HZX.out]
       simp only [e] at h
       exact h
      have HS:Hid (∀w',Bw V w'->w'.cell? (ad (w.heap.size+1+1) 2)=some (.slice (some (ad kb ko)) ops.length kc)/\(Instr.lookup 181 (.map (some x2.heap.size)) (iV (zn:Int)) false).run prog w'=.ok (iV (cz+1)) w'):=fun w' hb=>⟨(zf hb (w.heap.size+1+1) 2 (by have:=HVX.out.size;omega)).trans KV.out,(HLV.out _ hb)⟩
      refine Yj (fun w'=>(Bw V w'/\w'.cell? (ad (w.heap.size+1+1) 2)=some (.slice (some (ad kb ko)) ops.length kc)/\(Instr.lookup 181 (.map (some x2.heap.size)) (iV (zn:Int)) false).run prog w'=.ok (iV (cz+1)) w')) 23 (by rfl) (by kernel_rfl) (by kernel_rfl) (by kernel_rfl) ⟨below_draws _ _ 1,HS.out _ (below_draws _ _ 1)⟩ ?_
      refine stk (i:=0) rfl ?_
      refine stk (i:=1) rfl ?_
      refine stk (i:=2) rfl ?_
      refine stk (i:=3) rfl ?_
      refine stk (i:=4) rfl ?_
      refine Yd (i:=5) (.bool true) rfl (by rfl) (fun w hSw K hK=>?_) ?_
      ·go_simp
       refine (HWI.out _).mono ?_
       rintro e y ⟨rfl,rfl⟩
       exact hK.out _ _ (by simp only [Act.put,List.setIfInBounds_toArray,List.set_cons_zero,List.set_cons_succ]) hSw
      try simp only [Act.put,List.setIfInBounds_toArray,List.set_cons_zero,List.set_cons_succ]
      refine stk (i:=6) rfl ?_
      refine stk (i:=7) rfl ?_
      refine stk (i:=8) rfl ?_
      refine stk (i:=9) rfl ?_
      refine stk (i:=10) rfl ?_
      refine stk (i:=11) rfl ?_
      refine stk (i:=12) rfl ?_
      refine stk (i:=13) rfl ?_
      refine yi (i:=14) (v:=undef) rfl (Or.inr ⟨by rfl,rfl⟩) ?_
      try simp only [Act.put,List.setIfInBounds_toArray,List.set_cons_zero,List.set_cons_succ]
      refine yi (i:=15) (v:=undef) rfl (Or.inr ⟨by rfl,rfl⟩) ?_
      try simp only [Act.put,List.setIfInBounds_toArray,List.set_cons_zero,List.set_cons_succ]
      refine yi (i:=16) (v:=undef) rfl (Or.inr ⟨by rfl,rfl⟩) ?_
      try simp only [Act.put,List.setIfInBounds_toArray,List.set_cons_zero,List.set_cons_succ]
      refine yi (i:=17) (v:=undef) rfl (Or.inr ⟨by rfl,rfl⟩) ?_
      try simp only [Act.put,List.setIfInBounds_toArray,List.set_cons_zero,List.set_cons_succ]
      refine yi (i:=18) (v:=undef) rfl (Or.inr ⟨by rfl,rfl⟩) ?_
      try simp only [Act.put,List.setIfInBounds_toArray,List.set_cons_zero,List.set_cons_succ]
      refine yi (i:=19) (v:=undef) rfl (Or.inr ⟨by rfl,rfl⟩) ?_
      try simp only [Act.put,List.setIfInBounds_toArray,List.set_cons_zero,List.set_cons_succ]
      refine yi (i:=20) (v:=undef) rfl (Or.inr ⟨by rfl,rfl⟩) ?_
      try simp only [Act.put,List.setIfInBounds_toArray,List.set_cons_zero,List.set_cons_succ]
      refine yi (i:=21) (v:=undef) rfl (Or.inr ⟨by rfl,rfl⟩) ?_
      try simp only [Act.put,List.setIfInBounds_toArray,List.set_cons_zero,List.set_cons_succ]
      refine stk (i:=22) rfl ?_
      refine Va (fun y hSy=>?_)
      refine NoPanic.normal ?_
      try dsimp only at hSy
      go_wp2_with fail
      go_ret
      exact⟨zg HN.out.symm,HWV.out.trans (hSy.1.mono (by have:=HWV.out.size;omega))⟩
     ·have HOK:Hid (ZD L O k=true):=by
       show _=_
       rw [HSO.out,hin,Bool.true_and]
       refine zL fun i hi=>?_
       show (!decide (nth O i=(zn:Int)))=true
       by_cases e:nth O i=(zn:Int)
       ·have h1:=zpn k i hi e
        have:=HCZ.out
        omega
       ·rw [decide_eq_false e];rfl
      have hopz:kb<V.heap.size:=by have:=HWV.out.size;omega
      obtain⟨d0,d1,d2,d3,d4,d5,d6,d7,d8,d9⟩:=ten (fun j hj=>(zf HWV.out kb (ko+zn*10+j) hkb).trans (HOP.out zn hznl j hj))
      rw [show ((zn:Int)).toNat=zn from rfl] at HSS
      generalize zp ops zn=ox at *
      obtain⟨o0,o1,o2,o3,o4,o5,o6,o7,o8,o9⟩:=ox
      simp only at d0 d1 d2 d3 d4 d5 d6 d7 d8 d9 HSS
      have HDO:=z9 (fun W'=>zph o0 o1 o2 o3 o4 o5 o6 o7 o8 o9 so xa xb ya yb ar sp pl nn W')
      have HNX2:=z9 (HNX.out HOK.out)
      have HNO2:Hid (Yz L ⟨pc,st,ops⟩ O k=false->xD L ⟨p0,p1,p2,q0,q1,q2,r⟩ ⟨pc,st,ops⟩ O=false):=fun h=>HNO.out (.inr h)
      rw [HSS.out] at HNX2 HNO2
      clear hin HNX HNO HSO HSS hir HOK HZ HCZ
      cases hdo:zo2 so ar sp pl nn o2 o6 o7 o8 o9 with
      | false =>
        rw [hdo] at HDO HNO2
        have HN:=z9 (HNO2.out rfl)
        clear hdo HNX2 HNO2
        go_wp2_with fail
        clear hup hlk c0 c1 c2 c3 c4 c5 c6 c7 c8 co
        have hcd:¬1<cz+1:=by omega
        have hcd2:decide (1<cz+1)=false:=decide_eq_false hcd
        have HLV:Hid (∀w',Bw V w'->(Instr.lookup 181 (.map (some x2.heap.size)) (iV (zn:Int)) false).run prog w'=.ok (iV (cz+1)) w'):=fun w' hb=>by
         have h:=(HMV.out.gG (hb.block _ HMV.out.lt)).look (zn:Int) (zea zl zh)
         have e:Yk O (zn:Int) (k+1)=cz+1:=by show Yk O (zn:Int) k+_=_;rw [HCX.out,if_pos HZX.out]
         simp only [e] at h
         exact h
        have HS:Hid (∀w',Bw V w'->w'.cell? (ad (w.heap.size+1+1) 2)=some (.slice (some (ad kb ko)) ops.length kc)/\(Instr.lookup 181 (.map (some x2.heap.size)) (iV (zn:Int)) false).run prog w'=.ok (iV (cz+1)) w'/\w'.cell? (ad wr.heap.size 0)=sI so/\w'.cell? (ad wr.heap.size 1)=sI xa/\w'.cell? (ad wr.heap.size 2)=sI xb/\w'.cell? (ad wr.heap.size 3)=sI ya/\w'.cell? (ad wr.heap.size 4)=sI yb/\w'.cell? (ad wr.heap.size 5)=sI ar/\w'.cell? (ad wr.heap.size 6)=sI sp/\w'.cell? (ad wr.heap.size 7)=sI pl/\w'.cell? (ad wr.heap.size 8)=sI nn/\w'.cell? (ad kb (ko+zn*10))=sI o0/\w'.cell? (ad kb (ko+zn*10+1))=sI o1/\w'.cell? (ad kb (ko+zn*10+2))=sI o2/\w'.cell? (ad kb (ko+zn*10+3))=sI o3/\w'.cell? (ad kb (ko+zn*10+4))=sI o4/\w'.cell? (ad kb (ko+zn*10+5))=sI o5/\w'.cell? (ad kb (ko+zn*10+6))=sI o6/\w'.cell? (ad kb (ko+zn*10+7))=sI o7/\w'.cell? (ad kb (ko+zn*10+8))=sI o8/\w'.cell? (ad kb (ko+zn*10+9))=sI o9):=fun w' hb=>⟨(zf hb (w.heap.size+1+1) 2 (by have:=HVX.out.size;omega)).trans KV.out,(HLV.out _ hb),((zf hb wr.heap.size 0 HVZ.out).trans (by rw [cell_of_block HVB.out];rfl)),((zf hb wr.heap.size 1 HVZ.out).trans (by rw [cell_of_block HVB.out];rfl)),((zf hb wr.heap.size 2 HVZ.out).trans (by rw [cell_of_block HVB.out];rfl)),((zf hb wr.heap.size 3 HVZ.out).trans (by rw [cell_of_block HVB.out];rfl)),((zf hb wr.heap.size 4 HVZ.out).trans (by rw [cell_of_block HVB.out];rfl)),((zf hb wr.heap.size 5 HVZ.out).trans (by rw [cell_of_block HVB.out];rfl)),((zf hb wr.heap.size 6 HVZ.out).trans (by rw [cell_of_block HVB.out];rfl)),((zf hb wr.heap.size 7 HVZ.out).trans (by rw [cell_of_block HVB.out];rfl)),((zf hb wr.heap.size 8 HVZ.out).trans (by rw [cell_of_block HVB.out];rfl)),((zf hb kb (ko+zn*10) (by omega)).trans d0),((zf hb kb (ko+zn*10+1) (by omega)).trans d1),((zf hb kb (ko+zn*10+2) (by omega)).trans d2),((zf hb kb (ko+zn*10+3) (by omega)).trans d3),((zf hb kb (ko+zn*10+4) (by omega)).trans d4),((zf hb kb (ko+zn*10+5) (by omega)).trans d5),((zf hb kb (ko+zn*10+6) (by omega)).trans d6),((zf hb kb (ko+zn*10+7) (by omega)).trans d7),((zf hb kb (ko+zn*10+8) (by omega)).trans d8),((zf hb kb (ko+zn*10+9) (by omega)).trans d9)⟩
        refine Yj (fun w'=>(Bw V w'/\w'.cell? (ad (w.heap.size+1+1) 2)=some (.slice (some (ad kb ko)) ops.length kc)/\(Instr.lookup 181 (.map (some x2.heap.size)) (iV (zn:Int)) false).run prog w'=.ok (iV (cz+1)) w'/\w'.cell? (ad wr.heap.size 0)=sI so/\w'.cell? (ad wr.heap.size 1)=sI xa/\w'.cell? (ad wr.heap.size 2)=sI xb/\w'.cell? (ad wr.heap.size 3)=sI ya/\w'.cell? (ad wr.heap.size 4)=sI yb/\w'.cell? (ad wr.heap.size 5)=sI ar/\w'.cell? (ad wr.heap.size 6)=sI sp/\w'.cell? (ad wr.heap.size 7)=sI pl/\w'.cell? (ad wr.heap.size 8)=sI nn/\w'.cell? (ad kb (ko+zn*10))=sI o0/\w'.cell? (ad kb (ko+zn*10+1))=sI o1/\w'.cell? (ad kb (ko+zn*10+2))=sI o2/\w'.cell? (ad kb (ko+zn*10+3))=sI o3/\w'.cell? (ad kb (ko+zn*10+4))=sI o4/\w'.cell? (ad kb (ko+zn*10+5))=sI o5/\w'.cell? (ad kb (ko+zn*10+6))=sI o6/\w'.cell? (ad kb (ko+zn*10+7))=sI o7/\w'.cell? (ad kb (ko+zn*10+8))=sI o8/\w'.cell? (ad kb (ko+zn*10+9))=sI o9)) 23 (by rfl) (by kernel_rfl) (by kernel_rfl) (by kernel_rfl) ⟨below_draws _ _ 1,HS.out _ (below_draws _ _ 1)⟩ ?_
        refine stk (i:=0) rfl ?_
        refine stk (i:=1) rfl ?_
        refine stk (i:=2) rfl ?_
        refine stk (i:=3) rfl ?_
        refine stk (i:=4) rfl ?_
        refine Yd (i:=5) (.bool true) rfl (by rfl) (fun w hSw K hK=>?_) ?_
        ·go_simp
         refine (HWI.out _).mono ?_
         rintro e y ⟨rfl,rfl⟩
         exact hK.out _ _ (by simp only [Act.put,List.setIfInBounds_toArray,List.set_cons_zero,List.set_cons_succ]) hSw
        try simp only [Act.put,List.setIfInBounds_toArray,List.set_cons_zero,List.set_cons_succ]
        refine stk (i:=6) rfl ?_
        refine stk (i:=7) rfl ?_
        refine stk (i:=8) rfl ?_
        refine stk (i:=9) rfl ?_
        refine stk (i:=10) rfl ?_
        refine stk (i:=11) rfl ?_
        refine stk (i:=12) rfl ?_
        refine stk (i:=13) rfl ?_
        refine stk (i:=14) rfl ?_
        refine stk (i:=15) rfl ?_
        refine stk (i:=16) rfl ?_
        refine stk (i:=17) rfl ?_
        refine stk (i:=18) rfl ?_
        refine stk (i:=19) rfl ?_
        refine Yd (i:=20) (.bool false) rfl (by rfl) (fun w hSw K hK=>?_) ?_
        ·go_simp
         refine (HDO.out _).mono ?_
         rintro e y ⟨rfl,hy⟩
         have hb2:=hSw.1.trans (hy.mono hSw.1.size)
         exact hK.out _ _ (by simp only [Act.put,List.setIfInBounds_toArray,List.set_cons_zero,List.set_cons_succ]) ⟨hb2,HS.out _ hb2⟩
        try simp only [Act.put,List.setIfInBounds_toArray,List.set_cons_zero,List.set_cons_succ]
        refine stk (i:=21) rfl ?_
        refine stk (i:=22) rfl ?_
        refine Va (fun y hSy=>?_)
        refine NoPanic.normal ?_
        try dsimp only at hSy
        go_wp2_with fail
        go_ret
        exact⟨zg HN.out.symm,HWV.out.trans (hSy.1.mono (by have:=HWV.out.size;omega))⟩
      | true =>
        rw [hdo] at HDO HNX2
        have HN:=z9 (HNX2.out rfl)
        clear hdo HNX2 HNO2
        go_wp2_with fail
        clear hup hlk c0 c1 c2 c3 c4 c5 c6 c7 c8 co
        have hcd:¬1<cz+1:=by omega
        have hcd2:decide (1<cz+1)=false:=decide_eq_false hcd
        have HLV:Hid (∀w',Bw V w'->(Instr.lookup 181 (.map (some x2.heap.size)) (iV (zn:Int)) false).run prog w'=.ok (iV (cz+1)) w'):=fun w' hb=>by
         have h:=(HMV.out.gG (hb.block _ HMV.out.lt)).look (zn:Int) (zea zl zh)
         have e:Yk O (zn:Int) (k+1)=cz+1:=by show Yk O (zn:Int) k+_=_;rw [HCX.out,if_pos HZX.out]
         simp only [e] at h
         exact h
        have HS:Hid (∀w',Bw V w'->w'.cell? (ad (w.heap.size+1+1) 2)=some (.slice (some (ad kb ko)) ops.length kc)/\(Instr.lookup 181 (.map (some x2.heap.size)) (iV (zn:Int)) false).run prog w'=.ok (iV (cz+1)) w'/\w'.cell? (ad wr.heap.size 0)=sI so/\w'.cell? (ad wr.heap.size 1)=sI xa/\w'.cell? (ad wr.heap.size 2)=sI xb/\w'.cell? (ad wr.heap.size 3)=sI ya/\w'.cell? (ad wr.heap.size 4)=sI yb/\w'.cell? (ad wr.heap.size 5)=sI ar/\w'.cell? (ad wr.heap.size 6)=sI sp/\w'.cell? (ad wr.heap.size 7)=sI pl/\w'.cell? (ad wr.heap.size 8)=sI nn/\w'.cell? (ad kb (ko+zn*10))=sI o0/\w'.cell? (ad kb (ko+zn*10+1))=sI o1/\w'.cell? (ad kb (ko+zn*10+2))=sI o2/\w'.cell? (ad kb (ko+zn*10+3))=sI o3/\w'.cell? (ad kb (ko+zn*10+4))=sI o4/\w'.cell? (ad kb (ko+zn*10+5))=sI o5/\w'.cell? (ad kb (ko+zn*10+6))=sI o6/\w'.cell? (ad kb (ko+zn*10+7))=sI o7/\w'.cell? (ad kb (ko+zn*10+8))=sI o8/\w'.cell? (ad kb (ko+zn*10+9))=sI o9):=fun w' hb=>⟨(zf hb (w.heap.size+1+1) 2 (by have:=HVX.out.size;omega)).trans KV.out,(HLV.out _ hb),((zf hb wr.heap.size 0 HVZ.out).trans (by rw [cell_of_block HVB.out];rfl)),((zf hb wr.heap.size 1 HVZ.out).trans (by rw [cell_of_block HVB.out];rfl)),((zf hb wr.heap.size 2 HVZ.out).trans (by rw [cell_of_block HVB.out];rfl)),((zf hb wr.heap.size 3 HVZ.out).trans (by rw [cell_of_block HVB.out];rfl)),((zf hb wr.heap.size 4 HVZ.out).trans (by rw [cell_of_block HVB.out];rfl)),((zf hb wr.heap.size 5 HVZ.out).trans (by rw [cell_of_block HVB.out];rfl)),((zf hb wr.heap.size 6 HVZ.out).trans (by rw [cell_of_block HVB.out];rfl)),((zf hb wr.heap.size 7 HVZ.out).trans (by rw [cell_of_block HVB.out];rfl)),((zf hb wr.heap.size 8 HVZ.out).trans (by rw [cell_of_block HVB.out];rfl)),((zf hb kb (ko+zn*10) (by omega)).trans d0),((zf hb kb (ko+zn*10+1) (by omega)).trans d1),((zf hb kb (ko+zn*10+2) (by omega)).trans d2),((zf hb kb (ko+zn*10+3) (by omega)).trans d3),((zf hb kb (ko+zn*10+4) (by omega)).trans d4),((zf hb kb (ko+zn*10+5) (by omega)).trans d5),((zf hb kb (ko+zn*10+6) (by omega)).trans d6),((zf hb kb (ko+zn*10+7) (by omega)).trans d7),((zf hb kb (ko+zn*10+8) (by omega)).trans d8),((zf hb kb (ko+zn*10+9) (by omega)).trans d9)⟩
        refine Yj (fun w'=>(Bw V w'/\w'.cell? (ad (w.heap.size+1+1) 2)=some (.slice (some (ad kb ko)) ops.length kc)/\(Instr.lookup 181 (.map (some x2.heap.size)) (iV (zn:Int)) false).run prog w'=.ok (iV (cz+1)) w'/\w'.cell? (ad wr.heap.size 0)=sI so/\w'.cell? (ad wr.heap.size 1)=sI xa/\w'.cell? (ad wr.heap.size 2)=sI xb/\w'.cell? (ad wr.heap.size 3)=sI ya/\w'.cell? (ad wr.heap.size 4)=sI yb/\w'.cell? (ad wr.heap.size 5)=sI ar/\w'.cell? (ad wr.heap.size 6)=sI sp/\w'.cell? (ad wr.heap.size 7)=sI pl/\w'.cell? (ad wr.heap.size 8)=sI nn/\w'.cell? (ad kb (ko+zn*10))=sI o0/\w'.cell? (ad kb (ko+zn*10+1))=sI o1/\w'.cell? (ad kb (ko+zn*10+2))=sI o2/\w'.cell? (ad kb (ko+zn*10+3))=sI o3/\w'.cell? (ad kb (ko+zn*10+4))=sI o4/\w'.cell? (ad kb (ko+zn*10+5))=sI o5/\w'.cell? (ad kb (ko+zn*10+6))=sI o6/\w'.cell? (ad kb (ko+zn*10+7))=sI o7/\w'.cell? (ad kb (ko+zn*10+8))=sI o8/\w'.cell? (ad kb (ko+zn*10+9))=sI o9)) 23 (by rfl) (by kernel_rfl) (by kernel_rfl) (by kernel_rfl) ⟨below_draws _ _ 1,HS.out _ (below_draws _ _ 1)⟩ ?_
        refine stk (i:=0) rfl ?_
        refine stk (i:=1) rfl ?_
        refine stk (i:=2) rfl ?_
        refine stk (i:=3) rfl ?_
        refine stk (i:=4) rfl ?_
        refine Yd (i:=5) (.bool true) rfl (by rfl) (fun w hSw K hK=>?_) ?_
        ·go_simp
         refine (HWI.out _).mono ?_
         rintro e y ⟨rfl,rfl⟩
         exact hK.out _ _ (by simp only [Act.put,List.setIfInBounds_toArray,List.set_cons_zero,List.set_cons_succ]) hSw
        try simp only [Act.put,List.setIfInBounds_toArray,List.set_cons_zero,List.set_cons_succ]
        refine stk (i:=6) rfl ?_
        refine stk (i:=7) rfl ?_
        refine stk (i:=8) rfl ?_
        refine stk (i:=9) rfl ?_
        refine stk (i:=10) rfl ?_
        refine stk (i:=11) rfl ?_
        refine stk (i:=12) rfl ?_
        refine stk (i:=13) rfl ?_
        refine stk (i:=14) rfl ?_
        refine stk (i:=15) rfl ?_
        refine stk (i:=16) rfl ?_
        refine stk (i:=17) rfl ?_
        refine stk (i:=18) rfl ?_
        refine stk (i:=19) rfl ?_
        refine Yd (i:=20) (.bool true) rfl (by rfl) (fun w hSw K hK=>?_) ?_
        ·go_simp
         refine (HDO.out _).mono ?_
         rintro e y ⟨rfl,hy⟩
         have hb2:=hSw.1.trans (hy.mono hSw.1.size)
         exact hK.out _ _ (by simp only [Act.put,List.setIfInBounds_toArray,List.set_cons_zero,List.set_cons_succ]) ⟨hb2,HS.out _ hb2⟩
        try simp only [Act.put,List.setIfInBounds_toArray,List.set_cons_zero,List.set_cons_succ]
        refine stk (i:=21) rfl ?_
        refine stk (i:=22) rfl ?_
        refine Va (fun y hSy=>?_)
        refine NoPanic.normal ?_
        try dsimp only at hSy
        go_wp2_with fail
        go_roundw
        case rel=>exact⟨k+1,by omega,by go_num,HN.out,HVX.out.trans (hSy.1.mono (by have:=HVX.out.size;omega)),HMV.out.gG (hSy.1.block _ HMV.out.lt)⟩
        case measure=>simp [intOf];omega
  ·have e:k=L.b.length:=by omega
   subst e
   have hki:¬(L.b.length:Int)<(L.b.length:Int):=by omega
   have HN:Hid (xD L ⟨p0,p1,p2,q0,q1,q2,r⟩ ⟨pc,st,ops⟩ O=true):=by show _=_;rw [HD.out,HA.out]
   clear gH
   go_wp2_with fail
   go_ret
   exact⟨zg HN.out.symm,HWR.out⟩
section
theorem Z2 {row:Option Nat} (h:x.ownsRow base e sz v n xs) (hg:x.grownBy w1 row) (hne:∀g,v.ownBlock=some g->row≠some g):w1.ownsRow base e sz v n xs:=by
 obtain⟨hl,h⟩:=h
 refine⟨hl,?_⟩
 rcases h with h | ⟨g,cap,cur,hv,hb,hk,r⟩
 ·exact .inl h
 ·refine .inr ⟨g,cap,cur,hv,hb,?_,r⟩
  rw [hg.block g (Array.getElem?_eq_some_iff.1 hk).1 (fun e=>hne g (by rw [hv];rfl) e.symm)]
  exact hk
theorem xR {y:Nat} {o:Nat} (h:x.ownsRow base e sz v n xs) (hy:y<base):(x.setCell (ad y o) u).ownsRow base e sz v n xs:=by
 obtain⟨hl,h⟩:=h
 refine⟨hl,?_⟩
 rcases h with h | ⟨g,cap,cur,hv,hb,hk,r⟩
 ·exact .inl h
 ·exact .inr ⟨g,cap,cur,hv,hb,by rw [Below.heap_setCell _ _ _ _ (show g≠y by omega)];exact hk,r⟩
def apV (u v:Value):Prop:=∀g,u.ownBlock=some g->v.ownBlock≠some g
theorem apV.symm (h:apV u v):apV v u:=fun g h1 h2=>h g h2 h1
def YU (l:List Rd):List Value:=l.flatMap fun x=>(Zy x).toList
theorem ziw (l:List Rd) (x:Rd):YU (l++[x])=YU l++(Zy x).toList:=by unfold YU;rw [List.flatMap_append];simp
theorem zlz (l:List Rd):(YU l).length=l.length*5:=by
 induction l with
 | nil=>rfl
 | cons x l ih =>
   show ((Zy x).toList++YU l).length=_
   rw [List.length_append,ih,List.length_cons]
   show 5+_=_
   omega
def ZL (l:List Int):List Value:=l.map (Value.int .i64)
theorem Vq (l:List Int) (z:Int):ZL (l++[z])=ZL l++[iV z]:=by unfold ZL;rw [List.map_append];rfl
structure LyM (x3:World) (y:Nat) (l0 l1 l2:Value) (pc r:Int) (tv rv pv dv:Value) (nt nr np nd:Nat) (tl rl pl:List Int) (dl:List Rd) (wr:World):Prop where
 bel:Below y x3 wr
 blk:wr.heap[y]?=some (.cells #[l0,l1,l2,iV pc,iV r,tv,rv,pv,dv,.map none] 120 (0,0))
 ot:wr.ownsRow (y+1) 3 1 tv nt (ZL tl)
 or:wr.ownsRow (y+1) 3 1 rv nr (ZL rl)
 op:wr.ownsRow (y+1) 3 1 pv np (ZL pl)
 od:wr.ownsRow (y+1) 185 5 dv nd (YU dl)
 atr:apV tv rv
 atp:apV tv pv
 arp:apV rv pv
 atd:apV tv dv
 ard:apV rv dv
 apd:apV pv dv
variable {x3 wr wr':World} {y:Nat} {l0 l1 l2:Value} {pc r:Int} {tv rv pv dv:Value} {nt nr np nd:Nat} {tl rl pl:List Int} {dl:List Rd}
theorem LyM.lt (h:LyM x3 y l0 l1 l2 pc r tv rv pv dv nt nr np nd tl rl pl dl wr):y<wr.heap.size:=(Array.getElem?_eq_some_iff.1 h.blk).1
theorem LyM.gE (h:LyM x3 y l0 l1 l2 pc r tv rv pv dv nt nr np nd tl rl pl dl wr) (hb:Bw wr wr'):LyM x3 y l0 l1 l2 pc r tv rv pv dv nt nr np nd tl rl pl dl wr' :=
 ⟨h.bel.trans (hb.mono (Nat.le_of_lt h.lt)),(hb.block _ h.lt).trans h.blk,zA h.ot hb,zA h.or hb,zA h.op hb,zA h.od hb,h.atr,h.atp,h.arp,h.atd,h.ard,h.apd⟩
theorem LyM.cells (h:LyM x3 y l0 l1 l2 pc r tv rv pv dv nt nr np nd tl rl pl dl wr):wr.cell? (ad y 0)=some l0/\wr.cell? (ad y 1)=some l1/\wr.cell? (ad y 2)=some l2/\wr.cell? (ad y 3)=sI pc/\wr.cell? (ad y 4)=sI r/\wr.cell? (ad y 5)=some tv/\wr.cell? (ad y 6)=some rv/\wr.cell? (ad y 7)=some pv/\wr.cell? (ad y 8)=some dv:=by
 have key:=cell_of_block h.blk
 refine⟨?_,?_,?_,?_,?_,?_,?_,?_,?_⟩ <;> rw [key] <;> rfl
theorem Yp {e':TypeId} {cs:Array Value} (ho:x.ownsRow base e sz v n xs) (hg:x.grownBy w1 v.ownBlock) (hb:x.heap[b]?=some (.cells cs e' (0,0))) (he:e'≠e):w1.heap[b]?=some (.cells cs e' (0,0)):=by
 rw [hg.block b (Array.getElem?_eq_some_iff.1 hb).1 ?_]
 ·exact hb
 ·intro h
  obtain⟨hl,ho⟩:=ho
  rcases ho with ⟨rfl,_⟩ | ⟨g',cap,cur,rfl,hg',hk,r⟩
  ·cases h
  ·have hgg:b=g':=by simpa [Value.ownBlock] using h
   subst hgg
   rw [hk] at hb
   have h1:=Option.some.inj hb
   injection h1 with _ h2
   exact he h2.symm
theorem LyM.grow_t (h:LyM x3 y l0 l1 l2 pc r tv rv pv dv nt nr np nd tl rl pl dl wr) (hg:wr.grownBy w1 tv.ownBlock):w1.heap[y]?=some (.cells #[l0,l1,l2,iV pc,iV r,tv,rv,pv,dv,.map none] 120 (0,0))/\Below y x3 w1:=by
 have hge:=zG h.ot
 refine⟨?_,h.bel.grown hg (Nat.le_of_lt h.lt) fun q hq=>by have:=hge q hq;omega⟩
 rw [hg.block y h.lt (fun e=>by have:=hge y e.symm;omega)]
 exact h.blk
theorem LyM.push_t (h:LyM x3 y l0 l1 l2 pc r tv rv pv dv nt nr np nd tl rl pl dl wr) (ho:w1.ownsRow (y+1) 3 1 (.slice (pA g) (nt+1) cap) (nt+1) (ZL tl++[iV z])) (hg:wr.grownBy w1 tv.ownBlock) (hat:tv.ownBlock=some g\/g=H) (hH:wr.heap.size=H) :
  LyM x3 y l0 l1 l2 pc r (.slice (pA g) (nt+1) cap) rv pv dv (nt+1) nr np nd (tl++[z]) rl pl dl (w1.setCell (ad y 5) (.slice (pA g) (nt+1) cap)):=by
 obtain⟨hb,hx⟩:=h.grow_t hg
 rw [<-Vq] at ho
 have a_r:apV (.slice (pA g) (nt+1) cap) rv:=fun g' h1 h2=>by
  have e:g=g':=by simpa [Value.ownBlock] using h1
  subst e
  rcases hat with hat | hat
  ·exact h.atr g hat h2
  ·have:=zB h.or g h2;omega
 have o_r:=Z2 h.or hg (fun g' h1 h2=>h.atr g' h2 h1)
 have a_p:apV (.slice (pA g) (nt+1) cap) pv:=fun g' h1 h2=>by
  have e:g=g':=by simpa [Value.ownBlock] using h1
  subst e
  rcases hat with hat | hat
  ·exact h.atp g hat h2
  ·have:=zB h.op g h2;omega
 have o_p:=Z2 h.op hg (fun g' h1 h2=>h.atp g' h2 h1)
 have a_d:apV (.slice (pA g) (nt+1) cap) dv:=fun g' h1 h2=>by
  have e:g=g':=by simpa [Value.ownBlock] using h1
  subst e
  rcases hat with hat | hat
  ·exact h.atd g hat h2
  ·have:=zB h.od g h2;omega
 have o_d:=Z2 h.od hg (fun g' h1 h2=>h.atd g' h2 h1)
 refine⟨hx.setCell (Nat.le_refl _) _,?_,(xR ho (Nat.lt_succ_self _)),(xR o_r (Nat.lt_succ_self _)),(xR o_p (Nat.lt_succ_self _)),(xR o_d (Nat.lt_succ_self _)),a_r,a_p,h.arp,a_d,h.ard,h.apd⟩
 simp [World.setCell,Array.getElem?_modify,hb]
theorem LyM.grow_r (h:LyM x3 y l0 l1 l2 pc r tv rv pv dv nt nr np nd tl rl pl dl wr) (hg:wr.grownBy w1 rv.ownBlock):w1.heap[y]?=some (.cells #[l0,l1,l2,iV pc,iV r,tv,rv,pv,dv,.map none] 120 (0,0))/\Below y x3 w1:=by
 have hge:=zG h.or
 refine⟨?_,h.bel.grown hg (Nat.le_of_lt h.lt) fun q hq=>by have:=hge q hq;omega⟩
 rw [hg.block y h.lt (fun e=>by have:=hge y e.symm;omega)]
 exact h.blk
theorem LyM.push_r (h:LyM x3 y l0 l1 l2 pc r tv rv pv dv nt nr np nd tl rl pl dl wr) (ho:w1.ownsRow (y+1) 3 1 (.slice (pA g) (nr+1) cap) (nr+1) (ZL rl++[iV z])) (hg:wr.grownBy w1 rv.ownBlock) (hat:rv.ownBlock=some g\/g=H) (hH:wr.heap.size=H) :
  LyM x3 y l0 l1 l2 pc r tv (.slice (pA g) (nr+1) cap) pv dv nt (nr+1) np nd tl (rl++[z]) pl dl (w1.setCell (ad y 6) (.slice (pA g) (nr+1) cap)):=by
 obtain⟨hb,hx⟩:=h.grow_r hg
 rw [<-Vq] at ho
 have a_t:apV (.slice (pA g) (nr+1) cap) tv:=fun g' h1 h2=>by
  have e:g=g':=by simpa [Value.ownBlock] using h1
  subst e
  rcases hat with hat | hat
  ·exact h.atr.symm g hat h2
  ·have:=zB h.ot g h2;omega
 have o_t:=Z2 h.ot hg (fun g' h1 h2=>h.atr.symm g' h2 h1)
 have a_p:apV (.slice (pA g) (nr+1) cap) pv:=fun g' h1 h2=>by
  have e:g=g':=by simpa [Value.ownBlock] using h1
  subst e
  rcases hat with hat | hat
  ·exact h.arp g hat h2
  ·have:=zB h.op g h2;omega
 have o_p:=Z2 h.op hg (fun g' h1 h2=>h.arp g' h2 h1)
 have a_d:apV (.slice (pA g) (nr+1) cap) dv:=fun g' h1 h2=>by
  have e:g=g':=by simpa [Value.ownBlock] using h1
  subst e
  rcases hat with hat | hat
  ·exact h.ard g hat h2
  ·have:=zB h.od g h2;omega
 have o_d:=Z2 h.od hg (fun g' h1 h2=>h.ard g' h2 h1)
 refine⟨hx.setCell (Nat.le_refl _) _,?_,(xR o_t (Nat.lt_succ_self _)),(xR ho (Nat.lt_succ_self _)),(xR o_p (Nat.lt_succ_self _)),(xR o_d (Nat.lt_succ_self _)),a_t.symm,h.atp,a_p,h.atd,a_d,h.apd⟩
 simp [World.setCell,Array.getElem?_modify,hb]
theorem LyM.grow_p (h:LyM x3 y l0 l1 l2 pc r tv rv pv dv nt nr np nd tl rl pl dl wr) (hg:wr.grownBy w1 pv.ownBlock):w1.heap[y]?=some (.cells #[l0,l1,l2,iV pc,iV r,tv,rv,pv,dv,.map none] 120 (0,0))/\Below y x3 w1:=by
 have hge:=zG h.op
 refine⟨?_,h.bel.grown hg (Nat.le_of_lt h.lt) fun q hq=>by have:=hge q hq;omega⟩
 rw [hg.block y h.lt (fun e=>by have:=hge y e.symm;omega)]
 exact h.blk
theorem LyM.push_p (h:LyM x3 y l0 l1 l2 pc r tv rv pv dv nt nr np nd tl rl pl dl wr) (ho:w1.ownsRow (y+1) 3 1 (.slice (pA g) (np+1) cap) (np+1) (ZL pl++[iV z])) (hg:wr.grownBy w1 pv.ownBlock) (hat:pv.ownBlock=some g\/g=H) (hH:wr.heap.size=H) :
  LyM x3 y l0 l1 l2 pc r tv rv (.slice (pA g) (np+1) cap) dv nt nr (np+1) nd tl rl (pl++[z]) dl (w1.setCell (ad y 7) (.slice (pA g) (np+1) cap)):=by
 obtain⟨hb,hx⟩:=h.grow_p hg
 rw [<-Vq] at ho
 have a_t:apV (.slice (pA g) (np+1) cap) tv:=fun g' h1 h2=>by
  have e:g=g':=by simpa [Value.ownBlock] using h1
  subst e
  rcases hat with hat | hat
  ·exact h.atp.symm g hat h2
  ·have:=zB h.ot g h2;omega
 have o_t:=Z2 h.ot hg (fun g' h1 h2=>h.atp.symm g' h2 h1)
 have a_r:apV (.slice (pA g) (np+1) cap) rv:=fun g' h1 h2=>by
  have e:g=g':=by simpa [Value.ownBlock] using h1
  subst e
  rcases hat with hat | hat
  ·exact h.arp.symm g hat h2
  ·have:=zB h.or g h2;omega
 have o_r:=Z2 h.or hg (fun g' h1 h2=>h.arp.symm g' h2 h1)
 have a_d:apV (.slice (pA g) (np+1) cap) dv:=fun g' h1 h2=>by
  have e:g=g':=by simpa [Value.ownBlock] using h1
  subst e
  rcases hat with hat | hat
  ·exact h.apd g hat h2
  ·have:=zB h.od g h2;omega
 have o_d:=Z2 h.od hg (fun g' h1 h2=>h.apd g' h2 h1)
 refine⟨hx.setCell (Nat.le_refl _) _,?_,(xR o_t (Nat.lt_succ_self _)),(xR o_r (Nat.lt_succ_self _)),(xR ho (Nat.lt_succ_self _)),(xR o_d (Nat.lt_succ_self _)),h.atr,a_t.symm,a_r.symm,h.atd,h.ard,a_d⟩
 simp [World.setCell,Array.getElem?_modify,hb]
theorem LyM.grow_d (h:LyM x3 y l0 l1 l2 pc r tv rv pv dv nt nr np nd tl rl pl dl wr) (hg:wr.grownBy w1 dv.ownBlock):w1.heap[y]?=some (.cells #[l0,l1,l2,iV pc,iV r,tv,rv,pv,dv,.map none] 120 (0,0))/\Below y x3 w1:=by
 have hge:=zG h.od
 refine⟨?_,h.bel.grown hg (Nat.le_of_lt h.lt) fun q hq=>by have:=hge q hq;omega⟩
 rw [hg.block y h.lt (fun e=>by have:=hge y e.symm;omega)]
 exact h.blk
theorem LyM.push_d (h:LyM x3 y l0 l1 l2 pc r tv rv pv dv nt nr np nd tl rl pl dl wr) {z:Rd} (ho:w1.ownsRow (y+1) 185 5 (.slice (pA g) (nd+1) cap) (nd+1) (YU dl++(Zy z).toList)) (hg:wr.grownBy w1 dv.ownBlock) (hat:dv.ownBlock=some g\/g=H) (hH:wr.heap.size=H) :
  LyM x3 y l0 l1 l2 pc r tv rv pv (.slice (pA g) (nd+1) cap) nt nr np (nd+1) tl rl pl (dl++[z]) (w1.setCell (ad y 8) (.slice (pA g) (nd+1) cap)):=by
 obtain⟨hb,hx⟩:=h.grow_d hg
 rw [<-ziw] at ho
 have a_t:apV (.slice (pA g) (nd+1) cap) tv:=fun g' h1 h2=>by
  have e:g=g':=by simpa [Value.ownBlock] using h1
  subst e
  rcases hat with hat | hat
  ·exact h.atd.symm g hat h2
  ·have:=zB h.ot g h2;omega
 have o_t:=Z2 h.ot hg (fun g' h1 h2=>h.atd.symm g' h2 h1)
 have a_r:apV (.slice (pA g) (nd+1) cap) rv:=fun g' h1 h2=>by
  have e:g=g':=by simpa [Value.ownBlock] using h1
  subst e
  rcases hat with hat | hat
  ·exact h.ard.symm g hat h2
  ·have:=zB h.or g h2;omega
 have o_r:=Z2 h.or hg (fun g' h1 h2=>h.ard.symm g' h2 h1)
 have a_p:apV (.slice (pA g) (nd+1) cap) pv:=fun g' h1 h2=>by
  have e:g=g':=by simpa [Value.ownBlock] using h1
  subst e
  rcases hat with hat | hat
  ·exact h.apd.symm g hat h2
  ·have:=zB h.op g h2;omega
 have o_p:=Z2 h.op hg (fun g' h1 h2=>h.apd.symm g' h2 h1)
 refine⟨hx.setCell (Nat.le_refl _) _,?_,(xR o_t (Nat.lt_succ_self _)),(xR o_r (Nat.lt_succ_self _)),(xR o_p (Nat.lt_succ_self _)),(xR ho (Nat.lt_succ_self _)),h.atr,h.atp,h.arp,a_t.symm,a_r.symm,a_p.symm⟩
 simp [World.setCell,Array.getElem?_modify,hb]
theorem LyM.start (x3:World) (l0 l1 l2:Value) (pc r:Int):LyM x3 x3.heap.size l0 l1 l2 pc r (.slice none 0 0) (.slice none 0 0) (.slice none 0 0) (.slice none 0 0) 0 0 0 0 [] [] [] [] (x3.alloc (.cells #[l0,l1,l2,iV pc,iV r,.slice none 0 0,.slice none 0 0,.slice none 0 0,.slice none 0 0,.map none] 120)):=by
 refine⟨below_alloc1 _ _,?_,⟨rfl,.inl ⟨rfl,rfl⟩⟩,⟨rfl,.inl ⟨rfl,rfl⟩⟩,⟨rfl,.inl ⟨rfl,rfl⟩⟩,⟨rfl,.inl ⟨rfl,rfl⟩⟩,?_,?_,?_,?_,?_,?_⟩
 ·show (x3.heap.push _)[x3.heap.size]?=_
  simp
 all_goals (intro g h;cases h)
end
end Go.Proofs.YtjoapiafpahihabGreat
