import Derived.Test.YtjlfcbccpcigeacGreatDoorLaid
import Derived.Test.YtjlfcbccpcigeacGreatDoorO3
import Derived.Test.YtjlfcbccpcigeacGreatDoorP
set_option maxHeartbeats 40000000
set_option linter.defProp false
namespace Go.Proofs.YtjlfcbccpcigeacGreatDoor
open Go.Proofs.Tryz Go.RowKit Go.Joins
set_option linter.unusedVariables false
set_option linter.unusedSimpArgs false
set_option maxRecDepth 8192
theorem Ae (ws:List Li):(Z9 ws).length=ws.length:=by unfold Z9;simp
theorem Je (a b:List Li):Z9 (a++b)=Z9 a++Z9 b:=by unfold Z9;simp
def Jf (ws:List Li):∀u∈Z9 ws,u.oneCell':=by intro u a;unfold Z9 at a;obtain⟨p,-,rfl⟩:=WV.1 a;rfl
def Xq (w:wO) (B:Nat) (v:vO) (ws:List Li):Prop:=w.ownsRow B 9 1 v ws.length (Z9 ws)/\∃g c,v=.slice (pA g) ws.length c
def sx {w:wO} {B d n c:Nat} {e:TypeId} {a:Option Addr} {f:List vO} (h:w.ownsRow B e d (.slice a n c) n f) (hn:0<n):∃g,a=some (E g 0):=by
 rcases h.2 with ⟨_,h0⟩ | ⟨g,cap,b,i,_⟩
 ·lia
 simp_all
def Jg (n:Nat) (w:wO) (h0:0<n) (h:n<=300):Calls Tryz.prog 116 #[.slice none 0 0,J n] w fun e w'=>∃c,e=.returned (.slice (pA w.heap.size) 0 c)/\w'.ownsRow w.heap.size 9 1 (.slice (pA w.heap.size) 0 c) 0 []/\Bw w w':=by
 obtain⟨j,k,b,l,d⟩:=info_parts Tryz.ist9;have g:=Any8.slices_Grow_grow Tryz.growS j (.string (ByteArray.mk #[])) k b lI none 0 0 n [] w lI lI (by rw [d];lia) lI sM (fun _=>rfl) (fun a h=>by cases h);refine g.m fun e w' ⟨i,f⟩=>⟨_,i,?_,?_⟩
 ·subst f;have m:0+n<=grownCap w (0+n) 0 (Tryz.growS_ren.t 25):=grownCap_ge w _ _ _;refine⟨rfl,.inr ⟨w.z,_,_,rfl,Qc _,zm w.drew _ _,Ql _,grownCap_le_maxLen w _ _ _ (by unfold maxLen;lia),?_,sM⟩⟩;simp only [Array.size_append,size_zeroCells];show 0+(0+n - 0)*1+(grownCap w (0+n) 0 (Tryz.growS_ren.t 25) - (0+n))*1=_;lia
 subst f;exact (zL w.z w).t (Qd w.drew _)
def xg (v:vO) (zs:Li) (w:wO) (N:VarsP w) (h:zM w v zs) (hz:zs.length<=1000) :
  Cp 66 #[v] w fun e w'=>∃u,e=.returned u/\Xq w' w.heap.size u (zs.map zo)/\Bw w w':=by
 obtain⟨a,cap,rfl,h1,h2,K,L⟩:=h;unfold maxLen at h2;obtain⟨i0,hi,S,T,U⟩:=info_parts Tryz.ist9;have P:=Z K;have O:=Z L;have Q:=Z N;have G:Hid ((w.alloc (.cells #[] 9)).ownsRow w.heap.size 9 1 (vP w.heap.size 0 0) 0 (Z9 [])):=⟨rfl,.inr ⟨w.heap.size,0,#[],rfl,Qc _,zm w _ _,Qc _,Ql _,rfl,rfl⟩⟩;clear N K L;go_enter func66,ntmps66;go_wp2;go_loopw [3,9] (fun lv t wr=>∃(i:Nat) (m:Option Addr) (n:Nat),i<=zs.length/\t=J i/\lv=.slice m i n/\(∃g,m=some (E g 0))/\wr.ownsRow w.heap.size 9 1 (.slice m i n) i (Z9 ((zs.take i).map zo))/\Bw w wr) (fun _ t _=>zs.length - (intOf t).toNat)
 case atStart=>exact⟨0,_,_,Ql _,rfl,rfl,⟨_,rfl⟩,G,Qd _ _⟩
 clear G;obtain⟨i,m,n,bF,rfl,rfl,C,f,d⟩:=hrel;have aM:=Z C;clear C;have p:=Z f;have o:=Z d;obtain⟨la9,lc9,R,bz,V⟩:=zD f;injection R with hsh1 hsh2 hsh3;clear hsh1 hsh2;subst hsh3;unfold maxLen at V;have aF:=Z (zE f);have al:w.heap.size<=wr.heap.size:=d.size;by_cases k:i<zs.length
 ·have az:(i:Int)<(zs.length:Int):=oM
  obtain⟨rb,ro,he,aV,B⟩:=O oM;have aO:=(ze d rb (ro+i) aV).t (B i k);have bI:rb<wr.heap.size:=oM
  obtain⟨n1,n2⟩:=P i k;have r:Hid (Z9 ((zs.take (i+1)).map zo)=Z9 ((zs.take i).map zo)++[.string (strOfNums (zo (ak zs i)))]):=by grind [vu,pw]
  obtain⟨nv,A⟩:=nm (ak zs i);rw [A] at aO n1 n2 r;have F:=Z (fun W h=>sL nv W h n1 n2);obtain⟨c,H⟩:=nm (strOfNums (zo nv));rw [H] at F r;subst he;clear B f d A H;go_wp2_with fail;refine (F _ (Q.on o)).mr fun y l=>?_;have aL:=Z (zp p l);have q:=Z (o.t (l.m al));have X:=Z (zE (zp p l));have bJ:=q.size;have aK:Hid (∀(j:Nat) (u:vO),[Value.string c][j]?=some u->(y.alloc (.cells #[.string c] 9)).cell? (((E y.heap.size 0):Addr).add j)=some u):=px y c;clear l;go_wp2_with (at_builtin;refine QQ _ rfl (.tmp 13) (.tmp 16) 22 rfl w.heap.size 9 i0 (.string (ByteArray.mk #[])) 1 16 underlying22 hi S T U rfl tQ _ _ _ rfl (zp aL (Qd _ _)) (E y.heap.size 0) 1 1 [.string c] rfl rfl (by exact aK) (by intro u M;simp at M;subst M;rfl) mL oM sO ?_;intro v1 w1 s I b;obtain⟨x,z,rfl,-,-⟩:=zD s;have D:=Z s;have af:=Z ((q.alloc q.size (.cells #[.string c] 9)).grown I sO X);clear s I b);go_roundw
  case rel=>exact⟨i+1,x,z,oM,nQ,rfl,sx D (Nat.succ_pos _),by rw [r];exact D,af⟩
  simp [intOf];omega
 have e:i=zs.length:=oM
 subst e;have az:¬(zs.length:Int)<(zs.length:Int):=oM
 clear f d;go_wp2;go_ret;obtain⟨g,rfl⟩:=aM;refine⟨_,rfl,?_,o⟩;have h:=p;rw [Wd] at h;unfold Xq;rw [Q9];exact⟨h,g,n,rfl⟩
def xm (v:vO) (zs:Li) (w:wO) (N:VarsP w) (h:zM w v zs) (hz:zs.length<=1000) :
  Cp 73 #[v] w fun e w'=>∃u,e=.returned u/\Xq w' w.heap.size u (zs.map zo)/\Bw w w':=by
 obtain⟨a,cap,rfl,h1,h2,K,L⟩:=h;unfold maxLen at h2;obtain⟨i0,hi,S,T,U⟩:=info_parts Tryz.ist9;have P:=Z K;have O:=Z L;have Q:=Z N;have G:Hid ((w.alloc (.cells #[] 9)).ownsRow w.heap.size 9 1 (vP w.heap.size 0 0) 0 (Z9 [])):=⟨rfl,.inr ⟨w.heap.size,0,#[],rfl,Qc _,zm w _ _,Qc _,Ql _,rfl,rfl⟩⟩;clear N K L;go_enter func73,ntmps73;go_wp2;go_loopw [3,9] (fun lv t wr=>∃(i:Nat) (m:Option Addr) (n:Nat),i<=zs.length/\t=J i/\lv=.slice m i n/\(∃g,m=some (E g 0))/\wr.ownsRow w.heap.size 9 1 (.slice m i n) i (Z9 ((zs.take i).map zo))/\Bw w wr) (fun _ t _=>zs.length - (intOf t).toNat)
 case atStart=>exact⟨0,_,_,Ql _,rfl,rfl,⟨_,rfl⟩,G,Qd _ _⟩
 clear G;obtain⟨i,m,n,bF,rfl,rfl,C,f,d⟩:=hrel;have aM:=Z C;clear C;have p:=Z f;have o:=Z d;obtain⟨la9,lc9,R,bz,V⟩:=zD f;injection R with hsh1 hsh2 hsh3;clear hsh1 hsh2;subst hsh3;unfold maxLen at V;have aF:=Z (zE f);have al:w.heap.size<=wr.heap.size:=d.size;by_cases k:i<zs.length
 ·have az:(i:Int)<(zs.length:Int):=oM
  obtain⟨rb,ro,he,aV,B⟩:=O oM;have aO:=(ze d rb (ro+i) aV).t (B i k);have bI:rb<wr.heap.size:=oM
  obtain⟨n1,n2⟩:=P i k;have r:Hid (Z9 ((zs.take (i+1)).map zo)=Z9 ((zs.take i).map zo)++[.string (strOfNums (zo (ak zs i)))]):=by grind [vu,pw]
  obtain⟨nv,A⟩:=nm (ak zs i);rw [A] at aO n1 n2 r;have F:=Z (fun W h=>sL nv W h n1 n2);obtain⟨c,H⟩:=nm (strOfNums (zo nv));rw [H] at F r;subst he;clear B f d A H;go_wp2_with fail;refine (F _ (Q.on o)).mr fun y l=>?_;have aL:=Z (zp p l);have q:=Z (o.t (l.m al));have X:=Z (zE (zp p l));have bJ:=q.size;have aK:Hid (∀(j:Nat) (u:vO),[Value.string c][j]?=some u->(y.alloc (.cells #[.string c] 9)).cell? (((E y.heap.size 0):Addr).add j)=some u):=px y c;clear l;go_wp2_with (at_builtin;refine QQ _ rfl (.tmp 13) (.tmp 16) 22 rfl w.heap.size 9 i0 (.string (ByteArray.mk #[])) 1 16 underlying22 hi S T U rfl tQ _ _ _ rfl (zp aL (Qd _ _)) (E y.heap.size 0) 1 1 [.string c] rfl rfl (by exact aK) (by intro u M;simp at M;subst M;rfl) mL oM sO ?_;intro v1 w1 s I b;obtain⟨x,z,rfl,-,-⟩:=zD s;have D:=Z s;have af:=Z ((q.alloc q.size (.cells #[.string c] 9)).grown I sO X);clear s I b);go_roundw
  case rel=>exact⟨i+1,x,z,oM,nQ,rfl,sx D (Nat.succ_pos _),by rw [r];exact D,af⟩
  simp [intOf];omega
 have e:i=zs.length:=oM
 subst e;have az:¬(zs.length:Int)<(zs.length:Int):=oM
 clear f d;go_wp2;go_ret;obtain⟨g,rfl⟩:=aM;refine⟨_,rfl,?_,o⟩;have h:=p;rw [Wd] at h;unfold Xq;rw [Q9];exact⟨h,g,n,rfl⟩
def IW {a b:Nat} (h:a+b<=3000000):wrap64 ((a:Int)+(b:Int))=(a:Int)+(b:Int):=by unfold wrap64;lia
def nA (w:wO) (gs:Nat) (Rs:List (List Li)):Prop:=gs<w.heap.size/\∀i,i<Rs.length->∃g c,w.cell? (E gs i)=some (.slice (pA g) (Rs.getD i []).length c)/\(Rs.getD i []).length<=c/\c<=9223372036854775807/\g<w.heap.size/\∀j,j<(Rs.getD i []).length->w.cell? (E g j)=some (.string (strOfNums ((Rs.getD i []).getD j [])))
def nA.gE {w w':wO} {a:Nat} {Rs:List (List Li)} (h:nA w a Rs) (hb:Bw w w'):nA w' a Rs:=by refine⟨Qu h.1 hb.size,fun i hi=>?_⟩;obtain⟨g,c,h1,d,f,b,k⟩:=h.2 i hi;exact⟨g,c,(ze hb _ _ h.1).t h1,d,f,Qu b hb.size,fun j l=>(ze hb _ _ b).t (k j l)⟩
def y' {Rs:List (List Li)} {i:Nat} (h:i<Rs.length):(Rs.take (i+1)).flatten=(Rs.take i).flatten++Rs.getD i []:=by rw [Wm,Qw,Qh h,List.flatten_append];simp
def Uy (Rs:List (List Li)) (i:Nat):Nat:=(Rs.take i).flatten.length
def UJ (Rs:List (List Li)) (Q k cap:Nat) (w:wO) (hk:Rs.length=k) (h:nA w Q Rs) (bC:0<Rs.flatten.length) (hlen:Rs.flatten.length<=300) (bz:k<=cap) (aG:cap<=1000) :
  Cp 64 #[.slice (pA Q) k cap] w fun e w'=>∃u,e=.returned u/\Xq w' w.heap.size u Rs.flatten/\Bw w w':=by
 obtain⟨i0,hi,aC,aD,aE⟩:=info_parts Tryz.ist9;have bg:=Z h;have aX:=Z (Jg Rs.flatten.length w bC hlen);have F:Hid (∀i,Uy Rs i<=Rs.flatten.length):=fun i=>by unfold Uy;have:=congrArg List.length (congrArg List.flatten (qW i Rs));grind
 have bM:=h.1;have hN:Rs.flatten.length<=300:=hlen;have bh:Hid ((Rs.take k).flatten=Rs.flatten):=rQ
 obtain⟨N,H⟩:=nm Rs.flatten.length;have bD:0<N:=oM
 rw [H] at aX F hN;have aY:=Z H;have x:=Z hk;clear h hk bC hlen H;go_enter func64,ntmps64;go_wp2;go_loopw [3,11] (fun sv n wr=>wr=w/\∃i:Nat,i<=k/\n=J i/\sv=J (Uy Rs i:Int)) (fun _ n _=>k - (intOf n).toNat)
 case atStart=>exact⟨rfl,0,Ql _,rfl,rfl⟩
 obtain⟨rfl,i,bN,rfl,rfl⟩:=hrel;by_cases d:i<k
 ·have az:(i:Int)<(k:Int):=oM
  obtain⟨g,c,O,r,c3,c4,-⟩:=bg.2 i (by rw [x];exact d);have p:=Z (y' (Rs:=Rs) (i:=i) (by rw [x];exact d));have l:=F (i+1);have f:Hid (Uy Rs (i+1)=Uy Rs i+(Rs.getD i []).length):=by show _=_;unfold Uy;rw [p,Qt]
  rw [f] at l;generalize (Rs.getD i []).length=nr at *
  generalize Uy Rs i=W at *
  have bH:¬((W:Int)+(nr:Int)<0):=oM
  have bK:=Z r;have C:=IW (a:=W) (b:=nr) oM;clear l r c3 hN;go_wp2;go_roundw
  case rel=>exact⟨sM,i+1,by (clear C;omega),by (clear C;go_num),by rw [f,ET,C]⟩
  clear C;simp [intOf];omega
 have e:i=k:=oM
 subst e;have az:¬(i:Int)<(i:Int):=oM
 have I:Uy Rs i=N:=by unfold Uy;rw [bh];exact aY
 rw [I];go_wp2_with fail;refine aX.m ?_;rintro e x1 ⟨gc,rfl,ho,bj⟩;have z:Hid (x1.ownsRow wr.heap.size 9 1 (vP wr.heap.size (Uy Rs 0) gc) (Uy Rs 0) (Z9 (Rs.take 0).flatten)):=ho;have A:=Z bj;clear ho bj;go_wp2;go_loopw [6,27] (fun lv n o=>∃(j:Nat) (D:Option Addr) (v:Nat),j<=i/\n=J j/\lv=.slice D (Uy Rs j) v/\o.ownsRow wr.heap.size 9 1 (.slice D (Uy Rs j) v) (Uy Rs j) (Z9 (Rs.take j).flatten)/\Bw wr o) (fun _ n _=>i - (intOf n).toNat)
 case atStart=>exact⟨0,_,_,Ql _,rfl,rfl,z,A⟩
 clear z A;rename wO=>o;obtain⟨j,D,v,bO,rfl,rfl,t,s⟩:=hrel;have y:=Z t;have X:=Z s;obtain⟨la9,lc9,aB,aR,aP⟩:=zD t;injection aB with hsh1 hsh2 hsh3;clear hsh1 hsh2;subst hsh3;unfold maxLen at aP;have aF:=Z (zE t);have al:wr.heap.size<=o.z:=s.size;by_cases d:j<i
 ·have bG:(j:Int)<(i:Int):=oM
  obtain⟨g,c,O,r,c3,c4,c5⟩:=(bg.gE s).2 j (by rw [x];exact d);have bE:Q<o.z:=oM
  have p:=Z (y' (Rs:=Rs) (i:=j) (by rw [x];exact d));have l:=F (j+1);have f:Hid (Uy Rs (j+1)=Uy Rs j+(Rs.getD j []).length):=by show _=_;unfold Uy;rw [p,Qt]
  rw [f] at l;have aW:Hid (∀(q:Nat) (u:vO),(Z9 (Rs.getD j []))[q]?=some u->o.cell? (((E g 0):Addr).add q)=some u):=fun q u B=>by have M:q<(Rs.getD j []).length:=(by have:=(qx.1 B).1;rw [Ae] at this;exact this);have ha:((E g 0):Addr).add q=(E g q):=(by simp [Addr.add];omega);rw [ha,c5 q M];unfold Z9 at B;rw [Wc,Qh M] at B;rw [Qw,Qh M];exact B
  have G:=Z (Ae (Rs.getD j []));have bf:=Z (Jf (Rs.getD j []));obtain⟨R,hR⟩:=nm (Rs.getD j []);rw [hR] at O r l aW G bf p f;obtain⟨nr,K⟩:=nm R.length;rw [K] at O r l G f;have bL:=Z K;obtain⟨T,hT⟩:=nm ((Rs.take j).flatten);rw [hT] at y p;obtain⟨W,L⟩:=nm (Uy Rs j);rw [L];rw [L] at y l aR f aF;clear t s hR K hT L c5;go_wp2_with (at_builtin;refine QQ _ rfl (.tmp 31) (.tmp 32) 22 rfl wr.z 9 i0 (.string (ByteArray.mk #[])) 1 16 underlying22 hi aC aD aE rfl tQ _ _ _ rfl y (E g 0) nr c (Z9 R) rfl (G.t (Nat.mul_one _).s) aW bf mL oM al ?_;intro v1 w1 P gL m;obtain⟨U,V,rfl,-,-⟩:=zD P;have z:=Z P;have A:=Z (X.grown gL al aF);clear P gL m);go_roundw
  case rel =>
   refine⟨j+1,U,V,oM,nQ,?_,?_,A⟩
   ·rw [f]
   rw [f,p,Je];exact z
  simp [intOf];omega
 have e:j=i:=oM
 subst e;have bG:¬(j:Int)<(j:Int):=oM
 have S:=y;rw [bh,I] at S;have aZ:Hid (o.ownsRow wr.z 9 1 (.slice D N v) N (Z9 Rs.flatten)):=S;rw [I];clear t s S;go_wp2;go_ret;obtain⟨g9,rfl⟩:=sx aZ bD;exact⟨_,rfl,by unfold Xq;rw [aY];exact⟨aZ,g9,v,rfl⟩,X⟩
section
variable {w:wO} {B i:Nat} {v:vO} {ws:List Li}
def Zb (ws:List Li) (w:wO) (e:Ending) (w':wO):Prop:=∃u,e=.returned u/\Xq w' w.heap.size u ws/\Bw w w'
def oI (w:wO) (m:Li):Zb [m] w (.returned (.slice (pA w.heap.size) 1 1)) (w.alloc (.cells #[.string (strOfNums m)] 9)) :=
 ⟨_,rfl,⟨⟨rfl,.inr ⟨w.z,1,_,rfl,Qc _,zm w _ _,Qc _,by unfold maxLen;lia,rfl,rfl⟩⟩,_,_,rfl⟩,Qd _ _⟩
def uC (w:wO):Cp 65 #[] w (Zb [ex] w):=by have a:=Z (oI w ex);go_enter func65,ntmps65;go_wp2;go_ret;exact a.o
def DX (w:wO):Cp 71 #[] w (Zb [Uu] w):=by have a:=Z (oI w Uu);go_enter func71,ntmps71;go_wp2;go_ret;exact a.o
def xM (w:wO):Cp 33 #[] w (Zb [ZV] w):=by have a:=Z (oI w ZV);go_enter func33,ntmps33;go_wp2;go_ret;exact a.o
def yS {a:Nat} (h:Xq w B v ws) (hb:a<=B):Xq w a v ws:=⟨s3 h.1 hb,h.2⟩
def Uh {w':wO} (h:Xq w B v ws) (hb:Bw w w'):Xq w' B v ws:=⟨zp h.1 hb,h.2⟩
def uD (w:wO) (B:Nat):List vO->List (List Li)->Prop
 | [],[]=>True
 | v :: vs,R :: Rs=>Xq w B v R/\uD w B vs Rs
 | _,_=>False
def DY {u:vO} {R:List Li} (h:Xq w B u R):∃g c,u=.slice (pA g) R.length c/\R.length<=c/\c<=9223372036854775807/\g<w.heap.size/\∀j,j<R.length->w.cell? (E g j)=some (.string (strOfNums (R.getD j []))):=by
 obtain⟨⟨o,b⟩,l,k,rfl⟩:=h;rcases b with ⟨h0,_⟩ | ⟨g,cap,a,f,_,hb,hn,hm,i,d⟩
 ·cases h0
 injection f with e1 _ e3;injection e1 with e1;injection e1 with e1;subst e1 e3;unfold maxLen at hm;refine⟨_,_,rfl,hn,hm,(lo hb),fun j n=>?_⟩;rw [Qa hb];have m:(a.toList.take (R.length*1))[j]?=(Z9 R)[j]?:=by rw [d]
 grind [Z9]
def uE {a:Nat} {vs:List vO} {Rs:List (List Li)} (h:uD w B vs Rs) (b:w.heap[a]?=some (.cells vs.toArray 22 (0,0))):nA w a Rs:=by
 have key:∀(vs:List vO) (Rs:List (List Li)),uD w B vs Rs->∀i,i<Rs.length->∃u,vs[i]?=some u/\Xq w B u (Rs.getD i []):=by
  intro vs;induction vs with
  | nil=>intro Rs h i hi;cases Rs with
    | nil=>cases hi
    | cons R Rs=>exact h.elim
  | cons v vs ih=>intro Rs h i hi;cases Rs with
    | nil=>exact h.elim
    | cons R Rs =>
     cases i with
     | zero=>exact⟨v,rfl,h.1⟩
     | succ i=>exact ih Rs h.2 i (by simpa using hi)
 refine⟨(lo b),fun i hi=>?_⟩;obtain⟨u,h1,d⟩:=key vs Rs h i hi;obtain⟨g,c,rfl,k⟩:=DY d;exact⟨g,c,by rw [Qa b,qY];exact h1,k⟩
def oJ (s:Li) (w:wO) (e:Ending) (w':wO):Prop:=∃v b,e=.returned (.tuple #[J v,.bool b])/\jb s=(if b=true then some v else none)/\Bw w w'
def RP (s:Li) (v:Int) (w:wO) (c:s.length<=2000000) (h:Lib.parseIntB 64 (b8 s)=.ok v) :
  Cp 121 #[.string (strOfNums s)] w (Rt w (.tuple #[J v,.nilIface])) :=
 (Tryz.strconv_Atoi_ok (strOfNums s) (by rw [strOfNums_size];lia) v (by rw [yP,<-Lib.parseIntB_64];exact h) w).m fun e w' ⟨a,b⟩=>⟨a,by
  rcases b with rfl | ⟨t,rfl⟩
  ·exact QA _ _
  ·exact Lib.bytesWorld_below _ _ _⟩
def RQ (s:Li) (w:wO) (c:xq w) (l:s.length<=2000000) (h:∀v,Lib.parseIntB 64 (b8 s)≠.ok v) :
  Cp 121 #[.string (strOfNums s)] w fun e w'=>∃v N,e=.returned (.tuple #[J v,.iface 311 (.pointer (pA N))])/\Bw w w':=by
 obtain⟨j,g,d⟩:=c.syn;obtain⟨k,i,f⟩:=c.rng;cases b:Lib.parseIntB 64 (b8 s) with
 | ok v=>exact absurd b (h v)
 | «syntax»=>exact (Tryz.strconv_Atoi_syntax_var (strOfNums s) (by rw [strOfNums_size];lia) (by rw [yP,<-Lib.parseIntB_64];exact b) j g w d).m fun e w' ⟨N,a,_,_,hb⟩=>⟨0,N,a,hb⟩
 | range=>exact (Tryz.strconv_Atoi_range_var (strOfNums s) (by rw [strOfNums_size];lia) (by rw [yP,<-Lib.parseIntB_64];exact b) k i w f).m fun e w' ⟨N,a,_,_,hb⟩=>⟨_,N,a,hb⟩
def RR (s:Li) (w:wO) (l:xq w) (hs:By s) (k:s.length<=2000000):Cp 69 #[.string (strOfNums s)] w (oJ s w):=by
 by_cases b:∃v,Lib.parseIntB 64 (b8 s)=.ok v
 ·obtain⟨v,b⟩:=b;have hr:=Lib.parseIntB_bounds b;have h0:-9223372036854775808<=v:=by have:=hr.1;simp at this;omega
  have h1:v<=9223372036854775807:=by have:=hr.2;simp at this;omega
  have j:=Z (fun W=>RP s v W k b);have r:=Z (fun W h=>J9 v W h h0 h1);have m:=Z l;have d:Hid (jb s=if zo v=s then (if 0<=v/\v<=999999 then some v else none) else none):=by
   show _=_;rw [tF,Cj b h0 h1];by_cases e:zo v=s
   ·rw [Qf e,Qf e]
   rw [Qe e,Qe e]
  have n:((strOfNums (zo v)).toList == (strOfNums s).toList)=decide (zo v=s):=pX (BZ v) hs;clear l b hr hs k;by_cases c:0<=v
  ·by_cases f:v<=999999
   ·have i:Hid (∀y,Bw w y->oJ s w (.returned (.tuple #[J v,.bool (decide (zo v=s))])) y):=fun y g=>⟨v,_,rfl,by
     rw [d.o];by_cases e:zo v=s
     ·rw [Qf e,Qf ⟨c,f⟩,Qi e,Qf rfl]
     rw [Qe e,Qk e,Qe WM],g⟩
    obtain⟨p,o⟩:∃p,decide (zo v=s)=p:=⟨_,rfl⟩;rw [o] at n i;clear o h0 h1 d;go_enter func69,ntmps69;go_wp2_with fail;refine (j.o _).mr fun y hb=>?_;have a:=Z hb;clear hb;go_wp2_with fail;refine (r.o _ (m.o.on a.o).toVarsP).mr fun z hb=>?_;have q:=Z (a.o.t (hb.m a.o.size));clear hb;go_wp2_with fail;go_ret2;exact i.o _ q.o
   have i:Hid (∀y,Bw w y->oJ s w (.returned (.tuple #[J v,.bool false])) y):=fun y g=>⟨v,_,rfl,by rw [d.o,Qe (fun h:0<=v/\v<=999999=>f h.2)];split <;> rfl,g⟩;have u:decide (v<=999999)=false:=Qk f;have t:decide (0<=v):=Qi c;clear h0 h1 d n;go_enter func69,ntmps69;go_wp2_with fail;refine (j.o _).mr fun y hb=>?_;have a:=Z hb;clear hb;go_wp2_with fail;go_ret2;exact i.o _ a.o
  have i:Hid (∀y,Bw w y->oJ s w (.returned (.tuple #[J v,.bool false])) y):=fun y g=>⟨v,_,rfl,by rw [d.o,Qe (fun h:0<=v/\v<=999999=>c h.1)];split <;> rfl,g⟩;have t:decide (0<=v)=false:=Qk c;clear h0 h1 d n;go_enter func69,ntmps69;go_wp2_with fail;refine (j.o _).mr fun y hb=>?_;have a:=Z hb;clear hb;go_wp2_with fail;go_ret2;exact i.o _ a.o
 have j:=Z (fun W h=>RQ s W h k (fun v e=>b ⟨v,e⟩));have d:Hid (∀v y,Bw w y->oJ s w (.returned (.tuple #[J v,.bool false])) y):=fun v y g=>⟨v,_,rfl,by rw [tF,Cl fun v e=>b ⟨v,e⟩];rfl,g⟩;have m:=Z l;clear l b hs k;go_enter func69,ntmps69;go_wp2_with fail;refine (j.o _ m.o).m ?_;rintro e y ⟨v,N,rfl,hb⟩;have a:=Z hb;clear hb;go_wp2_with fail;go_ret2;exact d.o _ _ a.o
def rk (ws:List Li) (w:wO) (e:Ending) (w':wO):Prop:=∃v b,e=.returned (.tuple #[v,.bool b])/\(b=false->v=.slice none 0 0/\xB ws=none)/\(b->∃ns a c,v=.slice a ns.length c/\xB ws=some ns/\w'.ownsRow w.heap.size 3 1 v ns.length (ns.map (.int .i64)))/\Bw w w'
def DZ (h:i<ws.length):ws=ws.take i++ws.getD i [] :: ws.drop (i+1):=sA
def D0 (h:i<ws.length):ws.take (i+1)=ws.take i++[ws.getD i []]:=by rw [Wm,Qw,Qh h];rfl
def RS (a:Option Addr) (ws:List Li) (n cap:Nat) (w:wO) (Q:xq w) (hn:ws.length=n) (h:0<n->∃b o,a=some (E b o)/\ZP w b o n ws) (p:Zk ws) (aH:n<=cap) (aQ:cap<=1000) :
  Cp 32 #[.slice a n cap] w (rk ws w):=by
 obtain⟨i0,hi,aK,aL,aM⟩:=info_parts Tryz.iintP;have U:=Z Q;have T:=Z h;have r:=Z hn;have HW:=Z p;have aC:=Z (fun i W hW=>RR (ws.getD i []) W hW (p i).1 (p i).2);clear Q h hn p;go_enter func32,ntmps32;go_wp2;go_loopw [4,12] (fun v D wr=>∃(i:Nat) (f:Li) (j:Option Addr) (k:Nat),i<=n/\D=J i/\f.length=i/\v=.slice j i k/\xB (ws.take i)=some f/\wr.ownsRow w.heap.size 3 1 (.slice j i k) i (f.map (.int .i64))/\Bw w wr) (fun _ D _=>n - (intOf D).toNat)
 case atStart=>exact⟨0,[],_,_,Ql _,rfl,rfl,rfl,rfl,VL w 3,Qd _ _⟩
 obtain⟨i,f,j,k,aR,rfl,B,rfl,x,m,g⟩:=hrel;have S:=Z m;have l:=Z g;have H:=Z B;have A:=Z x;have aN:=Z (zR m);have N:w.heap.size<=wr.heap.size:=g.size;by_cases c:i<n
 ·have aJ:(i:Int)<(n:Int):=oM
  obtain⟨b,o,rfl,-,aG,I⟩:=T.o oM;have aP:=(ze g b (o+i) aG).t (I i c);have aO:b<wr.heap.size:=oM
  have X:=Z (aC.o i);have ac:=Z (DZ (ws:=ws) (i:=i) (by rw [r.o];exact c));have aF:=Z (D0 (ws:=ws) (i:=i) (by rw [r.o];exact c));generalize ws.getD i []=s at *
  clear m g B x I;go_wp2_with fail;refine (X.o _ (U.o.on l.o)).m ?_;rintro e y ⟨v,bb,rfl,M,R⟩;have t:=Z R;have K:=Z M;clear R M;cases bb with
  | false =>have q:Hid (rk ws w (.returned (.tuple #[sN,.bool false])) y):=⟨_,_,rfl,fun _=>⟨rfl,by rw [ac.o];exact wJ A.o K.o⟩,fun h=>(by cases h),l.o.t (t.o.m N)⟩;go_wp2;go_ret2;exact q.o
  | true =>
   have L:=Z (zp S.o t.o);have z:=Z (l.o.t (t.o.m N));have aS:=z.o.size;have V:=Z (zR L.o);have aE:=Z (xH y (J v) 3);go_wp2_with (at_builtin;refine QQ _ rfl (.tmp 23) (.tmp 25) 34 rfl w.heap.size 3 i0 (J 0) 1 8 underlying34 hi aK aL aM rfl tQ _ _ _ rfl (zp L.o (Qd _ _)) (E y.heap.size 0) 1 1 [J v] rfl rfl (by exact aE.o) (by intro u P;simp at P;subst P;rfl) mL oM sO ?_;intro v1 w1 C O d;obtain⟨F,G,rfl,-,-⟩:=zD C;have aD:=Z C;have az:=Z ((z.o.alloc z.o.size (Ia v 3)).grown O sO V.o);clear C O d);go_roundw
   case rel=>exact⟨i+1,f++[v],F,G,oM,nQ,by simp [H.o],rfl,by rw [aF.o];exact wI A.o K.o,by rw [QV];exact aD.o,az.o⟩
   simp [intOf];omega
 have e:i=n:=oM
 subst e;have aJ:¬(i:Int)<(i:Int):=oM
 have q:Hid (rk ws w (.returned (.tuple #[.slice j i k,.bool true])) wr):=⟨_,_,rfl,fun h=>(by cases h),fun _=>⟨f,j,k,by rw [H.o],by have h:=A.o;rw [<-r.o,Wd] at h;exact h,sA⟩,l.o⟩;clear m g B x;go_wp2;go_ret2;exact q.o
end
section
variable {w w':wO} {pb:Nat} {t:Tg} {K:Kn}
def PC (w:wO) (pb:Nat) (t:Tg):Prop:=∃x y,w.heap[pb]?=some (.cells #[J t.u0,J t.u1,J t.u2,J t.w0,J t.w1,J t.w2,J t.r,x,y] 45 (0,0))
def PC.gE (h:PC w pb t) (hb:Bw w w'):PC w' pb t:=by obtain⟨x,y,h⟩:=h;exact⟨x,y,(hb.block pb (lo h)).t h⟩
def qu {a:wO} {a0 b c:vO} {t:Tg} (d:w.alloc (.cells #[a0,b,c] 62)=a) (i:PC w pb t) (y:wO) (f:Bw a y):(y.cell? (E w.heap.size 0)=some a0/\y.cell? (E w.heap.size 1)=some b/\y.cell? (E w.heap.size 2)=some c)/\(y.cell? (E pb 0)=Y t.u0/\y.cell? (E pb 1)=Y t.u1/\y.cell? (E pb 2)=Y t.u2/\y.cell? (E pb 3)=Y t.w0/\y.cell? (E pb 4)=Y t.w1/\y.cell? (E pb 5)=Y t.w2/\y.cell? (E pb 6)=Y t.r):=by have hb:Bw w a:=d ▸ Qd _ _;have h1:a.heap[w.z]?=some (.cells #[a0,b,c] 62 (0,0)):=d ▸ zm w _ _;have g:=(f.block _ (lo h1)).t h1;obtain⟨_,_,h⟩:=i.gE (hb.tm f);refine⟨⟨?_,?_,?_⟩,?_,?_,?_,?_,?_,?_,?_⟩;all_goals first | (rw [Qa g];rfl) | (rw [Qa h];rfl)
def Zb.on {ws:List Li} {y:wO} {e:Ending} (h:Zb ws y e w') (hb:Bw w y):Zb ws w e w':=by obtain⟨u,c,a,b⟩:=h;exact⟨u,c,⟨s3 a.1 hb.size,a.2⟩,hb.tm b⟩
def qy (zs:Li) (W:wO) (b:VarsP W) (a:zs.length<=1000) (hr:∀i,i<zs.length->-9223372036854775808<=ak zs i/\ak zs i<=9223372036854775807) :
  Cp 66 #[.slice (pA W.heap.size) zs.length zs.length] (W.alloc (.cells (zs.map (Value.int .i64)).toArray 3)) (Zb (zs.map zo) W) :=
 (xg _ zs _ (b.on (Qd _ _)) (IX W zs a hr) a).m fun e w' h=>Zb.on h (Qd _ _)
def OZ {k:Nat} (a:k<K.ops.length):Ym K (k+1)=Ym K k++[(zv K.ops k).sl,(zv K.ops k).sg,(zv K.ops k).d]:=by
 unfold Ym;have h:K.ops[k]?=some (zv K.ops k):=by grind [zv]
 rw [Wm,qn,h,Wr];simp
theorem C4 (K:Kn):(Ym K K.ops.length).length=2+3*K.ops.length:=by
 unfold Ym;rw [Wd,Qt];generalize K.ops=l;induction l with
 | nil=>rfl
 | cons o l ih=>rw [List.flatMap_cons,Qt];simp at ih ⊢;lia
def C5 {L:Lp} (h:yN L t 1 (some K)):∀i,i<(Ym K K.ops.length).length->-9223372036854775808<=ak (Ym K K.ops.length) i/\ak (Ym K K.ops.length) i<=9223372036854775807:=fun i hi=>by
 obtain⟨-,h1,g,b⟩:=qB h
 unfold ak
 rw [Qw,Qh hi]
 have hm:=QW hi
 generalize (Ym K K.ops.length)[i]=z at hm
 show -9223372036854775808<=z/\z<=9223372036854775807
 unfold Ym at hm
 rw [Wd] at hm
 rcases QK.1 hm with hm | hm
 ·rcases WE.1 hm with rfl | hm
  ·lia
  ·rw [QT.1 hm];lia
 ·obtain⟨o,c,d⟩:=List.mem_flatMap.1 hm
  obtain⟨j,a,rfl⟩:=Wl.1 c
  have e:zv K.ops j=K.ops[j]:=by unfold zv;rw [Qw,Qh a];rfl
  obtain⟨r1,r2,f⟩:=b j a
  rw [e] at r1 r2 f
  simp only [WE,qK,or_false] at d
  lia
def O0 (H:Zj) (t:Tg) (L:Lp) (a0 b c:Option Addr) (i j k pb:Nat) (w:wO) (x:VarsP w) (v:zI w ((lv L a0 b c i j k)) L) (m:PC w pb t) (hm:zQ L) (I:zS t) :
  Cp 37 #[.pointer (pA pb),(lv L a0 b c i j k)] w (fun e w'=>Zb [zo ((zf L t).length:Int)] w e w'/\(zf L t).length<=9223372036854775807):=by
 obtain⟨a,g⟩:=nm (w.alloc (lC L a0 b c i j k));have f:Hid (Bw w a):=by show Below _ _ _;rw [<-g];exact Qd _ _
 have p:=Z (qu g m);have z:=Z v;have B:=Z x;have M:pb<a.heap.size:=by obtain⟨_,_,h⟩:=m;have:=(lo h);have:=f.size;omega
 have N:w.heap.size<a.z:=by rw [<-g];simp
 clear v x m;go_enter func37,ntmps37;go_wp2;refine rh 99 p (Qm _ _ 1) fun l=>?_;refine aq 0 ?_;refine aq 2 ?_;refine uk 4 ?_;refine uo 5 fun K s=>?_;go_simp;refine (H _ t L _ (z.gE (f.t (Qm _ _ 1))) (by rw [hm,I];rfl)).m ?_;rintro e n ⟨ea,O,ec,rfl,⟨G,cap,o,F,d,-⟩,y⟩;simp only [Value.slice.injEq] at o;obtain⟨rfl,rfl,rfl⟩:=o;have q:Hid (Bw a n):=(Qm _ _ 1).t (show Below a.z a.drew n from y);have l:=p _ q;clear y;refine bq s.o (.inr l) ?_;clear s K;refine aq 6 ?_;refine aq 8 ?_;refine uk 10 ?_;refine rd ?_;have r:=Z (f.tm q);have A:=Z (qy [((zf L t).length:Int)] n (B.on r) rQ (lR oM (by unfold maxLen at d;omega)));have D:Hid ((zf L t).length<=9223372036854775807):=by show _<=_;unfold maxLen at d;omega
 clear l d F;go_wp2_with fail;refine (show Calls _ _ _ _ _ from A).m ?_;intro e P h;have C:=Z (h.on r);obtain⟨u,rfl,-⟩:=h;go_wp2;go_ret;exact⟨C,D⟩
def O1 (hB:lB) (t:Tg) (L:Lp) (a0 b c:Option Addr) (g i j pb:Nat) (w:wO) (v:VarsP w) (r:zI w ((lv L a0 b c g i j)) L) (l:PC w pb t) (hm:zQ L) (s:zS t) :
  Cp 38 #[.pointer (pA pb),(lv L a0 b c g i j)] w (Zb [zo (ZL L t:Int),zo (xS L t:Int)] w):=by
 obtain⟨a,f⟩:=nm (w.alloc (lC L a0 b c g i j));have d:Hid (Bw w a):=by show Below _ _ _;rw [<-f];exact Qd _ _
 have n:=Z (qu f l);have y:=Z r;have A:=Z v;have C:pb<a.heap.size:=by obtain⟨_,_,h⟩:=l;have:=(lo h);have:=d.size;omega
 have D:w.heap.size<a.z:=by rw [<-f];simp
 clear r v l;go_enter func38,ntmps38;go_wp2;refine rh 99 n (Qm _ _ 1) fun k=>?_;refine aq 0 ?_;refine aq 2 ?_;refine uk 4 ?_;refine uo 5 fun K q=>?_;go_simp;refine (hB _ t L _ (y.gE (d.t (Qm _ _ 1))) (by rw [hm,s];rfl)).mr fun m x=>?_;have o:Hid (Bw a m):=(Qm _ _ 1).t (show Below a.z a.drew m from x);have k:=n _ o;clear x;refine bq q.o (.inr k) ?_;clear q K;refine aq 6 ?_;refine aq 8 ?_;refine aq 10 ?_;refine uk 12 ?_;refine rd ?_;have p:=Z (d.tm o);obtain⟨F,G⟩:=tZ hm s;have z:=Z (qy [(ZL L t:Int),(xS L t:Int)] m (A.on p) rQ (qA oM oM oM oM));clear k;go_wp2_with fail;refine (show Calls _ _ _ _ _ from z).m ?_;intro e H h;have B:=Z (h.on p);obtain⟨u,rfl,-⟩:=h;go_wp2;go_ret;exact B
def O2 (hX:VX) (t:Tg) (L:Lp) (a0 a1 a2:Option Addr) (gA gB gC pb:Nat) (w:wO) (hv:VarsP w) (hL:zI w ((lv L a0 a1 a2 gA gB gC)) L) (hp:PC w pb t) (hm:zQ L) (ht:zS t) :
  Cp 39 #[.pointer (pA pb),(lv L a0 a1 a2 gA gB gC)] w (fun e w'=>∃z,yN L t 1 z/\Zb (match z with
   | none=>[Uu]
   | some K=>(Ym K K.ops.length).map zo) w e w'):=by
 obtain⟨d,af⟩:=nm (w.alloc (lC L a0 a1 a2 gA gB gC))
 have D:Hid (Bw w d):=by show Below _ _ _;rw [<-af];exact Qd _ _
 have m:=Z (qu af hp)
 have HL:=Z hL
 have HV:=Z hv
 have aU:pb<d.heap.size:=by obtain⟨_,_,h⟩:=hp;have:=(lo h);have:=D.size;omega
 have aV:w.heap.size<d.heap.size:=by rw [<-af];simp
 clear hL hv hp
 go_enter func39,ntmps39
 go_wp2
 refine rh 99 m (Qm _ _ 1) fun r=>?_
 refine aq 0 ?_
 refine aq 2 ?_
 refine uk 4 ?_
 refine Xp (i:=5) (j:=10) rfl rfl kR (fun l a=>?a1) (fun l a=>?a2)
 case' a1 =>
  go_simp
  refine (hX _ t L _ (HL.gE (D.t (Qm _ _ 1)))).m ?_
  rintro e g ⟨p,k0,k1,kv,oa,ol,oc,c,rfl,-,Q⟩
  obtain⟨K,ka,kc,⟨rfl,rfl,rfl⟩,S,f⟩:=lS (Q (by rw [hm,ht];rfl))
  have O:=Z S
  have au:=Z f
  clear Q S f
  have q:Hid (Bw d g):=(Qm _ _ 1).t (show Below d.heap.size d.drew g from p)
  have r:=m _ q
  clear p
  refine bq a.o (.inr r) ?_
  clear a l
  refine aq 6 ?_
  refine aq 8 ?_
  refine zb (i:=10) rfl kR (fun l a=>?_)
  go_simp
  refine bq a.o (.inr (m _ (q.tm (Qd _ _)))) ?_
  clear a l
  refine zb (i:=11) rfl kR (fun l a=>?_)
  go_simp
  obtain⟨X,n⟩:=nm (g.alloc (.cells #[J K.pc,J K.st,.slice ka K.ops.length kc] 75))
  rw [n]
  have A:Hid (Bw d X):=by show Below _ _ _;rw [<-n];exact q.tm (Qd _ _)
  have aO:Hid (yQ X (.agg #[J K.pc,J K.st,.slice ka K.ops.length kc]) K):=by show yQ _ _ _;rw [<-n];exact O.gE (Qd _ _)
  have v:X.heap[g.heap.size]?=some (.cells #[J K.pc,J K.st,.slice ka K.ops.length kc] 75 (0,0)):=by rw [<-n];exact zm _ _ _
  refine a _ _ (.inr (m _ A)) ?_
  clear a l
  have r:=m _ A
  try simp only [Act.put,Qn,Qy,Qz]
  refine aq 12 ?_
  refine rd ?_
  obtain⟨kb,F⟩:=nm g.heap.size
  rw [F] at v ⊢
  have R:=Z v
  clear v F n q O r
 case' a2 =>
  go_simp
  refine bq a.o (.inr (m _ ((Qd _ _).t (Qm _ _ 1)))) ?_
  clear a l
  refine zb (i:=5) rfl kR (fun l a=>?_)
  go_simp
  obtain⟨W3,U⟩:=nm ((d.alloc (kB 0 0 none 0 0)).drew)
  rw [U]
  have aB:Hid (Bw d W3):=by show Below _ _ _;rw [<-U];exact (Qd _ _).t (Qm _ _ 1)
  have aF:Hid (W3.heap[d.heap.size]?=some (kB 0 0 none 0 0)):=by show _=_;rw [<-U];exact zm _ _ _
  clear U
  refine (hX _ t L _ (HL.gE (D.tm aB))).m ?_
  rintro e g ⟨p,k0,k1,kv,oa,ol,oc,c,rfl,-,Q⟩
  obtain⟨K,ka,kc,⟨rfl,rfl,rfl⟩,S,f⟩:=lS (Q (by rw [hm,ht];rfl))
  have O:=Z S
  have au:=Z f
  clear Q S f
  have q:Hid (Bw d g):=aB.tm p
  have aG:Hid (g.heap[d.heap.size]?=some (kB 0 0 none 0 0)):=(p.block _ (lo aF)).t aF
  have r:=m _ q
  clear p
  refine bq a.o (.inr r) ?_
  clear a l
  refine aq 6 ?_
  refine aq 8 ?_
  have B:=aG.o
  have V:g.c d.heap.size 0=Y 0:=cb B
  have W:g.c d.heap.size 1=Y 0:=cb B
  have c2:g.c d.heap.size 2=some sN:=cb B
  have z0:g.frozen? (E d.heap.size 0)=false:=qZ B
  have z1:g.frozen? (E d.heap.size 1)=false:=qZ B
  have z2:g.frozen? (E d.heap.size 2)=false:=qZ B
  clear B
  have aH:=Z (qH O aG)
  refine zb (i:=11) rfl kR (fun l a=>?_)
  go_simp
  obtain⟨X,n⟩:=nm (((g.st d.heap.size 0 (J K.pc)).st d.heap.size 1 (J K.st)).setCell (E d.heap.size 2) (.slice ka K.ops.length kc))
  rw [n] at aH ⊢
  have A:Hid (Bw d X):=by
   show Below _ _ _
   rw [<-n]
   exact ((q.setCell (Qc _) _).setCell (Qc _) _).setCell (Qc _) _
  refine a _ _ (.inr (m _ A)) ?_
  clear a l
  have r:=m _ A
  try simp only [Act.put,Qn,Qy,Qz]
  refine aq 12 ?_
  refine rd ?_
  obtain⟨aS,v⟩:=aH.o
  have aO:=Z aS
  obtain⟨kb,F⟩:=nm d.heap.size
  rw [F] at v
  rw [show Value.pointer (pA d.heap.size)=Value.pointer (pA kb) by rw [F]]
  have R:=Z v
  clear v F n q O r aS V W c2 z0 z1 z2 aH aB aF aG
 all_goals
  have ay:=Z (D.tm A)
  have V:X.c kb 0=Y K.pc:=cb R
  have W:X.cell? (E kb 1)=Y K.st:=cb R
  have bE:kb<X.heap.size:=(lo R)
  clear m A
  rcases au with ⟨rfl,hS⟩ | ⟨rfl,-,hS⟩
  ·have HS:=Z hS
   clear hS V W
   go_wp2_with fail
   refine (DX X).m ?_
   intro e M h
   have HR:Hid (∃z,yN L t 1 z/\Zb (match z with
    | none=>[Uu]
    | some K=>(Ym K K.ops.length).map zo) w e M):=⟨_,HS,h.on ay⟩
   obtain⟨u,rfl,-⟩:=h
   go_wp2
   go_ret
   exact HR
  ·have HS:=Z hS
   obtain⟨bz,⟨aK,aL⟩,⟨aM,aN⟩,s⟩:=qB hS
   have bg:=Z s
   have aY:=Z (C5 hS)
   have c2:X.cell? (E kb 2)=some (.slice ka K.ops.length kc):=cb R
   obtain⟨i0,hi,bG,bH,bI⟩:=info_parts Tryz.iintP
   have aP:Hid ((X.alloc (.cells #[J K.pc,J K.st] 3)).ownsRow X.heap.size 3 1 (vP X.heap.size 2 2) 2 ((Ym K 0).map (.int .i64))):=⟨rfl,.inr ⟨X.heap.size,2,_,rfl,Qc _,zm X _ _,Qc _,mL,rfl,rfl⟩⟩
   have aD:=Z (Qd X (.cells #[J K.pc,J K.st] 3))
   clear hS s aK aL aM aN
   rw [<-ze aD kb 2 bE] at c2
   have bC:kb<(X.alloc (Ib K.pc K.st 3)).heap.size:=by simp;omega
   go_wp2
   clear V W c2 bC
   go_loopw [8,32] (fun sv iv wr=>∃(k:Nat) (la:Option Addr) (lc:Nat),k<=K.ops.length/\sv=.slice la (2+3*k) lc/\iv=J k/\wr.ownsRow X.heap.size 3 1 (.slice la (2+3*k) lc) (2+3*k) ((Ym K k).map (.int .i64))/\Bw X wr) (fun _ iv _=>K.ops.length - (intOf iv).toNat)
   case atStart=>exact⟨0,_,_,Ql _,rfl,rfl,aP,aD⟩
   case round =>
    clear aP aD
    obtain⟨k,la,lc,hk,rfl,rfl,gJ,G⟩:=hrel
    have HB:=Z G
    have HO:=Z gJ
    have bF:=G.size
    by_cases T:k<K.ops.length
    ·have bD:(k:Int)<(K.ops.length:Int):=oM
     obtain⟨b,off,rfl,bh,gR⟩:=Da aO oM
     obtain⟨d0,d1,d2,d3,d4,d5,d6,d7,d8,d9⟩:=jP (w:=wr) (b:=b) (o:=off+k*10) (x:=zv K.ops k) (fun j hj=>(ze G b _ bh).t (gR k T j hj))
     have bL:b<wr.heap.size:=oM
     have aI:=Z (OZ T)
     generalize zv K.ops k=x at d0 d1 d2 d3 d4 d5 d6 d7 d8 d9 aI
     obtain⟨H,I,M,N,x4,x5,x6,x7,x8,x9⟩:=x
     (try dsimp only at d0 d1 d2 d3 d4 d5 d6 d7 d8 d9 aI)
     obtain⟨y,p⟩:=nm (wr.alloc (Ij H I M N x4 x5 x6 x7 x8 x9 79))
     have aR:Hid (Bw wr y):=by show Below _ _ _;rw [<-p];exact Qd _ _
     have P:y.heap[wr.heap.size]?=some (Ij H I M N x4 x5 x6 x7 x8 x9 79):=by rw [<-p];exact zm _ _ _
     have g0:y.c wr.heap.size 0=Y H:=cb P
     have g1:y.c wr.heap.size 1=Y I:=cb P
     have g3:y.c wr.heap.size 3=Y N:=cb P
     have bM:wr.heap.size<y.heap.size:=(lo P)
     have aQ:=Z (zp HO aR)
     have aE:=Z (HB.t (aR.m bF))
     have bN:=aE.size
     have aX:=Z (zR aQ)
     have bf:=Z (LS y (J H) (J I) (J N) 3)
     clear gJ G gR P
     go_wp2_with (at_builtin;refine QQ _ rfl (.tmp 36) (.tmp 43) 34 rfl X.heap.size 3 i0 (J 0) 1 8 underlying34 hi bG bH bI rfl tQ _ _ _ rfl (zp aQ (Qd _ _)) (E y.heap.size 0) 3 3 [J H,J I,J N] rfl rfl (by exact bf) (by intro u hu;simp at hu;rcases hu with rfl | rfl | rfl <;> rfl) mL oM sO ?_;intro v1 w1 gM gL C;obtain⟨la1,lc1,rfl,-,-⟩:=zD gM;have aZ:=Z gM;have D:=Z ((aE.alloc aE.size (Ic H I N 3)).grown gL sO aX);clear gM gL C)
     go_roundw
     case rel=>exact⟨k+1,la1,lc1,oM,by rw [show 2+3*(k+1)=2+3*k+3 by omega],nQ,by rw [aI,QV,show 2+3*(k+1)=2+3*k+3 by omega];exact aZ,D⟩
     case measure=>simp [intOf];omega
    ·have e:k=K.ops.length:=oM
     subst e
     have bD:¬(K.ops.length:Int)<(K.ops.length:Int):=oM
     have hlen:=C4 K
     have HT:=Z (xg (.slice la (2+3*K.ops.length) lc) (Ym K K.ops.length) wr (HV.on (ay.tm G)) (by have h:=HO;rw [<-hlen] at h ⊢;exact Ub h aY) oM)
     clear gJ G
     go_wp2_with fail
     refine HT.m ?_
     intro e M h
     have HR:Hid (∃z,yN L t 1 z/\Zb (match z with
      | none=>[Uu]
      | some K=>(Ym K K.ops.length).map zo) w e M):=⟨_,HS,Zb.on h (ay.tm HB)⟩
     obtain⟨u,rfl,-⟩:=h
     go_wp2
     go_ret
     exact HR
end
end Go.Proofs.YtjlfcbccpcigeacGreatDoor
