import Derived.Test.YtjlfcbccpcigeacGreatDoorA
import Derived.BigQuiet
set_option maxHeartbeats 40000000
set_option linter.defProp false
namespace Go.Proofs.YtjlfcbccpcigeacGreatDoor
open Go.Proofs.Tryz Go.RowKit Go.Joins
set_option linter.unusedVariables false
set_option linter.unusedSimpArgs false
set_option maxRecDepth 8192
section
variable {s:St}
def wB {m n k:Int} (h:yW m n k s) (a:Xh s):(0<=s.ar/\s.ar<m)/\(-64<=s.sp/\s.sp<=64)/\(-64<=s.pl/\s.pl<=64):=by
 have key:Zp m s.ar s.sp s.pl->(0<=s.ar/\s.ar<m)/\(-64<=s.sp/\s.sp<=64)/\(-64<=s.pl/\s.pl<=64):=fun h=>by grind [Zp,zH]
 grind [Xh,yW]
def Hj {a b:St} (h:jA a b):Xh a/\Xh b:=by grind [jA]
def Hk {L:Lp} (f:Yn L.l) (h1:0<=s.ar) (g:s.ar<L.l.length):∃i a:Nat,s.ar=i/\i<L.l.length/\ak L.l i=(a:Int)/\a<=5/\p2 a=(Yu L s:Int)/\0<Yu L s/\Yu L s<=32:=by
 obtain⟨i,hi⟩:=QX h1;have b:i<L.l.length:=lI
 have d:=zH.1 (zq f i b);obtain⟨a,c⟩:=QX d.1;have e:Yu L s=2 ^ a:=by grind [Yu]
 refine⟨i,a,hi,b,c,lI,?_,?_,?_⟩
 ·grind [p2]
 ·grind
 rw [e];exact QH (WP (by decide) (show a<=5 by lia)) tQ
def Hl {wr y:wO} {o1 k m o q a i f c s l n p r b j g d:Int} {t tb:TypeId} (h:Below ((wr.alloc (.cells #[J o1,J k,J m,J o,J q,J a,J i,J f,J c] t)).alloc (.cells #[J s,J l,J n,J p,J r,J b,J j,J g,J d] tb)).heap.size ((wr.alloc (.cells #[J o1,J k,J m,J o,J q,J a,J i,J f,J c] t)).alloc (.cells #[J s,J l,J n,J p,J r,J b,J j,J g,J d] tb)) y) :
  (y.cell? (E wr.heap.size 0)=Y o1/\y.cell? (E wr.heap.size 1)=Y k/\y.cell? (E wr.heap.size 2)=Y m/\y.cell? (E wr.heap.size 3)=Y o/\y.cell? (E wr.heap.size 4)=Y q/\y.cell? (E wr.heap.size 5)=Y a/\y.cell? (E wr.heap.size 6)=Y i/\y.cell? (E wr.heap.size 7)=Y f/\y.cell? (E wr.heap.size 8)=Y c) /\
  (y.cell? (E (wr.heap.size+1) 0)=Y s/\y.cell? (E (wr.heap.size+1) 1)=Y l/\y.cell? (E (wr.heap.size+1) 2)=Y n/\y.cell? (E (wr.heap.size+1) 3)=Y p/\y.cell? (E (wr.heap.size+1) 4)=Y r/\y.cell? (E (wr.heap.size+1) 5)=Y b/\y.cell? (E (wr.heap.size+1) 6)=Y j/\y.cell? (E (wr.heap.size+1) 7)=Y g/\y.cell? (E (wr.heap.size+1) 8)=Y d)/\wr.heap.size<y.heap.size/\wr.heap.size+1<y.heap.size/\Bw wr y:=by
 have u:=h.size;have hs:((wr.alloc (.cells #[J o1,J k,J m,J o,J q,J a,J i,J f,J c] t)).alloc (.cells #[J s,J l,J n,J p,J r,J b,J j,J g,J d] tb)).heap.size=wr.heap.size+1+1:=sM
 refine⟨⟨?_,?_,?_,?_,?_,?_,?_,?_,?_⟩,⟨?_,?_,?_,?_,?_,?_,?_,?_,?_⟩,oM,oM,(QB wr _ _).t (h.m oM)⟩;all_goals rw [ze h _ _ oM]
 all_goals go_simp
end
section
variable {w w':wO} {v:vO}
def On (v:vO) (L:Lp) (w:wO) (h:zI w v L) :
  Cp 79 #[v] w (Rt w (.bool (Vq L.b.length L.o))):=by
 obtain⟨v0,D,v2,rfl,-,⟨s,A,rfl,z,p,-⟩,⟨a,cap,rfl,C,hm,hr,l⟩⟩:=h;unfold maxLen at hm p;go_enter func79,ntmps79;go_wp2;go_loop [3,9] (fun t i=>∃k:Nat,k<=L.o.length/\i=J k/\t=J (lA L.o k)/\zF (oE L.b.length L.o) k) (fun _ i=>L.o.length - (intOf i).toNat)
 case atStart=>exact⟨0,Ql _,rfl,rfl,rfl⟩
 obtain⟨k,B,rfl,rfl,hall⟩:=hrel;have q:=XK L.b.length L.o k oM hall;obtain⟨u,x⟩:=q;have g:=Z hall;clear hall;by_cases d:k<L.o.length
 ·obtain⟨b,r,rfl,hb,j⟩:=l oM;have y:=j k d;clear j l;cases c:oE L.b.length L.o k with
  | true =>
   have f:=Z c;have n:br (ak L.o k) (lA L.o k+1) (L.b.length - 1):=c;clear c;go_wp2_with (go_at_call 127;refine (yE _ _ _ _).m ?_;rintro e w' ⟨rfl,rfl⟩);go_round
   case rel=>exact⟨k+1,oM,nQ,rfl,yr g f⟩
   simp [intOf];omega
  | false =>have f:=Z c;have n:br (ak L.o k) (lA L.o k+1) (L.b.length - 1)=false:=c;clear c;go_wp2_with (go_at_call 127;refine (yE _ _ _ _).m ?_;rintro e w' ⟨rfl,rfl⟩);go_ret;exact⟨zi (yd d f).s,Qd _ _⟩
 have e:k=L.o.length:=oM
 have m:Hid (Vq L.b.length L.o):=by grind [Vq]
 clear g e;go_wp2;go_ret;exact⟨zi m.s,Qd _ _⟩
def CC (v:vO) (L:Lp) (w:wO) (h:zI w v L) :
  Cp 78 #[v] w (Rt w (.bool (YA L))):=by
 have n:=h;obtain⟨v0,y,v2,rfl,-,⟨a,cap,rfl,x,hm,-⟩,-⟩:=h;unfold maxLen at hm;go_enter func78,ntmps78;go_wp2;go_loopw [7] (fun i wr=>∃k:Nat,k<=L.b.length/\i=J k/\zF (fun k=>yW L.l.length L.b.length k (zc L.b k)) k/\Below (w.heap.size+1) (w.alloc (.cells #[v0,.slice a L.b.length cap,v2] 62)) wr) (fun i _=>L.b.length - (intOf i).toNat)
 case atStart=>exact⟨0,Ql _,rfl,rfl,QA _ _⟩
 obtain⟨k,u,rfl,hall,f⟩:=hrel;have t:∀o,wr.c w.heap.size o=(w.alloc (.cells #[v0,.slice a L.b.length cap,v2] 62)).c w.z o:=fun o=>f.cell (p:=(E w.z o)) sM;have d:Bw w wr:=(Qd _ _).t (f.m oM);have m:=Z hall;clear hall;by_cases c:k<L.b.length
 ·have s:(k:Int)<(L.b.length:Int):=oM
  cases q:yW L.l.length L.b.length k (zc L.b k) with
  | true =>
   have g:=Z q;go_wp2_with (go_at_call 128;refine (Ay _ L k _ (zI.gE n d) c).m ?_;rintro e w1 ⟨rfl,j⟩);go_roundw
   case rel=>exact⟨k+1,oM,nQ,yr m g,f.t (j.m (by have:=f.size;simp at this;omega))⟩
   simp [intOf];omega
  | false =>have g:=Z q;go_wp2_with (go_at_call 128;refine (Ay _ L k _ (zI.gE n d) c).m ?_;rintro e w1 ⟨rfl,j⟩);go_ret;exact⟨zi (yd c g.o).s,d.tm j⟩
 have e:k=L.b.length:=oM
 have r:Hid (YA L):=by grind [YA]
 clear m e;go_wp2;go_ret;exact⟨zi r.s,d⟩
def Yo (v:vO) (L:Lp) (w:wO) (h:zI w v L) :
  Cp 43 #[v] w (Rt w (.bool (zQ L))):=by
 have g:=h;obtain⟨v0,N,v2,rfl,j,⟨x,F,rfl,C,t,-⟩,⟨y,G,rfl,B,n,p,m⟩⟩:=h;have d:=j;obtain⟨a0,D,rfl,z,u,r,q⟩:=j;clear r q p m;unfold maxLen at u t n;by_cases h1:(3:Int)<L.l.length
 ·have a:=Z (oF L (.inl oM));go_enter func43,ntmps43;go_wp2;go_ret;exact⟨zi a.s,Qd _ _⟩
 by_cases H:(16:Int)<L.o.length
 ·have a:=Z (oF L (.inr (.inr (.inr oM))));go_enter func43,ntmps43;go_wp2;go_ret;exact⟨zi a.s,Qd _ _⟩
 by_cases h0:L.b.length=0
 ·have a:=Z (oF L (.inr (.inl oM)));have I:((L.b.length:Int) == 0):=beq_iff_eq.2 oM;clear h0;go_enter func43,ntmps43;go_wp2;go_ret;exact⟨zi a.s,Qd _ _⟩
 have A:((L.b.length:Int) == 0)=false:=QM.2 oM;have M:1<=L.b.length:=oM
 clear h0;by_cases K:(16:Int)<L.b.length
 ·have a:=Z (oF L (.inr (.inr (.inl oM))));go_enter func43,ntmps43;go_wp2;go_ret;exact⟨zi a.s,Qd _ _⟩
 have a:=Z (Rn L oM oM oM);cases f:Yn L.l with
 | false =>go_enter func43,ntmps43;go_wp2_with (go_at_call 77;refine (UR _ L.l _ (zM.gE d (Qd _ _))).m ?_;rintro e w' ⟨rfl,rfl⟩);go_ret;exact⟨zi (by rw [a,f];rfl),Qd _ _⟩
 | true =>
  cases i:YA L with
  | false =>
   go_enter func43,ntmps43
   go_wp2_with (first
    | (go_at_call 77;refine (UR _ L.l _ (zM.gE d (Qd _ _))).m ?_;rintro e w' ⟨rfl,rfl⟩)
    | (go_at_call 78;refine (CC _ L _ (zI.gE g (Qd _ _))).mr fun w1 c=>?_;have s:=ze c))
   go_ret;exact⟨zi (by rw [a,f,i,Ew]),(Qd _ _).t (c.m sM)⟩
  | true =>
   go_enter func43,ntmps43
   go_wp2_with (first
    | (go_at_call 77;refine (UR _ L.l _ (zM.gE d (Qd _ _))).m ?_;rintro e w' ⟨rfl,rfl⟩)
    | (go_at_call 78;refine (CC _ L _ (zI.gE g (Qd _ _))).mr fun w1 c=>?_;have s:=ze c)
    | (go_at_call 79;refine (On _ L _ (zI.gE g ((Qd _ _).t (c.m sM)))).m ?_;rintro e w2 ⟨rfl,k⟩))
   go_ret;exact⟨zi (by rw [a,f,i,qE];rfl),((Qd _ _).t (c.m sM)).t (k.m (by have:=c.size;simp at this;omega))⟩
def yu (w:wO) (v:vO) (rs:List Li):Prop :=
 ∃ a cap,v=.slice a rs.length cap/\rs.length<=cap/\cap<=maxLen /\
   (0<rs.length->∃b off,a=some (E b off)/\b<w.heap.size/\∀i,i<rs.length->∃u,w.cell? (E b (off+i))=some u/\zM w u (zB rs i))
def yu.gE {rs:List Li} (h:yu w v rs) (hb:Bw w w'):yu w' v rs:=by obtain⟨a,cap,e,h1,f,g⟩:=h;refine⟨a,cap,e,h1,f,fun m=>?_⟩;obtain⟨b,c,d,j,k⟩:=g m;refine⟨b,c,d,Qu j hb.size,fun i hi=>?_⟩;obtain⟨u,n,l⟩:=k i hi;exact⟨u,by grind [ze],l.gE hb⟩
def Vk (w:wO) (v:vO) (B M:List Li):Prop:=∃v0 v1,v=.agg #[v0,v1]/\yu w v0 B/\yu w v1 M
def Vk.gE {B M:List Li} (h:Vk w v B M) (hb:Bw w w'):Vk w' v B M:=by obtain⟨v0,b,e,h1,a⟩:=h;exact⟨v0,b,e,h1.gE hb,a.gE hb⟩
theorem qg (x:Int) (h0:0<=x) (a:x<=5):wrap64 (2 ^ x.toNat)=((2 ^ x.toNat:Nat):Int):=by
 have h:x=0\/x=1\/x=2\/x=3\/x=4\/x=5:=lI
 rcases h with rfl | rfl | rfl | rfl | rfl | rfl <;> simp [wrap64]
def Oo (n:Nat) (x:Int) (h0:0<=x) (a:x<=5):((n:Int) != wrap64 (2 ^ x.toNat))=!decide (n=2 ^ x.toNat):=by
 grind [qg]
def tJ (v s:vO) (L:Lp) (B M:List Li) (w:wO) (h:zI w v L) (hs:Vk w s B M) :
  Cp 97 #[v,s] w (Rt w (.bool (xP L B M))):=by
 have y:=h;have hS:=hs;obtain⟨v0,v1,v2,rfl,hI,⟨a1,gB,rfl,az,X,-⟩,-⟩:=h;obtain⟨a0,gA,rfl,aG,au,o,g⟩:=hI;obtain⟨s0,s1,rfl,⟨ba,bcap,rfl,bl,bm,bc⟩,⟨ma,R,rfl,ml,mm,m⟩⟩:=hs;unfold maxLen at au X bm mm;cases P:zQ L with
 | false =>
  have a:Hid (xP L B M=false):=by show xP L B M=false;grind [xP]
  clear bc m g o;go_enter func97,ntmps97;go_wp2_with (go_at_call 43;refine (Yo _ L _ (zI.gE y (QB _ _ _))).mr fun w1 d=>?_;have A:=ze d);go_ret;exact⟨zi a.s,(QB _ _ _).t (d.m sO)⟩
 | true =>
  obtain⟨p1,p2,p3,p4,z,p6,p7⟩:=zy P;clear p2 p3 p4 p6 p7;by_cases h1:B.length=L.b.length
  ·by_cases x:M.length=L.l.length
   ·have b1:((B.length:Int) != (L.b.length:Int))=false:=(by simp;omega);have b2:((M.length:Int) != (L.l.length:Int))=false:=(by simp;omega);have S:=Z h1;have G:=Z x;clear h1 x;go_enter func97,ntmps97;go_wp2_with (go_at_call 43;refine (Yo _ L _ (zI.gE y (QB _ _ _))).mr fun w1 d=>?_;have A:=ze d);have n:Bw w w1:=(QB _ _ _).t (d.m sO);have aR:w.heap.size+1<w1.heap.size:=(by have:=d.size;simp at this;omega);go_loop [33] (fun i=>∃k:Nat,k<=B.length/\i=J k/\zF (fun i=>decide ((zB B i).length=3)) k) (fun i=>B.length - (intOf i).toNat)
    case atStart=>exact⟨0,Ql _,rfl,rfl⟩
    obtain⟨k,hk,rfl,hall⟩:=hrel;have H:=Z hall;clear hall;by_cases c:k<B.length
    ·obtain⟨b,D,rfl,hb,q⟩:=bc oM;obtain⟨u,C,⟨ra,r,rfl,rl,F,-,-⟩⟩:=q k c;unfold maxLen at F;rw [<-ze n _ _ hb] at C;clear q bc m g o;by_cases f:(zB B k).length=3
     ·have a:=Z f;have t:(((zB B k).length:Int) != 3)=false:=(by simp;omega);clear f;go_wp2;go_round
      case rel=>exact⟨k+1,oM,nQ,yr H (Qi a)⟩
      simp [intOf];omega
     have a:Hid (xP L B M=false):=(by show xP L B M=false;unfold xP;rw [yd (p:=fun i=>decide ((zB B i).length=3)) c (Qk f),Ew,WI]);have t:(((zB B k).length:Int) != 3):=(by simp;omega);clear f;go_wp2;go_ret;exact⟨zi a.s,n⟩
    have e:k=B.length:=(by omega);subst e;clear bc c;go_wp2;go_loop [44] (fun i=>∃k:Nat,k<=M.length/\i=J k/\zF (fun i=>decide ((zB M i).length=2 ^ (ak L.l i).toNat)) k) (fun i=>M.length - (intOf i).toNat)
    case atStart=>exact⟨0,Ql _,rfl,rfl⟩
    obtain⟨j,hj,rfl,N⟩:=hrel;have I:=Z N;clear N;by_cases c:j<M.length
    ·obtain⟨b,D,rfl,hb,q⟩:=m oM;obtain⟨u,C,⟨ra,r,rfl,rl,F,-,-⟩⟩:=q j c;unfold maxLen at F;rw [<-ze n _ _ hb] at C;have O:j<L.l.length:=(by have:=G.o;omega);obtain⟨lb,Q,rfl,V,K⟩:=g oM;have W:=K j O;rw [<-ze n _ _ V] at W;have ao:=zH.1 (zq z j O);obtain⟨T,U⟩:=ao;have aM:(j:Int)<(L.l.length:Int):=(by omega);clear q m g o K z;have t:=Oo (zB M j).length (ak L.l j) T U;by_cases f:(zB M j).length=2 ^ (ak L.l j).toNat
     ·rw [Qi f] at t;have a:=Z f;clear f;go_wp2;go_round
      case rel=>exact⟨j+1,oM,nQ,yr I.o (Qi a.o)⟩
      simp [intOf];omega
     rw [Qk f] at t;have a:Hid (xP L B M=false):=(by show xP L B M=false;unfold xP;rw [yd (p:=fun i=>decide ((zB M i).length=2 ^ (ak L.l i).toNat)) c (Qk f),Ew]);clear f;go_wp2;go_ret;exact⟨zi a.o.s,n⟩
    have e:j=M.length:=(by omega);subst e;have a:Hid (xP L B M):=(by show xP L B M;unfold xP;rw [I.o,H.o,P,Qi S.o,Qi G.o];rfl);clear c m g o;go_wp2;go_ret;exact⟨zi a.o.s,n⟩
   have a:Hid (xP L B M=false):=(by show xP L B M=false;unfold xP;rw [Qk x,Ew,WI,WI]);have b1:((B.length:Int) != (L.b.length:Int))=false:=(by simp;omega);have b2:((M.length:Int) != (L.l.length:Int)):=(by simp;omega);clear h1 x bc m g o z;go_enter func97,ntmps97;go_wp2_with (go_at_call 43;refine (Yo _ L _ (zI.gE y (QB _ _ _))).mr fun w1 d=>?_;have A:=ze d);go_ret;exact⟨zi a.s,(QB _ _ _).t (d.m sO)⟩
  have a:Hid (xP L B M=false):=by show xP L B M=false;grind [xP]
  have b1:((B.length:Int) != (L.b.length:Int)):=by simp;omega
  clear h1 bc m g o z;go_enter func97,ntmps97;go_wp2_with (go_at_call 43;refine (Yo _ L _ (zI.gE y (QB _ _ _))).mr fun w1 d=>?_;have A:=ze d);go_ret;exact⟨zi a.s,(QB _ _ _).t (d.m sO)⟩
end
def xG (x:Int) (h0:-9223372036854775808<=x) (h1:x<=9223372036854775807):IntKind.i64.wrap x=x:=by rw [Wq];lia
section
variable {p:Int} {l:List Ed} {a:Nat->Int} {n q:Nat} {L:Lp} {t:Tg}
def Tryz.i98:(prog.info? 98).map (fun i=>(i.zero,i.size,i.bytes))=some (some (.agg #[J 0,J 0,J 0,J 0]),4,32):=kR
def ZG {w wr:wO} {v0 a v2:vO} {t:Tg} {b tb:TypeId} (h:Below (w.heap.size+1+1) ((w.alloc (.cells #[v0,a,v2] b)).alloc (.cells #[J t.u0,J t.u1,J t.u2,J t.w0,J t.w1,J t.w2,J t.r] tb)) wr) :
  (wr.cell? (E w.heap.size 0)=some v0/\wr.cell? (E w.heap.size 1)=some a/\wr.cell? (E w.heap.size 2)=some v2) /\
  (wr.cell? (E (w.heap.size+1) 0)=Y t.u0/\wr.cell? (E (w.heap.size+1) 1)=Y t.u1/\wr.cell? (E (w.heap.size+1) 2)=Y t.u2/\wr.cell? (E (w.heap.size+1) 3)=Y t.w0/\wr.cell? (E (w.heap.size+1) 4)=Y t.w1/\wr.cell? (E (w.heap.size+1) 5)=Y t.w2/\wr.cell? (E (w.heap.size+1) 6)=Y t.r)/\w.heap.size<wr.heap.size/\w.heap.size+1<wr.heap.size/\Bw w wr:=by
 have hs:((w.alloc (.cells #[v0,a,v2] b)).alloc (.cells #[J t.u0,J t.u1,J t.u2,J t.w0,J t.w1,J t.w2,J t.r] tb)).heap.size=w.heap.size+1+1:=sM
 have d:=h.size;have c:Below ((w.alloc (.cells #[v0,a,v2] b)).alloc (.cells #[J t.u0,J t.u1,J t.u2,J t.w0,J t.w1,J t.w2,J t.r] tb)).heap.size ((w.alloc (.cells #[v0,a,v2] b)).alloc (.cells #[J t.u0,J t.u1,J t.u2,J t.w0,J t.w1,J t.w2,J t.r] tb)) wr:=by rw [hs];exact h
 refine⟨⟨?_,?_,?_⟩,⟨?_,?_,?_,?_,?_,?_,?_⟩,oM,oM,(QB w _ _).t (h.m oM)⟩;all_goals rw [ze c _ _ oM]
 all_goals go_simp
def Yh (a b:List Ed):List Ed:=a++b
theorem oK (a:List Ed):Yh a []=a:=WJ a
theorem uL (a b:List Ed):(Yh a b).length=a.length+b.length:=Qt
def Zj:Prop:=∀(v:vO) (t:Tg) (L:Lp) (w:wO),zI w v L->(zQ L && zS t)=true ->
 Cp 22 #[v,.agg t.cells] w fun e w'=>∃a n c,e=.returned (.tuple #[.slice a n c,J 0])/\ZD w' (.slice a n c) (zf L t)/\Bw w w'
theorem Tryz.j3:(prog.info? 3).map (fun i=>(i.zero,i.size,i.bytes))=some (some (J 0),1,8):=kR
def kt (n:Nat) (e:Ed):Prop:=∃fr to bk wt:Nat,e=⟨fr,to,bk,wt⟩/\fr<n/\to<n/\bk<=32/\wt<=6
def Em:∀k,k<=l.length->zF (fun j=>jF p a (zJ l j)) k->yR p l a k=a:=by
 intro k;induction k with
 | zero=>exact fun _ _=>rfl
 | succ k ih =>intro d h;have h1:zF (fun j=>jF p a (zJ l j)) k:=yk fun j c=>zq h j lI;show V0 p (yR p l a k) (zJ l k)=a;rw [ih lI h1];have b:=QI (zq h k lI);unfold V0;rw [Qe lI]
def uM {B:Int} (f:0<=p) (d:∀e∈l,kt n e) (c:∀v,a v<=B):∀k,k<=l.length->∀v,yR p l a k v<=B+6*k:=by
 intro k;induction k with
 | zero=>intro _ v;have:=c v;show a v<=_;lia
 | succ k ih =>
  intro q v;show V0 p (yR p l a k) (zJ l k) v<=_;by_cases h:V0 p (yR p l a k) (zJ l k) v=yR p l a k v
  ·grind
  obtain⟨h1,b⟩:=s4 h;rw [b];have g:=ih lI (zJ l k).fr.toNat;obtain⟨fr,to,bk,wt,o,-,-,i,j⟩:=d _ (Vb (show k<l.length by lia));have m:0<=p*(bk:Int):=Ws f lI;grind [Vn]
def Ey (b:0<=p) (a:∀e∈l,kt n e):∀r v,zt p l r v<=6*((r*l.length:Nat):Int):=by
 intro r;induction r with
 | zero=>intro v;show (0:Int)<=_;lia
 | succ r ih =>intro v;have:=uM b a ih l.length (Qc _) v;show yR p l (zt p l r) l.length v<=_;rw [Eo,ET];lia
def EB (r v:Nat):0<=zt p l r v:=Ys p l v 0 r (Ql _)
def ED (r k v:Nat):0<=yR p l (zt p l r) k v:=WK (EB r v) (mU p l _ v 0 k (Ql _))
def EE {p:Nat->Bool} {k:Nat} (h:∀q,q<k->p q=false):jz p k=false:=by grind [nk]
def EH (hm:zQ L) (i:1<=q) (h:xC L.b.length (zf L t) q) (c:∀a:Nat,1<=a->a<q->xC L.b.length (zf L t) a=false):xS L t=q:=by
 obtain⟨h1,d,f,g⟩:=tg 95 1 (th (t:=t) hm);by_cases e:XA (fun p:Nat=>xC L.b.length (zf L t) p) 95 1=q
 ·exact e
 grind
def EK (hm:zQ L) (d:∀a:Nat,1<=a->a<q->xC L.b.length (zf L t) a=false):q<=96:=by obtain⟨h1,f,i,j⟩:=tg 95 1 (th (t:=t) hm);refine Classical.byContradiction fun h=>?_;have g:=d _ f lI;have c:xC L.b.length (zf L t) (XA (fun p:Nat=>xC L.b.length (zf L t) p) 95 1:Nat):=h1;rw [g] at c;cases c
def lB:Prop:=∀(v:vO) (t:Tg) (L:Lp) (w:wO),zI w v L->(zQ L && zS t)=true ->
 Cp 23 #[v,.agg t.cells] w (Rt w (.tuple #[J (ZL L t),J (xS L t),J 0]))
end
section
variable {w:wO} {P:Int} {T:Li} {L:Lp} {t:Tg}
def Xs (w:wO) (v:vO) (P:Int) (T:Li):Prop:=∃tv,v=.agg #[J P,tv]/\zM w tv T
def Xs.gE {w':wO} {v:vO} (h:Xs w v P T) (hb:Bw w w'):Xs w' v P T:=by obtain⟨tv,e,h1⟩:=h;exact⟨tv,e,h1.gE hb⟩
def Ou (h:(zQ L && zS t)=false\/P<1\/200<P\/T.length≠L.b.length):zZ L t P T=false:=by
 cases e:zZ L t P T with
 | false=>rfl
 | true =>
  obtain⟨h1,a,c,d,f,-⟩:=yw e;grind
def Ov (h1:(zQ L && zS t)) (a:1<=P) (c:P<=200) (d:T.length=L.b.length):zZ L t P T=(zF (VS L t P T) T.length && zF (fun i=>UM P T (zJ (zf L t) i)) (zf L t).length):=by
 grind [zZ,yh]
def Z3 {wr:wO} {a0 a c i:Option Addr} {d f g tc:Nat} {t:Tg} (h:Below (w.heap.size+1+1+1) (((w.alloc (lC L a0 a c d f g)).alloc (tO t)).alloc (.cells #[J P,.slice i T.length tc] 110)) wr):(wr.cell? (E w.heap.size 0)=some (.slice a0 L.l.length d)/\wr.cell? (E w.heap.size 1)=some (.slice a L.b.length f)/\wr.cell? (E w.heap.size 2)=some (.slice c L.o.length g)) /\
  (wr.cell? (E (w.heap.size+1) 0)=Y t.u0/\wr.cell? (E (w.heap.size+1) 1)=Y t.u1/\wr.cell? (E (w.heap.size+1) 2)=Y t.u2/\wr.cell? (E (w.heap.size+1) 3)=Y t.w0/\wr.cell? (E (w.heap.size+1) 4)=Y t.w1/\wr.cell? (E (w.heap.size+1) 5)=Y t.w2/\wr.cell? (E (w.heap.size+1) 6)=Y t.r) /\
  (wr.cell? (E (w.heap.size+1+1) 0)=Y P/\wr.cell? (E (w.heap.size+1+1) 1)=some (.slice i T.length tc))/\w.heap.size+1+1<wr.heap.size/\Bw w wr:=by
 have hs:(((w.alloc (lC L a0 a c d f g)).alloc (tO t)).alloc (.cells #[J P,.slice i T.length tc] 110)).heap.size=w.heap.size+1+1+1:=sM
 have k:=h.size;have j:Below (((w.alloc (lC L a0 a c d f g)).alloc (tO t)).alloc (.cells #[J P,.slice i T.length tc] 110)).heap.size (((w.alloc (lC L a0 a c d f g)).alloc (tO t)).alloc (.cells #[J P,.slice i T.length tc] 110)) wr:=by rw [hs];exact h
 refine⟨⟨?_,?_,?_⟩,⟨?_,?_,?_,?_,?_,?_,?_⟩,⟨?_,?_⟩,oM,(QJ w _ _ _).t (h.m oM)⟩;all_goals rw [ze j _ _ oM]
 all_goals go_simp
def qm (o:Int):∃a:Nat,ye o=(a:Int)/\a<3:=by
 rcases VA o with h | h | h
 ·exact⟨0,h,lI⟩
 ·exact⟨1,h,lI⟩
 exact⟨2,h,lI⟩
def xR (L:Lp) (t:Tg) (k:Nat):Int:=xz (fun i=>yj t (zc L.b i).o) k
def xU (L:Lp) (t:Tg):Int:=xR L t L.b.length
def Y4 (o:Int) (h:zS t):1<=yj t o/\yj t o<=6:=by
 obtain⟨h1,a,b,-,-⟩:=yi h;have h1:=yG h1;have a:=yG a;have b:=yG b;grind [yj,Xb]
def tK (h:zS t):∀k,0<=xR L t k/\xR L t k<=6*k:=by
 intro k;induction k with
 | zero=>exact⟨QR _,QR _⟩
 | succ k ih =>have:=Y4 (zc L.b k).o h;show 0<=xR L t k+yj t (zc L.b k).o/\xR L t k+yj t (zc L.b k).o<=_;lia
def tL:Prop:=∀(v pv:vO) (t:Tg) (L:Lp) (P:Int) (T:Li) (w:wO),zI w v L->Xs w pv P T->zZ L t P T=true ->
 Calls Tryz.prog 145 #[v,.agg t.cells,pv] w (Rt w (.bool true))
end
section
variable {w w':wO} {v:vO}
def yZ (x:bt):Array vO:=#[J x.sl,J x.sg,J x.o,J x.d,J x.a,J x.b,J x.ar,J x.sp,J x.pl,J x.nn]
def Y5 (w:wO) (v:vO) (l:List bt):Prop :=
 ∃ a cap,v=.slice a l.length cap/\l.length<=cap/\cap<=maxLen /\
   (0<l.length->∃blk off,a=some (E blk off)/\blk<w.heap.size/\∀i,i<l.length->∀j,j<10->w.cell? (E blk (off+i*10+j))=(yZ (zv l i))[j]?)
def Y5.gE {l:List bt} (h:Y5 w v l) (hb:Bw w w'):Y5 w' v l:=by obtain⟨a,cap,e,h1,f,g⟩:=h;refine⟨a,cap,e,h1,f,fun m=>?_⟩;obtain⟨b,c,d,k,n⟩:=g m;exact⟨b,c,d,Qu k hb.size,fun i hi j o=>by grind [ze]⟩
def yQ (w:wO) (v:vO) (K:Kn):Prop:=∃kv,v=.agg #[J K.pc,J K.st,kv]/\Y5 w kv K.ops
def yQ.gE {K:Kn} (h:yQ w v K) (hb:Bw w w'):yQ w' v K:=by obtain⟨kv,e,h1⟩:=h;exact⟨kv,e,h1.gE hb⟩
def jP {b o:Nat} {x:bt} (h:∀j,j<10->w.cell? (E b (o+j))=(yZ x)[j]?) :
  w.cell? (E b o)=Y x.sl/\w.cell? (E b (o+1))=Y x.sg/\w.cell? (E b (o+2))=Y x.o/\w.cell? (E b (o+3))=Y x.d/\w.cell? (E b (o+4))=Y x.a /\
   w.cell? (E b (o+5))=Y x.b/\w.cell? (E b (o+6))=Y x.ar/\w.cell? (E b (o+7))=Y x.sp/\w.cell? (E b (o+8))=Y x.pl/\w.cell? (E b (o+9))=Y x.nn :=
 ⟨h 0 lI,h 1 lI,h 2 lI,h 3 lI,h 4 lI,h 5 lI,h 6 lI,h 7 lI,h 8 lI,h 9 lI⟩
def zN (n lo hi:Int) (w:wO) :
  Cp 105 #[J n,J lo,J hi] w (Re w (.bool (br n lo hi))):=by
 by_cases h:lo<=n/\n<=hi
 ·rw [yh h];obtain⟨h1,a⟩:=h;go_enter func105,ntmps105;go_wp2;go_ret;exact⟨rfl,rfl⟩
 rw [X0 h];by_cases h1:lo<=n
 ·have a:¬n<=hi:=fun a=>h ⟨h1,a⟩;clear h;go_enter func105,ntmps105;go_wp2;go_ret;exact⟨rfl,rfl⟩
 clear h;go_enter func105,ntmps105;go_wp2;go_ret;exact⟨rfl,rfl⟩
def Zu (op:Int) (w:wO):Cp 81 #[J op] w (Re w (J (xc op))):=by
 rcases US op with ⟨h,a⟩ | ⟨h,c,a⟩ | ⟨h,c,a⟩
 ·have b:=Z a;have hb:(op == 4):=by simpa using h
  clear h a;go_enter func81,ntmps81;go_wp2;go_ret;exact⟨xe b.s,rfl⟩
 ·have b:=Z a;have hb:(op == 4)=false:=by simpa using h
  clear h a;go_enter func81,ntmps81;go_wp2_with (go_at_call 127;refine (yE _ _ _ _).m ?_;rintro e w' ⟨rfl,rfl⟩);go_ret;exact⟨xe b.s,rfl⟩
 have b:=Z a;have hb:(op == 4)=false:=by simpa using h
 clear h a;go_enter func81,ntmps81;go_wp2_with (go_at_call 127;refine (yE _ _ _ _).m ?_;rintro e w' ⟨rfl,rfl⟩);go_ret;exact⟨xe b.s,rfl⟩
def G9 (pc st:Int) (kv:vO) (sl sg o d a b ar sp pl nn:Int) (w:wO) (r:1<=pc) (h:pc<=200) (s:1<=st) (j:st<=1001) :
  Cp 162 #[.agg #[J pc,J st,kv],.agg #[J sl,J sg,J o,J d,J a,J b,J ar,J sp,J pl,J nn]] w (Rt w (.bool (xL pc st ⟨sl,sg,o,d,a,b,ar,sp,pl,nn⟩))):=by
 have f:Hid (xL pc st ⟨sl,sg,o,d,a,b,ar,sp,pl,nn⟩=(br sl 0 (pc - 1) && br sg 0 (st - 1) && decide (sg*pc+sl<=1000))):=rfl;cases h1:br sl 0 (pc - 1) with
 | false =>
  have c:Hid (xL pc st ⟨sl,sg,o,d,a,b,ar,sp,pl,nn⟩=false):=sA
  clear f;go_enter func162,ntmps162;go_wp2_with (go_at_call 105;refine (zN _ _ _ _).m ?_;rintro e w' ⟨rfl,rfl⟩);go_ret;exact⟨zi c.s,QB _ _ _⟩
 | true =>
  cases g:br sg 0 (st - 1) with
  | false =>have c:Hid (xL pc st ⟨sl,sg,o,d,a,b,ar,sp,pl,nn⟩=false):=(by simp_all);clear f;go_enter func162,ntmps162;go_wp2_with (go_at_call 105;refine (zN _ _ _ _).m ?_;rintro e w' ⟨rfl,rfl⟩);go_ret;exact⟨zi c.s,QB _ _ _⟩
  | true =>have hs:=zH.1 h1;have i:=zH.1 g;obtain⟨k,l⟩:=hs;obtain⟨m,n⟩:=i;have p:0<=pc*sg:=Ws oM oM;have q:pc*sg<=200*1001:=Wy h oM oM oM;have c:Hid (xL pc st ⟨sl,sg,o,d,a,b,ar,sp,pl,nn⟩=decide (sl+pc*sg<=1000)):=(by show _=_;rw [f,h1,g,Er sg pc,Int.add_comm];rfl);clear f;go_enter func162,ntmps162;go_wp2_with (go_at_call 105;refine (zN _ _ _ _).m ?_;rintro e w' ⟨rfl,rfl⟩);go_ret;exact⟨zi c.s,QB _ _ _⟩
def Ha (t:Tg) (sl sg o d a b ar sp pl nn:Int) (w:wO) (l:1<=t.r) (m:t.r<=128) (j:xc o=0) (n:br d 0 (t.r - 1)) :
  Cp 163 #[(tV t),.agg #[J sl,J sg,J o,J d,J a,J b,J ar,J sp,J pl,J nn]] w (Rt w (.bool (br a 0 (0) && br b 0 (0)))):=by
 have k:Hid (∀W,Cp 81 #[J o] W (Re W (J 0))):=fun W=>j ▸ Zu o W;clear j;obtain⟨ra,c⟩:∃z,br a 0 (0)=z:=⟨_,rfl⟩;obtain⟨rb,f⟩:∃z,br b 0 (0)=z:=⟨_,rfl⟩;have g:Hid (∀W,Cp 105 #[J a,J 0,J (0)] W (Re W (.bool ra))):=fun W=>c ▸ zN a 0 (0) W;have h:Hid (∀W,Cp 105 #[J b,J 0,J (0)] W (Re W (.bool rb))):=fun W=>f ▸ zN b 0 (0) W;rw [c,f];clear c f;go_enter func163,ntmps163
 go_wp2_with (first
  | (go_at_call 105;refine (zN _ _ _ _).m ?_;rintro e w' ⟨rfl,rfl⟩)
  | (go_at_call 81;refine (k _).m ?_;rintro e w' ⟨rfl,rfl⟩))
 go_loopw [25] (fun i wr=>wr=(((w.alloc (tO t)).alloc (Ij sl sg o d a b ar sp pl nn 79)).alloc (Ib a b 3))/\(i=J 0\/(i=J 1/\ra)\/(i=J 2/\ra/\rb))) (fun i _=>2 - (intOf i).toNat)
 case atStart=>exact⟨rfl,.inl rfl⟩
 obtain⟨rfl,hrel⟩:=hrel;rcases hrel with rfl | ⟨rfl,rfl⟩ | ⟨rfl,rfl,rfl⟩
 ·cases ra with
  | false =>go_wp2_with (go_at_call 105;refine (g _).m ?_;rintro e w' ⟨rfl,rfl⟩);go_ret;exact⟨rfl,QJ _ _ _ _⟩
  | true =>
   go_wp2_with (go_at_call 105;refine (g _).m ?_;rintro e w' ⟨rfl,rfl⟩);go_roundw
   case rel=>exact⟨sM,.inr (.inl ⟨rfl,trivial⟩)⟩
   simp [intOf]
 ·cases rb with
  | false =>go_wp2_with (go_at_call 105;refine (h _).m ?_;rintro e w' ⟨rfl,rfl⟩);go_ret;exact⟨rfl,QJ _ _ _ _⟩
  | true =>
   go_wp2_with (go_at_call 105;refine (h _).m ?_;rintro e w' ⟨rfl,rfl⟩);go_roundw
   case rel=>exact⟨sM,.inr (.inr ⟨rfl,trivial,trivial⟩)⟩
   simp [intOf]
 go_wp2;go_ret;exact⟨rfl,QJ _ _ _ _⟩
def Hb (t:Tg) (sl sg o d a b ar sp pl nn:Int) (w:wO) (l:1<=t.r) (m:t.r<=128) (j:xc o=1) (n:br d 0 (t.r - 1)) :
  Cp 163 #[(tV t),.agg #[J sl,J sg,J o,J d,J a,J b,J ar,J sp,J pl,J nn]] w (Rt w (.bool (br a 0 (t.r - 1) && br b 0 (0)))):=by
 have k:Hid (∀W,Cp 81 #[J o] W (Re W (J 1))):=fun W=>j ▸ Zu o W;clear j;obtain⟨ra,c⟩:∃z,br a 0 (t.r - 1)=z:=⟨_,rfl⟩;obtain⟨rb,f⟩:∃z,br b 0 (0)=z:=⟨_,rfl⟩;have g:Hid (∀W,Cp 105 #[J a,J 0,J (t.r - 1)] W (Re W (.bool ra))):=fun W=>c ▸ zN a 0 (t.r - 1) W;have h:Hid (∀W,Cp 105 #[J b,J 0,J (0)] W (Re W (.bool rb))):=fun W=>f ▸ zN b 0 (0) W;rw [c,f];clear c f;go_enter func163,ntmps163
 go_wp2_with (first
  | (go_at_call 105;refine (zN _ _ _ _).m ?_;rintro e w' ⟨rfl,rfl⟩)
  | (go_at_call 81;refine (k _).m ?_;rintro e w' ⟨rfl,rfl⟩))
 go_loopw [25] (fun i wr=>wr=(((w.alloc (tO t)).alloc (Ij sl sg o d a b ar sp pl nn 79)).alloc (Ib a b 3))/\(i=J 0\/(i=J 1/\ra)\/(i=J 2/\ra/\rb))) (fun i _=>2 - (intOf i).toNat)
 case atStart=>exact⟨rfl,.inl rfl⟩
 obtain⟨rfl,hrel⟩:=hrel;rcases hrel with rfl | ⟨rfl,rfl⟩ | ⟨rfl,rfl,rfl⟩
 ·cases ra with
  | false =>go_wp2_with (go_at_call 105;refine (g _).m ?_;rintro e w' ⟨rfl,rfl⟩);go_ret;exact⟨rfl,QJ _ _ _ _⟩
  | true =>
   go_wp2_with (go_at_call 105;refine (g _).m ?_;rintro e w' ⟨rfl,rfl⟩);go_roundw
   case rel=>exact⟨sM,.inr (.inl ⟨rfl,trivial⟩)⟩
   simp [intOf]
 ·cases rb with
  | false =>go_wp2_with (go_at_call 105;refine (h _).m ?_;rintro e w' ⟨rfl,rfl⟩);go_ret;exact⟨rfl,QJ _ _ _ _⟩
  | true =>
   go_wp2_with (go_at_call 105;refine (h _).m ?_;rintro e w' ⟨rfl,rfl⟩);go_roundw
   case rel=>exact⟨sM,.inr (.inr ⟨rfl,trivial,trivial⟩)⟩
   simp [intOf]
 go_wp2;go_ret;exact⟨rfl,QJ _ _ _ _⟩
def Hc (t:Tg) (sl sg o d a b ar sp pl nn:Int) (w:wO) (l:1<=t.r) (m:t.r<=128) (j:xc o=2) (n:br d 0 (t.r - 1)) :
  Cp 163 #[(tV t),.agg #[J sl,J sg,J o,J d,J a,J b,J ar,J sp,J pl,J nn]] w (Rt w (.bool (br a 0 (t.r - 1) && br b 0 (t.r - 1)))):=by
 have k:Hid (∀W,Cp 81 #[J o] W (Re W (J 2))):=fun W=>j ▸ Zu o W;clear j;obtain⟨ra,c⟩:∃z,br a 0 (t.r - 1)=z:=⟨_,rfl⟩;obtain⟨rb,f⟩:∃z,br b 0 (t.r - 1)=z:=⟨_,rfl⟩;have g:Hid (∀W,Cp 105 #[J a,J 0,J (t.r - 1)] W (Re W (.bool ra))):=fun W=>c ▸ zN a 0 (t.r - 1) W;have h:Hid (∀W,Cp 105 #[J b,J 0,J (t.r - 1)] W (Re W (.bool rb))):=fun W=>f ▸ zN b 0 (t.r - 1) W;rw [c,f];clear c f;go_enter func163,ntmps163
 go_wp2_with (first
  | (go_at_call 105;refine (zN _ _ _ _).m ?_;rintro e w' ⟨rfl,rfl⟩)
  | (go_at_call 81;refine (k _).m ?_;rintro e w' ⟨rfl,rfl⟩))
 go_loopw [25] (fun i wr=>wr=(((w.alloc (tO t)).alloc (Ij sl sg o d a b ar sp pl nn 79)).alloc (Ib a b 3))/\(i=J 0\/(i=J 1/\ra)\/(i=J 2/\ra/\rb))) (fun i _=>2 - (intOf i).toNat)
 case atStart=>exact⟨rfl,.inl rfl⟩
 obtain⟨rfl,hrel⟩:=hrel;rcases hrel with rfl | ⟨rfl,rfl⟩ | ⟨rfl,rfl,rfl⟩
 ·cases ra with
  | false =>go_wp2_with (go_at_call 105;refine (g _).m ?_;rintro e w' ⟨rfl,rfl⟩);go_ret;exact⟨rfl,QJ _ _ _ _⟩
  | true =>
   go_wp2_with (go_at_call 105;refine (g _).m ?_;rintro e w' ⟨rfl,rfl⟩);go_roundw
   case rel=>exact⟨sM,.inr (.inl ⟨rfl,trivial⟩)⟩
   simp [intOf]
 ·cases rb with
  | false =>go_wp2_with (go_at_call 105;refine (h _).m ?_;rintro e w' ⟨rfl,rfl⟩);go_ret;exact⟨rfl,QJ _ _ _ _⟩
  | true =>
   go_wp2_with (go_at_call 105;refine (h _).m ?_;rintro e w' ⟨rfl,rfl⟩);go_roundw
   case rel=>exact⟨sM,.inr (.inr ⟨rfl,trivial,trivial⟩)⟩
   simp [intOf]
 go_wp2;go_ret;exact⟨rfl,QJ _ _ _ _⟩
def Hd (t:Tg) (sl sg o d a b ar sp pl nn:Int) (w:wO) (c:1<=t.r) (f:t.r<=128) (h1:br d 0 (t.r - 1)=false) :
  Cp 163 #[(tV t),.agg #[J sl,J sg,J o,J d,J a,J b,J ar,J sp,J pl,J nn]] w (Rt w (.bool false)):=by go_enter func163,ntmps163;go_wp2_with (go_at_call 105;refine (zN _ _ _ _).m ?_;rintro e w' ⟨rfl,rfl⟩);go_ret;exact⟨rfl,QB _ _ _⟩
def He (t:Tg) (sl sg o d a b ar sp pl nn:Int) (w:wO) (f:1<=t.r) (g:t.r<=128) :
  Cp 163 #[(tV t),.agg #[J sl,J sg,J o,J d,J a,J b,J ar,J sp,J pl,J nn]] w (Rt w (.bool (XL t.r ⟨sl,sg,o,d,a,b,ar,sp,pl,nn⟩))):=by
 have h:XL t.r ⟨sl,sg,o,d,a,b,ar,sp,pl,nn⟩=(br d 0 (t.r - 1) && br a 0 (if 0<xc o then t.r - 1 else 0) && br b 0 (if 1<xc o then t.r - 1 else 0)):=rfl;rw [h];cases h1:br d 0 (t.r - 1) with
 | false=>exact Hd t sl sg o d a b ar sp pl nn w f g h1
 | true =>
  rcases US o with ⟨-,c⟩ | ⟨-,-,c⟩ | ⟨-,-,c⟩
  ·rw [c];exact Hb t sl sg o d a b ar sp pl nn w f g c h1
  ·rw [c];exact Hc t sl sg o d a b ar sp pl nn w f g c h1
  rw [c];exact Ha t sl sg o d a b ar sp pl nn w f g c h1
def Hf (sl sg o d a b ar sp pl nn:Int) (w:wO) (c:xc o=0) :
  Cp 164 #[.agg #[J sl,J sg,J o,J d,J a,J b,J ar,J sp,J pl,J nn]] w (Rt w (.agg #[J o,J 0,J 0,J 0,J 0,J ar,J sp,J pl,J nn])):=by have f:Hid (∀W,Cp 81 #[J o] W (Re W (J 0))):=fun W=>c ▸ Zu o W;clear c;go_enter func164,ntmps164;go_wp2_with (go_at_call 81;refine (f _).m ?_;rintro e w' ⟨rfl,rfl⟩);exact bodyPost_ret (v:=.agg #[J o,J 0,J 0,J 0,J 0,J ar,J sp,J pl,J nn]) (by simp [results,results164,go_sem]) rfl ⟨rfl,(QJ _ _ _ _).alloc sO _⟩
def Hg (sl sg o d a b ar sp pl nn:Int) (w:wO) (c:xc o=1) :
  Cp 164 #[.agg #[J sl,J sg,J o,J d,J a,J b,J ar,J sp,J pl,J nn]] w (Rt w (.agg #[J o,J 0,J 1,J 0,J 0,J ar,J sp,J pl,J nn])):=by have f:Hid (∀W,Cp 81 #[J o] W (Re W (J 1))):=fun W=>c ▸ Zu o W;clear c;go_enter func164,ntmps164;go_wp2_with (go_at_call 81;refine (f _).m ?_;rintro e w' ⟨rfl,rfl⟩);exact bodyPost_ret (v:=.agg #[J o,J 0,J 1,J 0,J 0,J ar,J sp,J pl,J nn]) (by simp [results,results164,go_sem]) rfl ⟨rfl,(QJ _ _ _ _).alloc sO _⟩
def Hh (sl sg o d a b ar sp pl nn:Int) (w:wO) (c:xc o=2) :
  Cp 164 #[.agg #[J sl,J sg,J o,J d,J a,J b,J ar,J sp,J pl,J nn]] w (Rt w (.agg #[J o,J 0,J 1,J 0,J 1,J ar,J sp,J pl,J nn])):=by have f:Hid (∀W,Cp 81 #[J o] W (Re W (J 2))):=fun W=>c ▸ Zu o W;clear c;go_enter func164,ntmps164;go_wp2_with (go_at_call 81;refine (f _).m ?_;rintro e w' ⟨rfl,rfl⟩);exact bodyPost_ret (v:=.agg #[J o,J 0,J 1,J 0,J 1,J ar,J sp,J pl,J nn]) (by simp [results,results164,go_sem]) rfl ⟨rfl,(QJ _ _ _ _).alloc sO _⟩
def Hi (x:bt) (w:wO) :
  Cp 164 #[.agg (yZ x)] w (Rt w (.agg (zG (jH x)))):=by
 obtain⟨sl,sg,o,d,a,b,ar,sp,pl,nn⟩:=x;rcases US o with ⟨-,c⟩ | ⟨-,-,c⟩ | ⟨-,-,c⟩
 ·have e:zG (jH ⟨sl,sg,o,d,a,b,ar,sp,pl,nn⟩)=#[J o,J 0,J 1,J 0,J 0,J ar,J sp,J pl,J nn]:=by grind [zG,jH]
  rw [e];exact Hg sl sg o d a b ar sp pl nn w c
 ·have e:zG (jH ⟨sl,sg,o,d,a,b,ar,sp,pl,nn⟩)=#[J o,J 0,J 1,J 0,J 1,J ar,J sp,J pl,J nn]:=by grind [zG,jH]
  rw [e];exact Hh sl sg o d a b ar sp pl nn w c
 have e:zG (jH ⟨sl,sg,o,d,a,b,ar,sp,pl,nn⟩)=#[J o,J 0,J 0,J 0,J 0,J ar,J sp,J pl,J nn]:=by grind [zG,jH]
 rw [e];exact Hf sl sg o d a b ar sp pl nn w c
end
def ZE (L:Lp) (B:List Li):Bool:=decide (B.length=L.b.length) && zF (fun i=>decide ((zB B i).length=3)) B.length
def lh:Prop:=∀(v kv ov bv:vO) (t:Tg) (L:Lp) (K:Kn) (O:Li) (B:List Li) (w:wO),zI w v L->yQ w kv K->zM w ov O->yu w bv B ->
 Calls Tryz.prog 57 #[v,.agg t.cells,kv,ov,bv] w fun e w'=>Bw w w'/\∃ra rl rc c,e=.returned (.tuple #[.slice ra rl rc,J c])/\((yg L t K O && ZE L B)=false->c=2/\rl=0/\rc=0)/\((yg L t K O && ZE L B)->c=0/\zM w' (.slice ra rl rc) (U7 L t K O B))
def li:Prop:=∀(v kv ov bv rv:vO) (t:Tg) (L:Lp) (K:Kn) (O:Li) (B:List Li) (R:Li) (gD:Int) (w:wO),zI w v L->yQ w kv K->zM w ov O->yu w bv B->zM w rv R ->
 Calls Tryz.prog 59 #[v,.agg t.cells,kv,ov,bv,rv,J gD] w fun e w'=>Bw w w'/\∃ra rl rc c,e=.returned (.tuple #[.slice ra rl rc,J c])/\((yg L t K O && ZE L B && decide ((R.length:Int)=t.r))=false->c=2/\rl=0/\rc=0)/\((yg L t K O && ZE L B && decide ((R.length:Int)=t.r))->br gD 0 200=false->c=3/\rl=0)/\((yg L t K O && ZE L B && decide ((R.length:Int)=t.r))->br gD 0 200->c=0/\zM w' (.slice ra rl rc) (Zm L t K O B R gD))
section
variable {L:Lp} {t:Tg} {K:Kn} {O:Li} {w w':wO} {v:vO}
def UK (n lo hi:Int) (w:wO) :
  Cp 108 #[J n,J lo,J hi] w fun e w'=>e=.returned (.bool (br n lo hi))/\w'=w:=by
 by_cases h:lo<=n/\n<=hi
 ·rw [yh h];obtain⟨h1,a⟩:=h;go_enter func108,ntmps108;go_wp2;go_ret;exact⟨rfl,rfl⟩
 rw [X0 h];by_cases h1:lo<=n
 ·have a:¬n<=hi:=fun a=>h ⟨h1,a⟩;clear h;go_enter func108,ntmps108;go_wp2;go_ret;exact⟨rfl,rfl⟩
 clear h;go_enter func108,ntmps108;go_wp2;go_ret;exact⟨rfl,rfl⟩
def nj {a b:Int} (h:a=b):Ending.returned (J a)=.returned (J b):=by rw [h]
def YP {n d:Int} (c:1<=d) (hn:-1000000<=n) (a:n<=1000000):-1000000<=n.tdiv d/\n.tdiv d<=1000000/\-1000001<=n / d/\n / d<=1000001:=by
 have h1:n.tdiv d<=1000000/\-1000000<=n.tdiv d:=by have b:=Int.natAbs_tdiv_le_natAbs n d;lia
 by_cases h:n.tmod d<0
 ·grind
 grind
def rE (n d:Int) (w:wO) (o:1<=d) (hn:-1000000<=n) (l:n<=1000000) :
  Cp 169 #[J n,J d] w fun e w'=>e=.returned (J (n / d))/\w'=w:=by
 have r:¬d=0:=by omega
 obtain⟨b1,b2,b3,b4⟩:=YP o hn l;obtain⟨c,m⟩:=nm (n.tmod d);have f:=WL n (show 0<d by omega);have g:=EV n (show 0<d by omega);have i:-1000000<=c/\c<=1000000:=by rw [<-m];have s:=Int.natAbs_tmod n d;have t:=Nat.mod_le n.natAbs d.natAbs;omega
 have p:wrap64 c=c:=by unfold wrap64;omega
 obtain⟨a,j⟩:=nm (n.tdiv d);have q:wrap64 a=a:=by unfold wrap64;omega
 have k:wrap64 (a - 1)=a - 1:=by unfold wrap64;omega
 by_cases h:c<0
 ·have b:n / d=a - 1:=j ▸ (F1 (by omega) (by omega)).s
  rw [b];clear b b1 b2 b3 b4 f g i;go_enter func169,ntmps169;go_wp2;go_ret;exact⟨nj k,rfl⟩
 have b:n / d=a:=j ▸ (F0 (by omega) (by omega)).s
 rw [b];clear b b1 b2 b3 b4 f g i;go_enter func169,ntmps169;go_wp2;go_ret;simp_all
def oQ (o ar sp pl nn o' ar' sp' pl' nn':Int):Bool:=decide (o'=o) && decide (ar'=ar) && decide (sp'=sp) && decide (pl'=pl) && decide (nn'=nn)
def FR (g h a i j k b c d f o xa xb ya yb ar sp pl nn:Int) (w:wO) :
  Cp 210 #[.agg #[J g,J h,J a,J i,J j,J k,J b,J c,J d,J f],.agg #[J o,J xa,J xb,J ya,J yb,J ar,J sp,J pl,J nn]] w (Rt w (.bool (oQ o ar sp pl nn a b c d f))):=by go_enter func210,ntmps210;go_wp2;all_goals (go_ret;exact⟨zi (by grind [oQ]),QB _ _ _⟩)
structure Lc where
 y:Nat
 tb:Nat
 rb:Nat
 pb:Nat
 tc:Nat
 rc:Nat
 pc:Nat
 dc:Nat
 da:Option Addr
 l0:vO
 l1:vO
 l2:vO
 sv:vO
def Y2 (x:Rd):Array vO:=#[J x.ra,J x.rb,J x.tm,J x.sg,J x.nm]
def l6 (w:wO) (v:vO) (l:List Rd):Prop :=
 ∃ a cap,v=.slice a l.length cap/\l.length<=cap/\cap<=maxLen /\
   (0<l.length->∃blk off,a=some (E blk off)/\blk<w.heap.size/\∀i,i<l.length->∀j,j<5->w.cell? (E blk (off+i*5+j))=(Y2 (xw l i))[j]?)
structure ZU (c:Lc) (L:Lp) (t:Tg) (K:Kn) (O:Li) (w:wO):Prop where
 blk:w.heap[c.y]?=some (.cells #[c.l0,c.l1,c.l2,J K.pc,J t.r,.slice (pA c.tb) L.b.length c.tc,.slice (pA c.rb) L.b.length c.rc,.slice (pA c.pb) L.b.length c.pc,.slice c.da (yl L K O).length c.dc,c.sv] 174 (0,0))
 tm:zr w c.tb 3 L.b.length (fun i=>J (xy K O i))
 rd:zr w c.rb 3 L.b.length (fun i=>J (zP t K O i))
 pl:zr w c.pb 3 L.b.length (fun i=>J (zC K O i))
 ct:L.b.length<=c.tc/\c.tc<=maxLen
 cr:L.b.length<=c.rc/\c.rc<=maxLen
 cp:L.b.length<=c.pc/\c.pc<=maxLen
 rs:l6 w (.slice c.da (yl L K O).length c.dc) (yl L K O)
 lv:zI w (.agg #[c.l0,c.l1,c.l2]) L
def ZU.cells {c:Lc} (h:ZU c L t K O w) :
  w.cell? (E c.y 0)=some c.l0/\w.cell? (E c.y 1)=some c.l1/\w.cell? (E c.y 2)=some c.l2/\w.cell? (E c.y 3)=Y K.pc/\w.cell? (E c.y 4)=Y t.r/\w.cell? (E c.y 5)=some (.slice (pA c.tb) L.b.length c.tc)/\w.cell? (E c.y 6)=some (.slice (pA c.rb) L.b.length c.rc)/\w.cell? (E c.y 7)=some (.slice (pA c.pb) L.b.length c.pc)/\w.cell? (E c.y 8)=some (.slice c.da (yl L K O).length c.dc)/\w.cell? (E c.y 9)=some c.sv:=by have key:=Qa h.blk;refine⟨?_,?_,?_,?_,?_,?_,?_,?_,?_,?_⟩ <;> rw [key] <;> rfl
def ZU.lt {c:Lc} (h:ZU c L t K O w):c.y<w.heap.size:=(lo h.blk)
def l6.gE {l:List Rd} (h:l6 w v l) (hb:Bw w w'):l6 w' v l:=by obtain⟨a,cap,e,h1,g,k⟩:=h;refine⟨a,cap,e,h1,g,fun o=>?_⟩;obtain⟨b,c,f,d,m⟩:=k o;exact⟨b,c,f,Qu d hb.size,fun i hi j n=>(ze hb _ _ d).t (m i hi j n)⟩
def ZU.gE {c:Lc} (h:ZU c L t K O w) (hb:Bw w w'):ZU c L t K O w' :=
 ⟨(hb.block _ h.lt).t h.blk,h.tm.gE hb h.tm.lt,h.rd.gE hb h.rd.lt,h.pl.gE hb h.pl.lt,h.ct,h.cr,h.cp,h.rs.gE hb,h.lv.gE hb⟩
def oR (c:Lc) (L:Lp) (t:Tg) (K:Kn) (O:Li) (n:Int) (w:wO) (h:ZU c L t K O w) (hr:1<=t.r) (s:t.r<=128) (hn:-1000000<=n) (l:n<=1000000) :
  Cp 109 #[.pointer (pA c.y),J n] w fun e w'=>e=.returned (J (n % t.r))/\∃m,w'=w.drewN m:=by
 obtain⟨-,-,-,-,u,-⟩:=h.cells;have f:=QS n (show t.r≠0 by omega);have g:=QP n (show 0<t.r by omega);have b:=F2 (n:=n) (r:=t.r);have d:=Z (fun W=>rE n t.r W hr hn l);have v:=h.lt;clear h;obtain⟨p,i⟩:=nm (n % t.r);obtain⟨pr,a⟩:=nm (n / t.r*t.r);obtain⟨o,j⟩:=nm (n / t.r);rw [i] at b f g ⊢;rw [a] at b;rw [j] at a d;generalize t.r=r at *
 have q:wrap64 (o*r)=pr:=by rw [a];unfold wrap64;omega
 have k:wrap64 (n - pr)=p:=by unfold wrap64;omega
 clear i j a b f g;go_enter func109,ntmps109;go_wp2;go_big_quiet ((go_at_call 169;exact Calls.quiet_of_same (d _)));go_wp2;go_ret;exact⟨by first | rfl | exact nj k,_,rfl⟩
def ZU.drawn {c:Lc} (h:ZU c L t K O w) (n:Nat):ZU c L t K O (w.drewN n):=h.gE (Qm _ _ _)
def vp (c:Lc) (L:Lp) (t:Tg) (K:Kn) (O:Li) (a m:Nat) (w:wO) (h:ZU c L t K O w) (u:xW L t K O) (s:a<L.b.length) (hm:m<L.b.length) :
  Cp 211 #[.pointer (pA c.y),J a,J m] w fun e w'=>e=.returned (J (Uz t K O a m))/\∃n,w'=w.drewN n:=by
 obtain⟨-,-,-,d3,-,-,d6,-⟩:=h.cells;obtain⟨⟨k,S,T⟩,d⟩:=xh u;obtain⟨v,x,z,A⟩:=d a s;obtain⟨M,N,P,Q⟩:=d m hm;have D:=h.rd.cell s;have F:=h.rd.cell hm;have hb:=h.rd.lt;have hy:=h.lt;obtain⟨G,f⟩:=h.cr;unfold maxLen at f;have j:=Z (fun W=>rE (zP t K O m - zP t K O a) K.pc W k oM oM);obtain⟨H,I,p,q⟩:=YP (n:=zP t K O m - zP t K O a) k oM oM;have X:(a:Int)<(L.b.length:Int):=oM
 have V:(m:Int)<(L.b.length:Int):=oM
 have o:Uz t K O a m=if m=a then 1 else -((zP t K O m - zP t K O a) / K.pc):=rfl
 rw [o];clear o;generalize zP t K O m=g at *
 generalize zP t K O a=i at *
 generalize K.pc=R at *
 obtain⟨r,l⟩:=nm ((g - i) / R);rw [l] at j p q ⊢;have U:wrap64 (g - i)=g - i:=by unfold wrap64;omega
 have B:wrap64 (-r)=-r:=by unfold wrap64;omega
 generalize c.y=y at *
 generalize c.rb=rb at *
 generalize c.rc=rc at *
 generalize L.b.length=ln at *
 clear h u d v x z A M N P Q H I p q l;by_cases e:m=a
 ·rw [Qf e];have hb:((m:Int) == (a:Int)):=by simp [e]
  have C:(m:Int)=(a:Int):=oM
  clear e D F;go_enter func211,ntmps211;go_wp2;go_ret;exact⟨rfl,0,rfl⟩
 rw [Qe e];have hb:((m:Int) == (a:Int))=false:=by simp;omega
 have C:¬(m:Int)=(a:Int):=oM
 clear e;go_enter func211,ntmps211;go_wp2;go_big_quiet ((go_at_call 169;exact Calls.quiet_of_same (j _)));go_wp2;go_ret;exact⟨by first | rfl | exact nj B,_,rfl⟩
def vq (c:Lc) (L:Lp) (t:Tg) (K:Kn) (O:Li) (a m:Nat) (f l:Int) (w:wO) (h:ZU c L t K O w) (i:xW L t K O) (A:a<L.b.length) (hm:m<L.b.length) (H:-5000<=f) (I:f<=5000) :
  Cp 212 #[.pointer (pA c.y),J a,J m,J f,J l] w fun e w'=>e=.returned (.bool (kx (zC K O a) (zC K O m) f l t.r))/\∃n,w'=w.drewN n:=by
 obtain⟨-,-,-,-,-,-,-,W,-⟩:=h.cells;obtain⟨⟨F,D,p⟩,k⟩:=xh i;obtain⟨-,-,-,-,-,-,B,C,q,-⟩:=ZB i A;obtain⟨-,-,-,-,-,-,M,N,-⟩:=ZB i hm;have U:=h.pl.cell A;have V:=h.pl.cell hm;have hb:=h.pl.lt;have X:=h.lt;obtain⟨G,j⟩:=h.cp;unfold maxLen at j;have o:=Z (fun n=>oR c L t K O (zC K O a - zC K O m - f) (w.drewN n) (h.drawn n) p q (by omega) (by omega));have v:=QS (zC K O a - zC K O m - f) (show t.r≠0 by omega);have x:=QP (zC K O a - zC K O m - f) (show 0<t.r by omega);have T:(a:Int)<(L.b.length:Int):=by omega
 have Q:(m:Int)<(L.b.length:Int):=by omega
 have u:kx (zC K O a) (zC K O m) f l t.r=decide (f+(zC K O a - zC K O m - f) % t.r<=l):=rfl;rw [u];clear u;generalize zC K O a=d at *
 generalize zC K O m=g at *
 obtain⟨z,s⟩:=nm ((d - g - f) % t.r);rw [s] at o v x ⊢;have P:wrap64 (d - g)=d - g:=by unfold wrap64;omega
 have R:wrap64 (d - g - f)=d - g - f:=by unfold wrap64;omega
 have S:wrap64 (f+z)=f+z:=by unfold wrap64;omega
 generalize c.y=y at *
 generalize c.pb=rb at *
 generalize c.pc=rc at *
 generalize L.b.length=ln at *
 clear h i k B C M N s v x F D p q H I;go_enter func212,ntmps212;go_wp2;go_big_quiet ((go_at_call 109;exact Calls.quiet_of (o _)));go_wp2;go_ret;exact⟨rfl,_,rfl⟩
def rF {b o:Nat} {s:Rd} (h:∀j,j<5->w.cell? (E b (o+j))=(Y2 s)[j]?) :
  w.cell? (E b o)=Y s.ra/\w.cell? (E b (o+1))=Y s.rb/\w.cell? (E b (o+2))=Y s.tm/\w.cell? (E b (o+3))=Y s.sg/\w.cell? (E b (o+4))=Y s.nm :=
 ⟨h 0 lI,h 1 lI,h 2 lI,h 3 lI,h 4 lI⟩
def FS (c:Lc) (L:Lp) (t:Tg) (K:Kn) (O:Li) (w:wO) (h:ZU c L t K O w) (l:xW L t K O) :
  Cp 159 #[.pointer (pA c.y)] w (Rt w (.bool (Vo L t K O))):=by
 have C:Hid (Vo L t K O=zF (fun i=>UT t K O (xw (yl L K O) i)) (yl L K O).length):=rfl;obtain⟨⟨ai,aC,aD⟩,N⟩:=xh l;have F:t.r<=128:=by obtain⟨hm,-⟩:=xA l;obtain⟨-,dD,-⟩:=zy hm;obtain⟨-,-,-,-,-,-,-,-,F,-⟩:=ZB l (s:=0) oM;exact F
 have bV:=Z (fun (W:wO) (hb:Bw w W) (n:Int) (h1:-1000000<=n) (h2:n<=1000000)=>oR c L t K O n W (h.gE hb) aD F h1 h2);have X:=Z (fun (i:Nat) (hi:i<(yl L K O).length)=>Vd l (UY hi));have ce:=Z (fun (s:Nat) (hs:s<L.b.length)=>And.intro (ZB l hs).2.2.2.2.2.2.1 (ZB l hs).2.2.2.2.2.2.2.1);have B:=Z h.cells;have bZ:=Z (fun (s:Nat) (hs:s<L.b.length)=>h.pl.cell hs);have dp:=h.pl.lt;have hy:=h.lt;obtain⟨cp1,I⟩:=h.cp;unfold maxLen at I;obtain⟨da,dc,bQ,bN,aT,aU⟩:=h.rs;injection bQ with e1 e2 e3;unfold maxLen at aT;have V:=Z aU;clear h l N aU ai aC;generalize yl L K O=rs at *
 have l8:=B.2.2.2.2.2.2.2.2.1;rw [e1,e3] at l8;rw [<-e3] at aT bN;go_enter func159,ntmps159;go_wp2;go_loopw [10] (fun i wr=>∃k:Nat,k<=rs.length/\i=J k/\zF (fun i=>UT t K O (xw rs i)) k/\Bw w wr) (fun i _=>rs.length - (intOf i).toNat)
 case atStart=>exact⟨0,Ql _,rfl,rfl,QA _ _⟩
 obtain⟨k,hk,rfl,hall,d⟩:=hrel;have z:=Z hall;have A:=Z d;clear hall;by_cases g:k<rs.length
 ·have aA:(k:Int)<(rs.length:Int):=oM
  obtain⟨db,M,bO,bP,gR⟩:=V oM;subst bO;obtain⟨c0,c1,c2,c3,c4⟩:=rF (fun j hj=>(ze d db (M+k*5+j) bP).t (gR k g j hj));have cY:db<wr.heap.size:=by have:=d.size;omega
  have cS:c.y<wr.heap.size:=by have:=d.size;omega
  have dG:c.pb<wr.heap.size:=by have:=d.size;omega
  obtain⟨r1,r2,Q,R,-,-,S,T⟩:=X k g;have D:Hid (UT t K O (xw rs k)=decide ((xw rs k).nm=(zC K O (xw rs k).ra.toNat - (xw rs k).rb - (xw rs k).sg) % t.r)):=rfl;obtain⟨x,P⟩:=nm (xw rs k);rw [P] at c0 c1 c2 c3 c4 r1 r2 Q R S T D;have U:=Z P;obtain⟨xa,xb,xt,m,f⟩:=x;simp only at c0 c1 c2 c3 c4 r1 r2 Q R S T;obtain⟨a,rfl⟩:∃a:Nat,xa=a:=⟨xa.toNat,oM⟩;have ha:a<L.b.length:=oM
  have cB:(a:Int)<(L.b.length:Int):=oM
  obtain⟨p1,p2⟩:=ce a ha;have pc:=(ze d c.pb a dp).t (bZ a ha);have l7:=(ze d c.y 7 hy).t B.2.2.2.2.2.2.2.1;have v:Hid (UT t K O (xw rs k)=decide (f=(zC K O a - xb - m) % t.r)):=by show _=_;rw [U];exact D
  have H:=Z (fun n=>bV ((wr.alloc (Ie (a:Int) xb xt m f 292)).drewN n) ((A.tm (Qd wr _)).t (Qm _ _ _)) (zC K O a - xb - m) oM oM);generalize zC K O a=u at *
  obtain⟨q,aX⟩:=nm ((u - xb - m) % t.r);rw [aX] at v H;have aE:wrap64 (u - xb)=u - xb:=by unfold wrap64;omega
  have az:wrap64 (u - xb - m)=u - xb - m:=by unfold wrap64;omega
  have ae:Hid (zF (fun i=>UT t K O (xw rs i)) (k+1)=decide (f=q)):=by show (zF (fun i=>UT t K O (xw rs i)) k && UT t K O (xw rs k))=_;rw [z,v,Wb]
  have G:Hid (¬f=q->Vo L t K O=false):=fun h=>by rw [C];exact yd g (by rw [v];exact Qk h)
  have af:Hid (∀n,Bw w ((wr.alloc (Ie (a:Int) xb xt m f 292)).drewN n)):=fun n=>(A.tm (Qd wr _)).t (Qm _ _ _);generalize c.y=y at *
  generalize c.pb=pb at *
  generalize c.pc=pcc at *
  generalize L.b.length=ln at *
  clear d gR P D aX r1 r2 Q R S T X ce bZ B bV U v V p1 p2 C z l8;by_cases p:f=q
  ·have bR:(f != q)=false:=(by simp [p]);have o:Hid (zF (fun i=>UT t K O (xw rs i)) (k+1)):=(by simp_all);clear ae G p;go_wp2;go_big_quiet ((go_at_call 109;exact Calls.quiet_of (H _)));go_wp2;go_roundw
   case rel=>exact⟨k+1,oM,nQ,o,af _⟩
   simp [intOf];omega
  have bR:(f != q):=by simp [p]
  have o:=Z (G p);clear ae G p;go_wp2;go_big_quiet ((go_at_call 109;exact Calls.quiet_of (H _)));go_wp2;go_ret;exact⟨zi o.s,af _⟩
 have e:k=rs.length:=oM
 subst e;have aA:¬(rs.length:Int)<(rs.length:Int):=oM
 have o:Hid (Vo L t K O):=by show _=_;rw [C,z]
 clear d;go_wp2;go_ret;exact⟨zi o.s,A⟩
def UX {P:Program} {f:FuncId} {args:Array vO} {k n:Nat} (h:Calls P f args (w.drewN (k+n)) fun e w'=>e=.returned v/\w'=w.drewN (k+n)):Calls P f args (w.drewN (k+n)) fun e a=>e=.returned v/\∃m,a=w.drewN (k+m) :=
 h.m fun _ _ ⟨b,hm⟩=>⟨b,n,hm⟩
def Zd (w:wO) (a:Array vO) (e:TypeId):(w.alloc (.cells a e)).heap[w.heap.size]?=some (.cells a e (0,0)):=by show (w.heap.push _)[w.z]?=_;simp
def vr (f:xW L t K O) {a m:Nat} (d:a<L.b.length) (hm:m<L.b.length):-2000<=Uz t K O a m/\Uz t K O a m<=2000:=by
 obtain⟨⟨n,k,l⟩,c⟩:=xh f;obtain⟨g,h,i,j⟩:=c a d;obtain⟨p,q,r,s⟩:=c m hm;unfold Uz;split
 ·lia
 have h1:-1100<=(zP t K O m - zP t K O a) / K.pc:=(WW lI).2 lI;have o:(zP t K O m - zP t K O a) / K.pc<1100:=(EC lI).2 lI;lia
def FT (c:Lc) (L:Lp) (t:Tg) (K:Kn) (O:Li) (w:wO) (h:ZU c L t K O w) (F:xW L t K O) :
  Cp 160 #[.pointer (pA c.y)] w (Rt w (.bool (XE L t K O))):=by
 have HD:Hid (XE L t K O=zF (fun i=>UQ L t K O (xw (yl L K O) i)) (yl L K O).length):=rfl;obtain⟨⟨ai,aC,aD⟩,N⟩:=xh F;have ao:=Z (fun (W:wO) (hb:Bw w W) (a m:Nat) (v:a<L.b.length) (hm:m<L.b.length)=>vp c L t K O a m W (h.gE hb) F v hm);have al:=Z (fun (W:wO) (hb:Bw w W) (a m:Nat) (f l:Int) (v:a<L.b.length) (hm:m<L.b.length) (h1:-5000<=f) (h2:f<=5000)=>vq c L t K O a m f l W (h.gE hb) F v hm h1 h2);have aP:=Z (fun (a m:Nat) (v:a<L.b.length) (hm:m<L.b.length)=>vr F v hm);have aQ:=Z (fun (i:Nat) (hi:i<(yl L K O).length)=>Vd F (UY hi));have cu:=Z N;have C:=Z h.cells;have cg:=Z (fun (s:Nat) (hs:s<L.b.length)=>h.rd.cell hs);have dr:=h.rd.lt;have T:=h.lt;obtain⟨cr1,cr2⟩:=h.cr;unfold maxLen at cr2;obtain⟨v0,v1,v2,Q,-,⟨b1,bc1,rfl,cX,bL,-⟩,-⟩:=h.lv;unfold maxLen at bL;injection Q with Q;obtain⟨bT,bC,aJ⟩:c.l0=v0/\c.l1=.slice b1 L.b.length bc1/\c.l2=v2:=by have:=congrArg Array.toList Q;simpa using this
 obtain⟨da,dc,bQ,bN,aT,aU⟩:=h.rs;injection bQ with e1 e2 e3;unfold maxLen at aT;have aK:=Z aU;clear h F N aU Q bT aJ;generalize yl L K O=rs at *
 have l8:=C.2.2.2.2.2.2.2.2.1;rw [e1,e3] at l8;rw [<-e3] at aT bN;go_enter func160,ntmps160;go_wp2;go_loopw [14] (fun i wr=>∃k:Nat,k<=rs.length/\i=J k/\zF (fun i=>UQ L t K O (xw rs i)) k/\Bw w wr) (fun i _=>rs.length - (intOf i).toNat)
 case atStart=>exact⟨0,Ql _,rfl,rfl,QA _ _⟩
 obtain⟨k,hk,rfl,hall,q⟩:=hrel;have HA:=Z hall;have HB:=Z q;clear hall;by_cases B:k<rs.length
 ·have aA:(k:Int)<(rs.length:Int):=oM
  obtain⟨db,dof,bO,bP,gR⟩:=aK oM;subst bO;obtain⟨c0,c1,c2,c3,c4⟩:=rF (fun j hj=>(ze q db (dof+k*5+j) bP).t (gR k B j hj));have cY:db<wr.heap.size:=by have:=q.size;omega
  have cS:c.y<wr.heap.size:=by have:=q.size;omega
  have dI:c.rb<wr.heap.size:=by have:=q.size;omega
  obtain⟨r1,r2,V,X,r5,r6,-,-⟩:=aQ k B;have aH:Hid (UQ L t K O (xw rs k)=zF (fun m=>!xV t K O (xw rs k).ra.toNat (xw rs k).rb ((xw rs k).tm+(xw rs k).rb*K.pc) m) L.b.length):=rfl;obtain⟨x,hx⟩:=nm (xw rs k);rw [hx] at c0 c1 c2 c3 c4 r1 r2 V X r5 r6 aH;have HX:=Z hx;obtain⟨xa,xb,P,xs,xn⟩:=x;simp only at c0 c1 c2 c3 c4 r1 r2 V X r5 r6;obtain⟨a,rfl⟩:∃a:Nat,xa=a:=⟨xa.toNat,oM⟩;have v:a<L.b.length:=oM
  have R:Hid (UQ L t K O (xw rs k)=zF (fun m=>!xV t K O a xb (P+xb*K.pc) m) L.b.length):=by show _=_;rw [HX];exact aH
  have aS:xb*K.pc<=3*200:=Wy X aC oM oM;have bh:0<=xb*K.pc:=Ws V oM;obtain⟨u,hu⟩:=nm (P+xb*K.pc);have dL:0<=u:=oM
  have dM:u<=1600:=oM
  have aE:wrap64 (xb*K.pc)=xb*K.pc:=by unfold wrap64;omega
  have az:wrap64 (P+xb*K.pc)=u:=by rw [hu];unfold wrap64;omega
  rw [hu] at R;have l1:=(ze q c.y 1 T).t C.2.1;have l3:=(ze q c.y 3 T).t C.2.2.2.1;rw [bC] at l1;have ae:Hid (zF (fun m=>!xV t K O a xb u m) L.b.length->zF (fun i=>UQ L t K O (xw rs i)) (k+1)):=fun h=>by show (zF (fun i=>UQ L t K O (xw rs i)) k && UQ L t K O (xw rs k))=_;rw [HA,R,h];rfl
  have ac:Hid (zF (fun m=>!xV t K O a xb u m) L.b.length=false->XE L t K O=false):=fun h=>by rw [HD];exact yd B (by rw [R];exact h)
  have p:Hid (∀n,Bw w ((wr.alloc (Ie (a:Int) xb P xs xn 292)).drewN n)):=fun n=>(HB.tm (Qd wr _)).t (Qm _ _ _);clear q gR hx aH hu r1 r2 V X r5 r6 aQ HX R aK HD HA l8 aS bh;go_wp2;go_big_quiet ((fail));go_wp2;simp only [aE,az];clear aE az;rename wO=>wo;obtain⟨U,hU⟩:=nm (wo.alloc (Ie (a:Int) xb P xs xn 292));have u0:U.cell? (E wo.heap.size 0)=Y (a:Int):=by rw [<-hU,Qa (Zd _ _ _)];rfl
  have u1:U.cell? (E wo.heap.size 1)=Y xb:=by rw [<-hU,Qa (Zd _ _ _)];rfl
  have dx:wo.heap.size<U.heap.size:=by rw [<-hU];simp
  have cO:U.c c.y 3=Y K.pc/\U.c c.y 6=some (vP c.rb L.b.length c.rc):=by have hb:=p 0;exact⟨(ze (show Bw w U by rw [<-hU];exact hb) c.y 3 T).t C.2.2.2.1,(ze (show Bw w U by rw [<-hU];exact hb) c.y 6 T).t C.2.2.2.2.2.2.1⟩
  have cw:Hid (∀s,s<L.b.length->U.c c.rb s=Y (zP t K O s)):=fun s hs=>(ze (show Bw w U by rw [<-hU];exact p 0) c.rb s dr).t (cg s hs);obtain⟨y3,y6⟩:=cO;have cO:c.y<U.heap.size:=oM
  have dH:c.rb<U.heap.size:=oM
  rw [hU] at p ⊢;have dw:=Z (HB);clear c0 c1 c2 c3 c4 l1 l3 C cg hU;go_loopw [35] (fun i wr2=>∃m n:Nat,m<=L.b.length/\i=J m/\zF (fun m=>!xV t K O a xb u m) m/\wr2=U.drewN n) (fun i _=>L.b.length - (intOf i).toNat)
  case atStart=>exact⟨0,_,Ql _,rfl,rfl,rfl⟩
  obtain⟨m,n,hm,rfl,hall,rfl⟩:=hrel;have aF:=Z hall;clear hall;by_cases g:m<L.b.length
  ·have aZ:(m:Int)<(L.b.length:Int):=(by omega);have aO:=Z (ao (U.drewN n) (p n) a m v g);obtain⟨v1,v2⟩:=aP a m v g;obtain⟨g1,g2,g3,g4⟩:=cu m g;have rc:=cw m g;have S:=Z (fun W=>rE (u - zP t K O m) K.pc W ai oM oM);have bD:wrap64 (u - zP t K O m)=u - zP t K O m:=(by unfold wrap64;omega);have D:=Z (fun n l f (h1:-5000<=f) (h2:f<=5000)=>al (U.drewN n) (p n) a m f l v g h1 h2);have o:Hid (xV t K O a xb u m=kx (zC K O a) (zC K O m) (if 0<xb then min (Uz t K O a m) 1 else Uz t K O a m) ((u - zP t K O m) / K.pc) t.r):=rfl;have aM:Hid (xV t K O a xb u m->XE L t K O=false):=fun h=>ac (yd g (by show (!xV t K O a xb u m)=false;rw [h];rfl));have aN:Hid (xV t K O a xb u m=false->zF (fun m=>!xV t K O a xb u m) (m+1)):=fun h=>yr aF (by show (!xV t K O a xb u m);rw [h];rfl);generalize zP t K O m=rm at *
   generalize Uz t K O a m=z at *
   generalize K.pc=pp at *
   obtain⟨M,ay⟩:=nm ((u - rm) / pp);rw [ay] at S o;clear ay g1 g2 g3 g4 ao al aP cu cw aF ae ac;go_wp2_with fail;apply aO.m;rintro e w1 ⟨rfl,n1,rfl⟩;rw [World.drewN_drewN];generalize n+n1=n3;clear aO;by_cases hb:0<xb
   ·rw [Qf hb] at o;by_cases hv:z<=1
    ·have aJ:¬1<z:=(by omega);have A:Hid (xV t K O a xb u m=kx (zC K O a) (zC K O m) z M t.r):=(by show _=_;rw [o,show min z 1=z by omega]);have I:=Z (fun n=>D n M z oM oM);clear o D v1 v2;go_wp2;go_big_quiet ((go_at_call 169;exact UX (S _)));go_wp2_with fail;try rw [World.drewN_drewN]
     apply (I _).m;rintro e w2 ⟨rfl,n2,rfl⟩;rw [World.drewN_drewN];cases d:xV t K O a xb u m with
     | true =>have G:=Z (aM d);rw [A] at d;rw [d];clear d;go_wp2;go_ret;exact⟨zi G.s,p _⟩
     | false =>
      have H:=Z (aN d);rw [A] at d;rw [d];clear d;go_wp2;go_roundw
      case rel=>exact⟨m+1,_,oM,nQ,H,rfl⟩
      simp [intOf];omega
    have aJ:1<z:=(by omega);have A:Hid (xV t K O a xb u m=kx (zC K O a) (zC K O m) 1 M t.r):=(by show _=_;rw [o,show min z 1=1 by omega]);have I:=Z (fun n=>D n M 1 oM oM);clear o D v1 v2;go_wp2;go_big_quiet ((go_at_call 169;exact UX (S _)));go_wp2_with fail;try rw [World.drewN_drewN]
    apply (I _).m;rintro e w2 ⟨rfl,n2,rfl⟩;rw [World.drewN_drewN];cases d:xV t K O a xb u m with
    | true =>have G:=Z (aM d);rw [A] at d;rw [d];clear d;go_wp2;go_ret;exact⟨zi G.s,p _⟩
    | false =>
     have H:=Z (aN d);rw [A] at d;rw [d];clear d;go_wp2;go_roundw
     case rel=>exact⟨m+1,_,oM,nQ,H,rfl⟩
     simp [intOf];omega
   rw [Qe hb] at o;have A:=o;have I:=Z (fun n=>D n M z oM oM);clear o D v1 v2;go_wp2_with fail;go_big_quiet ((go_at_call 169;exact UX (S _)));go_wp2_with fail;try rw [World.drewN_drewN]
   apply (I _).m;rintro e w2 ⟨rfl,n2,rfl⟩;rw [World.drewN_drewN];cases d:xV t K O a xb u m with
   | true =>have G:=Z (aM d);rw [A] at d;rw [d];clear d;go_wp2;go_ret;exact⟨zi G.s,p _⟩
   | false =>
    have H:=Z (aN d);rw [A] at d;rw [d];clear d;go_wp2;go_roundw
    case rel=>exact⟨m+1,_,oM,nQ,H,rfl⟩
    simp [intOf];omega
  have e:m=L.b.length:=oM
  subst e;have aZ:¬(L.b.length:Int)<(L.b.length:Int):=oM
  have HN:=Z (ae aF);go_wp2;go_roundw
  case rel=>exact⟨k+1,oM,nQ,HN,p _⟩
  simp [intOf];omega
 have e:k=rs.length:=oM
 subst e;have aA:¬(rs.length:Int)<(rs.length:Int):=oM
 have HN:Hid (XE L t K O):=by show _=_;rw [HD,HA]
 clear q;go_wp2;go_ret;exact⟨zi HN.s,HB⟩
def FU (c:Lc) (L:Lp) (t:Tg) (K:Kn) (O:Li) (w:wO) (h:ZU c L t K O w) (q:xW L t K O) :
  Cp 161 #[.pointer (pA c.y)] w (Rt w (.bool (UN L t K O))):=by
 have x:Hid (UN L t K O=zF (fun i=>zF (fun m=>!Zf t K O (ak L.o i).toNat m) L.b.length) L.o.length):=rfl;obtain⟨hmay,-⟩:=xA q;have P:=Z (fun (n:Nat) (a m:Nat) (g:a<L.b.length) (hm:m<L.b.length)=>vp c L t K O a m (w.drewN n) (h.drawn n) q g hm);have N:=Z (fun (n:Nat) (a m:Nat) (f l:Int) (g:a<L.b.length) (hm:m<L.b.length) (h1:-5000<=f) (h2:f<=5000)=>vq c L t K O a m f l (w.drewN n) (h.drawn n) q g hm h1 h2);have I:=Z (fun (a m:Nat) (g:a<L.b.length) (hm:m<L.b.length)=>vr q g hm);have S:=Z (fun (i:Nat) (hi:i<L.o.length)=>XH hmay hi);obtain⟨-,l1,l2,-⟩:=h.cells;have hy:=h.lt;obtain⟨v0,W,v2,A,-,⟨b1,C,rfl,cX,bL,-⟩,⟨o1,D,rfl,dF,dn,-,U⟩⟩:=h.lv;unfold maxLen at bL dn;injection A with A;obtain⟨bT,Q,G⟩:c.l0=v0/\c.l1=.slice b1 L.b.length C/\c.l2=.slice o1 L.o.length D:=rQ
 rw [Q] at l1;rw [G] at l2;have R:=Z U;clear h q A bT Q G U hmay;go_enter func161,ntmps161;go_wp2;go_loopw [12] (fun i wr=>∃k n:Nat,k<=L.o.length/\i=J k/\zF (fun i=>zF (fun m=>!Zf t K O (ak L.o i).toNat m) L.b.length) k/\wr=w.drewN n) (fun i _=>L.o.length - (intOf i).toNat)
 case atStart=>exact⟨0,0,Ql _,rfl,rfl,rfl⟩
 obtain⟨k,n,hk,rfl,hall,rfl⟩:=hrel;have v:=Z hall;clear hall;by_cases p:k<L.o.length
 ·have aA:(k:Int)<(L.o.length:Int):=oM
  obtain⟨ob,oof,rfl,dE,V⟩:=R oM;have co:=V k p;obtain⟨r1,r2⟩:=S k p;have u:Hid (zF (fun m=>!Zf t K O (ak L.o k).toNat m) L.b.length->zF (fun i=>zF (fun m=>!Zf t K O (ak L.o i).toNat m) L.b.length) (k+1)):=fun h=>yr v h;have s:Hid (zF (fun m=>!Zf t K O (ak L.o k).toNat m) L.b.length=false->UN L t K O=false):=fun h=>by rw [x];exact yd p h
  obtain⟨a,T⟩:∃a:Nat,ak L.o k=a:=⟨(ak L.o k).toNat,oM⟩;rw [T] at co r1 r2 u s;rw [show ((a:Int)).toNat=a from rfl] at u s;have g:a<L.b.length:=oM
  clear V R x v S T r1 r2;go_wp2;go_loopw [22] (fun i F=>∃m n:Nat,m<=L.b.length/\i=J m/\zF (fun m=>!Zf t K O a m) m/\F=w.drewN n) (fun i _=>L.b.length - (intOf i).toNat)
  case atStart=>exact⟨0,_,Ql _,rfl,rfl,rfl⟩
  obtain⟨m,n,hm,rfl,hall,rfl⟩:=hrel;have B:=Z hall;clear hall;by_cases j:m<L.b.length
  ·have aZ:(m:Int)<(L.b.length:Int):=(by omega);have H:=Z (P n a m g j);obtain⟨W,v2⟩:=I a m g j;have aG:=Z (fun n=>N n a m (Uz t K O a m) 0 g j oM oM);have M:Hid (Zf t K O a m=kx (zC K O a) (zC K O m) (Uz t K O a m) 0 t.r):=rfl;have aM:Hid (Zf t K O a m->UN L t K O=false):=fun h=>s (yd j (by show (!Zf t K O a m)=false;rw [h];rfl));have aN:Hid (Zf t K O a m=false->zF (fun m=>!Zf t K O a m) (m+1)):=fun h=>yr B (by show (!Zf t K O a m);rw [h];rfl);generalize Uz t K O a m=nt at *
   clear P N I B u s W v2;go_wp2_with fail;apply H.m;rintro e w1 ⟨rfl,n1,rfl⟩;rw [World.drewN_drewN];generalize n+n1=n3;clear H;go_wp2_with fail;apply (aG _).m;rintro e w2 ⟨rfl,n2,rfl⟩;rw [World.drewN_drewN];cases d:Zf t K O a m with
   | true =>have X:=Z (aM d);rw [M] at d;rw [d];clear d;go_wp2;go_ret;exact⟨zi X.s,Qm _ _ _⟩
   | false =>
    have HT:=Z (aN d);rw [M] at d;rw [d];clear d;go_wp2;go_roundw
    case rel=>exact⟨m+1,_,oM,nQ,HT,rfl⟩
    simp [intOf];omega
  have e:m=L.b.length:=oM
  subst e;have aZ:¬(L.b.length:Int)<(L.b.length:Int):=oM
  have z:=Z (u B);go_wp2;go_roundw
  case rel=>exact⟨k+1,_,oM,nQ,z,rfl⟩
  simp [intOf];omega
 have e:k=L.o.length:=oM
 subst e;have aA:¬(L.o.length:Int)<(L.o.length:Int):=oM
 have z:Hid (UN L t K O):=by show _=_;rw [x,v]
 go_wp2;go_ret;exact⟨zi z.s,Qm _ _ _⟩
def vt (L:Lp) (v0 v2:vO) (m:Option Addr) (cap:Nat) (p:vO) (B:List Li) (w:wO) (hB:yu w p B) :
  Cp 102 #[.agg #[v0,.slice m L.b.length cap,v2],p] w (Rt w (.bool (ZE L B))):=by
 obtain⟨z,bc,rfl,y,s,q⟩:=hB;unfold maxLen at s;have t:=Z q;clear q;by_cases hlen:B.length=L.b.length
 ·have c:Hid (ZE L B=zF (fun i=>decide ((zB B i).length=3)) B.length):=by show _=_;grind [ZE]
  have x:((B.length:Int) != (L.b.length:Int))=false:=by simp [hlen]
  clear hlen;go_enter func102,ntmps102;go_wp2;go_loopw [15] (fun i wr=>∃k:Nat,k<=B.length/\i=J k/\zF (fun i=>decide ((zB B i).length=3)) k/\wr=w.alloc (.cells #[v0,.slice m L.b.length cap,v2] 62)) (fun i _=>B.length - (intOf i).toNat)
  case atStart=>exact⟨0,Ql _,rfl,rfl,rfl⟩
  obtain⟨k,C,rfl,hall,rfl⟩:=hrel;have l:=Z hall;clear hall;by_cases g:k<B.length
  ·have r:(k:Int)<(B.length:Int):=(by omega);obtain⟨bb,bo,rfl,A,o⟩:=t oM;obtain⟨u,D,F,G,rfl,-⟩:=o k g;have n:Hid (zF (fun i=>decide ((zB B i).length=3)) (k+1)=decide ((zB B k).length=3)):=(by show (zF _ k && _)=_;rw [l,Wb]);have d:Hid ((zB B k).length≠3->ZE L B=false):=fun h=>by rw [c];grind [yd]
   generalize (zB B k).length=j at *
   clear o;by_cases f:j=3
   ·have v:((j:Int) != (3:Int))=false:=(by simp;omega);have a:Hid (zF (fun i=>decide ((zB B i).length=3)) (k+1)):=(by simp_all);clear f d n;go_wp2;go_roundw
    case rel=>exact⟨k+1,oM,nQ,a,trivial⟩
    simp [intOf];omega
   have v:((j:Int) != (3:Int)):=(by simp;omega);have a:=Z (d f);clear f d n;go_wp2;go_ret;exact⟨zi a.s,Qd _ _⟩
  have e:k=B.length:=oM
  subst e;have r:¬(B.length:Int)<(B.length:Int):=oM
  have a:Hid (ZE L B):=by show _=_;rw [c,l]
  go_wp2;go_ret;exact⟨zi a.s,Qd _ _⟩
 have c:Hid (ZE L B=false):=by show _=_;grind [ZE]
 have x:((B.length:Int) != (L.b.length:Int)):=by simp;omega
 clear hlen;go_enter func102,ntmps102;go_wp2;go_ret;exact⟨zi c.s,Qd _ _⟩
def FV (hE:Zj) (c:Lc) (L:Lp) (T:Tg) (K:Kn) (O:Li) (w:wO) (h:ZU c L T K O w) (R:xW L T K O) :
  Cp 158 #[.pointer (pA c.y),(tV T)] w (Rt w (.bool (Up L T K O))):=by
 have z:Hid (Up L T K O=zF (fun i=>lx K O (zJ (zf L T) i)) (zf L T).length):=rfl;obtain⟨hmay,cG,-⟩:=xA R;obtain⟨⟨ai,aC,aD⟩,l⟩:=xh R;have U:=Z (fun W (hb:Bw w W)=>hE (.agg #[c.l0,c.l1,c.l2]) T L W (h.lv.gE hb) (by rw [hmay,cG];rfl));have G:=Z (fun e he=>ZW (t:=T) hmay e he);have H:=Z (fun (s:Nat) (hs:s<L.b.length)=>h.tm.cell hs);have I:=Z (fun (s:Nat) (hs:s<L.b.length)=>And.intro (l s hs).1 (l s hs).2.1);obtain⟨l0,l1,l2,l3,-,l5,-⟩:=h.cells;have cM:=h.tm.lt;have hy:=h.lt;obtain⟨ct1,P⟩:=h.ct;unfold maxLen at P;have af:=Z (Qd w (tO T));clear h R l hmay cG;obtain⟨y,tb,rb,pb,tc,rc,pcc,dc,da,l0,l1,l2,sv⟩:=c;simp only at *
 rename_i k0 k1 k2;have dN:w.heap.size<(w.alloc (tO T)).heap.size:=sM
 go_enter func158,ntmps158;go_wp2;refine rg 99 (fun w'=>w'.c y 0=some k0/\w'.c y 1=some k1/\w'.c y 2=some k2/\w'.c w.heap.size 0=Y T.u0/\w'.c w.heap.size 1=Y T.u1/\w'.c w.heap.size 2=Y T.u2/\w'.c w.heap.size 3=Y T.w0/\w'.c w.heap.size 4=Y T.w1/\w'.c w.heap.size 5=Y T.w2/\w'.c w.heap.size 6=Y T.r) ⟨by go_simp,by go_simp,by go_simp,by go_simp,by go_simp,by go_simp,by go_simp,by go_simp,by go_simp,by go_simp⟩ fun h9=>?_;apply aq 0;apply aq 2;apply uk 4;refine uo 5 fun K hK=>?_;go_simp;apply (U _ (af.t (Qm _ _ 1))).m;rintro e d ⟨ea,en,ec,rfl,dh,cD⟩;have f:Hid (Below (w.alloc (tO T)).heap.size (w.alloc (tO T)) d):=(Qm _ _ 1).t cD;have cx:d.c y 0=some k0/\d.c y 1=some k1/\d.c y 2=some k2/\d.c w.heap.size 0=Y T.u0/\d.c w.heap.size 1=Y T.u1/\d.c w.heap.size 2=Y T.u2/\d.c w.heap.size 3=Y T.w0/\d.c w.heap.size 4=Y T.w1/\d.c w.heap.size 5=Y T.w2/\d.c w.heap.size 6=Y T.r:=⟨(ze f _ _ oM).t (by go_simp),(ze f _ _ oM).t (by go_simp),(ze f _ _ oM).t (by go_simp),(ze f _ _ oM).t (by go_simp),(ze f _ _ oM).t (by go_simp),(ze f _ _ oM).t (by go_simp),(ze f _ _ oM).t (by go_simp),(ze f _ _ oM).t (by go_simp),(ze f _ _ oM).t (by go_simp),(ze f _ _ oM).t (by go_simp)⟩;apply bq hK.o (.inr cx);clear hK K;apply aq 6;apply aq 8;apply uk 10;refine rd ?_;obtain⟨ea',ec',dg,cZ,de,df⟩:=dh;injection dg with e1 e2 e3;subst e1;subst e2;subst e3;unfold maxLen at de;have F:=Z df;have M:=Z (af.tm f);have cN:w.heap.size<=d.heap.size:=M.size;clear l0 l1 l2 cD cx h9 U hE f;obtain⟨a,cE⟩:=nm (zf L T);rw [cE] at z cZ F G ⊢;clear cE;go_wp2;go_loopw [20] (fun i wr=>∃k:Nat,k<=a.length/\i=J k/\zF (fun i=>lx K O (zJ a i)) k/\Bw d wr) (fun i _=>a.length - (intOf i).toNat)
 case atStart=>exact⟨0,Ql _,rfl,rfl,QA _ _⟩
 obtain⟨k,hk,rfl,hall,g⟩:=hrel;have B:=Z hall;have HB:=Z g;have u:=Z (M.t (g.m cN));clear hall;by_cases v:k<a.length
 ·have aA:(k:Int)<(a.length:Int):=oM
  obtain⟨eb,Q,rfl,bR,gR⟩:=F oM;obtain⟨c0,c1,c2,c3⟩:=nU (fun j hj=>(ze g eb (Q+k*4+j) bR).t (gR k v j hj));have dB:eb<wr.heap.size:=by have:=g.size;omega
  have cS:y<wr.heap.size:=by have:=g.size;omega
  have dK:tb<wr.heap.size:=by have:=g.size;omega
  have X:zJ a k∈a:=by grind [zJ]
  obtain⟨fr,to,bk,wt,S,x,x2,-,x4,x5⟩:=G _ X;rw [S] at c0 c1 c2 c3;(try simp only at c0 c1 c2 c3);obtain⟨f1,f2⟩:=I fr x;obtain⟨g1,g2⟩:=I to x2;have tf:=(ze u tb fr cM).t (H fr x);have tt:=(ze u tb to cM).t (H to x2);have l3:=(ze u y 3 hy).t l3;have l5:=(ze u y 5 hy).t l5;have dC:(fr:Int)<(L.b.length:Int):=oM
  have dJ:(to:Int)<(L.b.length:Int):=oM
  have q:Hid (lx K O (zJ a k)=decide (xy K O fr+(wt:Int)<=xy K O to+(bk:Int)*K.pc)):=by show _=_;rw [S];rfl
  have V:(bk:Int)*K.pc<=32*200:=Wy oM aC oM oM;have bh:0<=(bk:Int)*K.pc:=Ws oM oM;have bU:=Z (fun n=>(HB.tm (Qd wr (Id (fr:Int) (to:Int) (bk:Int) (wt:Int) 98))).t (Qm _ _ n));generalize xy K O fr=m at *
  generalize xy K O to=o at *
  generalize K.pc=pp at *
  obtain⟨A,N⟩:=nm ((bk:Int)*pp);rw [N] at V bh q;have aE:wrap64 ((bk:Int)*pp)=A:=by rw [N];unfold wrap64;omega
  have az:wrap64 (o+A)=o+A:=by unfold wrap64;omega
  have bD:wrap64 (m+(wt:Int))=m+(wt:Int):=by unfold wrap64;omega
  have D:Hid (lx K O (zJ a k)->zF (fun i=>lx K O (zJ a i)) (k+1)):=fun h=>yr B h;have C:Hid (lx K O (zJ a k)=false->Up L T K O=false):=fun h=>by rw [z];exact yd v h
  clear g gR S N f1 f2 g1 g2 V bh I H G F B z X x4 x5;by_cases he:o+A<m+(wt:Int)
  ·have p:=Z (C (by rw [q];exact Qk oM));clear D C q;go_wp2;go_big_quiet ((fail));go_wp2;go_ret;exact⟨zi p.s,M.t ((bU _).m cN)⟩
  have p:=Z (D (by rw [q];exact Qi oM));clear D C q;go_wp2;go_big_quiet ((fail));go_wp2;go_roundw
  case rel=>exact⟨k+1,oM,nQ,p,bU _⟩
  simp [intOf];omega
 have e:k=a.length:=oM
 subst e;have aA:¬(a.length:Int)<(a.length:Int):=oM
 have p:Hid (Up L T K O):=by show _=_;rw [z,B]
 clear g;go_wp2;go_ret;exact⟨zi p.s,u⟩
def FW (a:Zj) (c:Lc) (L:Lp) (t:Tg) (K:Kn) (O:Li) (w:wO) (h:ZU c L t K O w) (b:xW L t K O) :
  Cp 158 #[.pointer (pA c.y),.agg t.cells] w (Rt w (.bool (Up L t K O))) :=
 FV a c L t K O w h b
end
def ZK (n hi:Int) (w:wO) :
  Cp 20 #[J n,J hi] w (Re w (.bool (br n 1 hi))):=by
 by_cases h:1<=n/\n<=hi
 ·rw [yh h];obtain⟨h1,a⟩:=h;go_enter func20,ntmps20;go_wp2;go_ret;exact⟨rfl,rfl⟩
 rw [X0 h];by_cases h1:1<=n
 ·have a:¬n<=hi:=fun a=>h ⟨h1,a⟩;clear h;go_enter func20,ntmps20;go_wp2;go_ret;exact⟨rfl,rfl⟩
 clear h;go_enter func20,ntmps20;go_wp2;go_ret;exact⟨rfl,rfl⟩
def xD (a b c hi:Int):Bool:=br a 1 hi && br b 1 hi && br c 1 hi
def YJ (a b c hi:Int) (w:wO) :
  Cp 19 #[.agg #[J a,J b,J c],J hi] w (Rt w (.bool (xD a b c hi))):=by
 have m:∀w:wO,(Instr.index 25 (.agg #[J a,J b,J c]) (J 0)).run prog w=.ok (J a) w:=fun _=>kR
 have i1:∀w:wO,(Instr.index 25 (.agg #[J a,J b,J c]) (J 1)).run prog w=.ok (J b) w:=fun _=>kR
 have i2:∀w:wO,(Instr.index 25 (.agg #[J a,J b,J c]) (J 2)).run prog w=.ok (J c) w:=fun _=>kR
 go_enter func19,ntmps19;go_wp2_with fail;go_loopw [8] (fun i wr=>wr=w.alloc (Ic a b c 25)/\(i=J 0\/(i=J 1/\br a 1 hi)\/(i=J 2/\br a 1 hi/\br b 1 hi)\/(i=J 3/\br a 1 hi/\br b 1 hi/\br c 1 hi))) (fun i _=>3 - (intOf i).toNat)
 case atStart=>exact⟨rfl,.inl rfl⟩
 obtain⟨rfl,hrel⟩:=hrel;rcases hrel with rfl | ⟨rfl,k0⟩ | ⟨rfl,k0,k1⟩ | ⟨rfl,k0,k1,l⟩
 ·cases d:br a 1 hi with
  | false =>have g:Hid (xD a b c hi=false):=(by show xD _ _ _ _=false;unfold xD;rw [d];rfl);have f:=Z (fun W=>d ▸ ZK a hi W);clear d;go_wp2_with fail;refine (f _).mr fun j rfl=>?_;go_wp2_with fail;go_ret;exact⟨zi g.s,Qd _ _⟩
  | true =>
   have g:=Z d;have f:=Z (fun W=>d ▸ ZK a hi W);clear d;go_wp2_with fail;refine (f _).m ?_;rintro e j ⟨rfl,rfl⟩;go_wp2_with fail;go_roundw
   case rel=>exact⟨sM,.inr (.inl ⟨rfl,trivial⟩)⟩
   simp [intOf]
 ·have h:=Z k0;clear k0;cases d:br b 1 hi with
  | false =>have g:Hid (xD a b c hi=false):=(by show xD _ _ _ _=false;unfold xD;rw [h,d];rfl);have f:=Z (fun W=>d ▸ ZK b hi W);clear d;go_wp2_with fail;refine (f _).mr fun j rfl=>?_;go_wp2_with fail;go_ret;exact⟨zi g.s,Qd _ _⟩
  | true =>
   have g:=Z d;have f:=Z (fun W=>d ▸ ZK b hi W);clear d;go_wp2_with fail;refine (f _).m ?_;rintro e j ⟨rfl,rfl⟩;go_wp2_with fail;go_roundw
   case rel=>exact⟨sM,.inr (.inr (.inl ⟨rfl,h,trivial⟩))⟩
   simp [intOf]
 ·have h:=Z k0;have k:=Z k1;clear k0 k1;cases d:br c 1 hi with
  | false =>have g:Hid (xD a b c hi=false):=(by show xD _ _ _ _=false;unfold xD;rw [h,k,d];rfl);have f:=Z (fun W=>d ▸ ZK c hi W);clear d;go_wp2_with fail;refine (f _).mr fun j rfl=>?_;go_wp2_with fail;go_ret;exact⟨zi g.s,Qd _ _⟩
  | true =>
   have g:=Z d;have f:=Z (fun W=>d ▸ ZK c hi W);clear d;go_wp2_with fail;refine (f _).m ?_;rintro e j ⟨rfl,rfl⟩;go_wp2_with fail;go_roundw
   case rel=>exact⟨sM,.inr (.inr (.inr ⟨rfl,h,k,trivial⟩))⟩
   simp [intOf]
 have g:Hid (xD a b c hi):=by show xD _ _ _ _=_;grind [xD]
 clear k0 k1 l;go_wp2;go_ret;exact⟨zi g.s,Qd _ _⟩
def FZ (t:Tg):zS t=(xD t.u0 t.u1 t.u2 4 && xD t.w0 t.w1 t.w2 6 && br t.r 1 128):=by grind [zS,Um,xD]
def Y8 (t:Tg) (w:wO) :
  Cp 10 #[(tV t)] w (Rt w (.bool (zS t))):=by
 have i:Hid (zS t=(xD t.u0 t.u1 t.u2 4 && xD t.w0 t.w1 t.w2 6 && br t.r 1 128)):=FZ _;cases d:xD t.u0 t.u1 t.u2 4 with
 | false =>
  have c:Hid (zS t=false):=sA
  have b:=Z (fun W=>d ▸ YJ t.u0 t.u1 t.u2 4 W);clear d i;go_enter func10,ntmps10;go_wp2_with fail;refine (b _).mr fun k hb=>?_;have a:=Z ((Qd w _).t (hb.m sM));clear hb b;go_wp2_with fail;go_ret;exact⟨zi c.s,a⟩
 | true =>
  have f:=Z (fun W=>d ▸ YJ t.u0 t.u1 t.u2 4 W);cases h:xD t.w0 t.w1 t.w2 6 with
  | false =>have c:Hid (zS t=false):=(by simp_all);have b:=Z (fun W=>h ▸ YJ t.w0 t.w1 t.w2 6 W);clear d h i;go_enter func10,ntmps10;go_wp2_with fail;refine (f _).mr fun k hb=>?_;have g:=ze hb;have a:=Z ((Qd w _).t (hb.m sM));clear hb f;go_wp2_with fail;refine (b _).mr fun m hb=>?_;have j:=Z (a.t (hb.m a.size));clear hb a g b;go_wp2_with fail;go_ret;exact⟨zi c.s,j⟩
  | true =>have c:Hid (zS t=br t.r 1 128):=(by simp_all);have b:=Z (fun W=>h ▸ YJ t.w0 t.w1 t.w2 6 W);clear d h i;go_enter func10,ntmps10;go_wp2_with fail;refine (f _).mr fun k hb=>?_;have g:=ze hb;have a:=Z ((Qd w _).t (hb.m sM));have l:w.heap.size<k.heap.size:=(by have:=hb.size;simp at this;omega);clear hb f;go_wp2_with fail;refine (b _).mr fun m hb=>?_;have j:=Z (a.t (hb.m a.size));have n:m.cell? (E w.heap.size 6)=Y t.r:=(by rw [ze hb _ _ l,g _ _ sM];go_simp);clear hb a g b l;go_wp2_with fail;refine (ZK t.r 128 _).mr fun o rfl=>?_;go_wp2_with fail;go_ret;exact⟨zi c.s,j⟩
def vw (t:Tg) (w:wO):Cp 10 #[.agg t.cells] w (Rt w (.bool (zS t))) :=
 Y8 t w
def Vc (t:Tg) (op:Int) (w:wO) :
  Cp 82 #[(tV t),J op] w (Rt w (J (yj t op))):=by
 have hmay:=Y8 t (w.alloc (tO t));cases hm:zS t with
 | false =>
  have d:Hid (yj t op=0):=by show yj _ _=0;grind [yj]
  rw [hm] at hmay;have b:=Z hmay;clear hmay hm;go_enter func82,ntmps82;go_wp2_with fail;refine b.mr fun g hb=>?_;have f:=Z ((Qd w _).t (hb.m sM));clear hb b;go_wp2_with fail;go_ret;exact⟨xe d.s,f⟩
 | true =>
  rw [hm] at hmay;have b:=Z hmay;have d:Hid (yj t op=Xb t (ye op)):=by grind [yj]
  have c:=fun W=>pE op W;clear hmay hm;rcases VA op with a | a | a
  ·rw [a] at c;have h:=Z c;have i:Hid (yj t op=t.w0):=(by show _=_;rw [d,a];rfl);clear c a d;go_enter func82,ntmps82;go_wp2_with fail;refine b.mr fun g hb=>?_;have j:g.cell? (E w.z 3)=Y t.w0:=(by rw [ze hb _ _ sM];go_simp);have f:=Z ((Qd w _).t (hb.m sM));clear hb b;go_wp2_with fail;refine (h _).mr fun k rfl=>?_;go_wp2_with fail;go_ret;exact⟨xe i.s,f⟩
  ·rw [a] at c;have h:=Z c;have i:Hid (yj t op=t.w1):=(by show _=_;rw [d,a];rfl);clear c a d;go_enter func82,ntmps82;go_wp2_with fail;refine b.mr fun g hb=>?_;have j:g.cell? (E w.z 4)=Y t.w1:=(by rw [ze hb _ _ sM];go_simp);have f:=Z ((Qd w _).t (hb.m sM));clear hb b;go_wp2_with fail;refine (h _).mr fun k rfl=>?_;go_wp2_with fail;go_ret;exact⟨xe i.s,f⟩
  rw [a] at c;have h:=Z c;have i:Hid (yj t op=t.w2):=by show _=_;rw [d,a];rfl
  clear c a d;go_enter func82,ntmps82;go_wp2_with fail;refine b.m ?_;rintro e g ⟨rfl,hb⟩;have j:g.cell? (E w.z 5)=Y t.w2:=by rw [ze hb _ _ sM];go_simp
  have f:=Z ((Qd w _).t (hb.m sM));clear hb b;go_wp2_with fail;refine (h _).mr fun k rfl=>?_;go_wp2_with fail;go_ret;exact⟨xe i.s,f⟩
def vx (t:Tg) (op:Int) (w:wO):Cp 82 #[.agg t.cells,J op] w (Rt w (J (yj t op))) :=
 Vc t op w
section
variable {w w':wO} {base n:Nat} {G C len:Nat->Nat} {f:Nat->Nat->Int}
theorem Tryz.i2:(Tryz.prog.info? 2).map (fun i=>(i.zero,i.size,i.bytes))=some (some (J 0),1,8):=kR
def Tryz.i56:(Tryz.prog.info? 56).map (fun i=>(i.zero,i.size,i.bytes))=some (some (.slice none 0 0),1,24):=kR
def Xc (w:wO) (base:Nat) (G C:Nat->Nat) (n:Nat) (len:Nat->Nat) (f:Nat->Nat->Int):Prop :=
 (∀i,i<n->base<=G i/\len i<=C i/\C i<=maxLen/\zr w (G i) 2 (len i) (fun j=>J (f i j)))/\∀i j,i<n->j<n->i≠j->G i≠G j
def YU (G C len:Nat->Nat) (i:Nat):vO:=.slice (pA (G i)) (len i) (C i)
def Xc.keep (h:Xc w base G C n len f) (hb:∀i,i<n->w'.heap[G i]?=w.heap[G i]?):Xc w' base G C n len f :=
 ⟨fun i hi=>⟨(h.1 i hi).1,(h.1 i hi).2.1,(h.1 i hi).2.2.1,(h.1 i hi).2.2.2.gG (hb i hi)⟩,h.2⟩
def Xc.gE (h:Xc w base G C n len f) (hb:Bw w w'):Xc w' base G C n len f :=
 h.keep fun i hi=>hb.block _ (h.1 i hi).2.2.2.lt
def Xc.snoc (h:Xc w base G C n len f) (g c:Nat) (d:base<=g) (a:len n<=c) (hm:c<=maxLen)
  (hr:zr w g 2 (len n) (fun j=>J (f n j))) (b:∀i,i<n->G i≠g) :
  Xc w base (fun i=>if i=n then g else G i) (fun i=>if i=n then c else C i) (n+1) len f:=by grind [Xc]
theorem sd (G C len:Nat->Nat) (n g c:Nat):((List.range n).map (YU G C len))++[.slice (pA g) (len n) c]=(List.range (n+1)).map (YU (fun i=>if i=n then g else G i) (fun i=>if i=n then c else C i) len):=by
 rw [Wn,QV];congr 1
 ·refine Et fun i hi=>?_;grind [YU]
 simp [YU]
def wD {b o:Nat} {zs:Li} (h:∀i,i<zs.length->w.cell? (E b (o+i))=Y (ak zs i)):∀j u,(zs.map (Value.int .i64))[j]?=some u->w.cell? (((E b o):Addr).add j)=some u:=by
 intro j u a;rw [Wc] at a;have d:j<zs.length:=by
  grind
 have c:((E b o):Addr).add j=(E b (o+j)):=by simp [Addr.add]
 grind [ak]
def wE (zs:Li):∀u∈zs.map (Value.int .i64),u.oneCell':=by intro u a;obtain⟨z,_,rfl⟩:=WV.1 a;rfl
def VE (zs:Li) (i:Nat) (h:i<zs.length):(zs.map (Value.int .i64)).getD i (.bool false)=J (ak zs i):=by grind [ak]
def wF {w1:wO} {e:TypeId} {c:Nat} (h:(w.alloc (.cells #[] e)).grownBy w1 (Value.ownBlock (.slice (pA w.heap.size) n c))):Bw w w1 :=
 (Qd w (.cells #[] e)).grown h sM (fun k a=>by
  have:w.z=k:=by simpa [Value.ownBlock] using a
  lia)
def xH (w:wO) (x:vO) (t:TypeId):∀(j:Nat) (u:vO),[x][j]?=some u->(w.alloc (.cells #[x] t)).cell? (((E w.heap.size 0):Addr).add j)=some u:=by
 intro j u a;match j,a with
 | 0,a =>
  have h:x=u:=by simpa using a
  subst h;simp [Addr.add]
def Hq {a b:Li} (d:a.length=b.length) (h:∀j,j<a.length->ak a j=ak b j):a=b:=by refine List.ext_getElem d fun i h1 c=>?_;have:=h i h1;simpa [ak,List.getD,h1,c] using this
def Hr (x:Int) (h0:-9223372036854775808<=x) (h1:x<=9223372036854775807):IntKind.i64.wrap x=x:=by rw [Wq];lia
def Vu (L:Lp) (B M:List Li) (gD:Int):Int:=if xP L B M=true then (if 0<=gD/\gD<=200 then 0 else 3) else 2
end
section
variable {w wr wq:wO} {base n q oc:Nat} {v l0 l1 l2 s0 s1 mv:vO} {zs:Li} {oa:Option Addr}
structure ur (w0:wO) (base:Nat) (mv:vO) (gm cap A gD N n T:Nat) (G C len GA:Nat->Nat) (s:Sq) (wr:wO):Prop where
 bel:Below base w0 wr
 outer:n=0\/(mv=.slice (pA gm) n cap/\n<=cap/\cap<=maxLen/\zr wr gm 56 n (YU G C len)/\base<=gm/\gm<A)
 inner:Xc wr base G C n len s.mem
 under:∀i,i<n->G i<A
 hall:zr wr A 56 gD (fun i=>if i<T then .slice (pA (GA i)) N N else .slice none 0 0)
 rows:∀i,i<T->A<GA i/\zr wr (GA i) 2 N (fun k=>J (s.val i k))
 inj:∀i j,i<T->j<T->i≠j->GA i≠GA j
 hA:base<=A
def Yf {e:TypeId} {b:List vO} (h:w.ownsRow base e 1 v n b):∃a cap,v=.slice a n cap/\n<=cap/\cap<=maxLen:=by
 obtain⟨c,h⟩:=h;grind
def Vz (w:wO) (l0 l1 l2 s0 s1:vO):wO:=((w.alloc (.cells #[l0,l1,l2] 62)).alloc (.cells #[s0,s1] 116)).alloc (.cells #[.slice none 0 0,.slice none 0 0] 119)
theorem Xv (w:wO) (l0 l1 l2 s0 s1:vO):(Vz w l0 l1 l2 s0 s1).heap.size=w.heap.size+3:=by unfold Vz;simp
def xv (w:wO) (l0 l1 l2 s0 s1:vO):Bw w (Vz w l0 l1 l2 s0 s1):=QJ _ _ _ _
def Rb (h:Below (w.heap.size+3) (Vz w l0 l1 l2 s0 s1) wr) :
  wr.cell? (E w.heap.size 0)=some l0/\wr.cell? (E w.heap.size 1)=some l1/\wr.cell? (E w.heap.size 2)=some l2/\wr.cell? (E (w.heap.size+1) 0)=some s0/\wr.cell? (E (w.heap.size+1) 1)=some s1 /\
   Bw w wr/\w.heap.size+3<=wr.heap.size:=by
 have a:=h.size
 rw [Xv] at a
 refine⟨?_,?_,?_,?_,?_,(xv w l0 l1 l2 s0 s1).t (h.m oM),a⟩
 ·rw [h.cell (p:=(E w.z 0)) sA];unfold Vz;go_simp
 ·rw [h.cell (p:=(E w.z 1)) sA];unfold Vz;go_simp
 ·rw [h.cell (p:=(E w.z 2)) sA];unfold Vz;go_simp
 ·rw [h.cell (p:=(E (w.z+1) 0)) sA];unfold Vz;go_simp
 ·rw [h.cell (p:=(E (w.z+1) 1)) sA];unfold Vz;go_simp
def ur.first {w0 w1:wO} {b:Option Addr} {a gD N:Nat} {G C len:Nat->Nat} {f:Nat->Nat->Int} (hb:Bw w0 w1) (t:w1.ownsRow w0.heap.size 56 1 (.slice b n a) n ((List.range n).map (YU G C len)))
  (hi:Xc w1 w0.heap.size G C n len f):∃gm,ur w0 w0.heap.size (.slice b n a) gm a w1.heap.size gD N n 0 G C len (fun _=>0) ⟨f,fun _ _=>0⟩ (w1.alloc (.cells (madeCells #[.slice none 0 0] gD) 56)):=by
 have p:=hb.size;have c:=Qd w1 (.cells (madeCells #[sN] gD) 56)
 have q:∀gm,(n=0\/(Value.slice b n a=vP gm n a/\n<=a/\a<=maxLen/\zr w1 gm 56 n (YU G C len)/\w0.z<=gm/\gm<w1.z)) ->
   ur w0 w0.z (.slice b n a) gm a w1.z gD N n 0 G C len (fun _=>0) ⟨f,fun _ _=>0⟩ (w1.alloc (.cells (madeCells #[sN] gD) 56)):=by
  intro gm l
  refine { bel:=hb.t (c.m p),outer:=?_,inner:=hi.gE c,under:=fun i h=>(hi.1 i h).2.2.2.lt,hall:=?_,rows:=fun i h=>absurd h (Qv _),inj:=fun i j h=>absurd h (Qv _),hA:=p }
  ·rcases l with e | ⟨d,m,k,o,r⟩
   ·exact .inl e
   ·exact .inr ⟨d,m,k,o.gE c o.lt,r⟩
  ·simp [zr.zeros]
 by_cases e:n=0
 ·simp_all
 obtain⟨g,cap,u,l,h1,s,hr⟩:=yC t (.inr lI);injection u with d m k;subst d;subst k;refine⟨g,q g (.inr ⟨rfl,h1,s,hr.congr fun i hi=>?_,l,hr.lt⟩)⟩;grind
def Rc {l:Li} (h:Vq n l) {i:Nat} (hi:i<l.length):0<=ak l i/\ak l i<n:=by have h1:=zH.1 (zq h i hi);have a:=XK n l i lI (yk fun k b=>zq h k lI);lia
def Vj (wr wq:wO) (zs:Li) (q:Nat) (mv:vO) (oa:Option Addr) (oc:Nat):Prop :=
 wq.heap[wr.heap.size]?=some (.cells #[.slice oa q oc,mv] 119 (0,0))/\wq.ownsRow (wr.heap.size+1) 2 1 (.slice oa q oc) q ((zs.take q).map (Value.int .i64))/\Bw wr wq
def Vj.first (wr:wO) (zs:Li) (mv:vO):Vj wr (wr.alloc (.cells #[.slice none 0 0,mv] 119)) zs 0 mv none 0 :=
 ⟨by show (wr.heap.push _)[wr.z]?=_;simp,World.ownsRow_nil _ _ _ _,Qd _ _⟩
def Vj.cells (h:Vj wr wq zs q mv oa oc) :
  wq.cell? (E wr.heap.size 0)=some (.slice oa q oc)/\wq.cell? (E wr.heap.size 1)=some mv/\(∀i,wq.frozen? (E wr.heap.size i)=false)/\wr.heap.size<wq.heap.size :=
 ⟨cb h.1,cb h.1,fun i=>WS h.1 i,(lo h.1)⟩
theorem DG (zs:Li) (q:Nat) (h:q<zs.length):(zs.take q).map (Value.int .i64)++[J (ak zs q)]=(zs.take (q+1)).map (Value.int .i64):=by rw [E0 h,QV];congr 1;simp [ak,List.getD,h]
def Vj.step {w2:wO} {v2:vO} {o1:Obj} (h:Vj wr wq zs q mv oa oc) (m:q<zs.length)
  (l:w2.ownsRow (wr.heap.size+1) 2 1 v2 (q+1) ((zs.take q).map (Value.int .i64)++[J (ak zs q)])) (f:((wq.drewN n).alloc o1).grownBy w2 (Value.ownBlock (.slice oa q oc))) :
  ∃a b,v2=.slice a (q+1) b/\w2.cell? (E wr.heap.size 0)=some (.slice oa q oc)/\w2.frozen? (E wr.heap.size 0)=false/\Vj wr (w2.setCell (E wr.heap.size 0) v2) zs (q+1) mv a b:=by
 obtain⟨a,b,rfl,-,o⟩:=Yf l;have g:=h.cells.2.2.2;have d:=h.2.1;have i:some wr.z≠Value.ownBlock (.slice oa q oc):=fun e=>by have:=zR d _ e.s;lia
 have c:w2.heap[wr.z]?=some (.cells #[.slice oa q oc,mv] 119 (0,0)):=by rw [f.block wr.z (by simp;lia) i,Qr (wq.drewN n) o1 wr.z g];exact h.1
 refine⟨a,b,rfl,cb c,WS c 0,?_,?_,?_⟩
 ·rw [WD c];rfl
 ·refine ownsRow_setCell_below ?_ sA _;grind [DG]
 refine Below.setCell ?_ sA _;have hb:=h.2.2;refine (hb.t ((Qm _ _ n).alloc (by have:=hb.size;simp;lia) o1)).grown f (by have:=hb.size;simp;lia) (fun k j=>by have:=zR d k j;lia)
def DH (h:w.ownsRow base 2 1 v zs.length (zs.map (Value.int .i64))) (k:∀i,bB (ak zs i)):zM w v zs:=by obtain⟨a,cap,d,h1,f⟩:=Yf h;refine⟨a,cap,d,h1,f,fun i _=>k i,fun j=>?_⟩;obtain⟨g,c,b,n,l,m,hr⟩:=yC h (.inr j);rw [d] at b;injection b with e1 e2 e3;refine⟨g,0,e1,hr.lt,fun i hi=>?_⟩;rw [QO,hr.cell hi,VE zs i hi]
def Rf (h:Below (w.heap.size+3) (Vz w l0 l1 l2 s0 s1) wr):wr.heap[w.heap.size+2]?=some (.cells #[.slice none 0 0,.slice none 0 0] 119 (0,0)):=by rw [h.block _ lI];unfold Vz;show ((((w.heap.push _).push _).push _))[w.z+2]?=_;rw [Array.getElem?_push,Qf sM]
theorem Ug (L:Lp) (B:List Li) (t:Nat) (s:Sq):(Zg L B t s).length=L.o.length:=by unfold Zg;simp
def DI (L:Lp) (B:List Li) (t:Nat) (s:Sq) (i:Nat) (h:i<L.o.length):ak (Zg L B t s) i=if t=0 then ak (zB B (ak L.o i).toNat) 0 else s.val (t - 1) (ak L.o i).toNat:=by grind [ak,Zg]
def Rg (L:Lp) (B:List Li) (t:Nat) (s:Sq) (hB:Y6 B) (hs:s.fine):∀i,bB (ak (Zg L B t s) i):=by
 intro i;by_cases h:i<L.o.length
 ·rw [DI L B t s i h];exact yY (hB _ _) (hs.2 _ _)
 grind [ak,Ug,kC]
end
section
variable {w:wO} {base n gm cm:Nat} {e:TypeId} {v mv:vO} {len G C:Nat->Nat} {mF:Nat->Nat->Int} {t:Tg} {K:Kn} {logs:Li} {M:List Li} {gD now:Int} {s:i'}
def Tryz.i3:(Tryz.prog.info? 3).map (fun i=>(i.zero,i.size,i.bytes))=some (some (J 0),1,8):=kR
def Mx (M:List Li) (k:Nat) (h:k<M.length):((zK M).take k).map (Value.int .i64)++[J (Z8 (zB M k).length:Int)]=((zK M).take (k+1)).map (Value.int .i64):=by
 have a:k<(zK M).length:=by rw [Zn];exact h
 rw [E0 a,QV];congr 1;have:=YF M k h;grind [ak]
def My {b:List vO} (h:w.ownsRow base e 1 v n b):∃a cap,v=.slice a n cap/\n<=cap/\cap<=maxLen:=by
 obtain⟨c,h⟩:=h;grind
theorem Ub {zs:Li} (h:w.ownsRow base e 1 v zs.length (zs.map (Value.int .i64))) (k:∀i,i<zs.length->-9223372036854775808<=ak zs i/\ak zs i<=9223372036854775807):zM w v zs:=by obtain⟨a,cap,d,h1,f⟩:=My h;refine⟨a,cap,d,h1,f,k,fun j=>?_⟩;obtain⟨g,c,b,n,l,mF,hr⟩:=yC h (.inr j);rw [d] at b;injection b with e1 e2 e3;refine⟨g,0,e1,hr.lt,fun i hi=>?_⟩;rw [QO,hr.cell hi,VE zs i hi]
structure MR (w:wO) (base:Nat) (mv:vO) (n:Nat) (len:Nat->Nat) (mF:Nat->Nat->Int) (gm cm:Nat) (G C:Nat->Nat):Prop where
 shape:∃am,mv=.slice am n cm/\n<=cm/\cm<=maxLen
 o:n=0\/(mv=.slice (pA gm) n cm/\zr w gm 56 n (YU G C len)/\base<=gm)
 inn:Xc w base G C n len mF
theorem MR.m {a:Nat} (h:MR w base mv n len mF gm cm G C) (hb:a<=base):MR w a mv n len mF gm cm G C where
 shape:=h.shape
 o:=by
  rcases h.o with e | ⟨b,c,d⟩
  ·exact .inl e
  ·grind
 inn:=⟨fun i hi=>⟨by have:=(h.inn.1 i hi).1;lia,(h.inn.1 i hi).2.1,(h.inn.1 i hi).2.2.1,(h.inn.1 i hi).2.2.2⟩,h.inn.2⟩
def MR.of_copy {w':wO} (c:w'.ownsRow base 56 1 mv n ((List.range n).map (YU G C len))) (hi:Xc w' base G C n len mF):∃gm cm,MR w' base mv n len mF gm cm G C:=by
 obtain⟨a,cm,d,h1,b⟩:=zD c;by_cases e:n=0
 ·exact⟨0,cm,⟨a,d,h1,b⟩,.inl e,hi⟩
 obtain⟨g,cap,f,j,k,l,hr⟩:=yC c (.inr lI);have h:cap=cm:=sA
 subst h;exact⟨g,cap,⟨a,d,h1,b⟩,.inr ⟨f,hr.congr fun i hi=>rQ,j⟩,hi⟩
def MR.rows (h:MR w base mv n len mF gm cm G C) (hs:∀i j,bB (mF i j)) :
  yu w mv ((List.range n).map fun i=>(List.range (len i)).map fun j=>mF i j):=by
 have d:((List.range n).map fun i=>(List.range (len i)).map fun j=>mF i j).length=n:=sM
 obtain⟨l,f,s,k⟩:=h.shape;refine⟨l,cm,by rw [d];exact f,lI,k,fun r=>?_⟩;rw [d] at r ⊢;rcases h.o with e | ⟨c,o,t⟩
 ·lia
 rw [f] at c;injection c with f1 f2 f3;refine⟨gm,0,f1,o.lt,fun i hi=>⟨YU G C len i,by grind [zr.cell],?_⟩⟩;obtain⟨u,v,p,q⟩:=h.inn.1 i hi;have hr:zB ((List.range n).map fun i=>(List.range (len i)).map fun j=>mF i j) i=(List.range (len i)).map fun j=>mF i j:=by grind [zB]
 have g:∀j,j<len i->ak ((List.range (len i)).map fun j=>mF i j) j=mF i j:=fun j a=>by grind [ak]
 have b:((List.range (len i)).map fun j=>mF i j).length=len i:=sM
 rw [hr];refine⟨some (E (G i) 0),C i,by rw [b];rfl,lI,p,fun j a=>?_,fun _=>⟨G i,0,rfl,q.lt,fun j a=>?_⟩⟩
 ·rw [b] at a;rw [g j a];exact hs i j
 grind [zr.cell]
def Zo (h:X7 t K logs):zS t/\1<=K.pc/\K.pc<=200/\1<=K.st/\K.st<=1001/\1<=K.ops.length/\K.ops.length<=16/\∀k,k<K.ops.length->ky t.r K.pc K.st logs (zv K.ops k):=by grind [X7,zH,zq]
def tw {r pc st:Int} {x:bt} (h:ky r pc st logs x):(0<=x.sl/\x.sl<pc)/\(0<=x.sg/\x.sg<st)/\(0<=x.d/\x.d<r)/\(0<=x.a/\x.a<r)/\(0<=x.b/\x.b<r)/\logs.length<=3 /\
  (x.o=1\/x.o=2\/(x.o=3/\0<=x.ar/\x.ar<logs.length)\/(x.o=4/\0<=x.ar/\x.ar<logs.length)\/(11<=x.o/\x.o<=18)):=by
 unfold ky xL UZ at h;simp only [Qg] at h;obtain⟨⟨⟨⟨f,g⟩,k⟩,⟨⟨⟨b1,b2⟩,b3⟩,b4⟩,b5⟩,c⟩:=h;have f:=zH.1 f;have g:=zH.1 g;have b1:=zH.1 b1;have b2:=zH.1 b2;have b3:=zH.1 b3;obtain⟨i,mF,n,p,q,s,j⟩:=zy c;refine⟨lI,lI,lI,lI,lI,i,?_⟩;have hs:yW logs.length 2 1 ⟨x.o,0,0,0,0,x.ar,x.sp,x.pl,x.nn⟩:=zq j 1 (by show 1<2;lia);have l:=rT hs;grind
def Mz (h:Zz M):∀i,i<M.length->0<(zB M i).length/\(zB M i).length<=32/\(zB M i).length=2 ^ (ak (zK M) i).toNat:=by
 intro i hi;have h1:decide (Z8 (zB M i).length<6):=zq h i hi;grind [Z8,YF]
def BN (logs:Li) (pc now:Int) (x:bt):iu x.sp x.pl (now / pc - x.sg) (ak logs x.ar.toNat)=(XY logs pc now x:Int):=by have h:=oX x.sp x.pl (now / pc - x.sg) (ak logs x.ar.toNat);unfold XY;lia
def BO (logs:Li) (pc now:Int) (x:bt):XY logs pc now x<2 ^ (ak logs x.ar.toNat).toNat:=by have h:=oX x.sp x.pl (now / pc - x.sg) (ak logs x.ar.toNat);unfold p2 at h;unfold XY;lia
def nV {l:List bt} {i:Nat} (h:i<l.length):zv l i∈l:=by grind [zv]
theorem tA {l:Li} (h:∀i,i<l.length->-9223372036854775808<=ak l i/\ak l i<=9223372036854775807) (i:Nat):bB (ak l i):=by grind [ak,bB]
def BP {R:Li} {X:Int} (hR:∀i,bB (ak R i)) (a:∀i j,bB (ak (zB M i) j)):(lG R M).fine X :=
 ⟨hR,a,fun d b=>absurd b (by show ¬d∈[];simp)⟩
def MA (h:yu w v M):∀i j,bB (ak (zB M i) j):=by
 intro i j;by_cases hi:i<M.length
 ·obtain⟨a,cap,e,h1,mF,d⟩:=h;obtain⟨b,g,l,n,f⟩:=d lI;obtain⟨u,o,⟨ra,rc,p,q,r,k,c⟩⟩:=f i hi;exact tA k j
 grind [zB,tA]
def MB {f:Nat->Int} {q:Nx} (hr:1<=t.r) (l:∀i,bB (f i)) (hm:∀i j,bB (mF i j)) (n:∀i j,bB (q.nx i j)) (b:∀d∈q.du,0<=d.rg/\d.rg<t.r/\bB d.v)
  (h:∀k,k<K.ops.length->bB (zv K.ops k).nn/\bB (now / K.pc - (zv K.ops k).sg)):∀k,k<=K.ops.length->(∀i j,bB ((VJ t K logs gD now f mF q k).nx i j))/\∀d∈(VJ t K logs gD now f mF q k).du,0<=d.rg/\d.rg<t.r/\bB d.v:=by
 intro k;induction k with
 | zero=>exact fun _=>⟨n,b⟩
 | succ k ih =>
  intro o;obtain⟨h1,c⟩:=ih lI;have g:bB (kD logs t.r K.pc now f mF (zv K.ops k)):=GD l hm (h k lI).1 (h k lI).2;show (∀i j,bB ((jk t logs K.pc gD now f mF (VJ t K logs gD now f mF q k) (zv K.ops k)).nx i j))/\∀d∈(jk t logs K.pc gD now f mF (VJ t K logs gD now f mF q k) (zv K.ops k)).du,_;unfold jk;split
  ·refine⟨fun i j=>?_,fun d b=>?_⟩
   ·dsimp only;split
    ·exact yY g (h1 i j)
    exact h1 i j
   rcases QK.1 b with a | a
   ·exact c d a
   rw [QT.1 a];exact⟨QS _ lI,QP _ lI,g⟩
  exact⟨h1,c⟩
theorem MC (hr:1<=t.r) (hs:s.fine t.r) (d:∀k,k<K.ops.length->bB (zv K.ops k).nn/\bB (now / K.pc - (zv K.ops k).sg)):(kE t K logs gD now s).fine t.r:=by
 have h1:=Gz (now:=now) hs.f hs.due s.due.length (Qc _);have c:=wc (now:=now) hs.due s.due.length (Qc _);unfold kE;split
 ·exact⟨h1,hs.m,c⟩
 obtain⟨a,b⟩:=MB (t:=t) (logs:=logs) (gD:=gD) (now:=now) hr h1 hs.m (q:=⟨s.m,xx now s.due s.due.length⟩) hs.m c d K.ops.length (Qc _);exact⟨h1,a,b⟩
def MD {N:Nat} (hr:1<=t.r) (hs:s.fine t.r) (a:∀T:Nat,T<N->∀k,k<K.ops.length->bB (zv K.ops k).nn/\bB ((T:Int) / K.pc - (zv K.ops k).sg)):∀T,T<=N->(ym t K logs gD s T).fine t.r:=by intro T;induction T <;> grind [ym,MC]
end
def yL {w wr:wO} {a b c d f g:vO} {t:Tg} {i tb tc:TypeId} (h:Below (w.heap.size+1+1+1) (((w.alloc (.cells #[a,b,c] i)).alloc (.cells #[J t.u0,J t.u1,J t.u2,J t.w0,J t.w1,J t.w2,J t.r] tb)).alloc (.cells #[d,f,g] tc)) wr) :
  (wr.cell? (E w.heap.size 0)=some a/\wr.cell? (E w.heap.size 1)=some b/\wr.cell? (E w.heap.size 2)=some c) /\
  (wr.cell? (E (w.heap.size+1) 0)=Y t.u0/\wr.cell? (E (w.heap.size+1) 1)=Y t.u1/\wr.cell? (E (w.heap.size+1) 2)=Y t.u2/\wr.cell? (E (w.heap.size+1) 3)=Y t.w0/\wr.cell? (E (w.heap.size+1) 4)=Y t.w1/\wr.cell? (E (w.heap.size+1) 5)=Y t.w2/\wr.cell? (E (w.heap.size+1) 6)=Y t.r) /\
  (wr.cell? (E (w.heap.size+1+1) 0)=some d/\wr.cell? (E (w.heap.size+1+1) 1)=some f/\wr.cell? (E (w.heap.size+1+1) 2)=some g)/\w.heap.size+1+1<wr.heap.size/\Bw w wr:=by
 have hs:(((w.alloc (.cells #[a,b,c] i)).alloc (.cells #[J t.u0,J t.u1,J t.u2,J t.w0,J t.w1,J t.w2,J t.r] tb)).alloc (.cells #[d,f,g] tc)).heap.size=w.heap.size+1+1+1:=sM
 have k:=h.size;have j:Below (((w.alloc (.cells #[a,b,c] i)).alloc (.cells #[J t.u0,J t.u1,J t.u2,J t.w0,J t.w1,J t.w2,J t.r] tb)).alloc (.cells #[d,f,g] tc)).heap.size (((w.alloc (.cells #[a,b,c] i)).alloc (.cells #[J t.u0,J t.u1,J t.u2,J t.w0,J t.w1,J t.w2,J t.r] tb)).alloc (.cells #[d,f,g] tc)) wr:=by rw [hs];exact h
 refine⟨⟨?_,?_,?_⟩,⟨?_,?_,?_,?_,?_,?_,?_⟩,⟨?_,?_,?_⟩,oM,(QJ w _ _ _).t (h.m oM)⟩;all_goals rw [ze j _ _ oM]
 all_goals go_simp
section
variable {w:wO} {v:vO}
theorem tS (L:Lp) (t:Tg) (K:Kn) (O:Li) (B:List Li) (R:Li) (gD:Int):(Zm L t K O B R gD).length=L.o.length:=by unfold Zm;simp
def C0 (L:Lp) (t:Tg) (K:Kn) (O:Li) (B:List Li) (R:Li) (gD:Int) (i:Nat) (h:i<L.o.length):ak (Zm L t K O B R gD) i=if 0<gD then ak R ((zC K O (ak L.o i).toNat+gD - 1) % t.r).toNat else ak (zB B (ak L.o i).toNat) 0:=by unfold Zm ak;simp [List.getD,h]
theorem C1 {zs:Li} (h:zM w v zs):∀i,bB (ak zs i):=by
 obtain⟨a,cap,-,-,-,b,-⟩:=h;intro i;by_cases hi:i<zs.length
 ·exact b i hi
 grind [ak,kC]
def C2 {rs:List Li} (h:yu w v rs):Y6 rs:=by
 obtain⟨a,cap,-,-,-,b⟩:=h;intro i j;by_cases hi:i<rs.length
 ·grind [C1]
 have:zB rs i=[]:=by show (rs[i]?).getD []=[];simp_all
 rw [this];exact kC
def OT (L:Lp) (t:Tg) (K:Kn) (O:Li) (B:List Li) (R:Li) (gD:Int) (hB:Y6 B) (hR:∀i,bB (ak R i)):∀i,bB (ak (Zm L t K O B R gD) i):=by
 intro i;by_cases h:i<L.o.length
 ·rw [C0 _ _ _ _ _ _ _ _ h];split
  ·exact hR _
  exact hB _ _
 grind [ak,tS,kC]
def OU (L:Lp) (t:Tg) (K:Kn) (O:Li) (B:List Li):(U7 L t K O B).length=t.r.toNat:=by unfold U7;simp
def OV {F V:Li} (a:∀i,bB (ak V i)):∀m c,bB (kK F V m c):=by
 intro m;induction m with
 | zero=>intro c;exact kC
 | succ m ih =>
  intro c;show bB (VM (kK F V m) (ak F m).toNat (ak V m) c);grind [VM]
def OW (len:Nat->Nat) (g:Nat->Nat->Int) (b:∀s q,bB (g s q)):∀k i,bB (ak (XB len g k) i):=by
 have hall:∀k x,x∈XB len g k->bB x:=by
  intro k;induction k with
  | zero=>intro x a;cases a
  | succ k ih =>
   grind [XB]
 grind [ak,kC]
def OX {g n:Nat} {e:TypeId} {f:Nat->Int} (h:zr w g e n (fun c=>J (f c))) (hn:n<=maxLen) (b:∀c,bB (f c)):zM w (.slice (pA g) n n) ((List.range n).map f):=by
 have a:((List.range n).map f).length=n:=sM
 refine⟨_,n,by rw [a],lI,hn,fun i hi=>?_,fun _=>⟨g,0,rfl,h.lt,fun i hi=>?_⟩⟩
 ·rw [a] at hi;rw [Ze hi];exact b i
 grind [Ze,zr.cell]
end
def D2 (v:vO) (zs:Li) (w:wO) (h:zM w v zs) (h0:0<zs.length) (K:zs.length<=32) :
  Cp 106 #[v] w fun e w'=>∃g cap,e=.returned (.slice (pA g) zs.length cap)/\w.heap.size<=g/\cap<=maxLen /\
   Zh w' g 2 cap zs.length (fun j=>J (ak zs j))/\Bw w w':=by
 obtain⟨a,rc,rfl,L,hm,hr,m⟩:=h
 unfold maxLen at hm
 obtain⟨b2,o,rfl,t,k⟩:=m h0
 obtain⟨I,hi,y,z,A⟩:=info_parts Tryz.i2
 have M:∀(w:wO) (a:Option Addr) (n c f c':Nat),(binOp .eql 56 (.slice a n c) (.slice none f c')).run prog w=.ok (.bool a.isNone) w:=fun w a n c f c'=>Lib.run_eql_slice_nil w _ _ a n c f c' underlying56
 have x:Bw w (w.alloc (.cells #[] 2)):=Qd _ _
 have p:Hid ((zs.map (Value.int .i64)).length=zs.length*1):=by show _=_;simp
 have q:Hid (∀j u,(zs.map (Value.int .i64))[j]?=some u->(w.alloc (.cells #[] 2)).cell? (((E b2 o):Addr).add j)=some u):=wD (fun i hi=>by
  rw [ze x _ _ t];exact k i hi)
 have r:=Z (wE zs)
 clear m k hr
 go_enter func106,ntmps106
 go_wp2_with (at_builtin;refine QQ _ rfl (.tmp 5) (.tmp 6) 56 rfl w.z 2 I (J 0) 1 8 underlying56 hi y z A rfl tQ _ _ _ rfl (VL w 2) (E b2 o) _ rc _ rfl p q r mL oM sM ?_;intro N w1 b D d;obtain⟨B,C,rfl,-,-,-,-⟩:=yC b (.inr oM);go_must (have s:=wF D);have l:=Z b;clear b)
 go_ret
 simp only [QO] at l ⊢
 obtain⟨h1,F,G⟩:=uw l
 refine⟨B,C,rfl,h1,F,G.congr fun j H=>?_,s⟩
 rw [W8]
 exact VE zs j H
def rn (f:Nat->Int):Nat->Int:=fun j=>if j=0 then f 2 else if j=2 then f 0 else f j
def RT (g cap:Nat) (f:Nat->Int) (w:wO) (h:Zh w g 2 cap 3 (fun j=>J (f j))) (hm:cap<=maxLen) :
  Cp 153 #[.slice (pA g) 3 cap] w fun e w'=>e=.returned (.tuple #[])/\Zh w' g 2 cap 3 (fun j=>J (rn f j))/\∀B,B<=g->Below B w w':=by
 unfold maxLen at hm;have m:=h.row.cell (i:=0) oM;have n:=h.row.cell (i:=2) oM;have o:=h.row.frozen 0;have p:=h.row.frozen 2;have l:=h.le;have d:=Z h;clear h;go_enter func153,ntmps153;go_wp2;go_loopw [2,3] (fun i j wr=>(i=J 0/\j=J 2/\wr=w)\/(i=J 1/\j=J 1/\Zh wr g 2 cap 3 (fun j=>J (rn f j))/\∀B,B<=g->Below B w wr)) (fun i _ _=>2 - (intOf i).toNat)
 case atStart=>exact .inl ⟨rfl,rfl,rfl⟩
 rcases hrel with ⟨rfl,rfl,rfl⟩ | ⟨rfl,rfl,b,a⟩
 ·go_wp2;go_region;go_wp2;go_roundw
  case rel =>
   refine .inr ⟨rfl,rfl,?_,fun B hB=>?_⟩
   ·have h:=((d.set 0 (J (f 2)) oM).set 2 (J (f 0)) oM);refine Zh.congr h fun j q=>?_;grind [rn]
   exact (((QA _ _).setCell oM _).setCell oM _).drew
  simp [intOf]
 have k:=Z b;have c:=Z a;clear b a;go_wp2;go_end0;exact⟨rfl,k,c⟩
end Go.Proofs.YtjlfcbccpcigeacGreatDoor
