import Derived.Test.YtjlfcbccpcigeacGreatDoorC4
import Derived.Test.YtjlfcbccpcigeacGreatDoorE
import Derived.Test.YtjlfcbccpcigeacGreatDoorLaid
import Derived.Laws.AppendOwnNone
set_option maxHeartbeats 40000000
set_option linter.defProp false
namespace Go.Proofs.YtjlfcbccpcigeacGreatDoor
open Go.Proofs.Tryz Go.RowKit Go.Joins
set_option linter.unusedVariables false
set_option linter.unusedSimpArgs false
set_option maxRecDepth 8192
section
open Go.RowKit Go.Joins Go.Lib
open Go.RowKit Go.Joins Go.Lib Go.Shelf
variable {w:wO} {B g n c k:Nat} {e:TypeId} {xs:List vO} {d:Array Ed} {l:Li}
def MQ (w:wO) (a:Array vO) (e:TypeId) (cap:Nat) (h:a.size=cap*4) (hm:cap<=maxLen):(w.drew.alloc (.cells a e)).ownsRow w.heap.size e 4 (.slice (pA w.heap.size) 0 cap) 0 []:=by refine⟨rfl,.inr ⟨w.z,cap,a,rfl,Qc _,?_,Ql _,hm,h,sM⟩⟩;show (w.heap.push _)[w.z]?=_;simp
def MS (w:wO):Cp 80 #[.slice none 0 0,J 0] w (Re w (.slice none 0 0)) :=
 Any8.slices_Grow_room Tryz.growE none 0 0 0 w lI lI lI lI
def MT (n:Nat) (w:wO) (h0:0<n) (h:n<=300):Cp 80 #[.slice none 0 0,J n] w fun e w'=>∃c,e=.returned (.slice (pA w.heap.size) 0 c)/\w'.ownsRow w.heap.size 98 4 (.slice (pA w.heap.size) 0 c) 0 []/\Bw w w':=by
 obtain⟨j,k,b,l,d⟩:=info_parts Tryz.i98;have g:=Any8.slices_Grow_grow Tryz.growE j (.agg #[J 0,J 0,J 0,J 0]) k b lI none 0 0 n [] w lI lI (by rw [d];lia) lI sM (fun _=>rfl) (fun a h=>by cases h);refine g.m fun e w' ⟨i,f⟩=>⟨_,i,?_,?_⟩
 ·subst f;have m:0+n<=grownCap w (0+n) 0 (Tryz.growE_ren.t 25):=grownCap_ge w _ _ _;refine MQ w _ 98 _ ?_ (grownCap_le_maxLen w _ _ _ (by unfold maxLen;lia));simp only [Array.size_append,size_zeroCells];show 0+(0+n - 0)*4+(grownCap w (0+n) 0 (Tryz.growE_ren.t 25) - (0+n))*4=_;lia
 subst f;exact (zV w.z w).t (Qd w.drew _)
theorem pU (n:Nat) (w:wO) (h:n<=300):Cp 80 #[.slice none 0 0,J n] w fun e w'=>∃a c,e=.returned (.slice a 0 c)/\w'.ownsRow w.heap.size 98 4 (.slice a 0 c) 0 []/\Bw w w':=by
 by_cases h0:n=0
 ·subst h0;exact (MS w).m fun e w' ⟨b,f⟩=>⟨none,0,b,World.ownsRow_nil _ _ _ _,by rw [f];exact QA _ _⟩
 exact (MT n w lI h).m fun e w' ⟨c,b,d,hb⟩=>⟨_,c,b,d,hb⟩
def pV (h:w.ownsRow B e 4 (.slice (pA g) n c) n xs):∀(j:Nat) (u:vO),xs[j]?=some u->w.cell? (((E g 0):Addr).add j)=some u:=by
 intro j u a;obtain⟨o,h⟩:=h;rcases h with ⟨h,-⟩ | ⟨k,cap,b,i,m,hb,hn,hm,l,f⟩
 ·simp_all
 injection i with e1 e2 e3;injection e1 with e1;injection e1 with e1;subst e1;have d:((E g 0):Addr).add j=(E g j):=by simp [Addr.add];lia
 rw [<-f,We] at a;split at a
 ·rw [d,Qa hb];simpa using a
 cases a
def pW (l:List Ed):∀u∈yI l,u.oneCell':=by intro u b;unfold yI at b;obtain⟨d,-,a⟩:=List.mem_flatMap.1 b;unfold zY at a;simp at a;rcases a with rfl | rfl | rfl | rfl <;> rfl
theorem MU (a b:List Ed):yI (a++b)=yI a++yI b:=by unfold yI;simp
def YL (h:w.ownsRow B e 4 (.slice none n c) n xs):n=0/\c=0/\xs=[]:=by
 obtain⟨a,h⟩:=h;simp_all
def Yq {a:Addr} (h:w.ownsRow B e 4 (.slice (some a) n c) n xs):∃g,a=(E g 0):=by
 obtain⟨b,h⟩:=h;grind
set_option maxRecDepth 100000 in
def MV (l1 l2:List Ed) (f n1 n2 i j B1 B2 r s:Nat) (w:wO) (R:l1.length=n1) (S:l2.length=n2) (B:w.cell? (E f 0)=some (.slice (pA r) n1 i)) (C:w.cell? (E f 1)=some (.slice (pA s) n2 j)) (n:f<w.heap.size)
  (h1:w.ownsRow B1 98 4 (.slice (pA r) n1 i) n1 (yI l1)) (I:w.ownsRow B2 98 4 (.slice (pA s) n2 j) n2 (yI l2)) (hlen:n1+n2<=300) :
  Cp 44 #[.slice (pA f) 2 2] w fun e w'=>∃G,e=.returned G/\w'.ownsRow w.heap.size 98 4 G (n1+n2) (yI l1++yI l2)/\Bw w w':=by
 have N:=Z h1;have O:=Z I;have P:Hid (Cp 80 #[sN,J ((n1:Int)+(n2:Int))] w fun e w'=>∃a c,e=.returned (.slice a 0 c)/\w'.ownsRow w.z 98 4 (.slice a 0 c) 0 []/\Bw w w'):=by have h:=pU (n1+n2) w oM;exact h
 obtain⟨L,M,k,l,m⟩:=info_parts Tryz.i98;have A:n1<=i/\i<=maxLen:=by grind [zD]
 unfold maxLen at A;obtain⟨bD,bE⟩:=A;have y:n2<=j/\j<=maxLen:=by grind [zD]
 unfold maxLen at y;obtain⟨bF,bG⟩:=y;clear h1 I;go_enter func44,ntmps44;go_wp2;apply wp_loop_rounds 3;rw [rounds_succ];go_wp2;rw [rounds_succ];go_wp2;rw [rounds_succ];go_wp2_with fail;apply P.o.m;rintro e x1 ⟨ga,gc,rfl,K,g⟩;have D:=Z K;have q:=Z g;have d0:=(ze g f 0 n).t B;have F:=(ze g f 1 n).t C;have z:=g.size;clear K g B C;go_wp2;apply wp_loop_rounds 3;rw [rounds_succ];go_wp2_with (at_builtin;apply QQ _ rfl (.tmp 31) (.tmp 32) 68 rfl w.z 98 L (.agg #[J 0,J 0,J 0,J 0]) 4 32 underlying68 M k l m rfl tQ _ _ _ rfl D.o (E r 0) n1 i (yI l1) rfl (by rw [pO,R]) (pV (zp N.o q.o)) (pW l1) mL oM z;intro v2' w2 p H t;rw [QO,W8] at p;obtain⟨U,W,rfl,bK,bL⟩:=zD p;have x:=Z p;have o:=Z (q.o.grown H z (zE D.o));clear p H);have F:=(ze o.o f 1 n).t ((ze q.o f 1 n).s.t F);rw [rounds_succ];have v:=o.o.size;go_wp2_with (at_builtin;apply QQ _ rfl (.tmp 31) (.tmp 32) 68 rfl w.z 98 L (.agg #[J 0,J 0,J 0,J 0]) 4 32 underlying68 M k l m rfl tQ _ _ _ rfl x.o (E s 0) n2 j (yI l2) rfl (by rw [pO,S]) (pV (zp O.o o.o)) (pW l2) mL oM v;intro v3' w3 b d u;obtain⟨V,X,rfl,bM,bN⟩:=zD b;have T:=Z b;have Q:=Z (o.o.grown d v (zE x.o));clear b d);rw [rounds_succ];go_wp2;go_ret;exact⟨_,rfl,by have h:=T.o;exact h,Q.o⟩
set_option maxRecDepth 100000 in
def MW (l1 l2:List Ed) (b n1 n2 f S B1 B2 k U:Nat) (w:wO) (H:l1.length=n1) (N:l2.length=n2) (s:w.cell? (E b 0)=some (.slice (pA k) n1 f)) (t:w.cell? (E b 1)=some (.slice none 0 0)) (g:b<w.heap.size)
  (h1:w.ownsRow B1 98 4 (.slice (pA k) n1 f) n1 (yI l1)) (A:w.ownsRow B2 98 4 (.slice none 0 0) 0 (yI [])) (hlen:n1+n2<=300) :
  Cp 44 #[.slice (pA b) 2 2] w fun e w'=>∃y,e=.returned y/\w'.ownsRow w.heap.size 98 4 y (n1+0) (yI l1++yI [])/\Bw w w':=by
 have F:=Z h1;have M:=Z A;have G:Hid (Cp 80 #[sN,J ((n1:Int))] w fun e w'=>∃a c,e=.returned (.slice a 0 c)/\w'.ownsRow w.z 98 4 (.slice a 0 c) 0 []/\Bw w w'):=by grind [pU]
 obtain⟨C,D,m,n,o⟩:=info_parts Tryz.i98;have r:n1<=f/\f<=maxLen:=by grind [zD]
 unfold maxLen at r;obtain⟨O,P⟩:=r;clear h1 A;go_enter func44,ntmps44;go_wp2;apply wp_loop_rounds 3;rw [rounds_succ];go_wp2;rw [rounds_succ];go_wp2;rw [rounds_succ];go_wp2_with fail;apply G.o.m;rintro e X ⟨V,W,rfl,B,d⟩;have u:=Z B;have j:=Z d;have T:=(ze d b 0 g).t s;have x:=(ze d b 1 g).t t;have q:=d.size;clear B d s t;go_wp2;apply wp_loop_rounds 3;rw [rounds_succ];go_wp2_with (at_builtin;apply QQ _ rfl (.tmp 31) (.tmp 32) 68 rfl w.z 98 C (.agg #[J 0,J 0,J 0,J 0]) 4 32 underlying68 D m n o rfl tQ _ _ _ rfl u.o (E k 0) n1 f (yI l1) rfl (by rw [pO,H]) (pV (zp F.o j.o)) (pW l1) mL oM q;intro L w2 i z l;rw [QO,W8] at i;obtain⟨I,K,rfl,Q,R⟩:=zD i;have p:=Z i;have v:=Z (j.o.grown z q (zE u.o));clear i z);have x:=(ze v.o b 1 g).t ((ze j.o b 1 g).s.t x);rw [rounds_succ];go_wp2_with (at_builtin;refine wpList_append_own_none rfl (.tmp 31) (.tmp 32) 68 rfl w.z 98 C 4 underlying68 D _ _ _ rfl p.o rfl ?_);rw [rounds_succ];go_wp2;go_ret;exact⟨_,rfl,by have h:=p.o;simpa [yI] using h,v.o⟩
set_option maxRecDepth 100000 in
def MX (l1 l2:List Ed) (f n1 n2 S i B1 B2 V l:Nat) (w:wO) (N:l1.length=n1) (F:l2.length=n2) (t:w.cell? (E f 0)=some (.slice none 0 0)) (u:w.cell? (E f 1)=some (.slice (pA l) n2 i)) (s:f<w.heap.size)
  (h1:w.ownsRow B1 98 4 (.slice none 0 0) 0 (yI [])) (x:w.ownsRow B2 98 4 (.slice (pA l) n2 i) n2 (yI l2)) (hlen:n1+n2<=300) :
  Cp 44 #[.slice (pA f) 2 2] w fun e w'=>∃v,e=.returned v/\w'.ownsRow w.heap.size 98 4 v (0+n2) (yI []++yI l2)/\Bw w w':=by
 have L:=Z h1;have B:=Z x;have C:Hid (Cp 80 #[sN,J ((n2:Int))] w fun e w'=>∃a c,e=.returned (.slice a 0 c)/\w'.ownsRow w.z 98 4 (.slice a 0 c) 0 []/\Bw w w'):=by grind [pU]
 obtain⟨z,A,n,o,p⟩:=info_parts Tryz.i98;have r:n2<=i/\i<=maxLen:=by grind [zD]
 unfold maxLen at r;obtain⟨O,P⟩:=r;clear h1 x;go_enter func44,ntmps44;go_wp2;apply wp_loop_rounds 3;rw [rounds_succ];go_wp2;rw [rounds_succ];go_wp2;rw [rounds_succ];go_wp2_with fail;apply C.o.m;rintro e x1 ⟨W,X,rfl,y,g⟩;have k:=Z y;have j:=Z g;have T:=(ze g f 0 s).t t;have U:=(ze g f 1 s).t u;have M:=g.size;clear y g t u;go_wp2;apply wp_loop_rounds 3;rw [rounds_succ];go_wp2_with (at_builtin;refine wpList_append_own_none rfl (.tmp 31) (.tmp 32) 68 rfl w.z 98 z 4 underlying68 A _ _ _ rfl k.o rfl ?_);rw [rounds_succ];have q:=j.o.size;go_wp2_with (at_builtin;apply QQ _ rfl (.tmp 31) (.tmp 32) 68 rfl w.z 98 z (.agg #[J 0,J 0,J 0,J 0]) 4 32 underlying68 A n o p rfl tQ _ _ _ rfl k.o (E l 0) n2 i (yI l2) rfl (by rw [pO,F]) (pV (zp B.o j.o)) (pW l2) mL oM q;intro K w3 b d m;rw [QO,W8] at b;obtain⟨H,I,rfl,Q,R⟩:=zD b;have G:=Z b;have D:=Z (j.o.grown d q (zE k.o));clear b d);rw [rounds_succ];go_wp2;go_ret;exact⟨_,rfl,by have h:=G.o;simpa [yI] using h,D.o⟩
set_option maxRecDepth 100000 in
def MY (l1 l2:List Ed) (b n1 n2 A B B1 B2 F G:Nat) (w:wO) (y:l1.length=n1) (z:l2.length=n2) (i:w.cell? (E b 0)=some (.slice none 0 0)) (j:w.cell? (E b 1)=some (.slice none 0 0)) (g:b<w.heap.size)
  (h1:w.ownsRow B1 98 4 (.slice none 0 0) 0 (yI [])) (l:w.ownsRow B2 98 4 (.slice none 0 0) 0 (yI [])) (hlen:n1+n2<=300) :
  Cp 44 #[.slice (pA b) 2 2] w fun e w'=>∃k,e=.returned k/\w'.ownsRow w.heap.size 98 4 k (0+0) (yI []++yI [])/\Bw w w':=by
 have u:=Z h1;have v:=Z l;have p:Hid (Cp 80 #[sN,J (0)] w fun e w'=>∃a c,e=.returned (.slice a 0 c)/\w'.ownsRow w.z 98 4 (.slice a 0 c) 0 []/\Bw w w'):=by have h:=pU (0+0) w oM;exact h
 obtain⟨n,o,r,s,t⟩:=info_parts Tryz.i98;clear h1 l;go_enter func44,ntmps44;go_wp2;apply wp_loop_rounds 3;rw [rounds_succ];go_wp2;rw [rounds_succ];go_wp2;rw [rounds_succ];go_wp2_with fail;apply p.o.m;rintro e K ⟨H,I,rfl,m,d⟩;have f:=Z m;have q:=Z d;have C:=(ze d b 0 g).t i;have D:=(ze d b 1 g).t j;have x:=d.size;clear m d i j;go_wp2;apply wp_loop_rounds 3;rw [rounds_succ];go_wp2_with (at_builtin;refine wpList_append_own_none rfl (.tmp 31) (.tmp 32) 68 rfl w.z 98 n 4 underlying68 o _ _ _ rfl f.o rfl ?_);rw [rounds_succ];go_wp2_with (at_builtin;refine wpList_append_own_none rfl (.tmp 31) (.tmp 32) 68 rfl w.z 98 n 4 underlying68 o _ _ _ rfl f.o rfl ?_);rw [rounds_succ];go_wp2;go_ret;exact⟨_,rfl,by have h:=f.o;simpa [yI] using h,q.o⟩
def MZ (l1 l2:List Ed) (c B1 B2:Nat) (q v2:vO) (w:wO) (h:w.cell? (E c 0)=some q) (i:w.cell? (E c 1)=some v2) (g:c<w.heap.size)
  (h1:w.ownsRow B1 98 4 q l1.length (yI l1)) (b:w.ownsRow B2 98 4 v2 l2.length (yI l2)) (hlen:l1.length+l2.length<=300) :
  Cp 44 #[.slice (pA c) 2 2] w fun e w'=>∃o,e=.returned o/\w'.ownsRow w.heap.size 98 4 o (l1++l2).length (yI (l1++l2))/\Bw w w':=by
 rw [MU,Qt];obtain⟨r,l,rfl,-,-⟩:=zD h1;obtain⟨k,m,rfl,-,-⟩:=zD b;cases r with
 | none =>
  obtain⟨d,rfl,n⟩:=YL h1;have f:l1=[]:=Wi.1 d;subst f;cases k with
  | none =>obtain⟨d,rfl,n⟩:=YL b;have f:l2=[]:=Wi.1 d;subst f;exact MY [] [] c 0 0 0 0 B1 B2 0 0 w rfl rfl h i g h1 b lI
  | some a =>obtain⟨j,rfl⟩:=Yq b;exact MX [] l2 c 0 l2.length 0 m B1 B2 0 j w rfl rfl h i g h1 b lI
 | some a =>
  obtain⟨p,rfl⟩:=Yq h1;cases k with
  | none =>obtain⟨d,rfl,n⟩:=YL b;have f:l2=[]:=Wi.1 d;subst f;exact MW l1 [] c l1.length 0 l 0 B1 B2 p 0 w rfl rfl h i g h1 b lI
  | some a =>obtain⟨j,rfl⟩:=Yq b;exact MV l1 l2 c l1.length l2.length l m B1 B2 p j w rfl rfl h i g h1 b hlen
def hJ [Inhabited Ed] (w:wO) (g:Nat) (d:Array Ed):Prop:=∀i,i<d.size->∀j,j<4->w.cell? (E g (i*4+j))=(zY d[i]!)[j]?/\w.frozen? (E g (i*4+j))=false
def hJ.parts [Inhabited Ed] (h:hJ w g d) {i:Nat} (hi:i<d.size) :
  (w.cell? (E g (i*4))=some (J d[i]!.fr)/\w.cell? (E g (i*4+1))=some (J d[i]!.to)/\w.cell? (E g (i*4+2))=some (J d[i]!.bk)/\w.cell? (E g (i*4+3))=some (J d[i]!.wt)) /\
  (w.frozen? (E g (i*4))=false/\w.frozen? (E g (i*4+1))=false/\w.frozen? (E g (i*4+2))=false/\w.frozen? (E g (i*4+3))=false) :=
 ⟨⟨(h i hi 0 lI).1,(h i hi 1 lI).1,(h i hi 2 lI).1,(h i hi 3 lI).1⟩,⟨(h i hi 0 lI).2,(h i hi 1 lI).2,(h i hi 2 lI).2,(h i hi 3 lI).2⟩⟩
theorem hJ.set [Inhabited Ed] (h:hJ w g d) (c:k<d.size) (u:Ed):hJ (w.setCells g (k*4) (zY u)) g (d.setIfInBounds k u):=by
 intro i hi j b;have a:i<d.size:=by simpa using hi
 refine⟨?_,by rw [World.frozen?_setCells];exact (h i a j b).2⟩;by_cases e:i=k
 ·subst e;have h1:=World.cell?_setCells_in g (zY u) (i*4) w (fun q f=>by
   have:=(h i a q (by have:(zY u).length=4:=rfl;lia)).1;rw [this];have:q<(zY d[i]!).length:=by have:(zY u).length=4:=rfl;show q<4;lia
   rw [Qh this];rfl) j (by show j<4;exact b)
  rw [h1,Go.Sort.getElem!_set_same d i u a,Qh (by show j<4;exact b)]
 rw [World.cell?_setCells_out _ _ _ _ _ (fun _ _=>by have:(zY u).length=4:=rfl;show i*4+j<k*4\/k*4+(zY u).length<=i*4+j;lia),Go.Sort.getElem!_set_other d k i u e];exact (h i a j b).1
theorem hJ.o [Inhabited Ed] (h:hJ w g d) (o:Nat) (vs:List vO) (b:d.size*4<=o):hJ (w.setCells g o vs) g d:=by intro i hi j a;refine⟨?_,by rw [World.frozen?_setCells];exact (h i hi j a).2⟩;rw [World.cell?_setCells_out _ _ _ _ _ (fun _ _=>.inl rQ)];exact (h i hi j a).1
def hJ.less [Inhabited Ed] {d':Array Ed} (h:hJ w g d) (hs:d'.size<=d.size) (a:∀i,i<d'.size->d'[i]! = d[i]!):hJ w g d':=by grind [hJ]
def Xu (hB:B<=g):∀(vs:List vO) (o:Nat) (a w:wO),Below B a w->Below B a (w.setCells g o vs)
 | [],_,_,_,h=>h
 | v :: r,o,a,w,h=>Xu hB r (o+1) a _ (h.setCell (p:=(E g o)) hB v)
def M0 {P:Program} (w:wO) (t e g:TypeId) (z:vO) (d:P.underlying t=some (.slice e)) (f:∀w,(zeroValue e).run P w=.ok z w) (b o n c:Nat) (hn:0<n)
  (h:∀j,j<(Builtin.zeroCells z.cells n).toList.length->(w.cell? (E b (o+j))).isSome) (i:∀j,j<(Builtin.zeroCells z.cells n).toList.length->w.frozen? (E b (o+j))=false) (h1:∀v∈(Builtin.zeroCells z.cells n).toList,v.oneCell') :
  (Builtin.clear_ #[t] g #[.slice (some (E b o)) n c]).run P w=.ok (.tuple #[]) (w.setCells b o (Builtin.zeroCells z.cells n).toList):=by have a:=run_storeCells_cells (P:=P) b o (Builtin.zeroCells z.cells n).toList 0 w oM oM h1;simp only [WG] at a;obtain⟨m,rfl⟩:∃m,n=m+1:=⟨n - 1,lI⟩;simp [Builtin.clear_,run_underlying d,f,a]
def M1:∀v∈(Builtin.zeroCells (.agg #[J 0,J 0,J 0,J 0]:vO).cells n).toList,v.oneCell':=by
 intro v a;unfold Builtin.zeroCells at a;simp at a;obtain⟨i,hi,rfl⟩:=a;have:i % 4=0\/i % 4=1\/i % 4=2\/i % 4=3:=lI
 rcases this with h | h | h | h <;> simp [Value.cells,h] <;> rfl
theorem Vr (b:Nat):∀(vs:List vO) (o:Nat) (w:wO),(w.setCells b o vs).heap.size=w.heap.size
 | [],_,_=>rfl
 | v :: r,o,w=>(Vr b r (o+1) _).t (by simp [World.setCell])
def M3 (a c d f g h i j:Int) (b:Bool) (hb:b=decide (a=g/\c=h/\d=i/\f=j)) (w:wO):(binOp .eql 98 (.agg #[J a,J c,J d,J f]) (.agg #[J g,J h,J i,J j])).run prog w=.ok (.bool b) w:=by
 have hS:prog.underlying 98=some (.struct (prog.fieldsOf 98)):=kR
 have k:prog.stoodInHeld 98=false:=kR
 rw [run_eql_struct,show (10000:Nat)=9999+1 from rfl,run_equalIn_agg w 9999 98 _ _ hS k];simp only [Program.fieldsOf,underlying98];have u3:=underlying3;go_simp;grind
def M4 (a c d f g h i j:Int) (b:Bool) (hb:b=!decide (a=g/\c=h/\d=i/\f=j)) (w:wO):(binOp .neq 98 (.agg #[J a,J c,J d,J f]) (.agg #[J g,J h,J i,J j])).run prog w=.ok (.bool b) w:=by
 have hS:prog.underlying 98=some (.struct (prog.fieldsOf 98)):=kR
 have k:prog.stoodInHeld 98=false:=kR
 rw [run_neq_struct,show (10000:Nat)=9999+1 from rfl,run_equalIn_agg w 9999 98 _ _ hS k];simp only [Program.fieldsOf,underlying98];have u3:=underlying3;go_simp;grind
def M5 (op:BinOp) (a b:Operand) (c d f g h i j k:Int) (w:wO):(eqGuard op 98 a b (.agg #[J c,J d,J f,J g]) (.agg #[J h,J i,J j,J k])).run prog w=.ok () w:=run_eqGuard_agg w op 98 a b _ _ kR
set_option maxRecDepth 100000 in
def M6 [Inhabited Ed] [DecidableEq Ed] (g cap B:Nat) (d:Array Ed) (w:wO) (hH:hJ w g d) (hB:B<=g) (hg:g<w.heap.size) (dx:d.size<=300) (bH:d.size<=cap) (hm:cap<=9223372036854775807) :
  Cp 49 #[.slice (pA g) d.size cap] w fun e w'=>e=.returned (.slice (pA g) (compactUpTo d d.size).length cap)/\hJ w' g (compactUpTo d d.size).toArray/\Below B w w'/\w.heap.size<=w'.heap.size:=by
 have HH:=Z hH;clear hH;have aJ:Hid (∀wr,hJ wr g d->(∀j,j<d.size->keeps d j)->compactUpTo d d.size=d.toList/\hJ wr g (compactUpTo d d.size).toArray):=by
  intro wr hr hall;have e:compactUpTo d d.size=d.toList:=by rw [compactUpTo_all d _ hall,range_map_get]
  simp_all
 have bU:=Z M3;have bZ:=Z M4;have bV:=Z M5;by_cases h2:d.size<2
 ·have dg:(d.size:Int)<2:=oM
  go_enter func49,ntmps49;go_wp2;go_ret;obtain⟨r,s⟩:=aJ.o w HH.o (fun j U=>keeps_lt_one d j oM);exact⟨by rw [r];simp,s,QA _ _,Qc _⟩
 have dg:¬(d.size:Int)<2:=oM
 go_enter func49,ntmps49;go_wp2;go_loopw [3] (fun W wr=>∃k:Nat,1<=k/\k<=d.size/\W=J k/\(∀j,j<k->keeps d j)/\hJ wr g d/\Below B w wr/\w.heap.size<=wr.heap.size) (fun W _=>d.size - (intOf W).toNat)
 case atStart=>exact⟨1,Qc _,oM,rfl,keeps_lt_one d,HH.o,QA _ _,Qc _⟩
 obtain⟨k,dI,hk,rfl,hall,f,M,D⟩:=hrel;have HA:=Z hall;have t:=Z f;have C:=Z M;clear hall f M;by_cases hlt:k<d.size
 ·obtain⟨m,rfl⟩:∃m,k=m+1:=⟨k - 1,oM⟩;obtain⟨⟨N,O,P,Q⟩,-⟩:=t.o.parts hlt;obtain⟨⟨S,r,s,T⟩,-⟩:=t.o.parts (i:=m) oM;have bY:=Z (fun h=>keeps_pos (d:=d) (m:=m+1) h);have bW:=Z (fun h=>keeps_neg (d:=d) (m:=m+1) oM h);rw [Nat.add_sub_cancel] at bY bW;generalize d[m+1]! = x at *
  generalize d[m]! = y at *
  obtain⟨n,o,p,q⟩:=x;obtain⟨G,H,I,K⟩:=y;dsimp only at N O P Q S r s T;have dK:(m:Int)<(d.size:Int):=oM
  have bJ:((m:Int)+1)<(d.size:Int):=oM
  have cJ:IntKind.i64.wrap ((m:Int)+1 - 1)=(m:Int):=by rw [Wq];omega
  have cE:=bV.o .eql;by_cases b:(⟨n,o,p,q⟩:Ed)=⟨G,H,I,K⟩
  ·have cC:=bU.o n o p q G H I K true (by rw [Ed.mk.injEq] at b;simp [b]);go_wp2;go_big_quiet ((fail));clear N O P Q S r s T cC cE cJ;have aS:=Z (bW.o b);obtain⟨R,hR⟩:=nm (d.size - (m+1));have dD:R<=cap - (m+1):=(by omega);rename wO=>wo;go_wp2;go_loopw [3,5] (fun W s5 wr=>∃(kk a:Nat) (F:Array Ed),W=J kk/\s5=J ((a:Int)+1)/\m+1+(a+1)<=d.size/\CompInv d (m+1+(a+1)) kk F/\hJ wr g F/\Below B w wr/\w.heap.size<=wr.heap.size) (fun _ s5 _=>d.size - (intOf s5).toNat)
   case atStart=>exact⟨m+1,0,d,rfl,rfl,oM,CompInv.start HA.o aS.o,t.o,C.o.t (Qm _ _ _),by simpa using D⟩
   clear t C D;obtain⟨kk,a,F,rfl,rfl,dp,A,f,M,D⟩:=hrel;have dJ:=A.lt;have dG:=A.size;have L:=Z A;have t:=Z f;have C:=Z M;by_cases V:m+1+(a+1)<d.size
   ·obtain⟨⟨N,O,P,Q⟩,-⟩:=f.parts (i:=m+1+(a+1)) oM;obtain⟨⟨S,r,s,T⟩,-⟩:=f.parts (i:=m+1+a) oM;obtain⟨⟨b0,b1,b2,b3⟩,⟨f0,f1,f2,f3⟩⟩:=f.parts (i:=kk) oM;rw [A.high (m+1+(a+1)) oM] at N O P Q;rw [A.high (m+1+a) oM] at S r s T;rw [show (m+1+(a+1))*4=(m+1)*4+(a+1)*4 by omega] at N O P Q;rw [show (m+1+a)*4=(m+1)*4+a*4 by omega] at S r s T;have aO:=Z (fun h=>A.skip (keeps_neg (d:=d) (m:=m+1+(a+1)) oM h));have X:=Z (fun h=>A.keep V (keeps_pos (d:=d) (m:=m+1+(a+1)) h));rw [show m+1+(a+1) - 1=m+1+a by omega] at aO X;have ce:=Z (fun u=>f.set (k:=kk) oM u);clear A f M;generalize d[m+1+(a+1)]! = x at *
    generalize d[m+1+a]! = y at *
    generalize F[kk]! = z at *
    obtain⟨n,o,p,q⟩:=x;obtain⟨G,H,I,K⟩:=y;dsimp only at N O P Q S r s T;have i1:(a:Int)+1<(R:Int):=(by omega);have i2:(a:Int)<(R:Int):=(by omega);have i3:(kk:Int)<(d.size:Int):=(by omega);have cJ:IntKind.i64.wrap ((a:Int)+1 - 1)=(a:Int):=(by rw [Wq];omega);have cE:=bV.o .neq;by_cases c:(⟨n,o,p,q⟩:Ed)=⟨G,H,I,K⟩
    ·have dw:=bZ.o n o p q G H I K false (by rw [Ed.mk.injEq] at c;simp [c]);have aT:=Z (aO.o c);clear c aO X ce;go_wp2;go_big_quiet ((fail));go_wp2;go_roundw
     case rel=>exact⟨kk,a+1,F,rfl,nQ,oM,aT.o,t.o,C.o.t (Qm _ _ _),by simpa using D⟩
     simp [intOf];omega
    have dw:=bZ.o n o p q G H I K true (by rw [Ed.mk.injEq] at c;simp [c]);have aT:=Z (X.o c);clear c aO X;go_wp2;go_big_quiet ((fail));go_wp2;go_roundw
    case rel=>exact⟨kk+1,a+1,F.setIfInBounds kk ⟨n,o,p,q⟩,nQ,nQ,oM,aT.o,ce.o ⟨n,o,p,q⟩,Xu hB (zY ⟨n,o,p,q⟩) (kk*4) w _ (C.o.t (Qm _ _ _)),by have:=Vr g (zY ⟨n,o,p,q⟩) (kk*4) wr;simpa using QH D (qQ this.s)⟩
    simp [intOf];omega
   have bI:m+1+(a+1)=d.size:=(by omega);have cM:Hid (∀ty,(Builtin.clear_ #[68] ty #[vE g (kk*4) (d.size - kk) (cap - kk)]).run prog wr=.ok (.tuple #[]) (wr.setCells g (kk*4) (Builtin.zeroCells (.agg #[J 0,J 0,J 0,J 0]:vO).cells (d.size - kk)).toList)):=by
    intro ty;have cL:(Builtin.zeroCells (.agg #[J 0,J 0,J 0,J 0]:vO).cells (d.size - kk)).toList.length=(d.size - kk)*4:=(by rw [Array.length_toList,size_zeroCells];rfl);refine M0 wr _ _ ty _ underlying68 Tryz.zeroValue98 g (kk*4) _ _ oM ?_ ?_ ?_
    ·intro j U;rw [cL] at U;have h:=(f (kk+j / 4) oM (j % 4) oM).1;rw [show (kk+j / 4)*4+j % 4=kk*4+j by omega] at h;rw [h,Qh (show j % 4<(zY F[kk+j / 4]!).length by show j % 4<4;omega)];rfl
    ·intro j U;rw [cL] at U;have h:=(f (kk+j / 4) oM (j % 4) oM).2;rw [show (kk+j / 4)*4+j % 4=kk*4+j by omega] at h;exact h
    intro v hv;exact M1 v hv
   rw [bI] at L;have i1:¬(a:Int)+1<(R:Int):=(by omega);have i3:(kk:Int)<=(d.size:Int):=(by omega);have dF:=cM.o;clear A f M;go_wp2;go_ret;refine⟨by rw [L.o.len];rfl,?_,Xu hB _ _ _ _ C.o,by rw [Vr];exact D⟩;refine (t.o.less (d':=(compactUpTo d d.size).toArray) ?_ ?_).o _ _ ?_
   ·rw [EG,L.o.len];omega
   ·intro i hi;have ai:i<kk:=(by rw [EG,L.o.len] at hi;exact hi);have h:=L.o.low i ai;rw [getElem!_pos _ i hi];simp only [List.getElem_toArray];have h2:=Qh (l:=compactUpTo d d.size) (i:=i) oM;rw [h] at h2;exact (QD h2).s
   rw [EG,L.o.len];exact Qc _
  have cC:=bU.o n o p q G H I K false (by rw [Ed.mk.injEq] at b;simp [b]);have cS:=Z (bY.o b);go_wp2;go_big_quiet ((fail));go_wp2;go_roundw
  case rel=>exact⟨m+1+1,oM,oM,nQ,fun j U=>(by by_cases e:j=m+1;exact e ▸ cS.o;exact HA.o j oM),t.o,C.o.t (Qm _ _ _),by simpa using D⟩
  simp [intOf];omega
 have:k=d.size:=oM
 subst this;have bJ:¬(d.size:Int)<(d.size:Int):=oM
 go_wp2;go_ret;obtain⟨r,s⟩:=aJ.o _ t.o HA.o;exact⟨by rw [r];simp,s,C.o,D⟩
def tC (x:Int) (w:wO):Cp 141 #[J x] w (Re w (.bool false)):=by
 have hb:(x != x)=false:=sM
 go_enter func141,ntmps141;go_wp2;go_ret;exact⟨rfl,rfl⟩
def Va (x y:Int) (w:wO):Cp 89 #[J x,J y] w (Re w (J (Yi x y))):=by
 unfold Yi;by_cases h1:x<y
 ·rw [Qf h1];go_enter func89,ntmps89;go_wp2_with (go_at_call 141;apply (tC _ _).m;rintro e w' ⟨rfl,rfl⟩);go_ret;exact⟨rfl,rfl⟩
 rw [Qe h1];by_cases a:y<x
 ·rw [Qf a];go_enter func89,ntmps89;go_wp2_with (go_at_call 141;apply (tC _ _).m;rintro e w' ⟨rfl,rfl⟩);go_ret;exact⟨rfl,rfl⟩
 rw [Qe a];go_enter func89,ntmps89;go_wp2_with (go_at_call 141;apply (tC _ _).m;rintro e w' ⟨rfl,rfl⟩);go_ret;exact⟨rfl,rfl⟩
def jI (l:Li) (k:Nat):Int:=match (l.drop k).find? (fun x=>decide (x≠0)) with | some x=>x | none=>0
theorem UV (a:k<l.length) (h:ak l k≠0):jI l k=ak l k:=by
 have e:l.drop k=ak l k :: l.drop (k+1):=by rw [EP a];grind [ak]
 grind [jI]
def nW (a:k<l.length) (h:ak l k=0):jI l k=jI l (k+1):=by simp_all [ak,jI,EP]
def BY:jI l l.length=0:=by simp [jI]
def M7 (a b:Ed):jI [Yi a.fr b.fr,Yi a.to b.to,Yi a.bk b.bk,Yi a.wt b.wt] 0=ju a b:=by
 unfold ju;generalize Yi a.fr b.fr=x;generalize Yi a.to b.to=y;generalize Yi a.bk b.bk=z;generalize Yi a.wt b.wt=u;by_cases h1:x≠0
 ·grind [UV,ak]
 rw [Qe h1,nW sM (show ak [x,y,z,u] 0=0 from Classical.not_not.1 h1)];by_cases c:y≠0
 ·grind [UV,ak]
 rw [Qe c,nW sM (show ak [x,y,z,u] 1=0 from Classical.not_not.1 c)];by_cases d:z≠0
 ·grind [UV,ak]
 rw [Qe d,nW sM (show ak [x,y,z,u] 2=0 from Classical.not_not.1 d)];by_cases f:u=0
 ·rw [nW sM (show ak [x,y,z,u] 3=0 from f),f];exact BY (l:=[x,y,z,0])
 grind [UV,ak]
def M8 (zs:Li) (g cap:Nat) (w:wO) (hn:zs.length<=cap) (n:cap<=9223372036854775807) (d:∀i,i<zs.length->w.cell? (E g i)=Y (ak zs i)) :
  Cp 88 #[.slice (pA g) zs.length cap] w (Re w (J (jI zs 0))):=by
 have f:=Z d;clear d;go_enter func88,ntmps88;go_wp2;go_loop [8] (fun i=>∃k:Nat,k<=zs.length/\i=J k/\jI zs 0=jI zs k) (fun i=>zs.length - (intOf i).toNat)
 case atStart=>exact⟨0,Ql _,rfl,rfl⟩
 obtain⟨k,p,rfl,c⟩:=hrel;have b:=Z c;clear c;by_cases a:k<zs.length
 ·have m:(k:Int)<(zs.length:Int):=oM
  have o:=f.o k a;by_cases h0:ak zs k=0
  ·have j:=Z (nW a h0);have hbb:(ak zs k != 0)=false:=(by simpa using h0);clear h0;go_wp2;go_round
   case rel=>exact⟨k+1,oM,nQ,b.o.t j.o⟩
   simp [intOf];omega
  have l:=Z (UV a h0);have hbb:(ak zs k != 0):=by simpa using h0
  clear h0;go_wp2;go_ret;exact⟨xe (by rw [b.o,l.o]),rfl⟩
 have e:k=zs.length:=oM
 have h:Hid (jI zs k=0):=by show jI zs k=0;rw [e];exact BY
 have m:¬(k:Int)<(zs.length:Int):=oM
 clear e;go_wp2;go_ret;exact⟨xe (by rw [b.o,h.o]),rfl⟩
set_option maxRecDepth 100000 in
def M9 (b c d f b1 b2 b3 b4:Int) (w:wO) :
  Cp 48 #[.agg #[J b,J c,J d,J f],.agg #[J b1,J b2,J b3,J b4]] w fun e w'=>e=.returned (J (ju ⟨b,c,d,f⟩ ⟨b1,b2,b3,b4⟩))/\∃q j,w'=Go.Sort.grow (w.drewN q) j:=by
 have l:Hid (((w.alloc (.cells #[J b,J c,J d,J f] 98)).alloc (.cells #[J b1,J b2,J b3,J b4] 98)).heap.size=w.heap.size+1+1):=by show _=_;simp
 have m:Hid (∀w':wO,Below (w.heap.size+1+1) ((w.alloc (.cells #[J b,J c,J d,J f] 98)).alloc (.cells #[J b1,J b2,J b3,J b4] 98)) w'->(w'.cell? (E w.heap.size 0)=Y b/\w'.cell? (E w.heap.size 1)=Y c/\w'.cell? (E w.heap.size 2)=Y d/\w'.cell? (E w.heap.size 3)=Y f)/\(w'.cell? (E (w.heap.size+1) 0)=Y b1/\w'.cell? (E (w.heap.size+1) 1)=Y b2/\w'.cell? (E (w.heap.size+1) 2)=Y b3/\w'.cell? (E (w.heap.size+1) 3)=Y b4)):=by
  intro w' h;have n:Below ((w.alloc (.cells #[J b,J c,J d,J f] 98)).alloc (.cells #[J b1,J b2,J b3,J b4] 98)).heap.size ((w.alloc (.cells #[J b,J c,J d,J f] 98)).alloc (.cells #[J b1,J b2,J b3,J b4] 98)) w':=by rw [l.o];exact h
  refine⟨⟨?_,?_,?_,?_⟩,⟨?_,?_,?_,?_⟩⟩;all_goals rw [ze n _ _ (by rw [l.o];omega)]
  all_goals go_simp
 have k:=Z (M7 ⟨b,c,d,f⟩ ⟨b1,b2,b3,b4⟩);simp only at k;go_enter func48,ntmps48;go_wp2;refine rh 99 m.o (zV _ _) fun g=>?_;refine aq 0 ?_;refine aq 2 ?_;refine aq 5 ?_;refine aq 7 ?_;refine aq 10 ?_;refine aq 12 ?_;refine aq 15 ?_;refine aq 17 ?_;refine uo 4 fun K a=>?_;go_simp;refine (Va _ _ _).m ?_;rintro e p ⟨rfl,rfl⟩;refine bq a.o (.inr g) ?_;clear a K;refine uo 9 fun K a=>?_;go_simp;refine (Va _ _ _).m ?_;rintro e r ⟨rfl,rfl⟩;refine bq a.o (.inr g) ?_;clear a K;refine uo 14 fun K a=>?_;go_simp;refine (Va _ _ _).m ?_;rintro e s ⟨rfl,rfl⟩;refine bq a.o (.inr g) ?_;clear a K;refine uo 19 fun K a=>?_;go_simp;refine (Va _ _ _).m ?_;rintro e t ⟨rfl,rfl⟩;refine bq a.o (.inr g) ?_;clear a K;refine uo 20 fun K a=>?_;go_simp;have g:=m.o _ ((zV (w.heap.size+1+1) ((w.alloc (.cells #[J b,J c,J d,J f] 98)).alloc (.cells #[J b1,J b2,J b3,J b4] 98))).t ((Qd ((w.alloc (.cells #[J b,J c,J d,J f] 98)).alloc (.cells #[J b1,J b2,J b3,J b4] 98)).drew (.cells #[J (Yi b b1),J (Yi c b2),J (Yi d b3),J (Yi f b4)] 3)).m sM));refine bq a.o (.inr g) ?_;clear a K;refine uo 21 fun K a=>?_;go_simp;refine (M8 [Yi b b1,Yi c b2,Yi d b3,Yi f b4] (w.heap.size+1+1) 4 _ sM tQ (fun i hi=>?_)).m ?_
 ·have o:i=0\/i=1\/i=2\/i=3:=rQ
  rcases o with rfl | rfl | rfl | rfl;all_goals go_simp
  all_goals rfl
 rintro e u ⟨rfl,rfl⟩;refine bq a.o (.inr g) ?_;clear a K;refine uk 22 ?_;refine rd ?_;clear g;go_wp2;go_ret;refine⟨xe k.o,1,#[(.cells #[J b,J c,J d,J f] 98),(.cells #[J b1,J b2,J b3,J b4] 98),(.cells #[J (Yi b b1),J (Yi c b2),J (Yi d b3),J (Yi f b4)] 3)],?_⟩;rfl
def hJ.holds [Inhabited Ed] (h:hJ w g d):Go.Sort.HoldsK zY 4 w g 0 d:=by
 intro t b;have a:t<d.size*4:=by simpa using b
 have h1:=h (t / 4) lI (t % 4) lI;rw [show t / 4*4+t % 4=t by lia] at h1;rw [QO,Go.Sort.get_flatK _ _ _ _ a];grind [zY]
def hJ.of_holds [Inhabited Ed] (h:Go.Sort.HoldsK zY 4 w g 0 d):hJ w g d:=by intro i hi j a;have h1:=h.cell (i:=i) (c:=j) hi a;rw [QO] at h1;refine⟨?_,h1.2⟩;rw [h1.1,Qh (show j<(zY d[i]!).length by show j<4;lia),getElem!_pos (zY d[i]!) j (show j<(zY d[i]!).length by show j<4;lia)]
def hJ.of_own [Inhabited Ed] {cap:Nat} {l:List Ed} (h:w.ownsRow B e 4 (.slice (pA g) n cap) n (yI l)) (hn:l.length=n):hJ w g l.toArray/\B<=g/\g<w.heap.size/\n<=cap/\cap<=maxLen:=by
 obtain⟨r,h⟩:=h;rcases h with ⟨h,-⟩ | ⟨p,c',b,o,f,hb,c,hm,q,m⟩
 ·simp_all
 injection o with e1 e2 e3;injection e1 with e1;injection e1 with e1;subst e1;subst e3;refine⟨fun i hi j k=>?_,f,(lo hb),c,hm⟩;have a:i<l.length:=oM
 have d:l.toArray[i]! = zJ l i:=by grind [zJ]
 refine⟨?_,?_⟩
 ·rw [Qa hb,d,<-LT l i j a k,<-m,We,Qf lI];simp
 simp [World.frozen?,hb]
theorem M' [Inhabited Ed] {os:Array Obj} (hB:B<=g) (a:g<w.heap.size):Below B w (sortWorldK zY 4 w g 0 n d os):=by
 refine⟨rfl,rfl,rfl,?_,fun k b=>?_⟩
 ·exact size_sortWorldK_c zY 4 w g 0 n d os
 show ((w.heap.modify g _)++os)[k]?=_;grind
def Na (x:Ed):ltOf ju x x=false:=by unfold ltOf;exact Qk (fun h=>tI x (V9.1 h))
def Nb (x y z:Ed) (h1:ltOf ju x y) (a:ltOf ju y z):ltOf ju x z:=by
 unfold ltOf at *
 grind [V9,Cv]
def Nc (x y z:Ed) (h1:ltOf ju x y=false) (a:ltOf ju y z=false):ltOf ju x z=false:=by
 unfold ltOf at *
 grind [N4,V9]
def Nd:Go.Sort.SWO (ltOf ju):=⟨Na,Nb,Nc⟩
def Nf [Inhabited Ed] (d:Array Ed) (g cap B:Nat) (w:wO) (f:hJ w g d) (hB:B<=g) (k:g<w.heap.size) (s:d.size<=300) :
  Cp 47 #[.slice (pA g) d.size cap,.func (.func 48) #[] #[]] w fun e w'=>e=.returned (.tuple #[])/\∃d':Array Ed,d'.size=d.size/\d'.toList.Perm d.toList/\(∀i j,i<j->j<d'.size->¬ia d'[j]! d'[i]!)/\hJ w' g d'/\Below B w w'/\w.heap.size<=w'.heap.size:=by
 have p:∀args w,(callFunc 48 args).run prog w=.ok (.enter 48 args) w:=enters_of func48 kR rfl;have o:CmpLays prog 48 #[] zY 4 ju g 0 d.size w:=fun _ _ _ _ x y=>M9 x.fr x.to x.bk x.wt y.fr y.to y.bk y.wt _;have m:=AnyQ.slices_SortFunc Tryz.sortE 4 Tryz.isAgg98 Tryz.sizeOf98 zY (fun _=>rfl) (fun x v c=>by unfold zY at c;simp at c;rcases c with rfl | rfl | rfl | rfl <;> rfl) ju Nd 48 #[] g 0 cap d w p o f.holds k lI;refine m.m fun e w' ⟨q,d',n,os,a,hs,l⟩=>⟨q,d',a.1,?_,?_,?_,?_,?_⟩
 ·have h:=a.2.2;rw [qp (by rw [a.1];exact Qc _),qp (Qc _)] at h;exact h
 ·intro i j b r h;have:=hs i j (Ql _) b (by rw [<-a.1];exact r);unfold ltOf at this;grind [V9]
 ·rw [l];exact hJ.of_holds (holdsK_sortWorldK_c zY 4 w g 0 d d' n os f.holds k a.1)
 ·grind [M']
 rw [l];exact size_sortWorldK_c zY 4 w g 0 n d' os
def Ng (p:Option Addr) (cap:Nat) (fv:vO) (w:wO):Cp 47 #[.slice p 0 cap,fv] w (Re w (.tuple #[])) :=
 AnyF.slices_SortFunc_none Tryz.sortE p cap fv w
def Nh (p:Option Addr) (cap:Nat) (w:wO) (hm:cap<=9223372036854775807):Cp 49 #[.slice p 0 cap] w (Re w (.slice p 0 cap)):=by go_enter func49,ntmps49;go_wp2;go_ret;exact⟨rfl,rfl⟩
def Ni {L:Lp} {t:Tg} (hm:zQ L) (r:zS t) (B:Nat) (v:vO) (w:wO) (h:w.ownsRow B 98 4 v (jJ L t).length (yI (jJ L t))) :
  Cp 47 #[v,.func (.func 48) #[] #[]] w fun e w'=>e=.returned (.tuple #[])/\Below B w w'/\Cp 49 #[v] w' fun e w2=>∃a n c,e=.returned (.slice a n c)/\ZD w2 (.slice a n c) (zf L t)/\Below B w' w2:=by
 have:Inhabited Ed:=⟨Ed.nil⟩;have:DecidableEq Ed:=fun a b=>Classical.propDecidable _;have hlen:=Cw (L:=L) (t:=t) (zy hm).2.2.1;obtain⟨a,c,rfl,P,u⟩:=zD h;unfold maxLen at u;cases a with
 | none =>
  obtain⟨q,rfl,S⟩:=YL h;rw [q];have F:jJ L t=[]:=Wi.1 q;have f:zf L t=[]:=by
   cases G:zf L t with
   | nil=>rfl
   | cons x l=>exact absurd ((Cu hm r x).2 (by rw [G];simp)) (by rw [F];simp)
  refine (Ng none 0 _ w).m fun e w' ⟨d,k⟩=>⟨d,by rw [k];exact QA _ _,?_⟩;refine (Nh none 0 w' lI).m fun e w2 ⟨d,k⟩=>⟨none,0,0,d,?_,by rw [k];exact QA _ _⟩;rw [f];exact⟨none,0,rfl,Qc _,Ql _,fun h=>absurd h sM⟩
 | some E =>
  obtain⟨g,rfl⟩:=Yq h;obtain⟨I,hB,K,-,-⟩:=hJ.of_own h rfl;have hs:(jJ L t).toArray.size=(jJ L t).length:=sM
  have o:=Nf (jJ L t).toArray g c B w I hB K (by rw [hs];lia);rw [hs] at o;refine o.m fun e w' ⟨d,d',s,N,z,A,hb,Q⟩=>⟨d,hb,?_⟩;have p:compactUpTo d' d'.size=zf L t:=N7 hm r d' N z;have m:=M6 g c B d' w' A hB lI lI lI lI;rw [p,s] at m;refine m.m fun e w2 ⟨D,C,y,O⟩=>⟨_,_,_,D,?_,y⟩;have R:(zf L t).length<=(jJ L t).length:=by rw [<-p,<-s];unfold compactUpTo;grind
  refine⟨_,_,rfl,lI,by unfold maxLen;lia,fun _=>⟨g,0,rfl,lI,fun i hi j M=>?_⟩⟩;have H:=(C i oM j M).1;rw [QO,H];have f:(zf L t).toArray[i]! = zJ (zf L t) i:=by rw [getElem!_pos _ i oM];unfold zJ;rw [Qw,Qh hi];simp
  rw [f]
set_option maxRecDepth 100000 in
def Nj (T:Tg) (L:Lp) (a0 m:Option Addr) (g b d k p:Nat) (w:wO) (hL:zI w ((lv L a0 (some (E b d)) m g k p)) L) (hm:zQ L) (S:zS T) (dn:L.l.length<=g) (dr:g<=9223372036854775807) (cF:L.b.length<=k) (cG:k<=9223372036854775807) (hb:b<w.heap.size)
  (gQ:∀i,i<L.b.length->∀j,j<9->w.cell? (E b (d+i*9+j))=(zG (zc L.b i))[j]?) (ay:zM w (.slice a0 L.l.length g) L.l) :
  Cp 22 #[(lv L a0 (some (E b d)) m g k p),(tV T)] w fun e w'=>∃a n c,e=.returned (.tuple #[.slice a n c,J 0])/\ZD w' (.slice a n c) (zf L T)/\Bw w w':=by
 have HT:=Z (fun W=>S ▸ Y8 T W);have G:=(zy hm).2.2.1;have cX:=Z (fun W (A:Bw w W)=>Nv T L b d k (.slice a0 L.l.length g) (.slice m L.o.length p) W cF cG (by have:=A.size;omega) (fun i hi j hj=>by grind [ze]) hm G);have df:=Z (fun W (A:Bw w W)=>NB L a0 g b d k (.slice m L.o.length p) W dn dr cF cG (by have:=A.size;omega) (fun i hi j hj=>by grind [ze]) (ay.gE A) hm G);have aS:=Z (fun B v W h=>Ni (L:=L) (t:=T) hm S B v W h);have cW:=Z (Cw (L:=L) (t:=T) G);have bQ:Hid (jJ L T=Yt L T L.b.length++xI L L.b.length):=rfl;have cU:Hid ((Yt L T L.b.length).length+(xI L L.b.length).length<=300):=by show _<=_;have h:=cW.o;rw [bQ.o,Qt] at h;omega
 clear S gQ ay;have HM:=Z (fun W (h:zI W ((lv L a0 (some (E b d)) m g k p)) L)=>hm ▸ Yo ((lv L a0 (some (E b d)) m g k p)) L W h);have X:Hid (((w.alloc (lC L a0 (some (E b d)) m g k p)).alloc (tO T)).heap.size=w.heap.size+1+1):=by show _=_;simp
 clear hm;go_enter func22,ntmps22;go_wp2_with fail;refine (HM.o _ (hL.gE (QB _ _ _))).mr fun x1 hb=>?_;have ac:Hid (Below (w.heap.size+1+1) ((w.alloc (lC L a0 (some (E b d)) m g k p)).alloc (tO T)) x1):=sA
 obtain⟨⟨l0,l1,l2⟩,⟨t0,t1,t2,t3,t4,t5,t6⟩,z0,z1,u⟩:=ZG ac.o;have cg:=Z u;clear hb u;go_wp2_with fail;refine (HT.o _).mr fun x2 C=>?_;have H:=Z (ac.o.t (C.m oM));have D:=Z (cg.o.t (C.m cg.o.size));clear C l0 l1 l2 t0 t1 t2 t3 t4 t5 t6;have s:Hid (∀w':wO,Below (w.heap.size+1+1) ((w.alloc (lC L a0 (some (E b d)) m g k p)).alloc (tO T)) w'->(w'.c w.heap.size 0=some (.slice a0 L.l.length g)/\w'.c w.heap.size 1=some (vE b d L.b.length k)/\w'.c w.heap.size 2=some (.slice m L.o.length p))/\(w'.c (w.heap.size+1) 0=Y T.u0/\w'.c (w.heap.size+1) 1=Y T.u1/\w'.c (w.heap.size+1) 2=Y T.u2/\w'.c (w.heap.size+1) 3=Y T.w0/\w'.c (w.heap.size+1) 4=Y T.w1/\w'.c (w.heap.size+1) 5=Y T.w2/\w'.c (w.heap.size+1) 6=Y T.r)):=by intro w' h;obtain⟨h1,h2,-⟩:=ZG h;exact⟨h1,h2⟩
 have aA:w.heap.size+1+1<=x2.heap.size:=by have:=H.o.size;simp_all
 go_wp2_with fail;refine Qq ?_;refine zg 99 (fun w'=>(w'.c w.heap.size 0=some (.slice a0 L.l.length g)/\w'.c w.heap.size 1=some (vE b d L.b.length k)/\w'.c w.heap.size 2=some (.slice m L.o.length p))/\(w'.c (w.heap.size+1) 0=Y T.u0/\w'.c (w.heap.size+1) 1=Y T.u1/\w'.c (w.heap.size+1) 2=Y T.u2/\w'.c (w.heap.size+1) 3=Y T.w0/\w'.c (w.heap.size+1) 4=Y T.w1/\w'.c (w.heap.size+1) 5=Y T.w2/\w'.c (w.heap.size+1) 6=Y T.r)) kR (s.o _ (H.o.t (zV _ _))) (fun q=>?_);refine aq 0 ?_;refine uk 3 ?_;refine zb (i:=2) rfl kR (fun K f=>?_);go_simp;refine (cX.o _ (D.o.t (zV _ _))).m ?_;rintro e x3 ⟨ev1,rfl,M,Q⟩;have O:=H.o.t ((zV _ _).t (Q.m (by simpa using aA)));have aG:=Z O;have F:=Z (D.o.t ((zV _ _).t (Q.m (by simpa using D.o.size))));have q:=s.o _ O;obtain⟨ra,rc,rfl,-,-⟩:=zD M;have ag:=Z M;clear M Q O;refine bq f.o (.inr q) ?_;clear f K;refine zb (i:=4) rfl kR (fun K f=>?_);go_simp;refine (df.o _ F.o).m ?_;rintro e x ⟨ev2,rfl,N,z⟩;have dA:w.heap.size+1+1<=x3.heap.size:=by have:=aG.o.size;rw [X.o] at this;exact this
 have P:=aG.o.t (z.m dA);have bR:=Z P;have cu:=Z (F.o.t (z.m F.o.size));have q:=s.o _ P;obtain⟨U,V,rfl,-,-⟩:=zD N;have aC:=Z N;have aU:=Z (zp ag.o z);clear N z P;refine bq f.o (.inr q) ?_;clear f K;have bT:=Z (MZ (Yt L T L.b.length) (xI L L.b.length) x.heap.size _ _ _ _ (x.alloc (.cells #[.slice ra (Yt L T L.b.length).length rc,.slice U (xI L L.b.length).length V] 68)) (by go_simp) (by go_simp) sM (zp aU.o (Qd _ _)) (zp aC.o (Qd _ _)) cU.o);have y:=Z (cu.o.t ((Qd x (.cells #[.slice ra (Yt L T L.b.length).length rc,.slice U (xI L L.b.length).length V] 68)).m cu.o.size));have dB:w.heap.size+1+1<=x.heap.size:=by have:=bR.o.size;rw [X.o] at this;exact this
 have bS:=Z (bR.o.t ((Qd x (.cells #[.slice ra (Yt L T L.b.length).length rc,.slice U (xI L L.b.length).length V] 68)).m dB));rw [<-bQ.o] at bT;refine zb (i:=5) rfl kR (fun K f=>?_);go_simp;have q:=s.o _ bS.o;refine bq f.o (.inr q) ?_;clear f K;refine zb (i:=6) rfl kR (fun K f=>?_);go_simp;refine bT.o.m ?_;rintro e x6 ⟨ev3,rfl,cH,R⟩;have cw:=bS.o.t (R.m sO);have cY:=Z (y.o.t (R.m y.o.size));have q:=s.o _ cw;have HD:=Z (aS.o _ _ _ cH);clear cH R cw;refine bq f.o (.inr q) ?_;clear f K;refine uk 7 ?_;refine zj kR ?_ _;refine Qs ?_;clear q;go_wp2_with fail;refine HD.o.m ?_;rintro e x7 ⟨rfl,I,aj⟩;have dC:=Z I;have cN:=Z aj;have cZ:=Z (cY.o.t (I.m y.o.size));clear I aj;go_wp2_with fail;refine cN.o.m ?_;rintro e x8 ⟨ea,en,ec,rfl,cD,cA⟩;have cO:=Z cD;have de:=Z (cZ.o.t (cA.m y.o.size));clear cD cA;go_wp2_with fail;exact oB ⟨ea,en,ec,rfl,cO.o,de.o⟩
def VB:Zj:=fun v t L w f a=>by
 obtain⟨g,p1,p2,h,i,j,r⟩:=t
 have m:=f
 obtain⟨v0,A,v2,rfl,d,⟨z,o,rfl,h1,s,u⟩,⟨k,p,rfl,-,-,-,-⟩⟩:=m
 have l:=d
 obtain⟨a0,n,rfl,k1,y,-,-⟩:=l
 unfold maxLen at s y
 obtain⟨hm,x⟩:zQ L/\zS ⟨g,p1,p2,h,i,j,r⟩:=by simpa using a
 obtain⟨b,c,rfl,hb,q⟩:=u (by grind [zy])
 exact Nj ⟨g,p1,p2,h,i,j,r⟩ L a0 k n b c o p w f hm x k1 lI h1 lI hb q d
end
section
variable {t:Tg}
def IL (n:Nat) (p:Int) (r:Nat) (la:Option Addr) (lc:Nat) (l:List Ed) (w0 w:wO) (hE:ZD w0 (.slice la l.length lc) l) (hl:∀e∈l,kt n e) (hn:n<=16) (hr:r<=16) (cw:1<=p) (bE:p<=100) (hlen:l.length<=60000)
  (bT:Bw w0 w) (U:zr w w0.heap.size 3 n (fun v=>J (zt p l r v))) :
  Cp 142 #[.slice (pA w0.heap.size) n n,.slice la l.length lc,J p] w fun e w'=>e=.returned (.bool (!ZS p l (zt p l r)))/\Bw w0 w'/\zr w' w0.heap.size 3 n (fun v=>J (zt p l (r+1) v)):=by
 obtain⟨la',lc',de,dL,df,bZ⟩:=hE;injection de with e1 e2 e3;subst e1;subst e3;unfold maxLen at df;have cH:=Z bZ;have C:=Z hl;have X:=Z bT;have bO:=Z U;clear bZ hl e2 bT U;go_enter func142,ntmps142;go_wp2;go_loopw [7,13] (fun st i wr=>∃k:Nat,k<=l.length/\i=J k/\st=.bool (!zF (fun j=>jF p (zt p l r) (zJ l j)) k)/\Bw w0 wr/\zr wr w0.z 3 n (fun v=>J (yR p l (zt p l r) k v))) (fun _ i _=>l.length - (intOf i).toNat)
 case atStart=>exact⟨0,Ql _,rfl,rfl,X,bO⟩
 obtain⟨k,hk,rfl,rfl,s,f⟩:=hrel;clear X bO;by_cases y:k<l.length
 ·have bz:(k:Int)<(l.length:Int):=oM
  obtain⟨eb,eo,rfl,bg,V⟩:=cH oM;obtain⟨N,O,P,Q⟩:=nU (V k y);rw [<-ze s _ _ bg] at N O P Q;have bY:eb<wr.heap.size:=by have:=s.size;omega
  obtain⟨fr,to,bk,wt,ce,cg,cB,dI,dT⟩:=C _ (Vb y);have G:Hid (∀b,zF (fun j=>jF p (zt p l r) (zJ l j)) k=b->zF (fun j=>jF p (zt p l r) (zJ l j)) (k+1)=(b && jF p (zt p l r) (zJ l k))):=fun b h=>by grind [zF]
  have W:=Z (fun h=>Em (p:=p) (l:=l) (a:=zt p l r) k oM h);have z:Hid (yR p l (zt p l r) (k+1)=V0 p (yR p l (zt p l r) k) (zJ l k)):=rfl;have M:=uM (p:=p) (l:=l) (a:=zt p l r) oM C (Ey oM C r) k hk;have L:=fun v=>ED (p:=p) (l:=l) r k v;have dA:r*l.length<=16*60000:=Nat.mul_le_mul oM hlen;rw [ce] at N O P Q G z;simp only at N O P Q;have bV:=f.cell cg;have bW:=f.cell cB;have dN:=f.frozen to;have dU:=f.lt;have H:=M fr;have I:=L fr;have K:=M to;have F:=L to;have u:=Z f;have g:=Z s;have d:Hid (zF (fun j=>jF p (zt p l r) (zJ l j)) k->jF p (zt p l r) ⟨fr,to,bk,wt⟩=decide (yR p l (zt p l r) k fr+((wt:Int) - p*(bk:Int))<=yR p l (zt p l r) k to)):=fun h=>by rw [W h];rfl
  have o:Hid (V0 p (yR p l (zt p l r) k) ⟨fr,to,bk,wt⟩=if yR p l (zt p l r) k to<yR p l (zt p l r) k fr+((wt:Int) - p*(bk:Int)) then (fun v=>if v=to then yR p l (zt p l r) k fr+((wt:Int) - p*(bk:Int)) else yR p l (zt p l r) k v) else yR p l (zt p l r) k):=rfl;obtain⟨A,cY⟩:=nm (yR p l (zt p l r) k);rw [cY] at bV bW H I K F u d o z;obtain⟨t,q⟩:∃b,zF (fun j=>jF p (zt p l r) (zJ l j)) k=b:=⟨_,rfl⟩;have S:=Z (G t q);rw [q] at d;rw [q];obtain⟨xf,dD⟩:∃x,A fr=x:=⟨_,rfl⟩;obtain⟨R,dE⟩:∃x,A to=x:=⟨_,rfl⟩;rw [dD] at bV H I d o;rw [dE] at bW K F d o;have aL:0<=p*(bk:Int):=Ws oM oM;have aM:p*(bk:Int)<=100*32:=Wy bE oM oM oM;rw [Er p (bk:Int)] at aL aM d o;have dM:(fr:Int)<(n:Int):=oM
  have dQ:(to:Int)<(n:Int):=oM
  obtain⟨m,dO⟩:=nm (xf+(wt:Int) - (bk:Int)*p);have T:xf+((wt:Int) - (bk:Int)*p)=m:=oM
  rw [T] at d o;have dh:-10000<=m/\m<=100000000:=oM
  obtain⟨di,dj⟩:=dh;clear V ce f s M L W G H I K F T;by_cases c:R<m
  ·have bI:decide (R<m):=Qi c;have D:Hid (yR p l (zt p l r) (k+1)=fun v=>if v=to then m else A v):=(by show _=_;rw [z,o,Qf c]);have B:Hid (zF (fun j=>jF p (zt p l r) (zJ l j)) (k+1)=false):=by
    show _=_;rw [S];cases t with
    | false=>rfl
    | true=>rw [d rfl,Qk oM];rfl
   go_wp2;go_big_quiet ((fail));go_wp2;go_roundw
   case rel =>
    refine⟨k+1,oM,nQ,by rw [B];rfl,?_,?_⟩
    ·exact ((g.alloc g.size _).t (Qm _ _ _ |>.mono (by have:=g.size;simp;omega))).setCell (Qc _) _
    rw [D];have h:=((u.alloc (Id fr to bk wt 98)).drawn nq).set to (J m) cB;grind
   simp [intOf];omega
  have bI:decide (R<m)=false:=Qk c;have D:Hid (yR p l (zt p l r) (k+1)=A):=by show _=_;rw [z,o,Qe c]
  have B:Hid (zF (fun j=>jF p (zt p l r) (zJ l j)) (k+1)=t):=by
   show _=_;rw [S];cases t with
   | false=>rfl
   | true=>rw [d rfl,Qi oM];rfl
  go_wp2;go_big_quiet ((fail));go_wp2;go_roundw
  case rel =>
   refine⟨k+1,oM,nQ,by rw [B],?_,?_⟩
   ·exact (g.alloc g.size _).t (Qm _ _ _ |>.mono (by have:=g.size;simp;omega))
   rw [D];exact (u.alloc (Id fr to bk wt 98)).drawn nq
  simp [intOf];omega
 have e:k=l.length:=oM
 subst e;have bz:¬(l.length:Int)<(l.length:Int):=oM
 have g:=Z s;have u:=Z f;have bP:Hid (ZS p l (zt p l r)=zF (fun j=>jF p (zt p l r) (zJ l j)) l.length):=rfl;obtain⟨t,q⟩:∃b,zF (fun j=>jF p (zt p l r) (zJ l j)) l.length=b:=⟨_,rfl⟩;rw [q] at bP ⊢;clear q s f;have cO:Hid ((!t)=!ZS p l (zt p l r)):=by show _=_;rw [bP]
 go_wp2;go_ret;exact⟨zi cO,g,u⟩
def IM (n:Nat) (p:Int) (h:Option Addr) (j:Nat) (l:List Ed) (w:wO) (z:ZD w (.slice h l.length j) l) (A:∀e∈l,kt n e) (hn:n<=16) (K:1<=p) (H:p<=100) (hlen:l.length<=60000) :
  Cp 91 #[.slice h l.length j,J n,J p] w (Rt w (.bool (VP n l p))):=by
 have M:=run_make_row' (P:=prog) 34 3 (J 0) 8 underlying34 Tryz.j3 rfl .i64 .i64 n oM oM;have m:Hid (zr (w.alloc (.cells (madeCells #[J 0] n) 3)) w.z 3 n (fun v=>J (zt p l 0 v))):=zr.zeros w _ n _;go_enter func91,ntmps91;go_wp2;have G:=Z (fun (r:Nat) (hr:r<=16) (W:wO) (hb:Bw w W) (F:zr W w.z 3 n (fun v=>J (zt p l r v)))=>IL n p r h j l w W z A hn hr K H hlen hb F);clear z A;go_loopw [11] (fun i wr=>∃r:Nat,r<=n/\i=J r/\(∀q,q<r->ZS p l (zt p l q)=false)/\Bw w wr/\zr wr w.z 3 n (fun v=>J (zt p l r v))) (fun i _=>n - (intOf i).toNat)
 case atStart=>exact⟨0,oM,rfl,fun q B=>absurd B (Qv _),Qd _ _,m⟩
 clear m M;obtain⟨r,hr,rfl,t,x,y⟩:=hrel;have u:=Z t;have o:=Z x;have N:=Z y;clear t y x;by_cases g:r<n
 ·have L:(r:Int)<(n:Int):=oM
  have c:=Z (G r oM wr o N);obtain⟨st,f⟩:∃b,ZS p l (zt p l r)=b:=⟨_,rfl⟩;rw [f] at c;have s:=Z f;clear f;cases st with
  | true =>have D:Hid (VP n l p):=ZX (k:=r) g s;go_wp2_with fail;apply c.m;rintro e O ⟨rfl,hb,a⟩;have d:=Z hb;clear hb a;go_wp2;go_ret;exact⟨zi D.s,d⟩
  | false =>
   go_wp2_with fail;apply c.m;rintro e O ⟨rfl,hb,a⟩;have d:=Z hb;have I:=Z a;clear hb a;go_wp2;go_roundw
   case rel =>
    refine⟨r+1,oM,nQ,fun q B=>?_,d,I⟩;by_cases e:q=r
    ·rw [e];exact s
    exact u q oM
   simp [intOf];omega
 have e:r=n:=oM
 subst e;have L:¬(r:Int)<(r:Int):=oM
 have C:Hid (VP r l p=false):=EE u;go_wp2;go_ret;exact⟨zi C.s,o⟩
def kT (L:Lp) (c k:Nat):Nat:=cnt (fun i=>decide (ye (zc L.b i).o=(c:Int))) k
theorem IN (L:Lp) (c:Nat):kT L c L.b.length=Xy L c:=rfl
def I_ (L:Lp) (c k:Nat):kT L c k<=k:=U5 _ _
def IP (L:Lp) (c k a:Nat) (h:ye (zc L.b k).o=(a:Int)):kT L c (k+1)=if c=a then kT L a k+1 else kT L c k:=by
 grind [kT,cnt]
def IQ {t:Tg} {g:Nat} {wr:wO} {c:Nat} (b:c<3) (h0:wr.cell? (E g 0)=Y t.u0) (h1:wr.cell? (E g 1)=Y t.u1) (a:wr.cell? (E g 2)=Y t.u2):wr.cell? (E g c)=Y (yf t c):=by
 obtain rfl | rfl | rfl:c=0\/c=1\/c=2:=lI
 ·exact h0
 ·exact h1
 exact a
def xd (h:zS t):∀c:Nat,∃u:Nat,yf t c=(u:Int)/\1<=u/\u<=4:=by
 intro c;obtain⟨h1,a,b,-,-⟩:=yi h;have h1:=yG h1;have a:=yG a;have b:=yG b;unfold yf;split
 ·exact⟨t.u0.toNat,lI,lI,lI⟩
 split
 ·exact⟨t.u1.toNat,lI,lI,lI⟩
 exact⟨t.u2.toNat,lI,lI,lI⟩
def IR {L:Lp} (hb:L.b.length<=16) (a:∀c:Nat,c<3->1<=(yf t c).toNat):∀c,c<=3->1<=kI L t c/\kI L t c<=16:=by
 intro c;induction c with
 | zero=>intro _;exact⟨Qc _,by show 1<=16;lia⟩
 | succ c ih =>intro g;have h1:=ih lI;have d:Xe (Xy L c) (yf t c).toNat<=Xy L c:=(te (a c lI)).1 (EW _ (a c lI));have f:Xy L c<=L.b.length:=U5 _ _;show 1<=max (kI L t c) (Xe (Xy L c) (yf t c).toNat)/\max (kI L t c) (Xe (Xy L c) (yf t c).toNat)<=16;lia
def IS (n u:Nat) (a:1<=u):((n:Int)+(u:Int) - 1).tdiv (u:Int)=(Xe n u:Int):=by
 grind [Xe]
def IT (T:Tg) (L:Lp) (v0 v2:vO) (b a cap:Nat) (w:wO) (hl:L.b.length<=cap) (hm:cap<=9223372036854775807) (hb:b<w.heap.size) (R:∀i,i<L.b.length->∀j,j<9->w.cell? (E b (a+i*9+j))=(zG (zc L.b i))[j]?) (K:L.b.length<=16) (q:zS T) :
  Cp 50 #[.agg #[v0,.slice (some (E b a)) L.b.length cap,v2],(tV T)] w (Rt w (J (ZL L T))):=by
 have cF:=Z R;have cW:=Z (xd q);have cM:=Z (IR (L:=L) (t:=T) K (fun c _=>by obtain⟨u,h1,h2,_⟩:=xd q c;rw [h1,QL];exact h2));have H:Hid (((w.alloc (.cells #[v0,.slice (some (E b a)) L.b.length cap,v2] 62)).alloc (tO T)).heap.size=w.heap.size+1+1):=by show _=_;simp
 have G:Hid (zr (((w.alloc (.cells #[v0,.slice (some (E b a)) L.b.length cap,v2] 62)).alloc (tO T)).alloc (Ic 0 0 0 25)) (w.heap.size+1+1) 25 3 (fun c=>J (kT L c 0))):=by
  show zr _ _ _ _ _;rw [<-H];exact zr.made _ _ _ 3 _ sM (fun i hi=>by
   obtain rfl | rfl | rfl:i=0\/i=1\/i=2:=oM
   all_goals rfl)
 clear R q;go_enter func50,ntmps50;go_wp2;go_loopw [15] (fun i wr=>∃k:Nat,k<=L.b.length/\i=J k/\Below (w.heap.size+1+1) ((w.alloc (.cells #[v0,.slice (some (E b a)) L.b.length cap,v2] 62)).alloc (tO T)) wr/\zr wr (w.heap.size+1+1) 25 3 (fun c=>J (kT L c k))) (fun i _=>L.b.length - (intOf i).toNat)
 case atStart=>exact⟨0,Ql _,rfl,(QA _ _).alloc (by rw [H];omega) _,G⟩
 clear G;obtain⟨k,hk,rfl,n,f⟩:=hrel;have HB:=Z n;have gS:=Z f;obtain⟨⟨l0,l1,l2⟩,⟨A,B,C,V,X,t5,t6⟩,z0,z1,m⟩:=ZG n;have cE:=Z m;have cC:=f.lt;by_cases y:k<L.b.length
 ·have bz:(k:Int)<(L.b.length:Int):=oM
  obtain⟨c0,c1,c2,c3,c4,c5,c6,c7,c8⟩:=Ue (fun j hj=>(ze m b (a+k*9+j) hb).t (cF k y j hj));have dJ:b<wr.heap.size:=oM
  obtain⟨d,x,I⟩:∃d:Nat,ye (zc L.b k).o=(d:Int)/\d<3:=by
   rcases VA (zc L.b k).o with h | h | h
   ·exact⟨0,h,oM⟩
   ·exact⟨1,h,oM⟩
   exact⟨2,h,oM⟩
  have aH:=Z (fun c=>IP L c k d x);have cG:Hid (∀W,Cp 90 #[J (zc L.b k).o] W (Re W (J d))):=fun W=>by rw [<-x];exact pE _ _
  have dK:=f.cell I;have cg:=f.frozen d;have dP:=I_ L d k;have dH:Hid (∃F,zc L.b k=F):=⟨_,rfl⟩;generalize zc L.b k=F at *
  obtain⟨o,xa,xb,ya,yb,ar,sp,pl,nn⟩:=F;generalize l:kT L d k=cc at *
  have dG:=Z l;have cZ:(d:Int)<3:=oM
  clear n f m x l A B C V X t5 t6 l0 l1 l2;go_wp2_with (go_at_call 90;refine (cG _).mr fun w' s=>?_;have s:=s.s;subst s);go_roundw
  case rel =>
   refine⟨k+1,oM,nQ,?_,?_⟩
   ·have h1:Below (w.heap.size+1+1) _ (wr.st (w.heap.size+1+1) d (J ((cc:Int)+1))):=HB.setCell (Qc _) _;exact h1.alloc sO _
   have h:=(gS.set d (J ((cc:Int)+1)) I).alloc (nB o xa xb ya yb ar sp pl nn);refine h.congr fun v hv=>?_;rw [aH v];by_cases e:v=d
   ·rw [Qf e,Qf e];simp
   rw [Qe e,Qe e]
  simp [intOf];omega
 have e:k=L.b.length:=oM
 subst e;have bz:¬(L.b.length:Int)<(L.b.length:Int):=oM
 have U:=f.cell (i:=0) oM;have r1:=f.cell (i:=1) oM;have r2:=f.cell (i:=2) oM;rw [IN] at U r1 r2;have cS:=Z (fun c (p:c<3)=>IQ (t:=T) p A B C);have cJ:Hid (∀c:Nat,c<3->∀W:wO,(Instr.index 25 (.agg #[J (Xy L 0),J (Xy L 1),J (Xy L 2)]) (J (c:Int))).run prog W=.ok (J (Xy L c)) W):=fun c p W=>by
  obtain rfl | rfl | rfl:c=0\/c=1\/c=2:=oM
  all_goals kernel_rfl
 clear n f m A B C V X t5 t6 l0 l1 l2;go_wp2;go_loopw [8,28] (fun pv i D=>∃c:Nat,c<=3/\i=J c/\pv=J (kI L T c)/\D=wr) (fun _ i _=>3 - (intOf i).toNat)
 case atStart=>exact⟨0,oM,rfl,rfl,rfl⟩
 obtain⟨c,p,rfl,rfl,rfl⟩:=hrel;have O:=cM c p;by_cases g:c<3
 ·have cZ:(c:Int)<3:=oM
  have dC:=cS c g;have dm:=cJ c g;obtain⟨u,z,r,dR⟩:=cW c;rw [z] at dC;have M:Hid (kI L T (c+1)=max (kI L T c) (Xe (Xy L c) u)):=by show max _ (Xe (Xy L c) (yf _ c).toNat)=_;rw [z,QL]
  have N:Xy L c<=16:=QH (U5 _ _) K;have dw:=IS (Xy L c) u r;have dt:Xe (Xy L c) u<=16:=QH ((te r).1 (EW _ r)) N;generalize Xe (Xy L c) u=S at *
  have dS:wrap64 (S:Int)=(S:Int):=by unfold wrap64;omega
  obtain⟨nc,P⟩:=nm (Xy L c);rw [P] at dm N dw;obtain⟨pa,Q⟩:=nm (kI L T c);rw [Q] at M O ⊢;obtain⟨aL,aM⟩:=O;clear P z Q U r1 r2;go_wp2;go_roundw
  case rel =>refine⟨c+1,oM,nQ,?_,trivial⟩;rw [M];congr 1;first | omega | (split <;> omega)
  simp [intOf];omega
 have e:c=3:=oM
 subst e;go_wp2;go_ret;exact⟨rfl,cE⟩
def IU (t:Tg) (L:Lp) (ea:Option Addr) (ec:Nat) (w:wO) (v:ZD w (.slice ea (zf L t).length ec) (zf L t)) (hm:zQ L) :
  Cp 51 #[.slice ea (zf L t).length ec,J L.b.length] w (Rt w (J (xS L t))):=by
 obtain⟨-,h1,j,-⟩:=zy hm;have hlen:(zf L t).length<=60000:=by have:=Gh L t L.b.length j;have a:L.b.length*3696<=16*3696:=EI _ j;show (jX L t L.b.length).length<=60000;omega
 have C:Hid (∀e∈zf L t,kt L.b.length e):=fun e m=>by obtain⟨fr,to,bk,wt,h0,h1,a,u,F,G⟩:=ZW hm e m;exact⟨fr,to,bk,wt,h0,h1,a,G,F⟩
 have B:Hid (∀e∈zf L t,e.fr.toNat<L.b.length/\e.to.toNat<L.b.length):=fun e m=>by obtain⟨fr,to,bk,wt,rfl,h1,a,-⟩:=ZW hm e m;simp_all
 have y:=Z (fun q h1 a u=>EH (L:=L) (t:=t) (q:=q) hm h1 a u);have A:=Z (fun q h=>EK (L:=L) (t:=t) hm (q:=q) h);have z:=Z v;clear v hm;generalize zf L t=f at *
 go_enter func51,ntmps51;go_wp2;go_loopw [5] (fun n wr=>∃q:Nat,n=J q/\1<=q/\(∀c:Nat,1<=c->c<q->xC L.b.length f c=false)/\Bw w wr) (fun n _=>100 - (intOf n).toNat)
 case atStart=>exact⟨1,rfl,Qc _,fun c h1 a=>absurd a oM,QA _ _⟩
 obtain⟨q,rfl,D,g,l⟩:=hrel;have I:=A q g;have o:=Z g;have p:=Z l;obtain⟨rb,k⟩:∃b,xC L.b.length f (q:Int)=b:=⟨_,rfl⟩;have r:Hid (Cp 91 #[.slice ea f.length ec,J L.b.length,J q] wr (Rt wr (.bool rb))):=by show Calls _ _ _ _ _;rw [<-k,<-L4 h1 B];exact IM L.b.length q ea ec f wr (z.gE l) C j oM oM hlen
 have s:=Z k;clear g l k;cases rb with
 | true =>have x:=Z (y q D s o);go_wp2_with fail;refine r.mr fun H d=>?_;have i:=Z (p.tm d);clear d;go_wp2;go_ret;exact⟨xe (by rw [x]),i⟩
 | false =>
  go_wp2_with fail;refine r.mr fun H d=>?_;have i:=Z (p.tm d);clear d;go_wp2;go_roundw
  case rel =>
   refine⟨q+1,nQ,oM,fun c h1 a=>?_,i⟩;by_cases e:c=q
   ·rw [e];exact s
   exact o c h1 oM
  simp [intOf];omega
set_option maxRecDepth 100000 in
def IV (hE:Zj) (t:Tg) (L:Lp) (a0 f:Option Addr) (g b a c k:Nat) (w:wO) (hL:zI w ((lv L a0 (some (E b a)) f g c k)) L) (hm:zQ L) (z:zS t) (V:L.b.length<=c) (X:c<=9223372036854775807) (hb:b<w.heap.size)
  (gQ:∀i,i<L.b.length->∀j,j<9->w.cell? (E b (a+i*9+j))=(zG (zc L.b i))[j]?) :
  Cp 23 #[(lv L a0 (some (E b a)) f g c k),(tV t)] w (Rt w (.tuple #[J (ZL L t),J (xS L t),J 0])):=by
 have O:=(zy hm).2.2.1;have H:=Z (fun W (h:zI W ((lv L a0 (some (E b a)) f g c k)) L)=>hE ((lv L a0 (some (E b a)) f g c k)) t L W h (by rw [hm,z];rfl));have R:=Z (fun W (hW:Bw w W)=>IT t L (.slice a0 L.l.length g) (.slice f L.o.length k) b a c W V X (by have:=hW.size;omega) (fun i hi j hj=>by grind [ze]) O z);have I:=Z (fun ea ec W h=>IU t L ea ec W h hm);have A:Hid (((w.alloc (lC L a0 (some (E b a)) f g c k)).alloc (tO t)).heap.size=w.heap.size+1+1):=by show _=_;simp
 clear hm z gQ;generalize ZL L t=ub at *
 generalize xS L t=rb at *
 go_enter func23,ntmps23;go_wp2_with fail;refine (H _ (hL.gE (QB _ _ _))).m ?_;rintro e G ⟨ea,en,ec,rfl,y,F⟩;have p:Hid (Below (w.heap.size+1+1) ((w.alloc (lC L a0 (some (E b a)) f g c k)).alloc (tO t)) G):=by show Below _ _ _;rw [<-A];exact F
 obtain⟨-,-,-,-,B⟩:=ZG p;have s:=Z B;obtain⟨v,ec2,U,-⟩:=id y;injection U with hen1 hen2 hen3;subst hen1;subst hen2;subst hen3;have M:=Z y;clear F B y;generalize zf L t=es at *
 have q:Hid (∀w':wO,Below (w.heap.size+1+1) ((w.alloc (lC L a0 (some (E b a)) f g c k)).alloc (tO t)) w'->(w'.c w.heap.size 0=some (.slice a0 L.l.length g)/\w'.c w.heap.size 1=some (vE b a L.b.length c)/\w'.c w.heap.size 2=some (.slice f L.o.length k))/\(w'.c (w.heap.size+1) 0=Y t.u0/\w'.c (w.heap.size+1) 1=Y t.u1/\w'.c (w.z+1) 2=Y t.u2/\w'.c (w.z+1) 3=Y t.w0/\w'.c (w.z+1) 4=Y t.w1/\w'.c (w.z+1) 5=Y t.w2/\w'.c (w.z+1) 6=Y t.r)):=by intro w' h;obtain⟨h1,h2,-⟩:=ZG h;exact⟨h1,h2⟩
 have Q:w.z+1+1<=G.z:=by have:=p.size;simp_all
 go_wp2;refine rh 99 q (p.t (zV _ _)) fun m=>?_;refine aq 0 ?_;refine aq 3 ?_;refine aq 5 ?_;refine uo 2 fun K d=>?_;go_simp;refine (R _ (s.t (zV _ _))).mr fun x3 n=>?_;have u:=p.t ((zV _ _).t (n.m (by simpa using Q)));have C:=Z u;have P:=Z (s.t ((zV _ _).t (n.m (by simpa using s.size))));have m:=q _ u;have N:=Z (M.gE ((zV _ _).t n));clear n u;refine bq d.o (.inr m) ?_;clear d K;refine uo 7 fun K d=>?_;go_simp;refine (I _ _ _ N).mr fun x4 x=>?_;have T:w.z+1+1<=x3.z:=by have:=C.size;rw [A] at this;exact this
 have D:=C.t (x.m T);have S:=Z (P.tm x);have m:=q _ D;clear x D;refine bq d.o (.inr m) ?_;clear d K;refine aq 8 ?_;refine uk 10 ?_;refine rd ?_;clear m;go_wp2;exact oB ⟨rfl,S⟩
end
section
variable {y:wO}
def tT {w:wO} {L:Lp} {a0 a c:Option Addr} {d f g:Nat} {t:Tg} (h:Below (w.heap.size+1+1+1) (((w.alloc (lC L a0 a c d f g)).alloc (tO t)).alloc (.cells #[J 0,.slice none 0 0] 110)) y):((y.cell? (E w.heap.size 0)=some (.slice a0 L.l.length d)/\y.cell? (E w.heap.size 1)=some (.slice a L.b.length f)/\y.cell? (E w.heap.size 2)=some (.slice c L.o.length g))/\(y.cell? (E (w.heap.size+1) 0)=Y t.u0/\y.cell? (E (w.heap.size+1) 1)=Y t.u1/\y.cell? (E (w.heap.size+1) 2)=Y t.u2/\y.cell? (E (w.heap.size+1) 3)=Y t.w0/\y.cell? (E (w.heap.size+1) 4)=Y t.w1/\y.cell? (E (w.heap.size+1) 5)=Y t.w2/\y.cell? (E (w.heap.size+1) 6)=Y t.r))/\y.heap[(w.heap.size+1+1)]?=some (.cells #[J 0,.slice none 0 0] 110 (0,0)):=by
 have j:((w.alloc (lC L a0 a c d f g)).alloc (tO t)).z=w.z+1+1:=sM
 have i:(w.alloc (lC L a0 a c d f g)).z=w.z+1:=sM
 have b2:y.heap[(w.z+1+1)]?=some (.cells #[J 0,sN] 110 (0,0)):=by rw [h.block _ lI,<-j];exact zm _ _ _
 have b1:y.heap[w.z+1]?=some (tO t):=by rw [h.block _ lI,Qr _ _ _ sM,<-i];exact zm _ _ _
 have b0:y.heap[w.z]?=some (lC L a0 a c d f g):=by rw [h.block _ lI,Qr _ _ _ (by simp;lia),Qr _ _ _ sM];exact zm _ _ _
 refine⟨⟨⟨?_,?_,?_⟩,⟨?_,?_,?_,?_,?_,?_,?_⟩⟩,b2⟩;all_goals first | (rw [Qa b0];rfl) | (rw [Qa b1];rfl)
def qr {g n c:Nat} {T:Li} {b:Nat} (h:zM y (.slice (pA g) n c) T) (hb:b≠g) (i:Nat) (v:vO):zM (y.setCell (E b i) v) (.slice (pA g) n c) T/\True:=by obtain⟨a,cap,e,h1,j,k,l⟩:=h;refine⟨⟨a,cap,e,h1,j,k,fun p=>?_⟩,trivial⟩;obtain⟨b',d,f,m,o⟩:=l p;injection e with e3;rw [f] at e3;injection e3 with e3;injection e3 with e3 e4;refine⟨b',d,f,by simpa using m,fun i hi=>?_⟩;rw [xX (Qj _ _ _ _ (show b'≠b by lia))];exact o i hi
def qt (L:Lp) (t:Tg) (gU:Int) (w:wO) (e:Ending) (w':wO):Prop:=Bw w w'/\∃P ta tl tc c,e=.returned (.tuple #[.agg #[J P,.slice ta tl tc],J c]) /\
    ((zQ L && zS t)=false->c=2/\P=0/\tl=0)/\((zQ L && zS t)->br gU 1 200=false->c=3/\P=0/\tl=0) /\
    ((zQ L && zS t)->br gU 1 200->c=0/\∃T,tl=T.length/\zM w' (.slice ta tl tc) T/\zZ L t P T/\gU<=P/\P<=max gU (xU L t)/\Yz L t gU P T)
def OY (hE:Zj) (hB:lB) (t:Tg) (L:Lp) (a0 k:Option Addr) (bb bo:Nat) (n p r:Nat) (c:Int) (w:wO) (hL:zI w ((lv L a0 (some (E bb bo)) k n p r)) L) (hm:zQ L) (D:zS t) (bC:1<=c) (bD:c<=200) :
  Cp 94 #[(lv L a0 (some (E bb bo)) k n p r),(tV t),J c] w fun e w'=>qt L t c w e w':=by
 have aI:(zQ L && zS t):=by rw [hm,D];rfl
 have aK:=Z (QJ w (lC L a0 (some (E bb bo)) k n p r) (tO t) (.cells #[J 0,.slice none 0 0] 110));have bK:Hid ((((w.alloc (lC L a0 (some (E bb bo)) k n p r)).alloc (tO t)).alloc (.cells #[J 0,.slice none 0 0] 110)).heap.size=(w.heap.size+1+1+1)):=by show _=_;simp
 have aE:=Z (hB _ t L (((w.alloc (lC L a0 (some (E bb bo)) k n p r)).alloc (tO t)).alloc (.cells #[J 0,.slice none 0 0] 110)) (hL.gE aK) aI);have HM:=Z (fun W (h:zI W ((lv L a0 (some (E bb bo)) k n p r)) L)=>hE ((lv L a0 (some (E bb bo)) k n p r)) t L W h aI);have bN:=Z (fun W=>sI c 1 200 W);rw [yh ⟨bC,bD⟩] at bN;have HL:=Z hL;obtain⟨-,cO,cC,-⟩:=zy hm;obtain⟨v0,v1,v2,hv,-,⟨a1',c1',cJ,bS,cD,bQ⟩,-⟩:=hL;injection hv with hv;obtain⟨e0,e1,e2⟩:(.slice a0 L.l.length n:vO)=v0/\(.slice (some (E bb bo)) L.b.length p:vO)=v1/\(.slice k L.o.length r:vO)=v2:=by simpa using hv
 subst e1;injection cJ with f1 f2 f3;subst f1;subst f3;obtain⟨bb',bo',bg,hbb,gQ⟩:=bQ (by omega);injection bg with bg;injection bg with g1 g2;subst g1;subst g2;unfold maxLen at cD;have al:=Z (fun W (N:Bw w W)=>D5 t L (.slice a0 L.l.length n) (.slice k L.o.length r) bb bo p c W hm D bC bD (Qu hbb N.size) bS (by omega) (fun i hi j hj=>(ze N _ _ hbb).t (gQ i hi j hj)));have bG:=Z (fun W (P:Int) ea ec (N:Bw w W) (cw:ZD W (.slice ea (zf L t).length ec) (zf L t)) (h1:1<=P) (B:P<=200)=>Jy t L (.slice a0 L.l.length n) (.slice k L.o.length r) bb bo p P ea ec W hm D h1 B (Qu hbb N.size) bS (by omega) (fun i hi j hj=>(ze N _ _ hbb).t (gQ i hi j hj)) cw);have cx:=mN hm D;have cI:=L7 L t;have ae:Hid (zZ L t (max c (xU L t)) (Xl L t)):=sF hm D (by omega) (by omega);have aO:Hid ((Xl L t).length=L.b.length):=by show _=_;unfold Xl;simp
 have aa:Hid (∀(W:wO) (P:Int) ta tl tc,Bw w W->(∃T,tl=T.length/\zM W (.slice ta tl tc) T/\zZ L t P T/\Yz L t c P T)->c<=P->P<=max c (xU L t)->qt L t c w (.returned (.tuple #[.agg #[J P,.slice ta tl tc],J 0])) W):=fun W P ta tl tc h1 ⟨T,B,h3,h4,h7⟩ h5 h6=>⟨h1,P,ta,tl,tc,0,rfl,fun h=>absurd (aI.s.t h) (by simp),fun _ h=>absurd ((yh ⟨bC,bD⟩).s.t h) (by simp),fun _ _=>⟨rfl,T,B,h3,h4,h5,h6,h7⟩⟩;clear gQ bQ hv aI hm D f2 e0 e2;obtain⟨aw,aZ⟩:=nm (xU L t);obtain⟨es,bR⟩:=nm (zf L t);rw [aZ] at cx ae aa;have bY:=Z aZ;rw [bR] at HM bG;obtain⟨ub,ah⟩:=nm (ZL L t);obtain⟨rb,ag⟩:=nm (xS L t);obtain⟨z,bz⟩:=nm (sH L t c);have bJ:=Z bz;have bI:Hid (z=max (max c ub) rb):=by show _=_;rw [<-bz,<-ah,<-ag];rfl
 rw [ah] at aE cI;rw [ag] at aE;clear aZ bR ah ag bz;obtain⟨d,bj⟩:=nm (max c aw);rw [bj] at ae aa;have af:c<=d/\d<=200:=by omega
 obtain⟨af,cE⟩:=af;have aR:Hid (max c (xU L t)=d):=by show _=_;rw [bY];exact bj
 have aP:Hid (∀P T,(∀q,z<=q->q<P->Xr L t q none)->z<=P->P<d->Xr L t P (some T)->Yz L t c P T):=fun P T h1 B h3 h4=>by unfold Yz;rw [bJ,aR];grind
 have aQ:Hid (∀pc,(∀q,z<=q->q<pc->Xr L t q none)->d<=pc->Yz L t c d (Xl L t)):=fun pc h1 B=>by unfold Yz;rw [bJ,aR];grind
 go_enter func94,ntmps94;go_wp2_with fail;refine aE.mr fun x1 bf=>?_;have aX:Hid (Below (w.heap.size+1+1+1) (((w.alloc (lC L a0 (some (E bb bo)) k n p r)).alloc (tO t)).alloc (.cells #[J 0,.slice none 0 0] 110)) x1):=by show Below _ _ _;rw [<-bK];exact bf
 have aV:Hid (Bw w x1):=aK.tm bf;have bV:(w.heap.size+1+1+1)<=x1.heap.size:=by have:=aX.size;rw [bK] at this;exact this
 obtain⟨⟨⟨l0,l1,l2⟩,⟨O,Q,R,S,U,V,X⟩⟩,-⟩:=tT aX;clear bf aE bj;go_wp2_with (go_at_call 143;refine (bN _).mr fun w' bF=>?_;have bF:=bF.s;subst bF);refine (HM _ (HL.gE aV)).m ?_;rintro e x2 ⟨ea,en,ec,rfl,bh,aH⟩;obtain⟨ea2,ec2,cA,-⟩:=id bh;injection cA with hen1 hen2 hen3;subst hen1;subst hen2;subst hen3;have bO:Hid (Below (w.heap.size+1+1+1) (((w.alloc (lC L a0 (some (E bb bo)) k n p r)).alloc (tO t)).alloc (.cells #[J 0,.slice none 0 0] 110)) x2):=aX.t (aH.m bV);have aW:Hid (Bw w x2):=aV.tm aH;have bW:(w.heap.size+1+1+1)<=x2.heap.size:=QH bV aH.size;have aj:=Z bh;clear l0 l1 l2 O Q R S U V X aH bh HM;obtain⟨⟨⟨l0,l1,l2⟩,⟨O,Q,R,S,U,V,X⟩⟩,-⟩:=tT bO;go_wp2_with fail;refine (al _ aW).m ?_;rintro e f ⟨I,m,a,rfl,cB,ab⟩;rw [aR];have ce:Hid (Below (w.heap.size+1+1+1) (((w.alloc (lC L a0 (some (E bb bo)) k n p r)).alloc (tO t)).alloc (.cells #[J 0,.slice none 0 0] 110)) f):=bO.t (I.m bW);have bL:Hid (Bw w f):=aW.tm I;have cL:(w.heap.size+1+1+1)<=f.heap.size:=QH bW I.size;have aL:=Z (aj.gE I);have aM:=Z ab;have cg:Hid (Bw f (f.alloc (.cells #[J d,.slice (pA m) L.b.length a] 110))):=Qd _ _;have bZ:Hid ((f.alloc (.cells #[J d,.slice (pA m) L.b.length a] 110)).heap[f.heap.size]?=some (.cells #[J d,.slice (pA m) L.b.length a] 110 (0,0))):=zm _ _ _;have bP:Hid ((f.alloc (.cells #[J d,.slice (pA m) L.b.length a] 110)).heap.size=f.heap.size+1):=by show _=_;simp
 clear l0 l1 l2 O Q R S U V X I ab aj al;go_wp2
 all_goals
  go_loopw [14] (fun pv wr=>∃pc:Int,pv=J pc/\c<=pc/\(z<=pc/\∀q,z<=q->q<pc->Xr L t q none)/\Below (f.heap.size+1) (f.alloc (.cells #[J d,.slice (pA m) L.b.length a] 110)) wr) (fun pv _=>(d - intOf pv).toNat)
  case atStart=>exact⟨_,rfl,by omega,⟨by have:=bI.o;omega,fun q h1 B=>absurd B (by have:=bI.o;omega)⟩,QA _ _⟩
  case round =>
   obtain⟨pc,rfl,hpc,bT,M⟩:=hrel
   have H:=Z bT
   clear bT
   have HB:=Z M
   have aF:Hid (Bw f wr):=cg.t (M.m (by omega))
   have cu:Hid (Below (w.heap.size+1+1+1) (((w.alloc (lC L a0 (some (E bb bo)) k n p r)).alloc (tO t)).alloc (.cells #[J 0,.slice none 0 0] 110)) wr):=ce.t (aF.m cL)
   have aG:Hid (Bw w wr):=bL.tm aF
   have cH:f.heap.size+1<=wr.heap.size:=by have:=M.size;rw [bP] at this;exact this
   have bE:wr.heap[f.heap.size]?=some (.cells #[J d,.slice (pA m) L.b.length a] 110 (0,0)):=(M.block _ (by omega)).t bZ
   have m0:wr.c f.heap.size 0=Y d:=cb bE
   have m1:wr.c f.heap.size 1=some (.slice (pA m) L.b.length a):=cb bE
   obtain⟨⟨⟨l0,l1,l2⟩,⟨O,Q,R,S,U,V,X⟩⟩,hz⟩:=tT cu
   have C:=Z hz
   have cN:=cB
   clear M bE hz
   by_cases hlt:pc<d
   ·have aJ:=Z (bG wr pc ea ec aG (aL.gE aF) (by omega) (by omega))
    go_wp2_with fail
    refine aJ.m ?_
    rintro e s ⟨K,u,ta5,tl5,g,bk5,rfl,aD,aB⟩
    have aS:=Z aB
    clear aB
    have bH:Hid (Below (f.heap.size+1) (f.alloc (.cells #[J d,.slice (pA m) L.b.length a] 110)) s):=HB.t (K.m cH)
    have bM:Hid (Bw w s):=aG.tm K
    have A:s.heap[(w.heap.size+1+1)]?=some (.cells #[J 0,sN] 110 (0,0)):=(K.block _ (by omega)).t C
    have cS:wr.heap.size<=s.heap.size:=K.size
    have aY:=Z aD
    clear aD K l0 l1 l2 O Q R S U V X m0 m1
    cases bk5 with
    | true =>
      obtain⟨rfl,y,x,rfl,cM,rfl,az,ac,aC⟩:=aY rfl
      have aA:=aP u x H.2 H.1 hlt aC
      have n0:s.c ((w.heap.size+1+1)) 0=Y 0:=cb A
      have n1:s.c ((w.heap.size+1+1)) 1=some sN:=cb A
      have k0:s.frozen? (E ((w.heap.size+1+1)) 0)=false:=by simp [World.frozen?,A]
      have k1:s.frozen? (E ((w.heap.size+1+1)) 1)=false:=by simp [World.frozen?,A]
      have bU:(w.heap.size+1+1)<s.heap.size:=(lo A)
      have cF:¬s.heap.size=(w.heap.size+1+1):=by omega
      have cG:¬(w.heap.size+1+1)=s.heap.size:=by omega
      obtain⟨F,G⟩:=Yr (a':=J u) (b':=vP y x.length g) A
      have HF:Hid (∀o,qt L t c w (.returned (.tuple #[.agg #[J u,vP y x.length g],J 0])) (((s.st ((w.heap.size+1+1)) 0 (J u)).st ((w.heap.size+1+1)) 1 (vP y x.length g)).alloc o)):=fun o=>by
       refine aa _ u _ _ _ (((bM.setCell (by show w.heap.size<=(w.heap.size+1+1);omega) _).setCell (by show w.heap.size<=(w.heap.size+1+1);omega) _).alloc (by have:=bM.size;simp;omega) _) ⟨x,rfl,?_,ac,aA⟩ hpc (by omega)
       exact ((qr az (show (w.heap.size+1+1)≠y by omega) 0 _).1 |> fun h=>(qr h (show (w.heap.size+1+1)≠y by omega) 1 _).1).gE (Qd _ _)
      clear A az ac aC aA
      have aU:Hid (∀o,(((s.st ((w.heap.size+1+1)) 0 (J u)).st ((w.heap.size+1+1)) 1 (vP y x.length g)).alloc o).c ((w.heap.size+1+1)) 0=Y u/\(((s.st ((w.heap.size+1+1)) 0 (J u)).st ((w.heap.size+1+1)) 1 (vP y x.length g)).alloc o).c ((w.heap.size+1+1)) 1=some (vP y x.length g)):=fun o=>⟨(ze (Qd _ _) _ _ (by simpa using bU)).t F,(ze (Qd _ _) _ _ (by simpa using bU)).t G⟩
      clear F G
      go_wp2
      obtain⟨F,G⟩:=aU (.cells #[J u,vP y x.length g] 110)
      exact bodyPost_ret (v:=.tuple #[.agg #[J u,vP y x.length g],J 0]) (by simp [results,results94,go_sem,F,G]) rfl (HF _)
    | false =>
      have aT:Hid (z<=pc+1/\∀q,z<=q->q<pc+1->Xr L t q none):=⟨by have:=H.1;omega,fun q g1 g2=>by
       by_cases e:q=pc
       ·rw [e];exact aS rfl
       ·exact H.2 q g1 (by omega)⟩
      go_wp2
      go_roundw
      case rel=>exact⟨pc+1,by go_num,by omega,aT,bH.alloc (by omega) _⟩
      case measure=>simp [intOf];omega
   ·have aN:=Z (aM.gE aF.o)
    have n0:wr.c ((w.heap.size+1+1)) 0=Y 0:=cb C.o
    have n1:wr.c ((w.heap.size+1+1)) 1=some sN:=cb C.o
    have k0:wr.frozen? (E ((w.heap.size+1+1)) 0)=false:=by simp [World.frozen?,C.o]
    have k1:wr.frozen? (E ((w.heap.size+1+1)) 1)=false:=by simp [World.frozen?,C.o]
    obtain⟨F,G⟩:=Yr (a':=J d) (b':=vP m L.b.length a) C
    have HF:Hid (qt L t c w (.returned (.tuple #[.agg #[J d,vP m L.b.length a],J 0])) ((wr.st ((w.heap.size+1+1)) 0 (J d)).st ((w.heap.size+1+1)) 1 (vP m L.b.length a))):=by
     refine aa _ d _ _ _ ((aG.setCell (by show w.heap.size<=(w.heap.size+1+1);omega) _).setCell (by show w.heap.size<=(w.heap.size+1+1);omega) _) ⟨Xl L t,aO.s,?_,ae,aQ pc H.2 (by omega)⟩ af (QR _)
     exact (qr (qr aN (show (w.heap.size+1+1)≠m by omega) 0 _).1 (show (w.heap.size+1+1)≠m by omega) 1 _).1
    go_wp2
    exact bodyPost_ret (v:=.tuple #[.agg #[J d,vP m L.b.length a],J 0]) (by simp [results,results94,go_sem,F,G]) rfl HF
end
def Ks (hE:Zj) (t:Tg) (L:Lp) (a0 a:Option Addr) (bb bo:Nat) (c d f:Nat) (P:Int) (T:Li) (tb g:Nat) (tc:Nat) (w:wO) (hL:zI w ((lv L a0 (some (E bb bo)) a c d f)) L) (hT:zM w (.slice (some (E tb g)) T.length tc) T) (h:T.length=L.b.length) (hm:zQ L) (ht:zS t) :
  Calls Tryz.prog 145 #[(lv L a0 (some (E bb bo)) a c d f),(tV t),.agg #[J P,.slice (some (E tb g)) T.length tc]] w (Rt w (.bool (zZ L t P T))):=by
 have HM:=Z (fun W (h:zI W ((lv L a0 (some (E bb bo)) a c d f)) L)=>hE ((lv L a0 (some (E bb bo)) a c d f)) t L W h (by rw [hm,ht];rfl));have ao:=Z (QJ w (lC L a0 (some (E bb bo)) a c d f) (tO t) (.cells #[J P,.slice (some (E tb g)) T.length tc] 110));have D:Hid ((((w.alloc (lC L a0 (some (E bb bo)) a c d f)).alloc (tO t)).alloc (.cells #[J P,.slice (some (E tb g)) T.length tc] 110)).heap.size=w.heap.size+1+1+1):=by show _=_;simp
 obtain⟨-,bI,aQ,-⟩:=zy hm;have HL:=Z hL;have HT:=Z hT;obtain⟨v0,v1,v2,G,-,⟨a1',c1',bH,bz,bD,aT⟩,-⟩:=hL;injection G with G;obtain⟨e0,e1,e2⟩:(.slice a0 L.l.length c:vO)=v0/\(.slice (some (E bb bo)) L.b.length d:vO)=v1/\(.slice a L.o.length f:vO)=v2:=by simpa using G
 subst e1;injection bH with f1 f2 f3;subst f1;subst f3;obtain⟨bb',bo',q,hbb,gQ⟩:=aT oM;injection q with q;injection q with g1 g2;subst g1;subst g2;obtain⟨ta',tc',bG,bC,bE,bF,aU⟩:=hT;injection bG with f4 f5 f6;subst f4;subst f6;obtain⟨tb',tz',ah,A,ab⟩:=aU oM;injection ah with ah;injection ah with g3 g4;subst g3;subst g4;unfold maxLen at bD bE;have C:=Z (fun W (h:zM W (.slice (some (E tb g)) T.length tc) T)=>J3 P T (some (E tb g)) tc W h);have aY:Hid (∀e∈zf L t,kt L.b.length e):=fun e he=>by obtain⟨fr,to,bk,wt,h0,h1,v,h3,h4,h5⟩:=ZW hm e he;exact⟨fr,to,bk,wt,h0,h1,v,h5,h4⟩
 have s:Hid (1<=P->P<=200->(zF (fun i=>br (ak T i) 0 1000) T.length && zF (fun i=>UM P T (zJ (zf L t) i)) (zf L t).length && zF (Un L t P T) T.length)=zZ L t P T):=fun h1 v=>J7 ht h h1 v hm;have aX:Hid (¬(1<=P/\P<=200)->zZ L t P T=false):=fun h=>Ou oM;have S:=Z (fun W ea ec (p:Bw w W) (hE:ZD W (.slice ea (zf L t).length ec) (zf L t)) (m:1<=P) (n:P<=200) (X:∀i,i<L.b.length->0<=ak T i/\ak T i<=1000)=>J4 L.b.length P T tb g tc ea ec (zf L t) W hE aY aQ m n h oM oM (Qu A p.size) (fun i hi=>(ze p _ _ A).t (ab i oM)) X);have aP:=Z (fun W (p:Bw w W) (m:1<=P) (n:P<=200) (X:∀i,i<L.b.length->0<=ak T i/\ak T i<=1000)=>J8 t L (.slice a0 L.l.length c) (.slice a L.o.length f) bb bo d P T tb g tc W aQ bz oM (Qu hbb p.size) (fun i hi j hj=>(ze p _ _ hbb).t (gQ i hi j hj)) oM oM (Qu A p.size) (fun i hi=>(ze p _ _ A).t (ab i oM)) X m n);have aN:Hid (zF (fun i=>br (ak T i) 0 1000) T.length->∀i,i<L.b.length->0<=ak T i/\ak T i<=1000):=fun ha i hi=>zH.1 (zq ha i oM);clear hm ht gQ ab bF aT aU G f2 f5 e0 e2;generalize zZ L t P T=lb at *
 obtain⟨es,aV⟩:=nm (zf L t);rw [aV] at HM s S;obtain⟨bn,aS⟩:∃b,zF (fun i=>br (ak T i) 0 1000) T.length=b:=⟨_,rfl⟩;obtain⟨bp,aL⟩:∃b,br P 1 200=b:=⟨_,rfl⟩;obtain⟨be,q⟩:∃b,zF (fun i=>UM P T (zJ es i)) es.length=b:=⟨_,rfl⟩;obtain⟨bu,z⟩:∃b,zF (Un L t P T) T.length=b:=⟨_,rfl⟩;rw [aS] at s C aN;rw [aL] at C;rw [q] at s S;rw [z] at s;rw [h] at z;rw [z] at aP;have R:=Z aL
 have B:Hid (∀x,Below (w.heap.size+1+1+1) (((w.alloc (lC L a0 (some (E bb bo)) a c d f)).alloc (tO t)).alloc (.cells #[J P,.slice (some (E tb g)) T.length tc] 110)) x->(x.c w.heap.size 0=some (.slice a0 L.l.length c)/\x.c w.heap.size 1=some (.slice (some (E bb bo)) L.b.length d)/\x.c w.heap.size 2=some (.slice a L.o.length f)) /\
  (x.c (w.heap.size+1) 0=Y t.u0/\x.c (w.heap.size+1) 1=Y t.u1/\x.c (w.heap.size+1) 2=Y t.u2/\x.c (w.z+1) 3=Y t.w0/\x.c (w.z+1) 4=Y t.w1/\x.c (w.z+1) 5=Y t.w2/\x.c (w.z+1) 6=Y t.r) /\
  (x.c (w.z+1+1) 0=Y P/\x.c (w.z+1+1) 1=some (.slice (some (E tb g)) T.length tc))):=fun x hx=>by
  obtain⟨k1,k2,k3,-,-⟩:=Z3 hx
  exact⟨k1,k2,k3⟩
 rw [h] at HT C ao D B bC ⊢;clear aS aL q z aV;clear h;go_enter Tryz.func145,Tryz.ntmps145;go_wp2_with fail;refine (HM _ (HL.gE ao)).m ?_;rintro e x1 ⟨ea,en,ec,rfl,aM,hb⟩;have U:Hid (Below (w.z+1+1+1) (((w.alloc (lC L a0 (some (E bb bo)) a c d f)).alloc (tO t)).alloc (.cells #[J P,.slice (some (E tb g)) L.b.length tc] 110)) x1):=by show Below _ _ _;rw [<-D];exact hb
 have aG:Hid (Bw w x1):=ao.tm hb;obtain⟨ea2,ec2,bj,-⟩:=id aM;injection bj with hen1 hen2 hen3;subst hen1;subst hen2;subst hen3;have aW:=Z aM;clear hb aM;obtain⟨⟨l0,l1,l2⟩,⟨H,I,K,M,N,O,Q⟩,⟨k0,k1⟩⟩:=B _ U;go_wp2_with fail;refine (C _ (HT.gE aG)).mr fun x2 y=>?_;have V:Hid (Below (w.z+1+1+1) (((w.alloc (lC L a0 (some (E bb bo)) a c d f)).alloc (tO t)).alloc (.cells #[J P,.slice (some (E tb g)) L.b.length tc] 110)) x2):=U.t (y.m (by have:=U.size;rw [D] at this;exact this));have u:Hid (Bw w x2):=aG.tm y;have aF:=Z (aW.gE y);clear y l0 l1 l2 H I K M N O Q k0 k1;obtain⟨⟨l0,l1,l2⟩,⟨H,I,K,M,N,O,Q⟩,⟨k0,k1⟩⟩:=B _ V;have bf:Hid (bp->1<=P/\P<=200):=fun h=>zH.1 (R.t h);have aZ:Hid (bp=false->lb=false):=fun h=>aX fun v=>by rw [yh v,h] at R;exact absurd R.o sM
 cases bp with
 | false =>have k:=Z (aZ rfl);rw [Ew];go_wp2;go_ret;exact⟨zi k.s,u⟩
 | true =>
  obtain⟨m,n⟩:=bf rfl;have ae:=Z (s m n);cases bn with
  | false =>have k:Hid (lb=false):=(by show _=_;rw [<-ae];rfl);rw [WI];go_wp2_with fail;go_ret;exact⟨zi k.s,u⟩
  | true =>
   have aO:=Z (aN rfl);rw [Wb];go_wp2_with fail;refine (S _ _ _ u aF m n aO).mr fun x3 aK=>?_;have bh:Hid (Below (w.z+1+1+1) (((w.alloc (lC L a0 (some (E bb bo)) a c d f)).alloc (tO t)).alloc (.cells #[J P,.slice (some (E tb g)) L.b.length tc] 110)) x3):=V.t (aK.m (by have:=V.size;rw [D] at this;exact this));have F:Hid (Bw w x3):=u.t (aK.m u.size);clear aK l0 l1 l2 H I K M N O Q k0 k1;obtain⟨⟨l0,l1,l2⟩,⟨H,I,K,M,N,O,Q⟩,⟨k0,k1⟩⟩:=B _ bh;cases be with
   | false =>have k:Hid (lb=false):=(by show _=_;rw [<-ae];rfl);go_wp2_with fail;go_ret;exact⟨zi k.s,F⟩
   | true =>have k:Hid (lb=bu):=(by show _=_;rw [<-ae];rfl);go_wp2_with fail;refine (aP _ F m n aO).mr fun x4 aR=>?_;have bg:Hid (Bw w x4):=F.t (aR.m F.size);clear aR;go_wp2_with fail;go_ret;exact⟨zi k.s,bg⟩
end Go.Proofs.YtjlfcbccpcigeacGreatDoor
