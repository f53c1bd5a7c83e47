import Derived.Test.YtjlfcbccpcigeacGreatDoorF
import Derived.Test.YtjlfcbccpcigeacGreatDoorShelf
import Derived.Lib.AppendIntMem
set_option maxHeartbeats 40000000
set_option linter.defProp false
namespace Go.Proofs.YtjlfcbccpcigeacGreatDoor
open Go.Proofs.Tryz Go.RowKit Go.Joins
set_option linter.unusedVariables false
set_option linter.unusedSimpArgs false
set_option maxRecDepth 8192
section
variable {B:Nat} {w w':World} {p:List Int}
structure VarsP (w:World):Prop where
 size:9<=w.heap.size
 tab:Lib.TabIs prog w "internal/strconv.uint64pow10" .u64 Lib.pow10Tab
 ops:∀i:Nat,i<8->w.cell? (E 1 i)=some (.string (strOfNums (opD (11+(i:Int)))))
structure xq (w:World):Prop extends VarsP w where
 most:∃m,w.cell? (E 0 0)=Y m
 syn:∃tp p,w.var? prog "strconv.ErrSyntax"=some #[.iface tp p]
 rng:∃tp p,w.var? prog "strconv.ErrRange"=some #[.iface tp p]
theorem zj6 (hb:Below B w w') {b o:Nat} (h:b<B):w'.cell? (E b o)=w.cell? (E b o):=by simp only [World.cell?,hb.block b h]
def VarsP.gE (h:VarsP w) (hb:Below B w w') (hB:9<=B):VarsP w':=by
 obtain⟨h0,a,b⟩:=h;refine⟨QH h0 hb.size,?_,fun i hi=>?_⟩
 ·exact var?_below hb (g:=2) (by kernel_rfl) (by omega) a
 grind [zj6]
def VarsP.on (h:VarsP w) (hb:Bw w w'):VarsP w':=h.gE hb h.size
def xq.gE (h:xq w) (hb:Below B w w') (hB:9<=B):xq w':=by
 obtain⟨c,⟨m,h1⟩,⟨i,d,a⟩,⟨j,f,b⟩⟩:=h;refine⟨c.gE hb hB,⟨m,?_⟩,⟨i,d,?_⟩,⟨j,f,?_⟩⟩
 ·grind [zj6]
 ·exact var?_below hb (g:=5) (by kernel_rfl) (by omega) a
 exact var?_below hb (g:=6) (by kernel_rfl) (by omega) b
def xq.on (h:xq w) (hb:Bw w w'):xq w':=h.gE hb h.size
theorem zu2 (n:Int):(⟨(Lib.itoa n).toArray⟩:ByteArray)=strOfNums (zo n):=by rw [yg4];rfl
def ybk (n:Int) (w:World) (b:VarsP w) (h0:-9223372036854775808<=n) (h1:n<=9223372036854775807) :
  Calls prog 122 #[J n] w (Rt w (.string (strOfNums (zo n)))) :=
 (Tryz.strconv_Itoa n h0 h1 w b.tab).mono fun e w' ⟨a,k,os,c⟩=>⟨by rw [a,zu2],by rw [c];exact Lib.below_grow _ _ (Qc _) k os⟩
def zbf (n:Int) (w:World) (b:VarsP w) (h0:-9223372036854775808<=n) (h1:n<=9223372036854775807) :
  Calls prog 117 #[J n,J 10] w (Rt w (.string (strOfNums (zo n)))) :=
 (Tryz.strconv_FormatInt_10 n h0 h1 w b.tab).mono fun e w' ⟨a,k,os,c⟩=>⟨by rw [a,zu2],by rw [c];exact Lib.below_grow _ _ (Qc _) k os⟩
def zy2 (s:List Int) (v:Int) (w:World) (c:s.length<=2000000) (h:Lib.parseIntB 64 (b8 s)=.ok v) :
  Calls prog 228 #[.string (strOfNums s),J 10,J 64] w (Rt w (.tuple #[J v,.nilIface])) :=
 (Tryz.strconv_ParseInt_10_at64_ok (strOfNums s) (by rw [strOfNums_size];omega) v (by rw [yP];exact h) w).mono fun e w' ⟨a,b⟩=>⟨a,by
  rcases b with rfl | ⟨t,rfl⟩
  ·exact QA _ _
  ·exact Lib.bytesWorld_below _ _ _⟩
def yd6 (s:List Int) (w:World) (c:xq w) (l:s.length<=2000000) (h:∀v,Lib.parseIntB 64 (b8 s)≠.ok v) :
  Calls prog 228 #[.string (strOfNums s),J 10,J 64] w fun e w'=>∃v N,e=.returned (.tuple #[J v,.iface 311 (.pointer (pA N))])/\-9223372036854775808<=v/\v<=9223372036854775807/\Bw w w':=by
 obtain⟨j,g,d⟩:=c.syn;obtain⟨k,i,f⟩:=c.rng;cases b:Lib.parseIntB 64 (b8 s) with
 | ok v=>exact absurd b (h v)
 | «syntax»=>exact (Tryz.strconv_ParseInt_10_at64_syntax_var (strOfNums s) (by rw [strOfNums_size];omega) (by rw [yP];exact b) j g w d).mono fun e w' ⟨N,a,_,_,hb⟩=>⟨0,N,a,by omega,by omega,hb⟩
 | range=>exact (Tryz.strconv_ParseInt_10_at64_range_var (strOfNums s) (by rw [strOfNums_size];omega) (by rw [yP];exact b) k i w f).mono fun e w' ⟨N,a,_,_,hb⟩=>⟨_,N,a,by unfold Lib.intSat;split <;> omega,by unfold Lib.intSat;split <;> omega,hb⟩
theorem xK (n k:Nat) (w:World):Below n w (w.drewN k):=⟨rfl,rfl,rfl,Qc _,fun _ _=>rfl⟩
def zg9 (s:List Int) (x:Int) (b:ByteArray) (c:b=strOfNums [x]) (w:World) (f:xq w) (hs:By s) (g:0<=x/\x<=255) (i:s.length<=2000000) (h:zx x s=[p]) :
  Calls prog 12 #[.string (strOfNums s),.string b] w (Rt w (.tuple #[.string (strOfNums s),.string (strOfNums []),.bool false])):=by subst c;obtain⟨m,hm⟩:=f.most;have a:=Tryz.strings_Cut (strOfNums s) (strOfNums [x]) m w (by rw [strOfNums_size];omega) hm;rw [yP,yP,yaq g hs h] at a;exact a.mono fun e w' ⟨d,n,j⟩=>⟨d,by grind [xK]⟩
def zga (s:List Int) (x:Int) (b:ByteArray) (c:b=strOfNums [x]) (w:World) (f:xq w) (hs:By s) (g:0<=x/\x<=255) (i:s.length<=2000000) {q:List Int} {qs:List (List Int)} (h:zx x s=p :: q :: qs) :
  Calls prog 12 #[.string (strOfNums s),.string b] w (Rt w (.tuple #[.string (strOfNums p),.string (strOfNums (s.drop (p.length+1))),.bool true])):=by subst c;obtain⟨m,hm⟩:=f.most;have a:=Tryz.strings_Cut (strOfNums s) (strOfNums [x]) m w (by rw [strOfNums_size];omega) hm;rw [yP,yP,yar g hs h] at a;exact a.mono fun e w' ⟨d,n,j⟩=>⟨d,by grind [xK]⟩
def zsp (s:List Int) (b:ByteArray) (g:b=strOfNums [35]) (w:World) (hs:By s) :
  Calls prog 29 #[.string (strOfNums s),.string b] w fun e w'=>e=.returned (.tuple #[.string (strOfNums (if s.head?=some 35 then s.tail else s)),.bool (decide (s.head?=some 35))])/\w'=w:=by
 subst g;have a:=Tryz.strings_CutPrefix (strOfNums s) (strOfNums [35]) w;rw [yP,yP] at a;have f:Lib.hasPrefix (b8 s) (b8 [35])=decide (s.head?=some 35):=by
  cases s with
  | nil=>rfl
  | cons c l =>
   show List.isPrefixOf [UInt8.ofNat 35] (UInt8.ofNat c.toNat :: b8 l)=_;by_cases h:c=35
   ·subst h;rfl
   rw [Qk (show ¬(c :: l).head?=some 35 from fun e=>h (by simpa using e))];have:UInt8.ofNat 35≠UInt8.ofNat c.toNat:=fun e=>h (zc1 (d:=c) (c:=35) (by omega) (hs c (QY ..)) e).symm;grind
 have i:(⟨(Lib.trimPrefix (b8 s) (b8 [35])).toArray⟩:ByteArray)=strOfNums (if s.head?=some 35 then s.tail else s):=by
  unfold Lib.trimPrefix;rw [f];by_cases h:s.head?=some 35
  ·rw [Qi h,Qf rfl,Qf h,show (b8 [35]).length=1 from rfl,<-zfb,List.drop_one];rfl
  rw [Qk h,Qe WM,Qe h];rfl
 rw [f,i] at a;exact a
end
def zcs (s:List Int) (w:World) (f:xq w) (hs:By s) (d:s.length<=2000000) :
  Calls prog 180 #[.string (strOfNums s)] w (VZ s 19 w):=by
 by_cases a:∃v,Lib.parseIntB 64 (b8 s)=.ok v
 ·obtain⟨v,a⟩:=a;have hr:=Lib.parseIntB_bounds a;have h0:-9223372036854775808<=v:=by omega
  have h1:v<=9223372036854775807:=by omega
  have j:=Z (fun W=>zy2 s v W d a);have q:=Z (fun W h=>zbf v W h h0 h1);have k:=Z f;have c:=Z (zkb a h0 h1);have t:((strOfNums (zo v)).toList == (strOfNums s).toList)=decide (zo v=s):=zfo (zeh v) hs;obtain⟨u,l⟩:=nm (decide (zo v=s));rw [l] at t;have r:=Z l;have g:=Z h0;have i:=Z h1;clear f a hr l h0 h1 hs d;go_enter func180,ntmps180;go_wp2_with fail;refine (j.out _).mono ?_;rintro e y ⟨rfl,hb⟩;have b:=Z hb;clear hb;go_wp2_with fail;refine (q.out _ (k.out.on b.out).toVarsP).mono ?_;rintro e z ⟨rfl,hb⟩;have p:=Z (b.out.tm hb);clear hb;go_wp2_with fail;go_ret2;exact ycl c.out r.out g.out i.out p.out
 have j:=Z (fun W h=>yd6 s W h d (fun v e=>a ⟨v,e⟩));have c:=Z (zcr (s:=s) fun v e=>a ⟨v,e⟩);have k:=Z f;clear f a hs d;go_enter func180,ntmps180;go_wp2_with fail;refine (j.out _ k.out).mono ?_;rintro e y ⟨v,N,rfl,n,o,hb⟩;have b:=Z hb;have g:=Z n;have i:=Z o;clear hb n o;go_wp2;go_ret2;exact⟨v,false,rfl,by rw [c.out];rfl,fun m hm=>(by rw [c.out] at hm;cases hm),g.out,i.out,b.out⟩
def zt0 {s:List Int} {n:Int} {b:Bool} {w y:World} (h1:b=(zT s 19).isSome) (g:∀m,zT s 19=some m->n=m) (a:-9223372036854775808<=n) (d:n<=9223372036854775807) (f:Bw w y) {c:Bool} (h:c=(b && decide (-1000000000000000000<n/\n<1000000000000000000))):VZ s 18 w (.returned (.tuple #[J n,.bool c])) y:=by
 refine⟨n,c,rfl,?_,fun m hm=>?_,a,d,f⟩
 ·grind [zkc]
 grind [zT]
def ZI (s:List Int) (w:World) (m:xq w) (hs:By s) (l:s.length<=2000000) :
  Calls prog 179 #[.string (strOfNums s)] w (VZ s 18 w):=by
 have o:=Z (fun W h=>zcs s W h hs l);have p:=Z m;clear m hs l;go_enter func179,ntmps179;go_wp2_with fail;refine (o.out _ p.out).mono ?_;rintro e y ⟨n,b,rfl,h1,g,i,j,hb⟩;have a:Hid (∀c:Bool,c=(b && decide (-1000000000000000000<n/\n<1000000000000000000))->VZ s 18 w (.returned (.tuple #[J n,.bool c])) y):=fun c d=>zt0 h1 g i j hb d;clear h1 g i j hb;cases b with
 | false =>go_wp2;go_ret2;exact a.out _ rfl
 | true =>
  by_cases k:-1000000000000000000<n
  ·by_cases d:n<1000000000000000000
   ·go_wp2;go_ret2;exact a.out _ (by simp [k,d])
   have f:decide (n<1000000000000000000)=false:=Qk d;go_wp2;go_ret2;exact a.out _ (by simp [f])
  have f:decide (-1000000000000000000<n)=false:=Qk k;go_wp2;go_ret2;exact a.out _ (by simp [f])
section
variable {s:List Int}
def opF (s:List Int):Option Int:=([11,12,13,14,15,16,17,18]:List Int).find? fun o=>decide (opD o=s)
def ycq:∀k:Nat,k<8->(∀j:Nat,j<k->¬opD (11+(j:Int))=s)->opD (11+(k:Int))=s->opF s=some (11+(k:Int)):=by
 intro k b h a;unfold opF;match k,b with
 | 0,_=>simp [List.find?,show opD 11=s from a]
 | 1,_=>simp [List.find?,show ¬opD 11=s from h 0 (by omega),show opD 12=s from a]
 | 2,_=>simp [List.find?,show ¬opD 11=s from h 0 (by omega),show ¬opD 12=s from h 1 (by omega),show opD 13=s from a]
 | 3,_=>simp [List.find?,show ¬opD 11=s from h 0 (by omega),show ¬opD 12=s from h 1 (by omega),show ¬opD 13=s from h 2 (by omega),show opD 14=s from a]
 | 4,_=>simp [List.find?,show ¬opD 11=s from h 0 (by omega),show ¬opD 12=s from h 1 (by omega),show ¬opD 13=s from h 2 (by omega),show ¬opD 14=s from h 3 (by omega),show opD 15=s from a]
 | 5,_=>simp [List.find?,show ¬opD 11=s from h 0 (by omega),show ¬opD 12=s from h 1 (by omega),show ¬opD 13=s from h 2 (by omega),show ¬opD 14=s from h 3 (by omega),show ¬opD 15=s from h 4 (by omega),show opD 16=s from a]
 | 6,_=>simp [List.find?,show ¬opD 11=s from h 0 (by omega),show ¬opD 12=s from h 1 (by omega),show ¬opD 13=s from h 2 (by omega),show ¬opD 14=s from h 3 (by omega),show ¬opD 15=s from h 4 (by omega),show ¬opD 16=s from h 5 (by omega),show opD 17=s from a]
 | 7,_=>simp [List.find?,show ¬opD 11=s from h 0 (by omega),show ¬opD 12=s from h 1 (by omega),show ¬opD 13=s from h 2 (by omega),show ¬opD 14=s from h 3 (by omega),show ¬opD 15=s from h 4 (by omega),show ¬opD 16=s from h 5 (by omega),show ¬opD 17=s from h 6 (by omega),show opD 18=s from a]
theorem ycr (h:∀j:Nat,j<8->¬opD (11+(j:Int))=s):opF s=none:=by unfold opF;simp [List.find?,show ¬opD 11=s from h 0 (by omega),show ¬opD 12=s from h 1 (by omega),show ¬opD 13=s from h 2 (by omega),show ¬opD 14=s from h 3 (by omega),show ¬opD 15=s from h 4 (by omega),show ¬opD 16=s from h 5 (by omega),show ¬opD 17=s from h 6 (by omega),show ¬opD 18=s from h 7 (by omega)]
def zll (s:List Int) (w:World) (e:Ending) (w':World):Prop:=∃o b,e=.returned (.tuple #[J o,.bool b])/\b=(opF s).isSome/\(∀m,opF s=some m->o=m)/\w'=w
abbrev zmd:Array Value:=#[.string (strOfNums (opD 11)),.string (strOfNums (opD 12)),.string (strOfNums (opD 13)),.string (strOfNums (opD 14)),.string (strOfNums (opD 15)),.string (strOfNums (opD 16)),.string (strOfNums (opD 17)),.string (strOfNums (opD 18))]
def yjg (W:World):∀k:Nat,k<8->(Instr.index 314 (.agg zmd) (.int .i64 (k:Int))).run prog W=.ok (.string (strOfNums (opD (11+(k:Int))))) W:=by
 intro k hk;match k,hk with
 | 0,_=>exact (by kernel_rfl:(Instr.index 314 (.agg zmd) (.int .i64 0)).run prog W=.ok (.string (strOfNums (opD 11))) W)
 | 1,_=>exact (by kernel_rfl:(Instr.index 314 (.agg zmd) (.int .i64 1)).run prog W=.ok (.string (strOfNums (opD 12))) W)
 | 2,_=>exact (by kernel_rfl:(Instr.index 314 (.agg zmd) (.int .i64 2)).run prog W=.ok (.string (strOfNums (opD 13))) W)
 | 3,_=>exact (by kernel_rfl:(Instr.index 314 (.agg zmd) (.int .i64 3)).run prog W=.ok (.string (strOfNums (opD 14))) W)
 | 4,_=>exact (by kernel_rfl:(Instr.index 314 (.agg zmd) (.int .i64 4)).run prog W=.ok (.string (strOfNums (opD 15))) W)
 | 5,_=>exact (by kernel_rfl:(Instr.index 314 (.agg zmd) (.int .i64 5)).run prog W=.ok (.string (strOfNums (opD 16))) W)
 | 6,_=>exact (by kernel_rfl:(Instr.index 314 (.agg zmd) (.int .i64 6)).run prog W=.ok (.string (strOfNums (opD 17))) W)
 | 7,_=>exact (by kernel_rfl:(Instr.index 314 (.agg zmd) (.int .i64 7)).run prog W=.ok (.string (strOfNums (opD 18))) W)
def ztm (s:List Int) (w:World) (a:xq w) (hs:By s) :
  Calls prog 183 #[.string (strOfNums s)] w (zll s w):=by
 have v:w.cell? (E 1 0)=some (.string (strOfNums (opD 11))):=a.ops 0 (by omega);have x:w.cell? (E 1 1)=some (.string (strOfNums (opD 12))):=a.ops 1 (by omega);have y:w.cell? (E 1 2)=some (.string (strOfNums (opD 13))):=a.ops 2 (by omega);have z:w.cell? (E 1 3)=some (.string (strOfNums (opD 14))):=a.ops 3 (by omega);have A:w.cell? (E 1 4)=some (.string (strOfNums (opD 15))):=a.ops 4 (by omega);have B:w.cell? (E 1 5)=some (.string (strOfNums (opD 16))):=a.ops 5 (by omega);have C:w.cell? (E 1 6)=some (.string (strOfNums (opD 17))):=a.ops 6 (by omega);have D:w.cell? (E 1 7)=some (.string (strOfNums (opD 18))):=a.ops 7 (by omega);have p:Hid (∀(W:World) (k:Nat),k<8->(Instr.index 314 (.agg #[.string (strOfNums (opD 11)),.string (strOfNums (opD 12)),.string (strOfNums (opD 13)),.string (strOfNums (opD 14)),.string (strOfNums (opD 15)),.string (strOfNums (opD 16)),.string (strOfNums (opD 17)),.string (strOfNums (opD 18))]) (J (k:Int))).run prog W=.ok (.string (strOfNums (opD (11+(k:Int))))) W):=fun W k c=>yjg W k c;have o:Hid (∀k:Nat,((strOfNums (opD (11+(k:Int)))).toList == (strOfNums s).toList)=decide (opD (11+(k:Int))=s)):=fun k=>zfo (ygt _) hs;have t:Hid (∀k:Nat,k<8->(∀j:Nat,j<k->¬opD (11+(j:Int))=s)->opD (11+(k:Int))=s->zll s w (.returned (.tuple #[J (11+(k:Int)),.bool true])) w):=fun k c h b=>⟨_,true,rfl,by rw [ycq k c h b];rfl,fun m hm=>by rw [ycq k c h b] at hm;exact QD hm,rfl⟩;have r:Hid ((∀j:Nat,j<8->¬opD (11+(j:Int))=s)->zll s w (.returned (.tuple #[J 0,.bool false])) w):=fun h=>⟨0,false,rfl,by rw [ycr h];rfl,fun m hm=>(by grind [ycr]),rfl⟩;clear a hs;go_enter func183,ntmps183;go_wp2;clear v x y z A B C D;go_loopw [7] (fun i wr=>wr=w/\∃k:Nat,i=J (k:Int)/\k<=8/\Hid (∀j:Nat,j<k->¬opD (11+(j:Int))=s)) (fun i _=>8 - (intOf i).toNat)
 case atStart=>exact⟨rfl,0,rfl,by omega,fun j n=>absurd n (Qv j)⟩
 obtain⟨rfl,k,rfl,c,d⟩:=hrel;by_cases l:k<8
 ·have F:=fun W=>p W k l;have g:=o k;have G:(k:Int)<8:=by omega
  by_cases b:opD (11+(k:Int))=s
  ·have f:=Z (t k l d b);rw [Qi b] at g;generalize strOfNums (opD (11+(k:Int)))=O at *
   clear b;go_wp2;go_ret2;exact f
  have q:Hid (∀j:Nat,j<k+1->¬opD (11+(j:Int))=s):=fun j n=>by
   rcases Nat.lt_or_ge j k with h | h
   ·exact d j h
   grind
  rw [Qk b] at g;generalize strOfNums (opD (11+(k:Int)))=O at *
  clear b;go_wp2;go_roundw
  case rel=>exact⟨by simp,k+1,by simp,by omega,q⟩
  simp [intOf];omega
 have u:k=8:=by omega
 subst u;have f:=Z (r d);go_wp2;go_ret2;exact f
end
def ydu {B:Nat} {e:TypeId} {k:Nat} {v:Value} {n:Nat} {b:List Value} {w w':World} (hb:Bw w w') (h:w.ownsRowF B e k v n b):w'.ownsRowF B e k v n b:=by
 obtain⟨d,h0 | ⟨g,cap,a,x,f,hB,c,r⟩⟩:=h
 ·exact⟨d,.inl h0⟩
 exact⟨d,.inr ⟨g,cap,a,x,f,hB,by rw [hb.block g (lo c)];exact c,r⟩⟩
section
variable {s p:List Int} {n0:Int} {b0 ok:Bool}
def ZC (s:List Int):List Int:=if s.head?=some 35 then s.tail else s
def ych (h:By s):By (ZC s):=by
 unfold ZC;split
 ·exact fun c a=>h c (List.mem_of_mem_tail a)
 exact h
def zxh (s:List Int):(ZC s).length<=s.length:=by
 grind [ZC]
def yh8 (h:zx 126 (ZC s)=[p]) (hb:b0=(zT (ZC s) 18).isSome) (hn:∀m,zT (ZC s) 18=some m->n0=m) (b:ok=(decide (s.head?=some 35) && b0)):ok=(Zw s).isSome/\∀r,Zw s=some r->n0=r.1/\0=r.2:=by
 by_cases a:s.head?=some 35
 ·have c:p=ZC s:=by have:=ZH 126 (ZC s);rw [h] at this;exact this
  have hr:Zw s=(zT (ZC s) 18).map fun n=>(n,0):=by grind [Zw,ZC]
  simp_all
 grind [zp8]
def yh9 {q:List Int} {qs:List (List Int)} (h:zx 126 (ZC s)=p :: q :: qs) (hs:By (ZC s)) {n1:Int} {b1:Bool} (l:b0=(zT p 18).isSome) (o:∀m,zT p 18=some m->n0=m) (d:b1=(zT ((ZC s).drop (p.length+1)) 18).isSome) (j:∀m,zT ((ZC s).drop (p.length+1)) 18=some m->n1=m) (k:ok=(decide (s.head?=some 35) && b0 && b1 && decide (0<n1))):ok=(Zw s).isSome/\∀r,Zw s=some r->n0=r.1/\n1=r.2:=by
 by_cases b:s.head?=some 35
 ·have v:zx 126 s.tail=p :: q :: qs:=by grind [ZC]
  obtain⟨-,-,f⟩:=YE (x:=126) (by omega) hs h;have g:=ZH 126 ((ZC s).drop (p.length+1));rw [f] at g;refine ydn (np:=(p :: q :: qs).length) (o0:=zT p 18) (o1:=zT ((ZC s).drop (p.length+1)) 18) ?_ ?_ (by simp) l o d j (b0:=b0) (b1:=b1) ?_
  ·intro a;have u:qs=[]:=Wi.1 (by simpa using a);subst u;rw [show (ZC s).drop (p.length+1)=q from g.symm];grind [Zw]
  ·grind [Zw]
  rw [k,Qi b,Wb];by_cases a:(p :: q :: qs).length=2
  ·rw [Qi a,qE]
  have c:zT ((ZC s).drop (p.length+1)) 18=none:=by
   cases c:zT ((ZC s).drop (p.length+1)) 18 with
   | none=>rfl
   | some n =>have t:=(zbk c).1;have i:=zt3 (x:=126) _ (znk (n:=n) (x:=126) (by omega) (by omega));rw [<-t,f] at i;exfalso;apply a;have:=congrArg List.length i;simp at this ⊢;exact this
  rw [d,c];simp
 grind [zp8]
def zdy (s:List Int) (w:World) (hv:xq w) (hs:By s) (hl:s.length<=2000000) :
  Calls prog 182 #[.string (strOfNums s)] w (zbx s w):=by
 have M:Hid (Bw w (w.alloc (.cells #[J 0,J 0] 142))):=Qd _ _;have aN:Hid ((w.alloc (.cells #[J 0,J 0] 142)).heap.size=w.heap.size+1):=by show _=_;simp
 have k:Hid (∀y,Below (w.heap.size+1) (w.alloc (.cells #[J 0,J 0] 142)) y->y.heap[w.heap.size]?=some (.cells #[J 0,J 0] 142 (0,0))/\w.heap.size+1<=y.heap.size/\Bw w y):=fun y T=>⟨(T.block _ (by omega)).trans (zm _ _ _),by have:=T.size;rw [aN.out] at this;exact this,M.out.trans (T.mono (by omega))⟩;have t:=Z hv;have K:=Z (fun W=>zsp s (ByteArray.mk #[35]) rfl W hs);have i:=Z (ych hs);have P:(ZC s).length<=2000000:=QH (zxh s) hl;obtain⟨nm,l⟩:∃nm,ZC s=nm:=⟨_,rfl⟩;have aC:(if s.head?=some 35 then s.tail else s)=nm:=l;rw [aC] at K;obtain⟨r,O⟩:∃r,decide (s.head?=some 35)=r:=⟨_,rfl⟩;rw [O] at K;have aR:=Z O;have aS:=Z l;rw [l] at i P;have B:=Z P;clear hv hs hl l aC O P;go_enter func182,ntmps182;go_wp2_with fail;refine (K.out _).mono ?_;rintro e y0 ⟨rfl,rfl⟩;go_wp2_with fail;cases a:zx 126 nm with
 | nil=>exact absurd a (xQ 126 nm)
 | cons p ps =>
  cases ps with
  | nil =>
   have L:=Z a;refine (zg9 nm 126 (ByteArray.mk #[126]) rfl _ (t.out.on M.out) i.out (by omega) B.out a).mono ?_;rintro e y1 ⟨rfl,D⟩;have n:Hid (Below (w.heap.size+1) (w.alloc (.cells #[J 0,J 0] 142)) y1):=(by simp_all);clear D a;go_wp2_with fail;refine (ZI nm _ (t.out.on (k.out _ n.out).2.2) i.out B.out).mono ?_;rintro e b ⟨n0,b0,rfl,z,A,V,aX,m⟩;have F:=Z z;have I:=Z A;have N:Hid (Below (w.heap.size+1) (w.alloc (.cells #[J 0,J 0] 142)) b):=n.out.trans (m.mono (k.out _ n.out).2.1);obtain⟨b2,aQ,u⟩:=k.out _ N.out;have G:=Z u;have k0:b.cell? (E w.heap.size 0)=Y 0:=(by rw [Qa b2];rfl);have k1:b.cell? (E w.heap.size 1)=Y 0:=(by rw [Qa b2];rfl);have f0:b.frozen? (E w.heap.size 0)=false:=(by simp [World.frozen?,b2]);have f1:b.frozen? (E w.heap.size 1)=false:=(by simp [World.frozen?,b2]);have C:=Z (zv8 (a':=J n0) (b':=J 0) b2);have g:Hid (((b.setCell (E w.heap.size 0) (J n0)).setCell (E w.heap.size 1) (J 0)).cell? (E w.heap.size 0)=Y n0):=(by show _=_;rw [Qa C.out];rfl);have h:Hid (((b.setCell (E w.heap.size 0) (J n0)).setCell (E w.heap.size 1) (J 0)).cell? (E w.heap.size 1)=Y 0):=(by show _=_;rw [Qa C.out];rfl);have j:Hid (∀ok,ok=(r && b0)->zbx s w (.returned (.tuple #[.agg #[J n0,J 0],.bool ok])) ((b.setCell (E w.heap.size 0) (J n0)).setCell (E w.heap.size 1) (J 0))):=fun ok Q=>by have l:=aS.out;subst l;obtain⟨X,q2⟩:=yh8 L.out F.out I.out (ok:=ok) (by rw [aR.out];exact Q);exact⟨n0,0,ok,rfl,X,q2,(G.out.setCell (Qc _) _).setCell (Qc _) _⟩
   clear z A m b2 u;cases r with
   | false =>have c:=Z (j.out false rfl);go_wp2_with fail;have d:=g.out;have f:=h.out;exact bodyPost_ret (v:=.tuple #[.agg #[J n0,J 0],.bool false]) (by simp [results,results182,go_sem,d,f]) rfl c.out
   | true =>have c:=Z (j.out b0 rfl);go_wp2_with fail;have d:=g.out;have f:=h.out;exact bodyPost_ret (v:=.tuple #[.agg #[J n0,J 0],.bool b0]) (by simp [results,results182,go_sem,d,f]) rfl c.out
  | cons q qs =>
   have L:=Z a;have aT:Hid (By p/\p.length<=2000000):=(by obtain⟨-,h2,-⟩:=YE (x:=126) (by omega) i.out a;rw [<-h2];exact⟨zfd i.out _,by have:=B.out;simp;omega⟩);have H:Hid (By (nm.drop (p.length+1))/\(nm.drop (p.length+1)).length<=2000000):=⟨zfc i.out _,by have:=B.out;simp;omega⟩;refine (zga nm 126 (ByteArray.mk #[126]) rfl _ (t.out.on M.out) i.out (by omega) B.out a).mono ?_;rintro e y1 ⟨rfl,D⟩;have n:Hid (Below (w.heap.size+1) (w.alloc (.cells #[J 0,J 0] 142)) y1):=(by simp_all);clear D a;obtain⟨S,o⟩:∃S,nm.drop (p.length+1)=S:=⟨_,rfl⟩;rw [o] at H;have aV:=Z o;rw [o];clear o;go_wp2_with fail;refine (ZI p _ (t.out.on (k.out _ n.out).2.2) aT.out.1 aT.out.2).mono ?_;rintro e y15 ⟨n0,b0,rfl,z,A,V,aX,m⟩;have F:=Z z;have I:=Z A;have R:Hid (Below (w.heap.size+1) (w.alloc (.cells #[J 0,J 0] 142)) y15):=n.out.trans (m.mono (k.out _ n.out).2.1);clear z A m;go_wp2_with fail;refine (ZI S _ (t.out.on (k.out _ R.out).2.2) H.out.1 H.out.2).mono ?_;rintro e b ⟨n1,b1,rfl,aA,aE,lo1,aY,m⟩;have aU:=Z aA;have aW:=Z aE;have N:Hid (Below (w.heap.size+1) (w.alloc (.cells #[J 0,J 0] 142)) b):=R.out.trans (m.mono (k.out _ R.out).2.1);obtain⟨b2,aQ,u⟩:=k.out _ N.out;have G:=Z u;have k0:b.cell? (E w.heap.size 0)=Y 0:=(by rw [Qa b2];rfl);have k1:b.cell? (E w.heap.size 1)=Y 0:=(by rw [Qa b2];rfl);have f0:b.frozen? (E w.heap.size 0)=false:=(by simp [World.frozen?,b2]);have f1:b.frozen? (E w.heap.size 1)=false:=(by simp [World.frozen?,b2]);have C:=Z (zv8 (a':=J n0) (b':=J n1) b2);have g:Hid (((b.setCell (E w.heap.size 0) (J n0)).setCell (E w.heap.size 1) (J n1)).cell? (E w.heap.size 0)=Y n0):=(by show _=_;rw [Qa C.out];rfl);have h:Hid (((b.setCell (E w.heap.size 0) (J n0)).setCell (E w.heap.size 1) (J n1)).cell? (E w.heap.size 1)=Y n1):=(by show _=_;rw [Qa C.out];rfl);have j:Hid (∀ok,ok=(r && b0 && b1 && decide (0<n1))->zbx s w (.returned (.tuple #[.agg #[J n0,J n1],.bool ok])) ((b.setCell (E w.heap.size 0) (J n0)).setCell (E w.heap.size 1) (J n1))):=fun ok Q=>by have l:=aS.out;subst l;have o:=aV.out;subst o;obtain⟨X,q2⟩:=yh9 L.out i.out F.out I.out aU.out aW.out (ok:=ok) (by rw [aR.out];exact Q);exact⟨n0,n1,ok,rfl,X,q2,(G.out.setCell (Qc _) _).setCell (Qc _) _⟩
   clear aA aE m b2 u;cases r with
   | false =>have c:=Z (j.out false rfl);go_wp2_with fail;have d:=g.out;have f:=h.out;exact bodyPost_ret (v:=.tuple #[.agg #[J n0,J n1],.bool false]) (by simp [results,results182,go_sem,d,f]) rfl c.out
   | true =>
    cases b0 with
    | false =>have c:=Z (j.out false rfl);go_wp2_with fail;have d:=g.out;have f:=h.out;exact bodyPost_ret (v:=.tuple #[.agg #[J n0,J n1],.bool false]) (by simp [results,results182,go_sem,d,f]) rfl c.out
    | true =>
     cases b1 with
     | false =>have c:=Z (j.out false rfl);go_wp2_with fail;have d:=g.out;have f:=h.out;exact bodyPost_ret (v:=.tuple #[.agg #[J n0,J n1],.bool false]) (by simp [results,results182,go_sem,d,f]) rfl c.out
     | true =>
      by_cases U:0<n1
      ·have c:=Z (j.out true (by rw [Qi U];rfl));go_wp2_with fail;have d:=g.out;have f:=h.out;exact bodyPost_ret (v:=.tuple #[.agg #[J n0,J n1],.bool true]) (by simp [results,results182,go_sem,d,f]) rfl c.out
      have c:=Z (j.out false (by rw [Qk U];rfl));have aZ:decide (0<n1)=false:=Qk U;go_wp2_with fail;have d:=g.out;have f:=h.out;exact bodyPost_ret (v:=.tuple #[.agg #[J n0,J n1],.bool false]) (by simp [results,results182,go_sem,d,f]) rfl c.out
end
def ZP (w:World) (b off n:Nat) (ws:List (List Int)):Prop:=ws.length=n/\b<w.heap.size/\∀i,i<n->w.cell? (E b (off+i))=some (.string (strOfNums (ws.getD i [])))
def ZP.gE {w w':World} {b a n:Nat} {ws:List (List Int)} (h:ZP w b a n ws) (hb:Bw w w'):ZP w' b a n ws :=
 ⟨h.1,Qu h.2.1 hb.size,fun i hi=>(ze hb _ _ h.2.1).trans (h.2.2 i hi)⟩
def Zk (ws:List (List Int)):Prop:=∀i,By (ws.getD i [])/\(ws.getD i []).length<=2000000
def UU (ws:List (List Int)) (b n cap:Nat) (w:World) (d:xq w) (h:ZP w b 0 n ws) (a:Zk ws) (s:n<=cap) (u:cap<=9223372036854775807) :
  Calls prog 123 #[.slice (pA b) n cap] w fun e w'=>∃v ok,e=.returned (.tuple #[J v,.bool ok])/\(n≠2->ok=false)/\(n=2->ok=(zT (ws.getD 1 []) 18).isSome/\∀m,zT (ws.getD 1 []) 18=some m->v=m)/\-9223372036854775808<=v/\v<=9223372036854775807/\Bw w w':=by
 by_cases c:n=2
 ·subst c;have A:=h.2.2 1 (by omega);have t:=h.2.1;have p:=Z (fun W r=>ZI (ws.getD 1 []) W r (a 1).1 (a 1).2);have q:=Z d;generalize ws.getD 1 []=p1 at *
  clear h a d;go_enter func123,ntmps123;go_wp2_with fail;refine (p _ q).mono ?_;rintro e y ⟨k,b0,rfl,f,g,lo,hi,j⟩;have o:Hid (∃v ok,(Ending.returned (.tuple #[J k,.bool b0]))=.returned (.tuple #[J v,.bool ok])/\(2≠2->ok=false)/\(2=2->ok=(zT p1 18).isSome/\∀m,zT p1 18=some m->v=m)/\-9223372036854775808<=v/\v<=9223372036854775807/\Bw w y):=⟨k,b0,rfl,fun h=>absurd rfl h,fun _=>⟨f,g⟩,lo,hi,j⟩;clear f g j;go_wp2;go_ret2;exact o
 have i:¬(n:Int)=2:=by omega
 have x:((n:Int) == 2)=false:=Wf i;have z:(n:Int)≠2:=i;have l:=Z c;clear h a d c;go_enter func123,ntmps123;go_wp2;go_ret2;exact⟨0,false,rfl,fun _=>rfl,fun h=>absurd h l,by omega,by omega,QA _ _⟩
def zfa (o:Int) (a b c:List Int) (w:World) (e:Ending) (w':World):Prop:=∃x y z ok,e=.returned (.tuple #[.agg #[J o,J 0,J 0,J 0,J 0,J x,J y,J z,J 0],.bool ok])/\ok=((zT a 18).isSome && (zT b 18).isSome && (zT c 18).isSome)/\(∀m,zT a 18=some m->x=m)/\(∀m,zT b 18=some m->y=m)/\(∀m,zT c 18=some m->z=m)/\Bw w w'
def zcn (o:Int) (ws:List (List Int)) (b f cap:Nat) (w:World) (hv:xq w) (h:ZP w b f 3 ws) (j:Zk ws) (aM:3<=cap) (aQ:cap<=9223372036854775807) :
  Calls prog 181 #[J o,.slice (some (E b f)) 3 cap] w (zfa o (ws.getD 0 []) (ws.getD 1 []) (ws.getD 2 []) w):=by
 have P:Hid (Bw w (w.alloc (nB 0 0 0 0 0 0 0 0 0))):=Qd _ _;have R:Hid ((w.alloc (nB 0 0 0 0 0 0 0 0 0)).heap.size=w.heap.size+1):=by show _=_;simp
 have i:Hid (∀y,Below (w.heap.size+1) (w.alloc (nB 0 0 0 0 0 0 0 0 0)) y->y.heap[w.heap.size]?=some (nB 0 0 0 0 0 0 0 0 0)/\w.heap.size+1<=y.heap.size/\Bw w y):=fun y d=>⟨(d.block _ (by omega)).trans (zm _ _ _),by have:=d.size;rw [R] at this;exact this,P.trans (d.mono (by omega))⟩;have aP:=h.2.1;have B:Hid (∀y,Bw w y->y.cell? (E b (f+0))=some (.string (strOfNums (ws.getD 0 [])))/\y.cell? (E b (f+1))=some (.string (strOfNums (ws.getD 1 [])))/\y.cell? (E b (f+2))=some (.string (strOfNums (ws.getD 2 [])))):=fun y d=>⟨(h.gE d).2.2 0 (by omega),(h.gE d).2.2 1 (by omega),(h.gE d).2.2 2 (by omega)⟩;have aI:=Z (fun W l=>ZI (ws.getD 0 []) W l (j 0).1 (j 0).2);have aJ:=Z (fun W l=>ZI (ws.getD 1 []) W l (j 1).1 (j 1).2);have aK:=Z (fun W l=>ZI (ws.getD 2 []) W l (j 2).1 (j 2).2);have C:=Z hv;generalize ws.getD 0 []=p0 at *
 generalize ws.getD 1 []=p1 at *
 generalize ws.getD 2 []=p2 at *
 clear h j hv;obtain⟨c0,-,-⟩:=B _ P;rw [WG] at c0;go_enter func181,ntmps181;go_wp2_with fail;refine (aI _ (C.on P)).mono ?_;rintro e y0 ⟨c,b0,rfl,S,X,lo0,aR,d⟩;have aB:=Z S;have aF:=Z X;have z:Hid (Below (w.heap.size+1) (w.alloc (nB 0 0 0 0 0 0 0 0 0)) y0):=by show Below _ _ _;rw [<-R];exact d
 clear S X d c0;obtain⟨-,c1,-⟩:=B _ (i _ z).2.2;go_wp2_with fail;refine (aJ _ (C.on (i _ z).2.2)).mono ?_;rintro e y1 ⟨n1,b1,rfl,T,az,lo1,aS,d⟩;have aC:=Z T;have aG:=Z az;have A:Hid (Below (w.heap.size+1) (w.alloc (nB 0 0 0 0 0 0 0 0 0)) y1):=z.trans (d.mono (i _ z).2.1);clear T az d c1;obtain⟨-,-,c2⟩:=B _ (i _ A).2.2;go_wp2_with fail;refine (aK _ (C.on (i _ A).2.2)).mono ?_;rintro e a ⟨n2,b2,rfl,U,Q,lo2,aT,d⟩;have aD:=Z U;have aH:=Z Q;have aL:Hid (Below (w.heap.size+1) (w.alloc (nB 0 0 0 0 0 0 0 0 0)) a):=A.trans (d.mono (i _ A).2.1);clear U Q d c2;obtain⟨bb,aO,V⟩:=i _ aL;have aE:=Z V;clear V;have k0:a.cell? (E w.heap.size 0)=Y 0:=cb bb
 have f0:a.frozen? (E w.heap.size 0)=false:=by simp [World.frozen?,bb]
 have k1:a.cell? (E w.heap.size 1)=Y 0:=cb bb
 have f1:a.frozen? (E w.heap.size 1)=false:=by simp [World.frozen?,bb]
 have k2:a.cell? (E w.heap.size 2)=Y 0:=cb bb
 have f2:a.frozen? (E w.heap.size 2)=false:=by simp [World.frozen?,bb]
 have k3:a.cell? (E w.heap.size 3)=Y 0:=cb bb
 have f3:a.frozen? (E w.heap.size 3)=false:=by simp [World.frozen?,bb]
 have k4:a.cell? (E w.heap.size 4)=Y 0:=cb bb
 have f4:a.frozen? (E w.heap.size 4)=false:=by simp [World.frozen?,bb]
 have k5:a.cell? (E w.heap.size 5)=Y 0:=cb bb
 have f5:a.frozen? (E w.heap.size 5)=false:=by simp [World.frozen?,bb]
 have k6:a.cell? (E w.heap.size 6)=Y 0:=cb bb
 have f6:a.frozen? (E w.heap.size 6)=false:=by simp [World.frozen?,bb]
 have k7:a.cell? (E w.heap.size 7)=Y 0:=cb bb
 have f7:a.frozen? (E w.heap.size 7)=false:=by simp [World.frozen?,bb]
 have k8:a.cell? (E w.heap.size 8)=Y 0:=cb bb
 have f8:a.frozen? (E w.heap.size 8)=false:=by simp [World.frozen?,bb]
 have g:=Z (XF (b0:=J o) (b1:=J 0) (b2:=J 0) (b3:=J 0) (b4:=J 0) (b5:=J c) (b6:=J n1) (b7:=J n2) (b8:=J 0) bb);have O:Hid (∀ok,ok=(b0 && b1 && b2)->zfa o p0 p1 p2 w (.returned (.tuple #[.agg #[J o,J 0,J 0,J 0,J 0,J c,J n1,J n2,J 0],.bool ok])) (((((((((a.setCell (E w.heap.size 0) (J o)).setCell (E w.heap.size 1) (J 0)).setCell (E w.heap.size 2) (J 0)).setCell (E w.heap.size 3) (J 0)).setCell (E w.heap.size 4) (J 0)).setCell (E w.heap.size 5) (J c)).setCell (E w.heap.size 6) (J n1)).setCell (E w.heap.size 7) (J n2)).setCell (E w.heap.size 8) (J 0))):=fun ok aN=>⟨c,n1,n2,ok,rfl,by rw [aN,aB,aC,aD],aF,aG.out,aH.out,(((((((((aE.out.setCell (Qc _) _).setCell (Qc _) _).setCell (Qc _) _).setCell (Qc _) _).setCell (Qc _) _).setCell (Qc _) _).setCell (Qc _) _).setCell (Qc _) _).setCell (Qc _) _)⟩;have D:Hid ((((((((((a.setCell (E w.heap.size 0) (J o)).setCell (E w.heap.size 1) (J 0)).setCell (E w.heap.size 2) (J 0)).setCell (E w.heap.size 3) (J 0)).setCell (E w.heap.size 4) (J 0)).setCell (E w.heap.size 5) (J c)).setCell (E w.heap.size 6) (J n1)).setCell (E w.heap.size 7) (J n2)).setCell (E w.heap.size 8) (J 0)).cell? (E w.heap.size 0)=Y o):=by show _=_;rw [Qa g.out];rfl
 have F:Hid ((((((((((a.setCell (E w.heap.size 0) (J o)).setCell (E w.heap.size 1) (J 0)).setCell (E w.heap.size 2) (J 0)).setCell (E w.heap.size 3) (J 0)).setCell (E w.heap.size 4) (J 0)).setCell (E w.heap.size 5) (J c)).setCell (E w.heap.size 6) (J n1)).setCell (E w.heap.size 7) (J n2)).setCell (E w.heap.size 8) (J 0)).cell? (E w.heap.size 1)=Y 0):=by show _=_;rw [Qa g.out];rfl
 have G:Hid ((((((((((a.setCell (E w.heap.size 0) (J o)).setCell (E w.heap.size 1) (J 0)).setCell (E w.heap.size 2) (J 0)).setCell (E w.heap.size 3) (J 0)).setCell (E w.heap.size 4) (J 0)).setCell (E w.heap.size 5) (J c)).setCell (E w.heap.size 6) (J n1)).setCell (E w.heap.size 7) (J n2)).setCell (E w.heap.size 8) (J 0)).cell? (E w.heap.size 2)=Y 0):=by show _=_;rw [Qa g.out];rfl
 have H:Hid ((((((((((a.setCell (E w.heap.size 0) (J o)).setCell (E w.heap.size 1) (J 0)).setCell (E w.heap.size 2) (J 0)).setCell (E w.heap.size 3) (J 0)).setCell (E w.heap.size 4) (J 0)).setCell (E w.heap.size 5) (J c)).setCell (E w.heap.size 6) (J n1)).setCell (E w.heap.size 7) (J n2)).setCell (E w.heap.size 8) (J 0)).cell? (E w.heap.size 3)=Y 0):=by show _=_;rw [Qa g.out];rfl
 have I:Hid ((((((((((a.setCell (E w.heap.size 0) (J o)).setCell (E w.heap.size 1) (J 0)).setCell (E w.heap.size 2) (J 0)).setCell (E w.heap.size 3) (J 0)).setCell (E w.heap.size 4) (J 0)).setCell (E w.heap.size 5) (J c)).setCell (E w.heap.size 6) (J n1)).setCell (E w.heap.size 7) (J n2)).setCell (E w.heap.size 8) (J 0)).cell? (E w.heap.size 4)=Y 0):=by show _=_;rw [Qa g.out];rfl
 have K:Hid ((((((((((a.setCell (E w.heap.size 0) (J o)).setCell (E w.heap.size 1) (J 0)).setCell (E w.heap.size 2) (J 0)).setCell (E w.heap.size 3) (J 0)).setCell (E w.heap.size 4) (J 0)).setCell (E w.heap.size 5) (J c)).setCell (E w.heap.size 6) (J n1)).setCell (E w.heap.size 7) (J n2)).setCell (E w.heap.size 8) (J 0)).cell? (E w.heap.size 5)=Y c):=by show _=_;rw [Qa g.out];rfl
 have L:Hid ((((((((((a.setCell (E w.heap.size 0) (J o)).setCell (E w.heap.size 1) (J 0)).setCell (E w.heap.size 2) (J 0)).setCell (E w.heap.size 3) (J 0)).setCell (E w.heap.size 4) (J 0)).setCell (E w.heap.size 5) (J c)).setCell (E w.heap.size 6) (J n1)).setCell (E w.heap.size 7) (J n2)).setCell (E w.heap.size 8) (J 0)).cell? (E w.heap.size 6)=Y n1):=by show _=_;rw [Qa g.out];rfl
 have M:Hid ((((((((((a.setCell (E w.heap.size 0) (J o)).setCell (E w.heap.size 1) (J 0)).setCell (E w.heap.size 2) (J 0)).setCell (E w.heap.size 3) (J 0)).setCell (E w.heap.size 4) (J 0)).setCell (E w.heap.size 5) (J c)).setCell (E w.heap.size 6) (J n1)).setCell (E w.heap.size 7) (J n2)).setCell (E w.heap.size 8) (J 0)).cell? (E w.heap.size 7)=Y n2):=by show _=_;rw [Qa g.out];rfl
 have N:Hid ((((((((((a.setCell (E w.heap.size 0) (J o)).setCell (E w.heap.size 1) (J 0)).setCell (E w.heap.size 2) (J 0)).setCell (E w.heap.size 3) (J 0)).setCell (E w.heap.size 4) (J 0)).setCell (E w.heap.size 5) (J c)).setCell (E w.heap.size 6) (J n1)).setCell (E w.heap.size 7) (J n2)).setCell (E w.heap.size 8) (J 0)).cell? (E w.heap.size 8)=Y 0):=by show _=_;rw [Qa g.out];rfl
 clear bb;cases b0 with
 | false =>have k:=Z (O.out false rfl);go_wp2;have m:=D.out;have n:=F.out;have p:=G.out;have q:=H.out;have r:=I.out;have s:=K.out;have t:=L.out;have u:=M.out;have x:=N.out;exact bodyPost_ret (v:=.tuple #[.agg #[J o,J 0,J 0,J 0,J 0,J c,J n1,J n2,J 0],.bool false]) (by simp [results,results181,go_sem,m,n,p,q,r,s,t,u,x]) rfl k.out
 | true =>
  cases b1 with
  | false =>have k:=Z (O.out false rfl);go_wp2;have m:=D.out;have n:=F.out;have p:=G.out;have q:=H.out;have r:=I.out;have s:=K.out;have t:=L.out;have u:=M.out;have x:=N.out;exact bodyPost_ret (v:=.tuple #[.agg #[J o,J 0,J 0,J 0,J 0,J c,J n1,J n2,J 0],.bool false]) (by simp [results,results181,go_sem,m,n,p,q,r,s,t,u,x]) rfl k.out
  | true =>have k:=Z (O.out b2 rfl);go_wp2;have m:=D.out;have n:=F.out;have p:=G.out;have q:=H.out;have r:=I.out;have s:=K.out;have t:=L.out;have u:=M.out;have x:=N.out;exact bodyPost_ret (v:=.tuple #[.agg #[J o,J 0,J 0,J 0,J 0,J c,J n1,J n2,J 0],.bool b2]) (by simp [results,results181,go_sem,m,n,p,q,r,s,t,u,x]) rfl k.out
def zlm:Prop:=∀(s:List Int) (w:World),xq w->zmt s->s.length<=2000000->Calls Tryz.prog 21 #[.string (strOfNums s)] w (Y9 s w)
end Go.Proofs.YtjlfcbccpcigeacGreatDoor
