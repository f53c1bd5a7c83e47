import Derived.Test.YtjoapiafpahihabGreatSounds
namespace Go.Proofs.YtjoapiafpahihabGreat
set_option linter.unusedVariables false
variable {n d q r a x u c j:Int} {f:Nat->Bool} {k i s:Nat}
section
theorem zf7 (hd:0<d) (h1:q*d<=n) (h2:n<(q+1)*d):n / d=q:=by
 have h3:=(Int.le_ediv_iff_mul_le hd).2 h1
 have h4:=(Int.ediv_lt_iff_lt_mul hd).2 h2
 omega
theorem zix (hd:0<d) (h:¬n.tmod d<0):n.tdiv d=n / d:=by
 have h1:=Int.tmod_lt_of_pos n hd
 have h3:=Int.mul_tdiv_add_tmod n d
 rw [Int.mul_comm] at h3
 refine (zf7 hd ?_ ?_).symm
 ·omega
 ·rw [Int.add_mul];omega
theorem zf8 (hd:0<d) (h:n.tmod d<0):n.tdiv d - 1=n / d:=by
 have h1:=Int.lt_tmod_of_pos n hd
 have h3:=Int.mul_tdiv_add_tmod n d
 rw [Int.mul_comm] at h3
 refine (zf7 hd ?_ ?_).symm
 ·rw [Int.sub_mul];omega
 ·rw [show n.tdiv d - 1+1=n.tdiv d by omega];omega
theorem zun:n - n / r*r=n % r:=by
 have:=Int.emod_def n r
 rw [Int.mul_comm];omega
theorem mod_le (h:0<=a) (hr:0<r):a % r<=a:=by
 have h1:=Int.mul_ediv_add_emod a r
 have h2:0<=r*(a / r):=Int.mul_nonneg (by omega) (Int.ediv_nonneg h (by omega))
 omega
def Um (p q first last r:Int):Bool:=decide (first+(p - q - first) % r<=last)
theorem VB {p first last:Int} (hr:0<r):Um p q first last r=true↔∃j,first<=j/\j<=last/\(q+j - p) % r=0:=by
 unfold Um
 rw [decide_eq_true_iff]
 constructor
 ·intro h
  have h0:=Int.emod_nonneg (p - q - first) (by omega:r≠0)
  refine⟨first+(p - q - first) % r,by omega,h,?_⟩
  have h1:=Int.emod_def (p - q - first) r
  rw [show q+(first+(p - q - first) % r) - p=r*(-((p - q - first) / r)) by rw [h1,Int.mul_neg];omega]
  exact Int.mul_emod_right _ _
 ·rintro ⟨j,h1,h2,h3⟩
  obtain⟨c,hc⟩:=Int.dvd_of_emod_eq_zero h3
  have e:(p - q - first) % r=(j - first) % r:=by
   rw [show p - q - first=j - first+r*(-c) by rw [Int.mul_neg];omega]
   exact Int.add_mul_emod_self_left _ _ _
  have h4:=mod_le (show 0<=j - first by omega) hr
  omega
section
variable (L:Lp) (t:Tg) (K:Kn) (O:List Int)
def Xe (a m:Nat):Int:=if m=a then 1 else -((zF t K O m - zF t K O a) / K.pc)
def zxr (a:Nat) (bk:Int) (m:Nat):Int:=if 0<bk then min (Xe t K O a m) 1 else Xe t K O a m
def zuj (u:Int) (m:Nat):Int:=(u - zF t K O m) / K.pc
def xq (a:Nat) (bk u:Int) (m:Nat):Bool:=Um (zr K O a) (zr K O m) (zxr t K O a bk m) (zuj t K O u m) t.r
def xN (a m:Nat):Bool:=Um (zr K O a) (zr K O m) (Xe t K O a m) 0 t.r
end
variable {L:Lp} {t:Tg} {K:Kn} {O:List Int}
theorem Vn {n:Nat}:zC f n=true↔∀i,i<n->f i=true:=⟨fun h i hi=>zo h i hi,zL⟩
theorem zgw {g:Nat->Bool} {n m:Nat} (h:(∀i,i<n->f i=true)↔∀i,i<m->g i=true):zC f n=zC g m:=Bool.eq_iff_iff.2 (Vn.trans (h.trans Vn.symm))
theorem zja (hc:0<c):x+j*c<=u↔j<=(u - x) / c:=by
 rw [Int.le_ediv_iff_mul_le hc];omega
theorem YN (hc:0<c):a<=x+j*c↔-((x - a) / c)<=j:=by
 have h:-j<=(x - a) / c↔-j*c<=x - a:=Int.le_ediv_iff_mul_le hc
 rw [Int.neg_mul] at h
 constructor
 ·intro h1;have:=h.2 (by omega);omega
 ·intro h1;have:=h.1 (by omega);omega
theorem zj7 (hp:1<=K.pc) (hr:1<=t.r) (a:Nat) (bk u:Int) (m:Nat):(∀j:Int,za5 t K O a bk u m j=true)↔xq t K O a bk u m=false:=by
 rw [<-Bool.not_eq_true]
 unfold xq
 rw [VB (by omega)]
 constructor
 ·rintro h ⟨j,h1,h2,h3⟩
  have h4:=h j
  unfold za5 at h4
  have hu:zF t K O m+j*K.pc<=u:=(zja (by omega)).2 h2
  have hnear:Un t K O a bk u m j=true/\¬(m=a/\j=0):=by
   unfold Un
   unfold zxr Xe at h1
   by_cases e:m=a
   ·subst e
    rw [if_pos rfl] at h1
    have hj:1<=j:=by split at h1 <;> omega
    refine⟨?_,by omega⟩
    have h5:0<=j*K.pc:=Int.mul_nonneg (by omega) (by omega)
    rw [decide_eq_true (show zF t K O m<=zF t K O m+j*K.pc by omega),decide_eq_true hu];rfl
   ·rw [if_neg e] at h1
    refine⟨?_,fun h=>e h.1⟩
    by_cases hb:0<bk
    ·rw [if_pos hb] at h1
     by_cases hj:1<=j
     ·rw [decide_eq_true hb,decide_eq_true (show 0<j by omega),decide_eq_true hu];simp
     ·have h6:zF t K O a<=zF t K O m+j*K.pc:=(YN (by omega)).2 (by omega)
      rw [decide_eq_true h6,decide_eq_true hu];rfl
    ·rw [if_neg hb] at h1
     have h6:zF t K O a<=zF t K O m+j*K.pc:=(YN (by omega)).2 h1
     rw [decide_eq_true h6,decide_eq_true hu];rfl
  have hna:(decide (m=a) && decide (j=0))=false:=by
   by_cases e1:m=a
   ·rw [decide_eq_false (fun e2=>hnear.2 ⟨e1,e2⟩)];simp
   ·rw [decide_eq_false e1];rfl
  rw [hnear.1,hna,decide_eq_true h3] at h4
  cases h4
 ·intro h j
  unfold za5
  by_cases h3:(zr K O m+j - zr K O a) % t.r=0
  ·by_cases hna:m=a/\j=0
   ·rw [decide_eq_true hna.1,decide_eq_true hna.2];simp
   ·have hf:Un t K O a bk u m j=false:=by
     rw [<-Bool.not_eq_true]
     intro hn
     refine h ⟨j,?_,?_,h3⟩
     ·unfold Un at hn
      unfold zxr Xe
      simp only [Bool.or_eq_true,Bool.and_eq_true,decide_eq_true_eq] at hn
      by_cases e:m=a
      ·subst e
       rw [if_pos rfl]
       have hj:1<=j:=by
        rcases hn with ⟨h5,h6⟩ | ⟨⟨h5,h6⟩,h7⟩
        ·by_cases hj:j<=0
         ·have h8:(-j)*1<=(-j)*K.pc:=Int.mul_le_mul_of_nonneg_left hp (by omega)
          rw [Int.neg_mul,Int.neg_mul] at h8
          have:j=0:=by omega
          exact absurd ⟨rfl,this⟩ hna
         ·omega
        ·omega
       split <;> omega
      ·rw [if_neg e]
       rcases hn with ⟨h5,h6⟩ | ⟨⟨h5,h6⟩,h7⟩
       ·have h8:=(YN (by omega)).1 h5
        split <;> omega
       ·rw [if_pos h5];omega
     ·unfold Un at hn
      simp only [Bool.or_eq_true,Bool.and_eq_true,decide_eq_true_eq] at hn
      unfold zuj
      refine (zja (by omega)).1 ?_
      rcases hn with ⟨h5,h6⟩ | ⟨⟨h5,h6⟩,h7⟩
      ·exact h6
      ·exact h7
    rw [hf];rfl
  ·rw [decide_eq_false h3];simp
theorem zxu (hl:xD L t K O=true) {a:Nat} (ha:a<L.b.length) {bk:Int} (hu0:0<=u) (hu1:u<=1600):zue L t K O a bk u=zC (fun m=>!xq t K O a bk u m) L.b.length:=by
 obtain⟨⟨hp1,hp2,hr1⟩,hrg⟩:=yz hl
 unfold zue
 refine zgw ⟨fun h m hm=>?_,fun h m hm=>?_⟩
 ·have h1:=h m hm
  have h2:∀j:Int,za5 t K O a bk u m j=true:=by
   intro j
   by_cases hj:-4100<=j/\j<=4100
   ·have h9:=zo h1 (j+4100).toNat (by omega)
    have h9':za5 t K O a bk u m (((j+4100).toNat:Int) - 4100)=true:=h9
    rw [show (((j+4100).toNat:Nat):Int) - 4100=j by omega] at h9'
    exact h9'
   ·obtain⟨a1,a2,a3,a4⟩:=hrg a ha
    obtain⟨m1,m2,m3,m4⟩:=hrg m hm
    have hn:Un t K O a bk u m j=false:=by
     unfold Un
     by_cases hj2:0<j
     ·have h9:j*1<=j*K.pc:=Int.mul_le_mul_of_nonneg_left hp1 (by omega)
      rw [decide_eq_false (show ¬zF t K O m+j*K.pc<=u by omega)];simp
     ·have h9:(-j)*1<=(-j)*K.pc:=Int.mul_le_mul_of_nonneg_left hp1 (by omega)
      rw [Int.neg_mul,Int.neg_mul] at h9
      rw [decide_eq_false (show ¬zF t K O a<=zF t K O m+j*K.pc by omega),decide_eq_false hj2];simp
    unfold za5
    rw [hn];rfl
  have h3:=(zj7 (by omega) hr1 a bk u m).1 h2
  show (!xq t K O a bk u m)=true
  rw [h3];rfl
 ·have h1:=h m hm
  have h3:xq t K O a bk u m=false:=by simpa using h1
  exact zL fun j _=>(zj7 (by omega) hr1 a bk u m).2 h3 _
theorem zp2 (hl:xD L t K O=true) {a:Nat} (ha:a<L.b.length):zgi L t K O a=zC (fun m=>!xN t K O a m) L.b.length:=by
 obtain⟨⟨hp1,hp2,hr1⟩,hrg⟩:=yz hl
 unfold zgi
 refine zgw ⟨fun h m hm=>?_,fun h m hm=>?_⟩
 ·have h1:=h m hm
  obtain⟨a1,a2,a3,a4⟩:=hrg a ha
  obtain⟨m1,m2,m3,m4⟩:=hrg m hm
  have hf:xN t K O a m=false:=by
   rw [<-Bool.not_eq_true]
   unfold xN
   rw [VB (by omega)]
   rintro ⟨j,h2,h3,h4⟩
   unfold Xe at h2
   by_cases e:m=a
   ·rw [if_pos e] at h2;omega
   ·rw [if_neg e] at h2
    have h5:=(YN (by omega)).2 h2
    have h9:(-j)*1<=(-j)*K.pc:=Int.mul_le_mul_of_nonneg_left hp1 (by omega)
    rw [Int.neg_mul,Int.neg_mul] at h9
    have h6:=zo h1 (-j).toNat (by omega)
    unfold zp1 at h6
    have ej:(((-j).toNat:Nat):Int)=-j:=by omega
    rw [ej,show zr K O m - -j - zr K O a=zr K O m+j - zr K O a by omega,decide_eq_true h4,decide_eq_false e,Int.neg_mul,decide_eq_false (by omega)] at h6
    cases h6
  show (!xN t K O a m)=true
  rw [hf];rfl
 ·have h1:=h m hm
  have h3:¬(xN t K O a m=true):=by simpa using h1
  refine zL fun j _=>?_
  unfold zp1
  by_cases h4:(zr K O m - j - zr K O a) % t.r=0
  ·by_cases e0:m=a/\j=0
   ·rw [decide_eq_true e0.1,decide_eq_true e0.2];simp
   ·by_cases h5:zF t K O m - j*K.pc<zF t K O a
    ·rw [decide_eq_true h5];rfl
    ·exfalso
     by_cases e:m=a
     ·subst e
      have hj:1<=(j:Int):=by
       have:j≠0:=fun h=>e0 ⟨rfl,h⟩
       omega
      have h9:(j:Int)*1<=(j:Int)*K.pc:=Int.mul_le_mul_of_nonneg_left hp1 (by omega)
      omega
     ·refine h3 ?_
      unfold xN
      rw [VB (by omega)]
      refine⟨-(j:Int),?_,by omega,by rw [show zr K O m+-(j:Int) - zr K O a=zr K O m - j - zr K O a by omega];exact h4⟩
      unfold Xe
      rw [if_neg e]
      refine (YN (by omega)).1 ?_
      rw [Int.neg_mul];omega
  ·rw [decide_eq_false h4];simp
end
section
structure Rd where
 ra:Int
 rb:Int
 tm:Int
 sg:Int
 nm:Int
def rdZ:Rd:=⟨0,0,0,0,0⟩
def xc (l:List Rd) (i:Nat):Rd:=l.getD i rdZ
section
variable (L:Lp) (t:Tg) (K:Kn) (O:List Int)
def xu (s i:Nat):Rd:=⟨(zy (zj (zc L.b s)) i).1,(zy (zj (zc L.b s)) i).2,yD K O s,(opJ K O s).sg,if i=1 then (opJ K O s).b else (opJ K O s).a⟩
def Yb (s:Nat) (i:Nat):List Rd:=(List.range i).map (xu L K O s)
def Z5:Nat->List Rd
 | 0=>[]
 | s+1=>Z5 s++Yb L K O s (zj (zc L.b s)).length
def yh:List Rd:=Z5 L K O L.b.length
def VC (x:Rd):Bool:=decide (x.nm=(zr K O x.ra.toNat - x.rb - x.sg) % t.r)
def Vy (x:Rd):Bool:=zC (fun m=>!xq t K O x.ra.toNat x.rb (x.tm+x.rb*K.pc) m) L.b.length
def Zw:Bool:=zC (YV (xl L t K O L.b.length)) (xl L t K O L.b.length).length
def XC:Bool:=zC (fun i=>UV K O (zM (zi L t) i)) (zi L t).length
def YW:Bool:=zC (fun i=>VC t K O (xc (yh L K O) i)) (yh L K O).length
def Yu:Bool:=zC (fun i=>Vy L t K O (xc (yh L K O) i)) (yh L K O).length
def Ve:Bool:=zC (fun i=>zC (fun m=>!xN t K O (nth L.o i).toNat m) L.b.length) L.o.length
end
variable {L:Lp} {t:Tg} {K:Kn} {O:List Int}
theorem zdi (s i:Nat):(Yb L K O s i).length=i:=by unfold Yb;simp
theorem zbp (s i:Nat):Yb L K O s (i+1)=Yb L K O s i++[xu L K O s i]:=by unfold Yb;rw [List.range_succ,List.map_append];rfl
theorem Yc {x:Rd}:x∈Z5 L K O k↔∃s,s<k/\∃i,i<(zj (zc L.b s)).length/\xu L K O s i=x:=by
 induction k with
 | zero =>
   constructor
   ·intro h;cases h
   ·rintro ⟨s,h,-⟩;omega
 | succ k ih =>
   show x∈Z5 L K O k++Yb L K O k (zj (zc L.b k)).length↔_
   rw [List.mem_append,ih]
   constructor
   ·rintro (⟨s,h,r⟩ | h)
    ·exact⟨s,by omega,r⟩
    ·obtain⟨i,hi,e⟩:=List.mem_map.1 h
     exact⟨k,by omega,i,List.mem_range.1 hi,e⟩
   ·rintro ⟨s,h,i,hi,e⟩
    by_cases e2:s=k
    ·subst e2
     exact .inr (List.mem_map.2 ⟨i,List.mem_range.2 hi,e⟩)
    ·exact .inl ⟨s,by omega,i,hi,e⟩
theorem VI {l:List Rd} (h:i<l.length):xc l i∈l:=by
 unfold xc
 rw [List.getD,List.getElem?_eq_getElem h]
 exact List.getElem_mem _
theorem Ub {p:Rd->Bool} {l:List Rd}:(∀i,i<l.length->p (xc l i)=true)↔∀x∈l,p x=true:=by
 constructor
 ·intro h x hx
  obtain⟨i,hi,e⟩:=List.mem_iff_getElem.1 hx
  have:=h i hi
  unfold xc at this
  rw [List.getD,List.getElem?_eq_getElem hi] at this
  rw [<-e];exact this
 ·exact fun h i hi=>h _ (VI hi)
theorem Z7 (h:xD L t K O=true) (hs:s<L.b.length):0<=(opJ K O s).sg/\(opJ K O s).sg<=1000/\0<=(opJ K O s).sl/\(opJ K O s).sl<=1000/\0<=(opJ K O s).d/\(opJ K O s).d<=127/\0<=zr K O s/\zr K O s<=1127/\t.r<=128/\(opJ K O s).sg*K.pc=yD K O s - (opJ K O s).sl/\0<=(nth O s)/\(nth O s)<L.b.length:=by
 obtain⟨h1,h2,h3,h4,h5,h6⟩:=yP h
 obtain⟨⟨hp1,hp2,hr1⟩,hrg⟩:=yz h
 have hk:=h3
 unfold Yv at hk
 simp only [Bool.and_eq_true] at hk
 obtain⟨⟨⟨⟨hk1,hk2⟩,hk3⟩,hk4⟩,hk5⟩:=hk
 obtain⟨u1,u2,u3,hr1',hr2⟩:=ym hk1
 obtain⟨o1,o2,-⟩:=XK (h6 s hs).1
 have h7:=zo hk5 (yF O s) (by unfold yF;omega)
 have h7':=h7
 unfold VF VJ at h7'
 simp only [Bool.and_eq_true] at h7'
 unfold VF xv at h7
 simp only [Bool.and_eq_true,decide_eq_true_eq] at h7
 have h8:=zx.1 h7.1.1.1.1.1
 have h9:=zx.1 h7.1.1.1.1.2
 have h10:=h7.1.1.1.2
 have h12:yD K O s=(zp K.ops (yF O s)).sl+(zp K.ops (yF O s)).sg*K.pc:=by unfold yD opJ;rw [Int.mul_comm]
 have h13:(zp K.ops (yF O s)).sg*1<=(zp K.ops (yF O s)).sg*K.pc:=Int.mul_le_mul_of_nonneg_left hp1 h9.1
 obtain⟨g1,g2,-,-⟩:=hrg s hs
 have hd:0<=(zp K.ops (yF O s)).d/\(zp K.ops (yF O s)).d<=t.r - 1:=by
  exact zx.1 h7'.1.1.2.1.1.1.1
 unfold zr opJ
 omega
theorem zdh (h:xD L t K O=true) (hs:s<L.b.length) (hi:i<(zj (zc L.b s)).length) :
  0<=(xu L K O s i).ra/\(xu L K O s i).ra<L.b.length/\0<=(xu L K O s i).rb/\(xu L K O s i).rb<=3/\0<=(xu L K O s i).tm/\(xu L K O s i).tm<=1000/\0<=(xu L K O s i).sg/\(xu L K O s i).sg<=1000:=by
 obtain⟨h1,-⟩:=yP h
 obtain⟨-,hrg⟩:=yz h
 obtain⟨g1,g2,-,-⟩:=hrg s hs
 obtain⟨r1,r2,r3,r4⟩:=Ze h1 hs _ (Zi hi)
 obtain⟨o1,o2,-⟩:=Z7 h hs
 exact⟨r1,r2,r3,r4,g1,g2,o1,o2⟩
theorem Xo (h:xD L t K O=true) {x:Rd} (hx:x∈yh L K O):0<=x.ra/\x.ra<L.b.length/\0<=x.rb/\x.rb<=3/\0<=x.tm/\x.tm<=1000/\0<=x.sg/\x.sg<=1000:=by
 obtain⟨s,hs,i,hi,rfl⟩:=Yc.1 hx
 exact zdh h hs hi
theorem Y8 (hm:zY L=true) (hi:i<L.o.length):0<=nth L.o i/\nth L.o i<L.b.length:=by
 obtain⟨-,-,-,-,-,h6o,-⟩:=zw hm
 have h9:=Ya L.b.length L.o (i+1) (by omega) (zL fun k hk=>zo h6o k (by omega))
 have e2:zhn L.o (i+1)=nth L.o i:=rfl
 rw [e2] at h9
 omega
theorem zdx (hl:xD L t K O=true):zQ L t K O=(Zw L t K O && XC L t K O && YW L t K O && Yu L t K O && Ve L t K O):=by
 obtain⟨hm,-⟩:=yP hl
 obtain⟨⟨hp1,hp2,hr1⟩,hrg⟩:=yz hl
 have hu:zC (fun s=>zC (zkx L t K O s) (zj (zc L.b s)).length) L.b.length=(YW L t K O && Yu L t K O):=by
  unfold YW Yu
  rw [Bool.eq_iff_iff,Bool.and_eq_true,Vn,Vn,Vn,Ub (p:=VC t K O),Ub (p:=Vy L t K O)]
  have hone:∀s,s<L.b.length->∀i,i<(zj (zc L.b s)).length->zkx L t K O s i=(VC t K O (xu L K O s i) && Vy L t K O (xu L K O s i)):=by
   intro s hs i hi
   obtain⟨r1,r2,r3,r4,r5,r6,r7,r8⟩:=zdh hl hs hi
   have hb:(xu L K O s i).rb*K.pc<=3*200:=Int.mul_le_mul r4 hp2 (by omega) (by omega)
   have hb0:0<=(xu L K O s i).rb*K.pc:=Int.mul_nonneg r3 (by omega)
   have e:=zxu hl (a:=(xu L K O s i).ra.toNat) (by omega) (bk:=(xu L K O s i).rb) (u:=(xu L K O s i).tm+(xu L K O s i).rb*K.pc) (by omega) (by omega)
   unfold zkx Vy
   rw [<-e]
   rfl
  constructor
  ·intro h
   constructor
   ·intro x hx
    obtain⟨s,hs,i,hi,rfl⟩:=Yc.1 hx
    have h1:=zo (h s hs) i hi
    rw [hone s hs i hi,Bool.and_eq_true] at h1
    exact h1.1
   ·intro x hx
    obtain⟨s,hs,i,hi,rfl⟩:=Yc.1 hx
    have h1:=zo (h s hs) i hi
    rw [hone s hs i hi,Bool.and_eq_true] at h1
    exact h1.2
  ·rintro ⟨h1,h2⟩ s hs
   refine zL fun i hi=>?_
   rw [hone s hs i hi,h1 _ (Yc.2 ⟨s,hs,i,hi,rfl⟩),h2 _ (Yc.2 ⟨s,hs,i,hi,rfl⟩)];rfl
 have ho:zC (fun i=>zgi L t K O (nth L.o i).toNat) L.o.length=Ve L t K O:=by
  unfold Ve
  refine zgw ⟨fun h i hi=>?_,fun h i hi=>?_⟩
  ·have:=Y8 hm hi
   have h1:=h i hi
   rw [zp2 hl (by omega)] at h1
   exact h1
  ·have:=Y8 hm hi
   show zgi L t K O (nth L.o i).toNat=true
   rw [zp2 hl (by omega)]
   exact h i hi
 unfold zQ
 rw [hl,hu,ho,Bool.true_and]
 show (XC L t K O && (YW L t K O && Yu L t K O) && Zw L t K O && Ve L t K O)=_
 cases XC L t K O <;> cases YW L t K O <;> cases Yu L t K O <;> cases Zw L t K O <;> cases Ve L t K O <;> rfl
theorem zat (hl:xD L t K O=false):zQ L t K O=false:=by unfold zQ;rw [hl];rfl
def YD (l:List Rd) (a:Int):Nat->Int
 | 0=>0
 | k+1=>if (xc l k).ra=a then (if YD l a k<(xc l k).rb then (xc l k).rb else YD l a k) else YD l a k
def zlv (a:Int) (f:Int) (l:List Rd):Int:=l.foldl (fun f x=>if x.ra=a/\f<x.rb then x.rb else f) f
theorem zq5 (l:List Rd) (a:Int):∀k,k<=l.length->YD l a k=zlv a 0 (l.take k):=by
 intro k
 induction k with
 | zero=>intro _;rfl
 | succ k ih =>
   intro hk
   have e:l.take (k+1)=l.take k++[xc l k]:=by
    rw [List.take_add_one]
    unfold xc
    rw [List.getD,List.getElem?_eq_getElem (by omega)]
    rfl
   show (if (xc l k).ra=a then (if YD l a k<(xc l k).rb then (xc l k).rb else YD l a k) else YD l a k)=_
   rw [e,ih (by omega)]
   unfold zlv
   rw [List.foldl_append]
   simp only [List.foldl_cons,List.foldl_nil]
   by_cases h1:(xc l k).ra=a
   ·rw [if_pos h1]
    split
    ·next h2=>rw [if_pos ⟨h1,h2⟩]
    ·next h2=>rw [if_neg (fun h=>h2 h.2)]
   ·rw [if_neg h1,if_neg (fun h=>h1 h.1)]
theorem zq6 (L:Lp) (K:Kn) (O:List Int) (s:Nat) (a f:Int):∀i,Xx (zj (zc L.b s)) a f i=zlv a f (Yb L K O s i):=by
 intro i
 induction i with
 | zero=>rfl
 | succ i ih =>
   rw [zbp]
   unfold zlv
   rw [List.foldl_append]
   simp only [List.foldl_cons,List.foldl_nil]
   show (if (zy (zj (zc L.b s)) i).1=a/\Xx (zj (zc L.b s)) a f i<(zy (zj (zc L.b s)) i).2 then _ else _)=_
   rw [ih]
   rfl
theorem zq4 (L:Lp) (K:Kn) (O:List Int) (a:Int):∀k,zbx L a k=zlv a 0 (Z5 L K O k):=by
 intro k
 induction k with
 | zero=>rfl
 | succ k ih =>
   show Xx (zj (zc L.b k)) a (zbx L a k) (zj (zc L.b k)).length=zlv a 0 (Z5 L K O k++Yb L K O k (zj (zc L.b k)).length)
   rw [zq6 L K O,ih]
   unfold zlv
   rw [List.foldl_append]
theorem zzv (L:Lp) (K:Kn) (O:List Int) (a:Int):YD (yh L K O) a (yh L K O).length=Vw L a:=by
 rw [zq5 _ _ _ (Nat.le_refl _),List.take_length]
 exact (zq4 L K O a L.b.length).symm
theorem zlw (h:xD L t K O=true) (a:Int):∀k,k<=(yh L K O).length->0<=YD (yh L K O) a k/\YD (yh L K O) a k<=3:=by
 intro k
 induction k with
 | zero=>intro _;exact⟨Int.le_refl _,by show (0:Int)<=3;omega⟩
 | succ k ih =>
   intro hk
   have h1:=ih (by omega)
   obtain⟨-,-,r3,r4,-⟩:=Xo h (VI (l:=yh L K O) (i:=k) (by omega))
   show 0<=(if (xc (yh L K O) k).ra=a then (if YD (yh L K O) a k<(xc (yh L K O) k).rb then (xc (yh L K O) k).rb else YD (yh L K O) a k) else YD (yh L K O) a k)/\(if (xc (yh L K O) k).ra=a then (if YD (yh L K O) a k<(xc (yh L K O) k).rb then (xc (yh L K O) k).rb else YD (yh L K O) a k) else YD (yh L K O) a k)<=3
   split
   ·split <;> omega
   ·omega
theorem zrv (hm:zY L=true):∀k,k<=L.b.length->(Z5 L K O k).length<=2*k:=by
 intro k
 induction k with
 | zero=>intro _;exact Nat.le_refl _
 | succ k ih =>
   intro hk
   have h1:=ih (by omega)
   show (Z5 L K O k++Yb L K O k (zj (zc L.b k)).length).length<=_
   have h2:(zj (zc L.b k)).length<=2:=by
    unfold zj
    split
    ·simp
    ·split <;> simp
   rw [List.length_append,zdi]
   omega
def ybv (L:Lp) (k:Nat):List Int:=Yl (yg L) (fun s _=>(s:Int)) k
def yb0 (L:Lp) (k:Nat):List Int:=Yl (yg L) (fun _ q=>(q:Int)+1) k
theorem zvv {F V:List Int} {z:Nat}:∀m,(∀i,i<m->(nth F i).toNat≠z)->Up F V m z=0:=by
 intro m
 induction m with
 | zero=>intro _;rfl
 | succ m ih =>
   intro h
   show YH (Up F V m) (nth F m).toNat (nth V m) z=0
   unfold YH
   rw [if_neg (fun e=>h m (by omega) e.symm)]
   exact ih fun i hi=>h i (by omega)
theorem UY (hr:1<=t.r) (L:Lp) (K:Kn) (O:List Int) (h:i<Yw (yg L) k):0<=nth (xl L t K O k) i/\nth (xl L t K O k) i<t.r:=by
 obtain⟨s,q,h1,h2,rfl⟩:=UZ _ _ _ h
 unfold xl
 rw [YE _ _ _ s q h1 h2]
 exact⟨Int.emod_nonneg _ (by omega),Int.emod_lt_of_pos _ (by omega)⟩
end
end Go.Proofs.YtjoapiafpahihabGreat
