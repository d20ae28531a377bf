import Derived.Test.YtfboipappaonhaaGreatF02
import Derived.Test.YtfboipappaonhaaGreatF12
import Derived.Test.YtfboipappaonhaaGreatF13
import Derived.Test.YtfboipappaonhaaGreatF14
import Derived.Test.YtfboipappaonhaaGreatF29
import Derived.Test.YtfboipappaonhaaGreatF33
namespace Go.Proofs.YtfboipappaonhaaGreat
set_option linter.unusedSimpArgs false
set_option linter.unusedVariables false
set_option maxHeartbeats 16000000
set_option maxRecDepth 100000
open Go.RowKit
def hL:ET->List Int
 | .nil=>[]
 | .node _ _ _ l r=>hL l++hL r++[((1+max (hT l) (hT r):Nat):Int)]
theorem zEn:∀ T:ET,(hL T).length=tsz T
 | .nil=>rfl
 | .node _ _ _ l r=>by simp [hL,tsz,zEn l,zEn r]; omega
theorem zFP {a b:List Int} {i:Nat} (h:i<a.length):atI (a++b) i=atI a i:=by
 simp [atI,List.getD,List.getElem?_append,h]
theorem zFQ {a b:List Int} {i:Nat} (h:a.length<=i):atI (a++b) i=atI b (i-a.length):=by
 simp [atI,List.getD,List.getElem?_append_right h]
theorem zKb {a b:List zD} {i:Nat} (h:i<a.length):atN (a++b) i=atN a i:=by
 simp [atN,List.getD,List.getElem?_append,h]
theorem zKc {a b:List zD} {i:Nat} (h:a.length<=i):atN (a++b) i=atN b (i-a.length):=by
 simp [atN,List.getD,List.getElem?_append_right h]
theorem zGk:∀ {T:ET},Sh T->atI (hL T) (tsz T-1)=(hT T:Int)
 | .nil,h=>h.elim
 | .node b o t l r,_=>by
  have e:tsz (.node b o t l r:ET)-1=(hL l++hL r).length:=by simp [tsz,zEn]
  rw [e]
  simp only [hL,hT]
  rw [zFQ (Nat.le_refl _)]
  simp [atI]
def zOO (n:zD) (H:List Int) (s i:Nat):Prop:=
 (zU n.k=0/\atI H i=1)\/(zU n.k=1/\∃ a,n.a=((s+a:Nat):Int)/\a<i/\atI H i=atI H a+1) \/
 (zU n.k=2/\∃ a c,n.a=((s+a:Nat):Int)/\n.b=((s+c:Nat):Int)/\a<i/\c<i/\atI H i=max (atI H a) (atI H c)+1)
theorem zOP:∀ (T:ET),Sh T->∀ (s i:Nat),i<tsz T->zOO (atN (nd T s) i) (hL T) s i
 | .nil,h,_,_,_=>h.elim
 | .node b o t l r,h,s,i,hi=>by
  simp only [tsz] at hi
  have el:=zEn l
  have er:=zEn r
  have nl:=zi l s
  have nr:=zi r (s+tsz l)
  by_cases h1:i<tsz l
  ·have hsl:Sh l:=by
    rcases h.2 with ⟨_,rfl,_⟩ | ⟨_,hl,_⟩ | ⟨_,hl,_⟩
    ·simp [tsz] at h1
    ·exact hl
    ·exact hl
   have ih:=zOP l hsl s i h1
   have en:atN (nd (.node b o t l r) s) i=atN (nd l s) i:=by
    simp only [nd]; rw [List.append_assoc,zKb (by omega)]
   have eH:∀ k,k<tsz l->atI (hL (.node b o t l r)) k=atI (hL l) k:=fun k hk=>by
    simp only [hL]; rw [List.append_assoc,zFP (by omega)]
   unfold zOO
   rw [en]
   rcases ih with ⟨k0,e⟩ | ⟨k1,a,e1,e2,e3⟩ | ⟨k2,a,c,e1,e2,e3,e4,e5⟩
   ·exact Or.inl ⟨k0,by rw [eH i h1]; exact e⟩
   ·exact Or.inr (Or.inl ⟨k1,a,e1,e2,by rw [eH i h1,eH a (by omega)]; exact e3⟩)
   ·exact Or.inr (Or.inr ⟨k2,a,c,e1,e2,e3,e4,by rw [eH i h1,eH a (by omega),eH c (by omega)]; exact e5⟩)
  ·by_cases h2:i<tsz l+tsz r
   ·have hsr:Sh r:=by
     rcases h.2 with ⟨_,rfl,rfl⟩ | ⟨_,hl,rfl⟩ | ⟨_,_,hr⟩
     ·simp [tsz] at h2
     ·simp [tsz] at h2; omega
     ·exact hr
    have ih:=zOP r hsr (s+tsz l) (i-tsz l) (by omega)
    have en:atN (nd (.node b o t l r) s) i=atN (nd r (s+tsz l)) (i-tsz l):=by
     simp only [nd]; rw [List.append_assoc,zKc (by omega),nl,zKb (by omega)]
    have eH:∀ k,k<tsz r->atI (hL (.node b o t l r)) (tsz l+k)=atI (hL r) k:=fun k hk=>by
     simp only [hL]; rw [List.append_assoc,zFQ (by omega),el,zFP (by omega)]; congr 1; omega
    have ei:i=tsz l+(i-tsz l):=by omega
    unfold zOO
    rw [en]
    rcases ih with ⟨k0,e⟩ | ⟨k1,a,e1,e2,e3⟩ | ⟨k2,a,c,e1,e2,e3,e4,e5⟩
    ·exact Or.inl ⟨k0,by rw [ei,eH _ (by omega)]; exact e⟩
    ·refine Or.inr (Or.inl ⟨k1,tsz l+a,by rw [e1]; congr 1; omega,by omega,?_⟩)
     conv=>lhs; rw [ei]
     rw [eH _ (by omega),eH a (by omega)]; exact e3
    ·refine Or.inr (Or.inr ⟨k2,tsz l+a,tsz l+c,by rw [e1]; congr 1; omega,by rw [e2]; congr 1; omega,by omega,by omega,?_⟩)
     conv=>lhs; rw [ei]
     rw [eH _ (by omega),eH a (by omega),eH c (by omega)]; exact e5
   ·have ei:i=tsz l+tsz r:=by omega
    have en:atN (nd (.node b o t l r) s) i=tN b t l r s:=by
     simp only [nd]; rw [zKc (by simp; omega)]
     have:i-(nd l s++nd r (s+tsz l)).length=0:=by simp; omega
     rw [this]; rfl
    have eI:atI (hL (.node b o t l r)) i=((1+max (hT l) (hT r):Nat):Int):=by
     simp only [hL]; rw [zFQ (by simp; omega)]
     have:i-(hL l++hL r).length=0:=by simp; omega
     rw [this]; rfl
    unfold zOO
    rw [en,eI]
    rcases h.2 with ⟨k0,rfl,rfl⟩ | ⟨k1,hl,rfl⟩ | ⟨k2,hl,hr⟩
    ·exact Or.inl ⟨k0,rfl⟩
    ·have hp:=Sh.pos hl
     refine Or.inr (Or.inl ⟨k1,tsz l-1,?_,by omega,?_⟩)
     ·simp only [tN,k1]
      rw [if_neg (by decide)]
      omega
     ·have e:atI (hL (.node b o t l .nil)) (tsz l-1)=(hT l:Int):=by
       simp only [hL]; rw [List.append_assoc,zFP (by omega)]; exact zGk hl
      rw [e]
      simp only [hT]
      omega
    ·have hp:=Sh.pos hl
     have hp2:=Sh.pos hr
     refine Or.inr (Or.inr ⟨k2,tsz l-1,tsz l+tsz r-1,?_,?_,by omega,by omega,?_⟩)
     ·simp only [tN,k2]
      rw [if_neg (by decide)]
      omega
     ·simp only [tN,k2]
      rw [if_pos trivial]
      omega
     ·have e:atI (hL (.node b o t l r)) (tsz l-1)=(hT l:Int):=by
       simp only [hL]; rw [List.append_assoc,zFP (by omega)]; exact zGk hl
      have e2:atI (hL (.node b o t l r)) (tsz l+tsz r-1)=(hT r:Int):=by
       simp only [hL]; rw [List.append_assoc,zFQ (by omega),el,zFP (by omega)]
       have:tsz l+tsz r-1-tsz l=tsz r-1:=by omega
       rw [this]
       exact zGk hr
      rw [e,e2]
      omega
theorem zOQ:∀ (T:ET) (x:Int),x∈hL T->0<=x/\x<=(tsz T:Int)
 | .nil,x,h=>by simp [hL] at h
 | .node b o t l r,x,h=>by
  simp only [hL,List.mem_append,List.mem_singleton] at h
  simp only [tsz]
  rcases h with (h | h) | h
  ·have:=zOQ l x h; omega
  ·have:=zOQ r x h; omega
  ·have:=zKH l
   have:=zKH r
   subst h
   omega
theorem zPN (T:ET) {i:Nat} (h:i<tsz T):0<=atI (hL T) i/\atI (hL T) i<=(tsz T:Int):=by
 have hl:=zEn T
 refine zOQ T _ ?_
 unfold atI
 rw [List.getD_eq_getElem?_getD,List.getElem?_eq_getElem (by omega)]
 exact List.getElem_mem _
end Go.Proofs.YtfboipappaonhaaGreat
namespace Go.Proofs.YtfboipappaonhaaGreat
set_option linter.unusedSimpArgs false
set_option linter.unusedVariables false
set_option maxHeartbeats 16000000
set_option maxRecDepth 100000
theorem zB5 {ns:List OpR} {ts:List zK} {i n:Nat} (h:i<n):atI (Za ns ts n) i=zV ns ts i:=by
 simp [atI,Za,List.getD,h]
def TkF (ns:List OpR) (ts:List zK) (i:Nat):Prop:=
 ((atT ts i).k=3/\(1<=zV ns ts i/\zV ns ts i<=3)/\sgT ns ts i=((zV ns ts i).toNat+2,(atT ts i).t)/\∃ j,fnd ns (atT ts i).t (zV ns ts i)=some j/\sLv ns (sgT ns ts i)=(atO ns j).l/\sSo ns (sgT ns ts i)=srt (atO ns j).k (atO ns j).sd) \/
 ((atT ts i).k≠3/\zV ns ts i=0/\¬ (3<=(sgT ns ts i).1/\(sgT ns ts i).1<=5))
theorem zQ0 {ns:List OpR} {t:ByteArray} {r:Int} (h:zn ns t r=true) (hr:1<=r/\r<=3):∃ j,fnd ns t r=some j/\sLv ns (r.toNat+2,t)=(atO ns j).l/\sSo ns (r.toNat+2,t)=srt (atO ns j).k (atO ns j).sd:=by
 have e:((r.toNat+2:Nat):Int)-2=r:=by omega
 have hk:=zDX h e
 cases hf:fnd ns t r with
 | none=>
  unfold knB at hk
  rw [e,hf] at hk
  cases hk
 | some j=>
  have hA:opA ns (rt (r.toNat+2) t)=atO ns j:=by
   unfold opA
   simp only [rt]
   rw [e,hf]
  refine ⟨j,rfl,?_,?_⟩
  ·rw [zDa (by omega) hk,hA]
  ·unfold sSo
   simp only
   rw [hA]
theorem zQQ {ns:List OpR} {ts:List zK} {i:Nat} (hr:0<=zV ns ts i):TkF ns ts i:=by
 unfold TkF
 have key:((atT ts i).k=3/\((zV ns ts i=1/\zn ns (atT ts i).t 1=true)\/(zV ns ts i=2/\zn ns (atT ts i).t 2=true)\/(zV ns ts i=3/\zn ns (atT ts i).t 3=true))) \/
   (((atT ts i).k=1\/(atT ts i).k=2\/(atT ts i).k=4\/(atT ts i).k=5\/(atT ts i).k=7)/\zV ns ts i=0):=by
  unfold zV at hr ⊢
  generalize atT ts i=t at hr ⊢
  generalize zBG ts i=op at hr ⊢
  generalize decide (i+1=ts.length)=la at hr ⊢
  generalize zBL ns ts i=bh at hr ⊢
  cases bh
  ·rw [zFE] at hr ⊢
   by_cases k1:t.k=1\/t.k=2\/t.k=4
   ·rw [if_pos k1]; exact Or.inr ⟨by omega,rfl⟩
   ·rw [if_neg k1] at hr ⊢
    by_cases c:t.k=3/\zn ns t.t 1=true
    ·rw [if_pos c]; exact Or.inl ⟨c.1,Or.inl ⟨rfl,c.2⟩⟩
    ·rw [if_neg c] at hr; omega
  ·rw [zDx] at hr ⊢
   by_cases c2:t.k=3/\zn ns t.t 2=true
   ·rw [if_pos c2]; exact Or.inl ⟨c2.1,Or.inr (Or.inl ⟨rfl,c2.2⟩)⟩
   ·rw [if_neg c2] at hr ⊢
    by_cases c3:t.k=3/\zn ns t.t 3=true
    ·rw [if_pos c3]; exact Or.inl ⟨c3.1,Or.inr (Or.inr ⟨rfl,c3.2⟩)⟩
    ·rw [if_neg c3] at hr ⊢
     by_cases c5:t.k=5/\0<op
     ·rw [if_pos c5]; exact Or.inr ⟨by omega,rfl⟩
     ·rw [if_neg c5] at hr ⊢
      by_cases c7:t.k=7/\op=0/\la=true
      ·rw [if_pos c7]; exact Or.inr ⟨by omega,rfl⟩
      ·rw [if_neg c7] at hr; omega
 rcases key with ⟨k3,h⟩ | ⟨hk,h0⟩
 ·left
  have es:sgT ns ts i=((zV ns ts i).toNat+2,(atT ts i).t):=by unfold sgT; rw [if_pos k3]
  have hb:zn ns (atT ts i).t (zV ns ts i)=true/\1<=zV ns ts i/\zV ns ts i<=3:=by
   rcases h with ⟨e,h⟩ | ⟨e,h⟩ | ⟨e,h⟩ <;> rw [e] <;> exact ⟨h,by decide,by decide⟩
  refine ⟨k3,hb.2,es,?_⟩
  rw [es]
  exact zQ0 hb.1 hb.2
 ·right
  refine ⟨by omega,h0,?_⟩
  unfold sgT
  rw [if_neg (by omega)]
  by_cases k4:(atT ts i).k=4
  ·rw [if_pos k4]; decide
  ·rw [if_neg k4]
   by_cases k5:(atT ts i).k=5
   ·rw [if_pos k5]; decide
   ·rw [if_neg k5]
    by_cases k7:(atT ts i).k=7
    ·rw [if_pos k7]; decide
    ·rw [if_neg k7]
     simp only
     omega
theorem zQR {ns:List OpR} {ts:List zK} {i:Nat} (h:TkF ns ts i) (hk:1<=(atT ts i).k/\(atT ts i).k<=7/\(atT ts i).k≠6) (op:Int):opS op (sgT ns ts i)=op+(if (atT ts i).k=4 then 1 else 0)-(if (atT ts i).k=5 then 1 else 0):=by
 rcases h with ⟨k3,hr,es,_⟩ | ⟨k3,h0,hn⟩
 ·rw [zo (by rw [es]; simp only; omega),if_neg (by omega),if_neg (by omega)]; omega
 ·unfold sgT
  rw [if_neg k3]
  by_cases k4:(atT ts i).k=4
  ·rw [if_pos k4,zBn,if_pos k4,if_neg (by omega)]; omega
  ·rw [if_neg k4]
   by_cases k5:(atT ts i).k=5
   ·rw [if_pos k5,zEF,if_neg k4,if_pos k5]; omega
   ·rw [if_neg k5,if_neg k4,if_neg k5]
    by_cases k7:(atT ts i).k=7
    ·rw [if_pos k7,zo (by decide)]; omega
    ·rw [if_neg k7,zo (by simp only; omega)]; omega
theorem zQS (op:Int) (s:SyR):op-1<=opS op s/\opS op s<=op+1:=by
 unfold opS
 split <;> split <;> omega
theorem zOR:∀ (ss:List SyR) (op:Int),op-(ss.length:Int)<=opL op ss/\opL op ss<=op+(ss.length:Int)
 | [],op=>by simp [opL]
 | s::r,op=>by
  rw [Zq]
  have h1:=zOR r (opS op s)
  have h2:=zQS op s
  simp only [List.length_cons]
  omega
def zCe (x:Option (Nat×SyR)):Int:=match x with
 | none=>-1
 | some x=>(x.1:Int)
theorem zPO (ns:List OpR) (ts:List zK) (a n:Nat):rtF ns (sgs ns ts a (n+1)) a 0 none=(if opS (opL 0 (sgs ns ts a n)) (sgT ns ts (a+n))≠0\/¬ (3<=(sgT ns ts (a+n)).1/\(sgT ns ts (a+n)).1<=5) then rtF ns (sgs ns ts a n) a 0 none else zBJ ns (rtF ns (sgs ns ts a n) a 0 none) (a+n,sgT ns ts (a+n))):=by
 rw [zCI,ZM,zAD]
 rfl
theorem zL7 (ns:List OpR) (ts:List zK) (a n:Nat):opL 0 (sgs ns ts a (n+1))=opS (opL 0 (sgs ns ts a n)) (sgT ns ts (a+n)):=by
 rw [zCI,zCF]
 rfl
theorem zL8 {ns:List OpR} {ts:List zK} {a n:Nat} {L R:List SyR} {s:SyR} (h:sgs ns ts a n=L++s::R):s=sgT ns ts (a+L.length)/\L.length<n/\L=sgs ns ts a L.length/\R=sgs ns ts (a+L.length+1) (n-L.length-1):=by
 have hl:=congrArg List.length h
 rw [zAD,List.length_append,List.length_cons] at hl
 have e:n=L.length+(R.length+1):=by omega
 rw [e,zFD,zDw] at h
 have h2:=List.append_inj h (by rw [zAD])
 injection h2.2 with h3 h4
 refine ⟨h3.symm,by omega,h2.1.symm,?_⟩
 rw [<- h4]
 congr 1
 omega
theorem zPP {ns:List OpR} {ts:List zK} {a n:Nat} {x:Nat×SyR} (h:rtF ns (sgs ns ts a n) a 0 none=some x):a<=x.1/\x.1<a+n/\x.2=sgT ns ts x.1/\(3<=x.2.1/\x.2.1<=5):=by
 rcases zG5 _ _ _ _ _ h with h | ⟨L,R,h1,h2,h3,_⟩
 ·cases h
 ·have:=zL8 h1
  refine ⟨by omega,by omega,?_,h3⟩
  rw [h2]; exact this.1
def shO (k:Nat) (x:Option (Nat×SyR)):Option (Nat×SyR):=x.map (fun x=>(x.1+k,x.2))
theorem zIc (ns:List OpR) (k:Nat):∀ (ss:List SyR) (i:Nat) (op:Int) (best:Option (Nat×SyR)),rtF ns ss (i+k) op (shO k best)=shO k (rtF ns ss i op best)
 | [],i,op,best=>rfl
 | s::r,i,op,best=>by
  simp only [rtF]
  have e:i+k+1=(i+1)+k:=by omega
  rw [e]
  rw [<- zIc ns k r]
  congr 1
  split
  ·rfl
  ·cases best with
   | none=>rfl
   | some b=>
    simp only [zBJ,shO,Option.map]
    split <;> rfl
theorem zOS (ns:List OpR) (ss:List SyR) (a:Nat):rtF ns ss a 0 none=shO a (rtF ns ss 0 0 none):=by
 have:=zIc ns a ss 0 0 none
 rw [Nat.zero_add] at this
 exact this
end Go.Proofs.YtfboipappaonhaaGreat
namespace Go.Proofs.YtfboipappaonhaaGreat
set_option maxHeartbeats 16000000
set_option maxRecDepth 100000
open Go.RowKit
theorem zHg (b off cap:Nat) (xs:List zK) (w:World) (hm:xs.length+ZO xs xs.length<=1048576) (hw:zCS w b off xs) (hB:b<w.heap.size) :
  Calls Tryz.prog 106 #[.slice (some ⟨b,off,none⟩) xs.length cap] w fun e w'=>e = .returned (.string ⟨(Zh xs xs.length).toArray⟩)/\Below w.heap.size w w':=by
 obtain ⟨i0,hi,hz0,hz1,hz2⟩:=info_parts infoByte
 have HI:=zB hi
 have HZ:=zB (And.intro hz0 (And.intro hz1 hz2))
 have HW:=zB hw
 have HO:=zB (show (w.alloc (.cells #[] 5)).ownsRow w.heap.size 5 1 (.slice (some ⟨w.heap.size,0,none⟩) 0 0) 0 (cellsB (Zh xs 0)) by
  show (w.alloc (.cells #[] 5)).ownsRow w.heap.size 5 1 (.slice (some ⟨w.heap.size,0,none⟩) 0 0) 0 []
  simpa using World.ownsRow_lit (base:=w.heap.size) (e:=5) (size:=1) w #[] 0 (Nat.le_refl _) (Nat.zero_le _) rfl)
 clear hi hz0 hz1 hz2 hw
 go_enter Tryz.func106,Tryz.ntmps106
 go_wp2
 go_loopw [3,4] (fun out i wr=>∃ (k go co n:Nat),k<=xs.length/\i = .int .i64 (k:Int)/\out = .slice (some ⟨go,0,none⟩) n co/\Hid (n=(Zh xs k).length)/\Hid (wr.ownsRow w.heap.size 5 1 (.slice (some ⟨go,0,none⟩) n co) n (cellsB (Zh xs k)))/\Below w.heap.size w wr) (fun _ i _=>xs.length-(intOf i).toNat)
 case atStart=>exact ⟨0,w.heap.size,0,0,Nat.zero_le _,rfl,rfl,zB rfl,HO,zC _ _⟩
 case round=>
  clear HO
  obtain ⟨k,go,co,n,hk,rfl,rfl,hn,hown,hbel⟩:=hrel
  by_cases hlt:k<xs.length
  ·have hcell:=((zA HW) k hlt).below hbel hB
   obtain ⟨a0,a1,a2⟩:=hcell
   have hnn:=(zA hn).trans (zCH xs k)
   have htk:ZO xs (k+1)<=ZO xs xs.length:=zDv xs _ _ (by omega)
   simp only [ZO,zM5] at htk
   obtain ⟨c1,w1,hrun1,hnew1,hb1⟩:=zDP wr (atT xs k).g
   have HN1:=zB hnew1
   have HB1:=zB hb1
   have b2:=(hb1.cell (p:=⟨b,off+k*3+2,none⟩) (Nat.lt_of_lt_of_le hB hbel.size)).trans a2
   have hown1:=zB ((zA hown).kept (Zb hb1 none) (Or.inr (by simp [Value.ownBlock])))
   have hbel1:=hbel.trans (hb1.mono hbel.size)
   have HNN:=zB hnn
   have hnb:n+(atT xs k).g.size+(atT xs k).t.size<=1048576:=by omega
   clear hnew1 hb1 hown hnn htk hbel a2
   go_wp2_with (at_builtin; refine wpList_append_own _ rfl (.tmp 12) (.tmp 18) 22 rfl w.heap.size 5 i0 _ 1 1 Tryz.underlying22 (zA HI) (zA HZ).1 (zA HZ).2.1 (zA HZ).2.2 rfl (by decide) _ n (cellsB (Zh xs k)) rfl (zA hown1) ⟨wr.heap.size,0,none⟩ (atT xs k).g.size c1 (cellsB (atT xs k).g.data.toList) rfl (by rw [ZI]; simp) (zA HN1) (Zo _) ?b1 ?b2 ?b3 ?next)
   case b1=>unfold maxLen; omega
   case b2=>omega
   case b3=>exact hbel1.size
   case next=>
    intro v2 w2 hown2 hgrow2 hnil2
    have hgo:=(zA hown1).lt go rfl
    have hbel2:Below w.heap.size w w2:=hbel1.grown hgrow2 hbel1.size (fun q hq=>by simp [Value.ownBlock] at hq; omega)
    obtain ⟨g2,q2,rfl⟩:=ZL hown2 (by simp [hnil2])
    rw [<- ZX] at hown2
    have d2:w2.cell? ⟨b,off+k*3+2,none⟩=some (.string (atT xs k).t):=hgrow2.cell b2 (by simp [Value.ownBlock]; omega)
    obtain ⟨c3,w3,hrun3,hnew3,hb3⟩:=zDP w2 (atT xs k).t
    have HN3:=zB hnew3
    have hown3:=zB (hown2.kept (Zb hb3 none) (Or.inr (by simp [Value.ownBlock])))
    have hbel3:=hbel2.trans (hb3.mono hbel2.size)
    clear hown2 hgrow2 hnil2 hown1 HN1 HB1 hnew3 hb3 b2 hrun1 a0 a1
    go_wp2_with (at_builtin; refine wpList_append_own _ rfl (.tmp 20) (.tmp 26) 22 rfl w.heap.size 5 i0 _ 1 1 Tryz.underlying22 (zA HI) (zA HZ).1 (zA HZ).2.1 (zA HZ).2.2 rfl (by decide) _ (n+(atT xs k).g.size) _ rfl (zA hown3) ⟨w2.heap.size,0,none⟩ (atT xs k).t.size c3 (cellsB (atT xs k).t.data.toList) rfl (by rw [ZI]; simp) (zA HN3) (Zo _) ?b1 ?b2 ?b3 ?next)
    case b1=>unfold maxLen; omega
    case b2=>omega
    case b3=>exact hbel3.size
    case next=>
     intro v4 w4 hown4 hgrow4 hnil4
     have hg2:=(zA hown3).lt g2 rfl
     have hbel4:Below w.heap.size w w4:=hbel3.grown hgrow4 hbel3.size (fun q hq=>by simp [Value.ownBlock] at hq; omega)
     obtain ⟨g4,q4,rfl⟩:=ZL hown4 (by simp [hnil4])
     rw [<- ZX] at hown4
     have HO4:=zB (show w4.ownsRow w.heap.size 5 1 (.slice (some ⟨g4,0,none⟩) (n+(atT xs k).g.size+(atT xs k).t.size) q4) (n+(atT xs k).g.size+(atT xs k).t.size) (cellsB (Zh xs (k+1))) from hown4)
     have HL4:=zB (show n+(atT xs k).g.size+(atT xs k).t.size=(Zh xs (k+1)).length by rw [zCH]; have:=zA HNN; simp only [ZO,zM5]; omega)
     clear hown4 hgrow4 hnil4 hown3 HN3 HNN hn
     go_wp2
     exact ⟨⟨k+1,g4,q4,_,by omega,by go_num,rfl,HL4,HO4,hbel4⟩,by simp [intOf]; omega⟩
  ·have hkx:k=xs.length:=by omega
   have hcv:=Z1 wr go n co (Zh xs k) (zA hn) (zAm (zA hown))
   have HK:=zB hkx
   clear hkx
   go_wp2
   go_ret
   exact ⟨zIj (by rw [zA HK]),hbel⟩
end Go.Proofs.YtfboipappaonhaaGreat
