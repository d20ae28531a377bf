import Derived.Test.YtgbkgkdpdfdokaaGreatDoorQ07
namespace Go.Proofs.YtgbkgkdpdfdokaaGreatDoor
set_option linter.all false
set_option maxHeartbeats 16000000
set_option maxRecDepth 100000
open Go.RowKit
variable {W:Nat -> Nat -> Bool} {acc zs:List OpR} {b t u:ByteArray} {i k:Nat} {l:List UInt8} {o:OpR}
theorem zEG (rp cap p:Nat) (a:Option Addr) (bs:List UInt8) (w:JY) (h:RdF w rp a cap bs p) (hl:bs.length<=1200) :
  Calls Tryz.prog 71 #[.pointer (some ⟨rp,0,none⟩)] w fun e w'=>(∃ g:JZ,e = .returned (.string g)/\Hid (g=zEF (nxt bs p)))/\Hid (RdF w' rp a cap bs (adv bs p))/\Hid (zG w w' rp):=by
 have H:=zB h
 clear h
 go_enter Tryz.func71,Tryz.ntmps71
 go_wp2_with fail
 refine (zM rp cap p a bs _ (zA H) hl).mono ?_
 rintro e w1 ⟨⟨k,rfl,hk,HK⟩,H1,HP1⟩
 clear H
 have K:k%5=0\/k%5=1\/k%5=2\/k%5=3\/k%5=4:=by omega
 rcases K with hc | hc | hc | hc | hc
 ·have HC:=zB hc
  have e0:((k:Int)%5==0)=true:=by simp; omega
  clear hc
  go_wp2_with fail
  go_ret
  exact ⟨⟨_,rfl,zB (by rw [<- zA HK]; simp [zEF,zA HC])⟩,H1,HP1⟩
 ·have HC:=zB hc
  have e0:((k:Int)%5==0)=false:=by simp; omega
  have e1:((k:Int)%5==1)=true:=by simp; omega
  clear hc
  go_wp2_with fail
  go_ret
  exact ⟨⟨_,rfl,zB (by rw [<- zA HK]; simp [zEF,zA HC])⟩,H1,HP1⟩
 ·have HC:=zB hc
  have e0:((k:Int)%5==0)=false:=by simp; omega
  have e1:((k:Int)%5==1)=false:=by simp; omega
  have e2:((k:Int)%5==2)=true:=by simp; omega
  clear hc
  go_wp2_with fail
  go_ret
  exact ⟨⟨_,rfl,zB (by rw [<- zA HK]; simp [zEF,zA HC])⟩,H1,HP1⟩
 ·have HC:=zB hc
  have e0:((k:Int)%5==0)=false:=by simp; omega
  have e1:((k:Int)%5==1)=false:=by simp; omega
  have e2:((k:Int)%5==2)=false:=by simp; omega
  have e3:((k:Int)%5==3)=true:=by simp; omega
  clear hc
  go_wp2_with fail
  go_ret
  exact ⟨⟨_,rfl,zB (by rw [<- zA HK]; simp [zEF,zA HC])⟩,H1,HP1⟩
 ·have HC:=zB hc
  have e0:((k:Int)%5==0)=false:=by simp; omega
  have e1:((k:Int)%5==1)=false:=by simp; omega
  have e2:((k:Int)%5==2)=false:=by simp; omega
  have e3:((k:Int)%5==3)=false:=by simp; omega
  clear hc
  go_wp2_with fail
  go_ret
  exact ⟨⟨_,rfl,zB (by rw [<- zA HK]; simp [zEF,zA HC])⟩,H1,HP1⟩
def zD2 (a b:JZ):Bool:=
 if a.size=0\/b.size=0 then false
 else if sgB (a.data.getD 0 0)=true\/sgB (b.data.getD 0 0)=true then (sgB (a.data.getD 0 0)&&sgB (b.data.getD 0 0))
 else decide (a≠⟨#[40]⟩/\a≠⟨#[41]⟩/\b≠⟨#[40]⟩/\b≠⟨#[41]⟩)
theorem zEH (a b:JZ) (w:JY) :
  Calls Tryz.prog 72 #[.string a,.string b] w fun e w'=>e = .returned (.bool (zD2 a b))/\w'=w:=by
 by_cases ha:a.size=0
 ·have ea:a=⟨#[]⟩:=ByteArray.size_eq_zero_iff.1 ha
  have hm:zD2 a b=false:=by unfold zD2; rw [yO (yQ ha)]
  rw [hm]
  subst ea
  go_enter Tryz.func72,Tryz.ntmps72
  go_wp2_with fail
  go_ret
  exact ⟨rfl,rfl⟩
 by_cases hb:b.size=0
 ·have eb:b=⟨#[]⟩:=ByteArray.size_eq_zero_iff.1 hb
  have hm:zD2 a b=false:=by unfold zD2; rw [yO (yR hb)]
  rw [hm]
  have na:¬ a=⟨#[]⟩:=fun e=>ha (by rw [e]; rfl)
  have na':¬ a.toList=[]:=fun e=>na (zAT (by rw [e,yC]))
  subst eb
  clear ha hb
  go_enter Tryz.func72,Tryz.ntmps72
  go_wp2_with fail
  go_ret
  exact ⟨rfl,rfl⟩
 have na:¬ a=⟨#[]⟩:=fun e=>ha (by rw [e]; rfl)
 have na':¬ a.toList=[]:=fun e=>na (zAT (by rw [e,yC]))
 have nb:¬ b=⟨#[]⟩:=fun e=>hb (by rw [e]; rfl)
 have nb':¬ b.toList=[]:=fun e=>nb (zAT (by rw [e,yC]))
 have la:(0:Int)<(a.size:Int):=by omega
 have lb:(0:Int)<(b.size:Int):=by omega
 have la0:0<a.size:=by omega
 have lb0:0<b.size:=by omega
 have xa:a.data.getD 0 0=a[0]:=by
  show a.data.getD 0 0=a.data[0]
  unfold Array.getD
  rw [dif_pos (show 0<a.data.size from la0)]
  rfl
 have xb:b.data.getD 0 0=b[0]:=by
  show b.data.getD 0 0=b.data[0]
  unfold Array.getD
  rw [dif_pos (show 0<b.data.size from lb0)]
  rfl
 have hm:zD2 a b=if sgB a[0]=true\/sgB b[0]=true then (sgB a[0]&&sgB b[0]) else decide (a≠⟨#[40]⟩/\a≠⟨#[41]⟩/\b≠⟨#[40]⟩/\b≠⟨#[41]⟩):=by unfold zD2; rw [yN (by omega),xa,xb]
 obtain ⟨M,HM⟩:∃ M,Hid (zD2 a b=M):=⟨_,zB rfl⟩
 rw [zA HM]
 have HE:=zB (hm.symm.trans (zA HM))
 have ea:a.toList.isEmpty=false:=by cases h:a.toList with | nil=>exact yP h na' | cons x r=>rfl
 have eb:b.toList.isEmpty=false:=by cases h:b.toList with | nil=>exact yP h nb' | cons x r=>rfl
 clear hm xa xb
 cases ca:sgB a[0] with
 | true=>
  cases cb:sgB b[0] with
  | true=>
   have HV:=zB (show M=true by rw [<- zA HE,ca,cb]; rfl)
   go_enter Tryz.func72,Tryz.ntmps72
   go_wp2_with (go_at_call 80; refine (Zc _ _).mono ?_; rintro e w' ⟨rfl,rfl⟩)
   go_ret
   exact ⟨by rw [zA HV]; rfl,rfl⟩
  | false=>
   have HV:=zB (show M=false by rw [<- zA HE,ca,cb]; rfl)
   go_enter Tryz.func72,Tryz.ntmps72
   go_wp2_with (go_at_call 80; refine (Zc _ _).mono ?_; rintro e w' ⟨rfl,rfl⟩)
   go_ret
   exact ⟨by rw [zA HV]; rfl,rfl⟩
 | false=>
  cases cb:sgB b[0] with
  | true=>
   have HV:=zB (show M=false by rw [<- zA HE,ca,cb]; rfl)
   go_enter Tryz.func72,Tryz.ntmps72
   go_wp2_with (go_at_call 80; refine (Zc _ _).mono ?_; rintro e w' ⟨rfl,rfl⟩)
   go_ret
   exact ⟨by rw [zA HV]; rfl,rfl⟩
  | false=>
   have t40:∀ x:JZ,x=⟨#[40]⟩↔x.toList=[40]:=fun x=>⟨fun e=>by rw [e,yC],fun e=>zAT (by rw [e,yC])⟩
   have t41:∀ x:JZ,x=⟨#[41]⟩↔x.toList=[41]:=fun x=>⟨fun e=>by rw [e,yC],fun e=>zAT (by rw [e,yC])⟩
   have HV:=zB (show M=((!a.toList==[40])&&(!a.toList==[41])&&(!b.toList==[40])&&(!b.toList==[41])) by
    rw [<- zA HE,ca,cb,yN (by simp)]
    simp only [ne_eq,t40,t41]
    rw [Bool.eq_iff_iff]
    simp [and_assoc])
   clear t40 t41 HE HM
   go_enter Tryz.func72,Tryz.ntmps72
   go_wp2_with (go_at_call 80; refine (Zc _ _).mono ?_; rintro e w' ⟨rfl,rfl⟩)
   all_goals
    go_ret
    refine ⟨?_,rfl⟩
    rw [zA HV]
    clear HV
    simp_all
def zDT (ws:List JZ) (i k:Nat):ByteArray:=if 0<i/\(zEF k).size=0/\zD2 (atB ws (i-1)) (atB ws i)=true then ⟨#[32]⟩ else zEF k
def zAS (bs:List UInt8) (ws:List JZ) (p:Nat):Nat->ByteArray×Nat
 | 0=>(zEF (nxt bs p),adv bs p)
 | i+1=>((zAS bs ws p i).1++zDT ws i (nxt bs (zAS bs ws p i).2)++atB ws i,adv bs (zAS bs ws p i).2)
theorem zIH (ws:List JZ) (i k:Nat):(zDT ws i k).size<=2:=by
 unfold zDT
 split
 ·decide
 ·exact zBy k
theorem zII (bs:List UInt8) (ws:List JZ) (p:Nat) (h:∀ i,(atB ws i).size<=20000):∀ i,(zAS bs ws p i).1.size<=2+20002*i
 | 0=>by have:=zBy (nxt bs p); simp only [zAS]; omega
 | i+1=>by
  have h1:=zII bs ws p h i
  have h2:=zIH ws i (nxt bs (zAS bs ws p i).2)
  have h3:=h i
  show ((zAS bs ws p i).1++zDT ws i (nxt bs (zAS bs ws p i).2)++atB ws i).size<=_
  rw [ByteArray.size_append,ByteArray.size_append]
  omega
def Zo (a b:OpR):Bool:=a.s.toList==b.s.toList&&a.k==b.k&&a.l==b.l&&a.sd==b.sd
theorem zu {a b:OpR}:Zo a b=true↔a=b:=by
 obtain ⟨s,k,l,sd⟩:=a
 obtain ⟨s',k',l',sd'⟩:=b
 simp only [Zo,Bool.and_eq_true,beq_iff_eq]
 constructor
 ·rintro ⟨⟨⟨h1,h2⟩,h3⟩,h4⟩
  rw [zAT h1,h2,h3,h4]
 ·intro h
  injection h with h1 h2 h3 h4
  exact ⟨⟨⟨by rw [h1],h2⟩,h3⟩,h4⟩
theorem zJ6:Tryz.prog.underlying 57=some (.struct (Tryz.prog.fieldsOf 57)):=by kernel_rfl
theorem zN3:Tryz.prog.stoodInHeld 57=false:=by kernel_rfl
theorem zMH:Tryz.prog.eqGuardType Tryz.prog.depth 57=false:=by kernel_rfl
theorem zIJ (a b:OpR) (w:JY) :
  (binOp .eql 57 (.agg #[.string a.s,.int .i64 a.k,.int .i64 a.l,.int .i64 a.sd]) (.agg #[.string b.s,.int .i64 b.k,.int .i64 b.l,.int .i64 b.sd])).run Tryz.prog w = .ok (.bool (Zo a b)) w:=by
 rw [run_eql_struct,run_equalIn_agg _ _ _ _ _ zJ6 zN3]
 unfold Program.fieldsOf Zo
 rw [Tryz.underlying57]
 cases h1:(a.s.toList==b.s.toList) <;> cases h2:(a.k==b.k) <;> cases h3:(a.l==b.l) <;> cases h4:(a.sd==b.sd) <;> simp [go_sem,h1,h2,h3,h4]
theorem zMv (g cap k:Nat) (zs:List OpR) (o:OpR) (w:JY) (hm:zs.length<=1048576) (hk:k<=zs.length) (hw:Ops w g 0 zs) (hB:g<w.heap.size) :
  Calls Tryz.prog 57 #[.slice (some ⟨g,0,none⟩) k cap,.agg #[.string o.s,.int .i64 o.k,.int .i64 o.l,.int .i64 o.sd]] w fun e w'=>(∃ v,e = .returned (.bool v)/\(v=true↔∃ j,j<k/\atO zs j=o))/\Below w.heap.size w w':=by
 go_enter Tryz.func57,Tryz.ntmps57
 go_wp2
 go_loopw [5] (fun i wr=>∃ n:Nat,n<=k/\i = .int .i64 (n:Int)/\Hid (∀ j,j<n->atO zs j≠o)/\Below (w.heap.size+1) (w.alloc (.cells #[.string o.s,.int .i64 o.k,.int .i64 o.l,.int .i64 o.sd] 57)) wr) (fun i _=>k-(intOf i).toNat)
 case atStart=>exact ⟨0,yj _,rfl,zB (fun j h=>(by omega)),yG _ _⟩
 case round=>
  obtain ⟨n,hn,rfl,q,H⟩:=hrel
  by_cases x:n<k
  ·obtain ⟨a0,a1,a2,a3⟩:=((hw n (by omega)).below (zC _ _) hB).below H (by omega)
   simp only [yV] at a0 a1 a2 a3
   have c0:wr.cell? ⟨w.heap.size,0,none⟩=some (.string o.s):=by rw [H.cell (p:=⟨w.heap.size,0,none⟩) (show w.heap.size<_ by omega)]; simp [go_sem]
   have c1:wr.cell? ⟨w.heap.size,1,none⟩=some (.int .i64 o.k):=by rw [H.cell (p:=⟨w.heap.size,1,none⟩) (show w.heap.size<_ by omega)]; simp [go_sem]
   have c2:wr.cell? ⟨w.heap.size,2,none⟩=some (.int .i64 o.l):=by rw [H.cell (p:=⟨w.heap.size,2,none⟩) (show w.heap.size<_ by omega)]; simp [go_sem]
   have c3:wr.cell? ⟨w.heap.size,3,none⟩=some (.int .i64 o.sd):=by rw [H.cell (p:=⟨w.heap.size,3,none⟩) (show w.heap.size<_ by omega)]; simp [go_sem]
   have y:(n:Int)<(k:Int):=by omega
   have K:=zB H
   clear H
   have hq:=fun W=>zIJ (atO zs n) o W
   have hg:=zMH
   go_wp2_with fail
   go_quiet (fail)
   clear hq hg
   cases hsm:Zo (atO zs n) o
   ·have Q:=zB (show atO zs n≠o from fun e=>by rw [zu.2 e] at hsm; cases hsm)
    go_wp2
    refine ⟨⟨n+1,by omega,by go_num,zB ?_,below_drewN (zA K) nq⟩,by simp [intOf]; omega⟩
    intro j hj
    by_cases e:j=n
    ·subst e; exact zA Q
    ·exact (zA q) j (by omega)
   ·have X:=zB (zu.1 hsm)
    go_wp2
    go_ret
    exact ⟨⟨true,rfl,⟨fun _=>⟨n,x,zA X⟩,fun _=>rfl⟩⟩,below_drewN ((zC _ _).trans ((zA K).mono (by omega))) nq⟩
  ·go_wp2
   go_ret
   refine ⟨⟨false,rfl,⟨fun h=>(by cases h),fun ⟨j,hj,he⟩=>yP he ((zA q) j (by omega))⟩⟩,(zC _ _).trans (H.mono (by omega))⟩
def zAR (zs:List OpR):Nat->List OpR
 | 0=>[]
 | k+1=>if (List.range k).any (fun j=>Zo (atO zs j) (atO zs k)) then zAR zs k else zAR zs k++[atO zs k]
theorem zMI (h:∃ j,j<k/\atO zs j=atO zs k):zAR zs (k+1)=zAR zs k:=by
 obtain ⟨j,hj,e⟩:=h
 have hp:((List.range k).any fun j=>Zo (atO zs j) (atO zs k))=true:=by
  rw [List.any_eq_true]
  exact ⟨j,List.mem_range.2 hj,zu.2 e⟩
 show (if _ then _ else _)=_
 rw [yO hp]
theorem zJ7 (h:¬ ∃ j,j<k/\atO zs j=atO zs k):zAR zs (k+1)=zAR zs k++[atO zs k]:=by
 have hp:¬ ((List.range k).any fun j=>Zo (atO zs j) (atO zs k))=true:=by
  rw [List.any_eq_true]
  rintro ⟨j,hj,e⟩
  exact h ⟨j,List.mem_range.1 hj,zu.1 e⟩
 show (if _ then _ else _)=_
 rw [yN hp]
theorem zMJ (zs:List OpR):∀ k,(zAR zs k).length<=k
 | 0=>yh _
 | k+1=>by
  have:=zMJ zs k
  unfold zAR
  split
  ·omega
  ·simp; omega
def zCS (h:List OpR) (o:OpR):List OpR:=if h.any (fun x=>Zo x o)=true then h else h++[o]
def zV (h xs:List OpR):List OpR:=xs.foldl zCS h
theorem zJ8:acc.any (fun x=>Zo x o)=true↔o∈acc:=by
 rw [List.any_eq_true]
 constructor
 ·rintro ⟨x,h1,h2⟩; rw [<- zu.1 h2]; exact h1
 ·intro h; exact ⟨o,h,zu.2 rfl⟩
theorem zB9 (h:o∈acc):zCS acc o=acc:=by unfold zCS; rw [yO (zJ8.2 h)]
theorem zC1 (h:o ∉ acc):zCS acc o=acc++[o]:=by unfold zCS; rw [yN (fun x=>h (zJ8.1 x))]
theorem zN4 {x:OpR}:x∈zCS acc o↔x∈acc\/x=o:=by
 by_cases h:o∈acc
 ·rw [zB9 h]
  exact ⟨yQ,fun e=>e.elim id (fun e=>e ▸ h)⟩
 ·rw [zC1 h]; simp
theorem ZZ {x:OpR}:∀ (xs H:List OpR),x∈zV H xs↔x∈H\/x∈xs
 | [],H=>by simp [zV]
 | o::r,H=>by
  show x∈zV (zCS H o) r↔_
  rw [ZZ r,zN4]
  simp only [List.mem_cons]
  constructor
  ·rintro ((h | h) | h)
   ·exact yQ h
   ·exact yR (yQ h)
   ·exact yR (yR h)
  ·rintro (h | h | h)
   ·exact yQ (yQ h)
   ·exact yQ (yR h)
   ·exact yR h
theorem zGy:∀ (xs H:List OpR),(∀ o∈xs,o∈H)->zV H xs=H
 | [],_,_=>rfl
 | o::r,H,h=>by
  show zV (zCS H o) r=H
  rw [zB9 (h o (by simp))]
  exact zGy r H (fun x hx=>h x (by simp [hx]))
theorem zCT (h xs ys:List OpR):zV h (xs++ys)=zV (zV h xs) ys:=List.foldl_append
theorem zPo (h:acc.Nodup):(zCS acc o).Nodup:=by
 by_cases ho:o∈acc
 ·rw [zB9 ho]; exact h
 ·rw [zC1 ho]
  rw [List.nodup_append]
  exact ⟨h,by simp,fun a ha b hb e=>by simp at hb; subst hb; subst e; exact ho ha⟩
theorem zAK:∀ (xs H:List OpR),H.Nodup->(zV H xs).Nodup
 | [],_,h=>h
 | o::r,H,h=>zAK r _ (zPo h)
theorem zIK:∀ (xs H:List OpR),(H++xs).Nodup->zV H xs=H++xs
 | [],H,_=>by simp [zV]
 | o::r,H,h=>by
  have ho:o ∉ H:=fun ho=>by
   rw [List.nodup_append] at h
   exact h.2.2 o ho o (by simp) rfl
  show zV (zCS H o) r=_
  rw [zC1 ho,zIK r (H++[o]) (by simpa using h)]
  simp
theorem zN5 (H:List OpR) (o:OpR):H.length<=(zCS H o).length:=by
 by_cases h:o∈H
 ·rw [zB9 h]; exact yh _
 ·rw [zC1 h]; simp
theorem zEI:∀ (xs h:List OpR),h.length<=(zV h xs).length
 | [],_=>yh _
 | o::r,h=>yr (zN5 h o) (zEI r _)
theorem zAv {α:Type}:∀ (xs ys:List α),xs.Nodup->(∀ x∈xs,x∈ys)->xs.length<=ys.length
 | [],_,_,_=>yj _
 | x::r,ys,h,hs=>by
  rw [List.nodup_cons] at h
  obtain ⟨a,b,rfl⟩:=List.append_of_mem (hs x (by simp))
  have:=zAv r (a++b) h.2 (fun z hz=>by
   have h1:=hs z (by simp [hz])
   simp only [List.mem_append,List.mem_cons] at h1 ⊢
   rcases h1 with h1 | h1 | h1
   ·exact yQ h1
   ·subst h1; exact yP hz h.1
   ·exact yR h1)
  simp only [ym,yv] at *
  omega
theorem zMK (h:k<zs.length):atO zs k∈zs:=by
 unfold atO
 rw [yk,yn h]
 exact List.getElem_mem h
theorem zPp (h:k<zs.length):zs.take (k+1)=zs.take k++[atO zs k]:=by
 rw [List.take_add_one,yn h]
 unfold atO
 rw [yk,yn h]
 rfl
theorem zFn (hk:k<=zs.length):o∈zs.take k↔∃ j,j<k/\atO zs j=o:=by
 constructor
 ·intro h
  obtain ⟨j,hj,e⟩:=List.getElem_of_mem h
  have H:j<k:=by rw [List.length_take] at hj; omega
  refine ⟨j,H,?_⟩
  rw [<- e,List.getElem_take]
  unfold atO
  rw [yk,yn (by omega)]
  rfl
 ·rintro ⟨j,hj,rfl⟩
  have hl:j<(zs.take k).length:=by rw [List.length_take]; omega
  have:(zs.take k)[j]=atO zs j:=by
   rw [List.getElem_take]
   unfold atO
   rw [yk,yn (by omega)]
   rfl
  rw [<- this]
  exact List.getElem_mem hl
theorem zI6 (zs:List OpR):∀ k,k<=zs.length->zAR zs k=zV [] (zs.take k)
 | 0,_=>by simp [zAR,zV]
 | k+1,hk=>by
  have ih:=zI6 zs k (by omega)
  rw [zPp (by omega),zCT]
  show _=zCS (zV [] (zs.take k)) (atO zs k)
  rw [<- ih]
  by_cases h:∃ j,j<k/\atO zs j=atO zs k
  ·rw [zMI h,zB9]
   rw [ih,ZZ]
   exact yR ((zFn (by omega)).2 h)
  ·rw [zJ7 h,zC1]
   rw [ih,ZZ]
   rintro (h1 | h1)
   ·cases h1
   ·exact h ((zFn (by omega)).1 h1)
theorem zPq {t s:List OpR} (ht:t.Nodup):zAR (t++s) (t++s).length=zV t s:=by
 rw [zI6 _ _ (yh _),List.take_length,zCT,zIK t [] (by simpa using ht)]
 rfl
def Pth (E:Nat->Nat->Prop):Nat->Nat->Nat->Prop
 | 0,i,j=>E i j
 | k+1,i,j=>∃ m,E i m/\Pth E k m j
def TC (E:Nat->Nat->Prop) (i j:Nat):Prop:=∃ k,Pth E k i j
theorem Pth.trans {E:Nat->Nat->Prop}:∀ {k l i j m:Nat},Pth E k i m->Pth E l m j->TC E i j
 | 0,l,i,j,m,h1,h2=>⟨l+1,m,h1,h2⟩
 | k+1,l,i,j,m,h1,h2=>by
  obtain ⟨q,h3,h4⟩:=h1
  obtain ⟨n,h5⟩:=Pth.trans h4 h2
  exact ⟨n+1,q,h3,h5⟩
theorem TC.trans {E:Nat->Nat->Prop} {i j m:Nat} (h1:TC E i m) (h2:TC E m j):TC E i j:=by
 obtain ⟨k,h1⟩:=h1
 obtain ⟨l,h2⟩:=h2
 exact h1.trans h2
theorem TC.one {E:Nat->Nat->Prop} {j:Nat} (h:E i j):TC E i j:=⟨0,h⟩
theorem TC.closed {E:Nat->Nat->Prop} {P:Nat->Prop} (hc:∀ i j,P i->E i j->P j):∀ {k i j:Nat},Pth E k i j->(∀ m,E i m->P m)->P j
 | 0,i,j,h,h0=>h0 j h
 | k+1,i,j,h,h0=>by
  obtain ⟨m,h1,h2⟩:=h
  exact TC.closed hc h2 (fun q hq=>hc m q (h0 m h1) hq)
def wr1 (M:Nat->Nat->Bool) (m:Nat):Nat->Nat->Bool:=fun i j=>M i j||(M i m&&M m j)
def wrN (M:Nat->Nat->Bool):Nat->Nat->Nat->Bool
 | 0=>M
 | m+1=>wr1 (wrN M m) m
theorem zDr {E:Nat->Nat->Prop} {M:Nat->Nat->Bool} (h:∀ i j,M i j=true->TC E i j):∀ m i j,wrN M m i j=true->TC E i j
 | 0,i,j,hm=>h i j hm
 | m+1,i,j,hm=>by
  simp only [wrN,wr1,Bool.or_eq_true,Bool.and_eq_true] at hm
  rcases hm with hm | ⟨h1,h2⟩
  ·exact zDr h m i j hm
  ·exact (zDr h m _ _ h1).trans (zDr h m _ _ h2)
theorem zGz {M:Nat->Nat->Bool}:∀ m i j,M i j=true->wrN M m i j=true
 | 0,_,_,h=>h
 | m+1,i,j,h=>by
  simp only [wrN,wr1,Bool.or_eq_true]
  exact yQ (zGz m i j h)
theorem zIL {M:Nat->Nat->Bool}:∀ m k,k<m->∀ i j,wrN M m i k=true->wrN M m k j=true->wrN M m i j=true
 | 0,k,hk,_,_,_,_=>by omega
 | m+1,k,hk,i,j,h1,h2=>by
  simp only [wrN,wr1,Bool.or_eq_true,Bool.and_eq_true] at h1 h2 ⊢
  by_cases e:k=m
  ·subst e
   have a:wrN M k i k=true:=by rcases h1 with h | ⟨h,_⟩ <;> exact h
   have b:wrN M k k j=true:=by rcases h2 with h | ⟨_,h⟩ <;> exact h
   exact yR ⟨a,b⟩
  ·have ih:=zIL (M:=M) m k (by omega)
   rcases h1 with h1 | ⟨h1,K⟩ <;> rcases h2 with h2 | ⟨h2,H⟩
   ·exact yQ (ih i j h1 h2)
   ·exact yR ⟨ih i m h1 h2,H⟩
   ·exact yR ⟨h1,ih m j K h2⟩
   ·exact yR ⟨h1,H⟩
theorem zRF {n:Nat} {E:Nat->Nat->Prop} {M:Nat->Nat->Bool} (hM:∀ i j,M i j=true↔E i j) (hE:∀ i j,E i j->i<n/\j<n) (i j:Nat):wrN M n i j=true↔TC E i j:=by
 refine ⟨zDr (fun i j h=>TC.one ((hM i j).1 h)) n i j,?_⟩
 rintro ⟨k,hk⟩
 induction k generalizing i with
 | zero=>exact zGz n i j ((hM i j).2 hk)
 | succ k ih=>
  obtain ⟨m,h1,h2⟩:=hk
  exact zIL n m (hE _ _ h1).2 i j (zGz n i m ((hM i m).2 h1)) (ih m h2)
def rkW (W:Nat->Nat->Bool) (n i:Nat):Nat:=((List.range n).filter (fun j=>W i j)).length
theorem zFM {p q:Nat->Bool}:∀ (l:List Nat),(∀ x∈l,q x=true->p x=true)->(∃ x∈l,p x=true/\q x=false)->(l.filter q).length<(l.filter p).length
 | [],_,h=>by obtain ⟨x,h,_⟩:=h; cases h
 | a::r,hs,h=>by
  have k:(r.filter q).length<=(r.filter p).length:=by
   have:∀ (l:List Nat),(∀ x∈l,q x=true->p x=true)->(l.filter q).length<=(l.filter p).length:=by
    intro l
    induction l with
    | nil=>intro _; exact yh _
    | cons b t ih=>
     intro hb
     have:=ih (fun x hx=>hb x (by simp [hx]))
     have H:=hb b (by simp)
     by_cases h1:q b=true
     ·rw [List.filter_cons_of_pos h1,List.filter_cons_of_pos (H h1)]; simp; omega
     ·by_cases h2:p b=true
      ·rw [List.filter_cons_of_neg h1,List.filter_cons_of_pos h2]; simp; omega
      ·rw [List.filter_cons_of_neg h1,List.filter_cons_of_neg h2]; exact this
   exact this r (fun x hx=>hs x (by simp [hx]))
  have ha:=hs a (by simp)
  obtain ⟨x,hx,h1,h2⟩:=h
  rcases List.mem_cons.1 hx with rfl | hx
  ·rw [List.filter_cons_of_pos h1,List.filter_cons_of_neg (by simp [h2])]
   simp; omega
  ·have ih:=zFM r (fun y hy=>hs y (by simp [hy])) ⟨x,hx,h1,h2⟩
   by_cases h3:q a=true
   ·rw [List.filter_cons_of_pos h3,List.filter_cons_of_pos (ha h3)]; simp; omega
   ·by_cases h4:p a=true
    ·rw [List.filter_cons_of_neg h3,List.filter_cons_of_pos h4]; simp; omega
    ·rw [List.filter_cons_of_neg h3,List.filter_cons_of_neg h4]; exact ih
theorem zPr {n:Nat} {E:Nat->Nat->Prop} (hW:∀ i j,W i j=true↔TC E i j) {j:Nat} (he:E i j) (hj:j<n) (hn:¬ TC E j j):rkW W n j<rkW W n i:=by
 unfold rkW
 refine zFM _ (fun x _ h=>(hW i x).2 ((TC.one he).trans ((hW j x).1 h))) ⟨j,List.mem_range.2 hj,(hW i j).2 (TC.one he),?_⟩
 cases h:W j j
 ·rfl
 ·exact yP ((hW j j).1 h) hn
theorem zRv {n:Nat} {E:Nat->Nat->Prop} (hW:∀ i j,W i j=true↔TC E i j) (hi:i<n) (hn:¬ TC E i i):rkW W n i<n:=by
 have h:=zFM (p:=fun _=>true) (q:=fun j=>W i j) (List.range n) (fun _ _ _=>rfl) ⟨i,List.mem_range.2 hi,rfl,by
  cases h:W i i
  ·rfl
  ·exact yP ((hW i i).1 h) hn⟩
 have e:((List.range n).filter (fun _=>true)).length=n:=by rw [List.filter_eq_self.2 (fun _ _=>rfl),List.length_range]
 rw [e] at h
 exact h
def Za (nm:ByteArray->Nat) (S:Nat->List OpR) (h:List OpR) (us:List JZ):List OpR:=us.foldl (fun a u=>zV a (S (nm u))) h
theorem zAz (nm:ByteArray->Nat) (S:Nat->List OpR) (h:List OpR) (u:JZ) (r:List JZ):Za nm S h (u::r)=Za nm S (zV h (S (nm u))) r:=rfl
theorem zG0 (nm:ByteArray->Nat) (S:Nat->List OpR) (h:List OpR) (us:List JZ) (u:JZ):Za nm S h (us++[u])=zV (Za nm S h us) (S (nm u)):=by
 unfold Za; rw [List.foldl_append]; rfl
theorem zIM (nm:ByteArray->Nat) (S:Nat->List OpR):∀ (us:List JZ) (h:List OpR),h.length<=(Za nm S h us).length
 | [],_=>yh _
 | u::r,h=>yr (zEI _ h) (zIM nm S r _)
theorem zDU (nm:ByteArray->Nat) (S:Nat->List OpR):∀ (us:List JZ) (H:List OpR),H.Nodup->(Za nm S H us).Nodup
 | [],_,h=>h
 | u::r,H,h=>zDU nm S r _ (zAK _ _ h)
theorem zDs (nm:ByteArray->Nat) (S:Nat->List OpR) {x:OpR}:∀ (us:List JZ) (H:List OpR),x∈Za nm S H us↔x∈H\/∃ u∈us,x∈S (nm u)
 | [],H=>by simp [Za]
 | u::r,H=>by
  rw [zAz,zDs nm S r,ZZ]
  simp only [List.mem_cons,exists_eq_or_imp]
  constructor
  ·rintro ((h | h) | h)
   ·exact yQ h
   ·exact yR (yQ h)
   ·exact yR (yR h)
  ·rintro (h | h | h)
   ·exact yQ (yQ h)
   ·exact yQ (yR h)
   ·exact yR h
theorem zDV {nm:ByteArray->Nat} {S T:Nat->List OpR}:∀ (us:List JZ) (H:List OpR),(∀ u∈us,S (nm u)=T (nm u))->Za nm S H us=Za nm T H us
 | [],_,_=>rfl
 | u::r,H,h=>by
  rw [zAz,zAz,h u (by simp)]
  exact zDV r _ (fun x hx=>h x (by simp [hx]))
def zAO (h:List JZ) (u:JZ):List ByteArray:=if h.any (fun x=>decide (x=u))=true then h else h++[u]
def dst (us:List JZ):List ByteArray:=us.foldl zAO []
theorem zML {H:List JZ}:H.any (fun x=>decide (x=u))=true↔u∈H:=by
 rw [List.any_eq_true]
 constructor
 ·rintro ⟨x,h1,h2⟩; rw [<- of_decide_eq_true h2]; exact h1
 ·intro h; exact ⟨u,h,decide_eq_true rfl⟩
theorem zBh {H:List JZ} (h:u∈H):zAO H u=H:=by unfold zAO; rw [yO (zML.2 h)]
theorem zBZ {H:List JZ} (h:u ∉ H):zAO H u=H++[u]:=by unfold zAO; rw [yN (fun x=>h (zML.1 x))]
theorem zN6 {H:List JZ} {x:JZ}:x∈zAO H u↔x∈H\/x=u:=by
 by_cases h:u∈H
 ·rw [zBh h]; exact ⟨yQ,fun e=>e.elim id (fun e=>e ▸ h)⟩
 ·rw [zBZ h]; simp
theorem zAo {x:JZ}:∀ (us H:List JZ),x∈us.foldl zAO H↔x∈H\/x∈us
 | [],H=>by simp
 | u::r,H=>by
  rw [List.foldl_cons,zAo r,zN6]
  simp only [List.mem_cons]
  constructor
  ·rintro ((h | h) | h)
   ·exact yQ h
   ·exact yR (yQ h)
   ·exact yR (yR h)
  ·rintro (h | h | h)
   ·exact yQ (yQ h)
   ·exact yQ (yR h)
   ·exact yR h
theorem zPs {H:List JZ} (h:H.Nodup):(zAO H u).Nodup:=by
 by_cases ho:u∈H
 ·rw [zBh ho]; exact h
 ·rw [zBZ ho,List.nodup_append]
  exact ⟨h,by simp,fun a ha b hb e=>by simp at hb; subst hb; subst e; exact ho ha⟩
theorem zG1:∀ (us H:List JZ),H.Nodup->(us.foldl zAO H).Nodup
 | [],_,h=>h
 | u::r,H,h=>zG1 r _ (zPs h)
theorem zFN (us:List JZ):∀ (H:List JZ),(us.foldl zAO H).length<=H.length+us.length:=by
 induction us with
 | nil=>intro H; exact yh _
 | cons u r ih=>
  intro H
  rw [List.foldl_cons]
  have:=ih (zAO H u)
  have h2:(zAO H u).length<=H.length+1:=by
   by_cases h:u∈H
   ·rw [zBh h]; omega
   ·rw [zBZ h]; simp
  simp only [yv]
  omega
theorem zIN (nm:ByteArray->Nat) (S:Nat->List OpR):∀ (us D:List JZ) (a:List OpR),Za nm S a (us.foldl zAO D)=Za nm S (Za nm S a D) us
 | [],D,a=>rfl
 | u::r,D,a=>by
  rw [List.foldl_cons,zIN nm S r,zAz]
  congr 1
  by_cases h:u∈D
  ·rw [zBh h,zGy]
   intro o ho
   rw [zDs]
   exact yR ⟨u,h,ho⟩
  ·rw [zBZ h,zG0]
theorem zLH (nm:ByteArray->Nat) (S:Nat->List OpR) (us:List JZ) (a:List OpR):Za nm S a (dst us)=Za nm S a us:=zIN nm S us [] a
def zCF (nm:ByteArray->Nat) (T:Nat->List OpR):List OpR->List ByteArray->List OpR
 | acc,[]=>acc
 | acc,u::r=>if 500<acc.length then acc else zCF nm T (zV acc (T (nm u))) r
def zN7 (s t:List OpR):Prop:=(s.length<=500->t=s)/\(500<s.length->500<t.length)
theorem zIO {nm:ByteArray->Nat} {S T:Nat->List OpR}:∀ (us:List JZ) (a b:List OpR),(∀ u∈us,zN7 (S (nm u)) (T (nm u))/\(S (nm u)).Nodup/\(T (nm u)).Nodup)->zN7 a b->zN7 (Za nm S a us) (zCF nm T b us)
 | [],a,b,_,h=>h
 | u::r,a,b,hu,h=>by
  rw [zAz]
  simp only [zCF]
  obtain ⟨h1,h2,h3⟩:=hu u (by simp)
  by_cases hb:500<b.length
  ·rw [yO hb]
   have ha:500<a.length:=by
    by_cases ha:a.length<=500
    ·rw [h.1 ha] at hb; omega
    ·omega
   have hl:a.length<=(Za nm S (zV a (S (nm u))) r).length:=yr (zEI _ a) (zIM nm S r _)
   exact ⟨fun e=>by omega,fun _=>hb⟩
  ·rw [yN hb]
   have ha:a.length<=500:=by
    by_cases ha:500<a.length
    ·exact yP (h.2 ha) hb
    ·omega
   obtain rfl:=h.1 ha
   refine zIO r _ _ (fun x hx=>hu x (by simp [hx])) ?_
   by_cases hs:(S (nm u)).length<=500
   ·rw [h1.1 hs]
    exact ⟨fun _=>rfl,fun x=>x⟩
   ·have q1:=zAv (S (nm u)) (zV b (S (nm u))) h2 (fun x hx=>(ZZ _ _).2 (yR hx))
    have q2:=zAv (T (nm u)) (zV b (T (nm u))) h3 (fun x hx=>(ZZ _ _).2 (yR hx))
    have q3:=h1.2 (by omega)
    exact ⟨fun e=>by omega,fun _=>by omega⟩
theorem zMM (nm:ByteArray->Nat) (T:Nat->List OpR):∀ (us:List JZ) (b:List OpR),b.Nodup->(zCF nm T b us).Nodup
 | [],_,h=>h
 | u::r,b,h=>by
  simp only [zCF]
  split
  ·exact h
  ·exact zMM nm T r _ (zAK _ _ h)
structure zF where
 n:JZ
 t:ByteArray
variable {ms:List zF}
def zF.zero:zF:=⟨⟨#[]⟩,⟨#[]⟩⟩
def atM (xs:List zF) (i:Nat):zF:=xs.getD i zF.zero
def zI7 (w:JY) (b h:Nat) (xs:List zF) (i:Nat):Prop:=
 w.cell? ⟨b,h+i*2,none⟩=some (.string (atM xs i).n)/\w.cell? ⟨b,h+i*2+1,none⟩=some (.string (atM xs i).t)
def zJ9 (w:JY) (b h:Nat) (xs:List zF):Prop:=∀ i,i<xs.length->zI7 w b h xs i
def zG2 (xs:List zF):Prop:=∀ i,i<xs.length->(atM xs i).n.size<=maxLen/\(atM xs i).t.size<=maxLen
theorem zI7.below {w w':JY} {b H:Nat} {xs:List zF} {B:Nat} (h:zI7 w b H xs i) (hb:Below B w w') (hB:b<B):zI7 w' b H xs i:=by
 obtain ⟨h0,h1⟩:=h
 exact ⟨(hb.cell (p:=⟨b,_,none⟩) hB).trans h0,(hb.cell (p:=⟨b,_,none⟩) hB).trans h1⟩
theorem zJ9.below {w w':JY} {b H:Nat} {xs:List zF} {B:Nat} (h:zJ9 w b H xs) (hb:Below B w w') (hB:b<B):zJ9 w' b H xs:=
 fun i hi=>(h i hi).below hb hB
def zEJ (w:JY) (a:Option Addr) (xs:List zF):Prop:=xs.length=0\/∃ b off,a=some ⟨b,off,none⟩/\zJ9 w b off xs/\b<w.heap.size
theorem zEJ.below {w w':JY} {a:Option Addr} {xs:List zF} (h:zEJ w a xs) (hb:Below w.heap.size w w'):zEJ w' a xs:=by
 rcases h with h | ⟨b,H,rfl,h1,h2⟩
 ·exact yQ h
 ·exact yR ⟨b,H,rfl,h1.below hb h2,yi h2 hb.size⟩
structure UnR where
 us:List JZ
 os:List OpR
 b:ByteArray
variable {U:List UnR}
def atU (U:List UnR) (i:Nat):UnR:=U.getD i ⟨[],[],ByteArray.empty⟩
def nmF:List zF->ByteArray->Nat
 | [],_=>0
 | m::r,u=>if m.n=u then 0 else nmF r u+1
theorem zFO:∀ (ms:List zF) (u:JZ),nmF ms u<=ms.length
 | [],_=>yh _
 | m::r,u=>by
  unfold nmF
  split
  ·exact yj _
  ·have:=zFO r u; simp; omega
theorem zKA (m:zF) (r:List zF) (i:Nat):atM (m::r) (i+1)=atM r i:=by simp [atM]
theorem Z5:∀ (ms:List zF) (u:JZ),(nmF ms u<ms.length->(atM ms (nmF ms u)).n=u)/\∀ j,j<nmF ms u->(atM ms j).n≠u
 | [],_=>⟨fun h=>yP h (yt _),fun j h=>yP h (yt _)⟩
 | m::r,u=>by
  obtain ⟨h1,h2⟩:=Z5 r u
  unfold nmF
  by_cases e:m.n=u
  ·rw [yO e]
   exact ⟨fun _=>e,fun j h=>yP h (yt _)⟩
  ·rw [yN e]
   refine ⟨fun h=>?_,fun j h=>?_⟩
   ·rw [zKA]
    exact h1 (by simpa using h)
   ·cases j with
    | zero=>exact e
    | succ j=>rw [zKA]; exact h2 j (by omega)
theorem zI8 (hk:k<ms.length) (h1:(atM ms k).n=u) (h2:∀ j,j<k->(atM ms j).n≠u):nmF ms u=k:=by
 obtain ⟨g1,g2⟩:=Z5 ms u
 have H:=zFO ms u
 rcases Nat.lt_trichotomy (nmF ms u) k with h | h | h
 ·exact yP (g1 (by omega)) (h2 _ h)
 ·exact h
 ·exact yP h1 (g2 k h)
theorem zN8 (h:∀ j,j<ms.length->(atM ms j).n≠u):nmF ms u=ms.length:=by
 have H:=zFO ms u
 by_cases e:nmF ms u<ms.length
 ·exact yP ((Z5 ms u).1 e) (h _ e)
 ·omega
def Zd (ms:List zF) (U:List UnR):Prop:=U.length=ms.length/\∀ i,i<ms.length->zy (atM ms i).t (atU U i).us (atU U i).os (atU U i).b 0 0
def B2 (ms:List zF) (i:Nat):Prop:=(∃ us os b c l,zy (atM ms i).t us os b c l/\c≠0)\/¬ zA2 (atM ms i).n\/64<(atM ms i).n.size
def B3 (ms:List zF) (i:Nat):Prop:=∃ j,j<i/\(atM ms j).n=(atM ms i).n
def B4 (ms:List zF) (U:List UnR) (i:Nat):Prop:=∃ u∈(atU U i).us,∀ j,j<ms.length->(atM ms j).n≠u
def Edg (ms:List zF) (U:List UnR) (i j:Nat):Prop:=i<ms.length/\j<ms.length/\(atM ms j).n∈(atU U i).us
def ScE (ms:List zF) (U:List UnR) (S:Nat->List OpR):Prop:=∀ i,i<ms.length->S i=Za (nmF ms) S (zV [] (atU U i).os) (atU U i).us
def B6 (S:Nat->List OpR) (i:Nat):Prop:=∃ c,zR (S i) c/\c≠0
def zAg (n:Nat) (B:Nat->Prop) (P:Nat->Prop) (R:Prop):Prop:=(∃ i,i<n/\B i/\(∀ j,j<i->¬ B j)/\P i)\/((∀ i,i<n->¬ B i)/\R)
def zRw (ms:List zF) (U:List UnR) (out:List (List OpR)) (c h:Int):Prop:=
 ∃ S:Nat->List OpR,ScE ms U S/\zAg ms.length (B6 S) (fun i=>out=[]/\c=6/\h=(i:Int)) (out=(List.range ms.length).map S/\c=0/\h=0)
def zN9 (ms:List zF) (U:List UnR) (out:List (List OpR)) (c h:Int):Prop:=
 zAg ms.length (fun i=>TC (Edg ms U) i i) (fun i=>out=[]/\c=5/\h=(i:Int)) (zRw ms U out c h)
def zQu (ms:List zF) (out:List (List OpR)) (c h:Int):Prop:=
 ∃ U,Zd ms U/\zAg ms.length (B4 ms U) (fun i=>out=[]/\c=4/\h=(i:Int)) (zN9 ms U out c h)
def zOA (ms:List zF) (out:List (List OpR)) (c h:Int):Prop:=
 zAg ms.length (B3 ms) (fun i=>out=[]/\c=3/\h=(i:Int)) (zQu ms out c h)
def zz (ms:List zF) (out:List (List OpR)) (c h:Int):Prop:=
 (100<ms.length/\out=[]/\c=1/\h=100)\/(ms.length<=100/\zAg ms.length (B2 ms) (fun i=>out=[]/\c=2/\h=(i:Int)) (zOA ms out c h))
theorem ScE.nd {S:Nat->List OpR} (h:ScE ms U S) (hi:i<ms.length):(S i).Nodup:=by
 rw [h i hi]
 exact zDU _ _ _ _ (zAK _ _ (by simp))
theorem zFo (l:JZ):∀ (n i:Nat),l.size-i<n->i<=l.size->2*(zBq l i).length<=l.size-i+1
 | 0,i,hn,hi=>by omega
 | n+1,i,hn,hi=>by
  obtain ⟨g1,g2,_,_⟩:=zAP 32 l i hi
  rw [zCk l i hi,ym]
  have hr:2*(if nx 32 l i<l.size then zBq l (nx 32 l i+1) else []).length<=l.size-nx 32 l i:=by
   by_cases h:nx 32 l i<l.size
   ·rw [yO h]
    have:=zFo l n (nx 32 l i+1) (by omega) (by omega)
    omega
   ·rw [yN h]; simp
  by_cases h:i<nx 32 l i
  ·rw [yO h]; simp only [yv,yW]; omega
  ·rw [yN h]; simp only [yW]; omega
theorem zPt (l:JZ):2*(wds l).length<=l.size+1:=by
 have:=zFo l (l.size+1) 0 (by omega) (yj _)
 rw [zNP]
 omega
def zIP (ls:List (Nat×Nat)):Nat:=(ls.map fun p=>p.2-p.1).sum
theorem zMN (c:UInt8) (s:JZ):∀ (n a:Nat),s.size-a<n->a<=s.size->zIP (pcs c s a)<=s.size-a
 | 0,a,hn,ha=>by omega
 | n+1,a,hn,ha=>by
  obtain ⟨g1,g2,_,_⟩:=zAP c s a ha
  rw [zBa c s a ha]
  simp only [zIP,List.map_cons,List.sum_cons]
  by_cases h:nx c s a<s.size
  ·rw [yO h]
   have:=zMN c s n (nx c s a+1) (by omega) (by omega)
   simp only [zIP] at this
   omega
  ·rw [yN h]; simp; omega
theorem zRG (s:JZ) (a b:Nat):(s.extract a b).size<=b-a:=by
 simp only [yw]; omega
theorem UnF.ops {s:JZ}:∀ (ls:List (Nat×Nat)) (n:Nat) (us:List JZ) (os:List OpR) {u:List JZ} {o:List OpR} {b:JZ} {c l:Int},UnF s ls n us os u o b c l->5*o.length<=5*os.length+zIP ls/\(c=0->l=0)
 | [],n,us,os,_,_,_,_,_,h=>by
  obtain ⟨rfl,rfl,rfl,rfl,rfl⟩:=h
  exact ⟨by simp,fun _=>rfl⟩
 | p::r,n,us,os,u,o,b,c,l,h=>by
  simp only [zIP,List.map_cons,List.sum_cons]
  rcases h with ⟨_,rfl,rfl,rfl,rfl,rfl⟩ | ⟨_,⟨us',os',hl,h⟩ | ⟨_,rfl,rfl,rfl,rfl,rfl⟩⟩
  ·exact ⟨by omega,fun _=>rfl⟩
  ·have ih:=UnF.ops r (n+1) us' os' h
   refine ⟨?_,ih.2⟩
   have h1:=ih.1
   simp only [zIP] at h1
   rcases hl with ⟨_,rfl,rfl⟩ | ⟨x,_,rfl,rfl⟩ | ⟨o',ho,rfl,rfl⟩
   ·omega
   ·omega
   ·have h3:=ho.len
    have h4:=zPt (s.extract p.1 p.2)
    have h5:=zRG s p.1 p.2
    simp only [ym,yv,yW] at h1
    omega
  ·exact ⟨by simp,fun e=>by cases e⟩
theorem zEp {s:JZ} {u:List JZ} {o:List OpR} {c l:Int} (h:zy s u o b c l):o.length<=4000/\(c=0->l=0):=by
 rcases h with ⟨_,rfl,rfl,rfl,rfl,rfl⟩ | ⟨h0,h⟩
 ·exact ⟨by simp,fun e=>by cases e⟩
 ·have h1:=UnF.ops _ _ _ _ h
  have h2:=zMN 10 s (s.size+1) 0 (by omega) (yj _)
  exact ⟨by simp only [yW] at h1; omega,h1.2⟩
theorem zMO (c:UInt8) (s:JZ):∀ (n a:Nat),s.size-a<n->a<=s.size->(pcs c s a).length<=s.size-a+1
 | 0,a,hn,ha=>by omega
 | n+1,a,hn,ha=>by
  obtain ⟨g1,g2,_,_⟩:=zAP c s a ha
  rw [zBa c s a ha,yv]
  by_cases h:nx c s a<s.size
  ·rw [yO h]
   have:=zMO c s n (nx c s a+1) (by omega) (by omega)
   omega
  ·rw [yN h]; simp
theorem UnF.uses {s:JZ}:∀ (ls:List (Nat×Nat)) (n:Nat) (us:List JZ) (os:List OpR) {u:List JZ} {o:List OpR} {b:JZ} {c l:Int},UnF s ls n us os u o b c l->u.length<=us.length+ls.length/\((∀ x∈us,x.size<=s.size)->∀ x∈u,x.size<=s.size)
 | [],n,us,os,_,_,_,_,_,h=>by
  obtain ⟨rfl,rfl,rfl,rfl,rfl⟩:=h
  exact ⟨by simp,fun _ x hx=>by cases hx⟩
 | p::r,n,us,os,u,o,b,c,l,h=>by
  rcases h with ⟨_,rfl,rfl,rfl,rfl,rfl⟩ | ⟨_,⟨us',os',hl,h⟩ | ⟨_,rfl,rfl,rfl,rfl,rfl⟩⟩
  ·exact ⟨by simp,fun h=>h⟩
  ·have ih:=UnF.uses r (n+1) us' os' h
   rcases hl with ⟨_,rfl,rfl⟩ | ⟨x,hx,rfl,rfl⟩ | ⟨o',ho,rfl,rfl⟩
   ·exact ⟨by have:=ih.1; simp; omega,ih.2⟩
   ·refine ⟨by have:=ih.1; simp at this ⊢; omega,fun h0=>ih.2 (fun z hz=>?_)⟩
    rcases List.mem_append.1 hz with hz | hz
    ·exact h0 z hz
    ·have hm:z∈wds (s.extract p.1 p.2):=by rw [hx]; simp at hz; subst hz; simp
     unfold wds at hm
     obtain ⟨q,_,rfl⟩:=List.mem_map.1 hm
     simp only [yw]
     omega
   ·exact ⟨by have:=ih.1; simp; omega,ih.2⟩
  ·exact ⟨by simp,fun _ x hx=>by cases hx⟩
theorem zCc {s:JZ} {u:List JZ} {o:List OpR} {c l:Int} (h:zy s u o b c l):u.length<=20001/\∀ x∈u,x.size<=20000:=by
 rcases h with ⟨_,rfl,rfl,rfl,rfl,rfl⟩ | ⟨h0,h⟩
 ·exact ⟨by simp,fun x hx=>by cases hx⟩
 ·have h1:=UnF.uses _ _ _ _ h
  have h2:=zMO 10 s (s.size+1) 0 (by omega) (yj _)
  exact ⟨by simp only [yW] at h1; omega,fun x hx=>yr (h1.2 (fun y hy=>by cases hy) x hx) h0⟩
def ZS (U:List UnR):List OpR:=U.flatMap fun u=>u.os
theorem zEK:∀ (U:List UnR),(∀ u∈U,u.os.length<=4000)->(ZS U).length<=U.length*4000
 | [],_=>by simp [ZS]
 | u::r,h=>by
  have:=zEK r (fun x hx=>h x (by simp [hx]))
  have h1:=h u (by simp)
  simp only [ZS,List.flatMap_cons,ym,yv] at *
  omega
theorem zEq (h:i<U.length):atU U i∈U:=by
 unfold atU
 rw [yk,yn h]
 exact List.getElem_mem h
theorem zGI {u:UnR} (h:u∈U):∃ i,i<U.length/\atU U i=u:=by
 obtain ⟨i,hi,e⟩:=List.getElem_of_mem h
 refine ⟨i,hi,?_⟩
 unfold atU
 rw [yk,yn hi]
 exact e
theorem Zd.all (h:Zd ms U) (hn:ms.length<=100):(ZS U).length<=400000:=by
 have:=zEK U (fun u hu=>by
  obtain ⟨i,hi,rfl⟩:=zGI hu
  exact (zEp (h.2 i (by rw [<- h.1]; exact hi))).1)
 have h1:=h.1
 omega
theorem Zd.one {ms:List zF} {U U':List UnR} (h:Zd ms U) (h':Zd ms U') (i:Nat) (hi:i<ms.length):atU U i=atU U' i:=by
 obtain ⟨e1,e2,e3,_⟩:=(h.2 i hi).one (h'.2 i hi)
 cases hu:atU U i
 cases hu':atU U' i
 rw [hu] at e1 e2 e3
 rw [hu'] at e1 e2 e3
 simp only at e1 e2 e3
 rw [e1,e2,e3]
theorem zOB (h:¬ B2 ms i) {us:List JZ} {os:List OpR} {c l:Int} (hu:zy (atM ms i).t us os b c l):c=0/\l=0/\zA2 (atM ms i).n/\(atM ms i).n.size<=64:=by
 unfold B2 at h
 have hc:c=0:=by
  by_cases e:c=0
  ·exact e
  ·exact yP (yQ ⟨us,os,b,c,l,hu,e⟩) h
 refine ⟨hc,(zEp hu).2 hc,?_,?_⟩
 ·by_cases e:zA2 (atM ms i).n
  ·exact e
  ·exact yP (yR (yQ e)) h
 ·by_cases e:64<(atM ms i).n.size
  ·exact yP (yR (yR e)) h
  ·omega
def zD3 (first:Nat) (s:JZ):Prop:=1<=s.size/\cls (bt s 0)=first/\∀ j,j<s.size->zBo first (bt s j)=true
theorem zEL (first:Nat) (s:JZ) (w:JY) (hs:s.size<=maxLen) :
  Calls Tryz.prog 62 #[.int .i64 (first:Int),.string s] w fun e w'=>zBs e (zD3 first s)/\w'=w:=by
 unfold maxLen at hs
 by_cases h0:s.size=0
 ·have HN:=zB (show ¬ zD3 first s from fun h=>by have:=h.1; omega)
  obtain rfl:=zFD h0
  go_enter Tryz.func62,Tryz.ntmps62
  go_wp2_with fail
  go_ret
  exact ⟨⟨_,rfl,zc (zA HN)⟩,rfl⟩
 have x:=zFC h0
 have Q:(0:Int)<(s.size:Int):=by omega
 have K:0<s.size:=by omega
 by_cases hc:cls (bt s 0)=first
 case neg=>
  have HN:=zB (show ¬ zD3 first s from fun h=>hc h.2.1)
  have hb:=ZP K
  have X:((cls s[0]:Int) != (first:Int))=true:=by rw [hb]; simp; omega
  clear hb
  go_enter Tryz.func62,Tryz.ntmps62
  go_wp2_with (go_at_call 84; refine (Z3 _ _).mono ?_; rintro e w' ⟨rfl,hx⟩; obtain rfl:=hx.symm)
  go_ret
  exact ⟨⟨_,rfl,zc (zA HN)⟩,rfl⟩
 have HC:=zB hc
 have hb:=ZP K
 have HX:=zB (show (cls s[0]:Int)=(first:Int) by rw [hb]; omega)
 clear hb hc
 go_enter Tryz.func62,Tryz.ntmps62
 go_wp2_with (go_at_call 84; refine (Z3 _ _).mono ?_; rw [zA HX]; rintro e w' ⟨rfl,hx⟩; obtain rfl:=hx.symm)
 go_loop [17] (fun i=>∃ k:Nat,k<=s.size/\i = .int .i64 (k:Int)/\Hid (∀ j,j<k->zBo first (bt s j)=true)) (fun i=>s.size-(intOf i).toNat)
 case atStart=>exact ⟨0,yj _,rfl,zB (fun j h=>by omega)⟩
 case round=>
  obtain ⟨k,hk,rfl,hn⟩:=hrel
  by_cases H:k<s.size
  ·have q:(k:Int)<(s.size:Int):=by omega
   cases hb:zBo first s[k]
   ·have Hb:=zB (show zBo first (bt s k)=false by rw [<- ZP H]; exact hb)
    go_wp2_with (go_at_call 85; refine (zDy _ _ _).mono ?_; rintro e w' ⟨rfl,hx⟩; obtain rfl:=hx.symm)
    go_ret
    exact ⟨⟨_,rfl,zc (fun h=>by have:=h.2.2 k H; rw [zA Hb] at this; cases this)⟩,rfl⟩
   ·have Hb:=zB (show zBo first (bt s k)=true by rw [<- ZP H]; exact hb)
    go_wp2_with (go_at_call 85; refine (zDy _ _ _).mono ?_; rintro e w' ⟨rfl,hx⟩; obtain rfl:=hx.symm)
    refine ⟨⟨k+1,by omega,by go_num,zB (fun j hj=>?_)⟩,by simp [intOf]; omega⟩
    by_cases e:j=k
    ·subst e; exact zA Hb
    ·exact (zA hn) j (by omega)
  ·go_wp2_with fail
   go_ret
   exact ⟨⟨_,rfl,zAJ ⟨by omega,zA HC,fun j hj=>(zA hn) j (by omega)⟩⟩,rfl⟩
theorem zPu (s:JZ):zD3 2 s↔zD9 s:=by
 unfold zD3 zD9 zBo
 constructor
 ·rintro ⟨h1,h2,h3⟩
  refine ⟨h1,fun j hj=>?_⟩
  have:=h3 j hj
  simpa using this
 ·rintro ⟨h1,h2⟩
  exact ⟨h1,h2 0 (by omega),fun j hj=>by simp [h2 j hj]⟩
theorem zMP (s:JZ):zD3 3 s↔zA2 s:=by
 unfold zD3 zA2 zBo
 constructor
 ·rintro ⟨h1,h2,h3⟩
  refine ⟨h1,fun j hj=>?_⟩
  have:=h3 j hj
  simp at this
  by_cases e:j=0
  ·subst e; exact yQ h2
  ·omega
 ·rintro ⟨h1,h2⟩
  refine ⟨h1,?_,fun j hj=>?_⟩
  ·have:=h2 0 (by omega); omega
  ·have:=h2 j hj; simp; omega
theorem Zb (h:(t.toList==l)=true):t=⟨l.toArray⟩:=by
 have h:t.toList=l:=by simpa using h
 rw [yC] at h
 obtain ⟨d⟩:=t
 subst h
 simp
theorem zn (h:(t.toList==l)=false):t≠⟨l.toArray⟩:=fun e=>by
 subst e
 simp [yC] at h
theorem zDW (h:t≠⟨l.toArray⟩):(t.toList==l)=false:=by
 cases e:(t.toList==l)
 ·rfl
 ·exact yP (Zb e) h
def zCA (w:JZ):Int:=if w=zAB then 1 else if w=zAx then 2 else if w=Zk then 3 else 0
theorem zLI (t:JZ) (w:JY) :
  Calls Tryz.prog 56 #[.string t] w fun e w'=>e = .returned (.int .i64 (Zh t))/\w'=w:=by
 cases q1:(t.toList==[108,101,102,116])
 ·cases q2:(t.toList==[114,105,103,104,116])
  ·cases q3:(t.toList==[110,111,110,101])
   ·have HR:=zB (show Zh t=0 by unfold Zh zDB zB2 zDC; rw [yN (zn q1),yN (zn q2),yN (zn q3)])
    go_enter Tryz.func56,Tryz.ntmps56
    go_wp2
    go_ret
    exact ⟨zJ (zA HR).symm,rfl⟩
   ·have HR:=zB (show Zh t=3 by unfold Zh zDB zB2 zDC; rw [yN (zn q1),yN (zn q2),yO (Zb q3)])
    go_enter Tryz.func56,Tryz.ntmps56
    go_wp2
    go_ret
    exact ⟨zJ (zA HR).symm,rfl⟩
  ·have HR:=zB (show Zh t=2 by unfold Zh zDB zB2 zDC; rw [yN (zn q1),yO (Zb q2)])
   go_enter Tryz.func56,Tryz.ntmps56
   go_wp2
   go_ret
   exact ⟨zJ (zA HR).symm,rfl⟩
 ·have HR:=zB (show Zh t=1 by unfold Zh zDB zB2 zDC; rw [yO (Zb q1)])
  go_enter Tryz.func56,Tryz.ntmps56
  go_wp2
  go_ret
  exact ⟨zJ (zA HR).symm,rfl⟩
theorem zG3 (t:JZ) (w:JY) :
  Calls Tryz.prog 125 #[.string t] w fun e w'=>e = .returned (.int .i64 (Zh t))/\w'=w:=by
 cases q1:(t.toList==[108,101,102,116])
 ·cases q2:(t.toList==[114,105,103,104,116])
  ·cases q3:(t.toList==[110,111,110,101])
   ·have HR:=zB (show Zh t=0 by unfold Zh zDB zB2 zDC; rw [yN (zn q1),yN (zn q2),yN (zn q3)])
    go_enter Tryz.func125,Tryz.ntmps125
    go_wp2
    go_ret
    exact ⟨zJ (zA HR).symm,rfl⟩
   ·have HR:=zB (show Zh t=3 by unfold Zh zDB zB2 zDC; rw [yN (zn q1),yN (zn q2),yO (Zb q3)])
    go_enter Tryz.func125,Tryz.ntmps125
    go_wp2
    go_ret
    exact ⟨zJ (zA HR).symm,rfl⟩
  ·have HR:=zB (show Zh t=2 by unfold Zh zDB zB2 zDC; rw [yN (zn q1),yO (Zb q2)])
   go_enter Tryz.func125,Tryz.ntmps125
   go_wp2
   go_ret
   exact ⟨zJ (zA HR).symm,rfl⟩
 ·have HR:=zB (show Zh t=1 by unfold Zh zDB zB2 zDC; rw [yO (Zb q1)])
  go_enter Tryz.func125,Tryz.ntmps125
  go_wp2
  go_ret
  exact ⟨zJ (zA HR).symm,rfl⟩
theorem zG4 (t:JZ) (w:JY) :
  Calls Tryz.prog 124 #[.string t] w fun e w'=>e = .returned (.int .i64 (zCA t))/\w'=w:=by
 cases q1:(t.toList==[112,114,101,102,105,120])
 ·cases q2:(t.toList==[105,110,102,105,120])
  ·cases q3:(t.toList==[112,111,115,116,102,105,120])
   ·have HR:=zB (show zCA t=0 by unfold zCA zAB zAx Zk; rw [yN (zn q1),yN (zn q2),yN (zn q3)])
    go_enter Tryz.func124,Tryz.ntmps124
    go_wp2
    go_ret
    exact ⟨zJ (zA HR).symm,rfl⟩
   ·have HR:=zB (show zCA t=3 by unfold zCA zAB zAx Zk; rw [yN (zn q1),yN (zn q2),yO (Zb q3)])
    go_enter Tryz.func124,Tryz.ntmps124
    go_wp2
    go_ret
    exact ⟨zJ (zA HR).symm,rfl⟩
  ·have HR:=zB (show zCA t=2 by unfold zCA zAB zAx Zk; rw [yN (zn q1),yO (Zb q2)])
   go_enter Tryz.func124,Tryz.ntmps124
   go_wp2
   go_ret
   exact ⟨zJ (zA HR).symm,rfl⟩
 ·have HR:=zB (show zCA t=1 by unfold zCA zAB zAx Zk; rw [yO (Zb q1)])
  go_enter Tryz.func124,Tryz.ntmps124
  go_wp2
  go_ret
  exact ⟨zJ (zA HR).symm,rfl⟩
def zDX (t:JZ):Bool:=decide (t.size<=6)&&zPS t
def zG5 (t:JZ):Int:=if zDX t=true then (Zy t t.size:Int) else -1
theorem zCd (t:JZ):zDX t=true↔zNQ t:=by
 unfold zDX zNQ
 rw [Bool.and_eq_true,Zj,decide_eq_true_iff]
 unfold zD9
 constructor
 ·rintro ⟨h1,h2,h3⟩
  exact ⟨h2,h1,fun i hi=>(zCj _).1 (h3 i hi)⟩
 ·rintro ⟨h1,h2,h3⟩
  exact ⟨h2,h1,fun i hi=>(zCj _).2 (h3 i hi)⟩
theorem zC9 (t:JZ) (w:JY) (hs:t.size<=maxLen) :
  Calls Tryz.prog 122 #[.string t] w fun e w'=>e = .returned (.bool (zDX t))/\w'=w:=by
 by_cases h6:t.size<=6
 ·have h:(t.size:Int)<=6:=by omega
  have HE:=zB (show ∀ v,zDx v (zD3 2 t)->v=zDX t from fun v hv=>by
   have:(v=true↔zDX t=true):=by
    rw [zCd]
    unfold zDx at hv
    rw [hv,zPu]
    unfold zD9 zNQ
    constructor
    ·rintro ⟨a,b⟩; exact ⟨a,h6,fun i hi=>(zCj _).1 (b i hi)⟩
    ·rintro ⟨a,_,b⟩; exact ⟨a,fun i hi=>(zCj _).2 (b i hi)⟩
   exact Bool.eq_iff_iff.2 this)
  go_enter Tryz.func122,Tryz.ntmps122
  go_wp2_with (go_at_call 62; refine (zEL 2 _ _ hs).mono ?_; rintro e w' ⟨⟨v,rfl,hv⟩,hx⟩; obtain rfl:=hx.symm; have HV:=zB hv; clear hv)
  go_ret
  exact ⟨zj ((zA HE) _ (zA HV)),rfl⟩
 ·have h:¬ (t.size:Int)<=6:=by omega
  have HE:=zB (show zDX t=false by unfold zDX; simp [h6])
  unfold maxLen at hs
  go_enter Tryz.func122,Tryz.ntmps122
  go_wp2
  go_ret
  exact ⟨zj (zA HE).symm,rfl⟩
theorem zDY (t:JZ) (w:JY) (hs:t.size<=maxLen) :
  Calls Tryz.prog 55 #[.string t] w fun e w'=>e = .returned (.int .i64 (zG5 t))/\w'=w:=by
 by_cases hn:zD9 t
 case neg=>
  have HR:=zB (show zG5 t = -1 by
   unfold zG5
   rw [yN]
   rw [zCd]
   exact fun h=>hn ⟨h.1,fun i hi=>(zCj _).2 (h.2.2 i hi)⟩)
  have HN:=zB hn
  clear hn
  go_enter Tryz.func55,Tryz.ntmps55
  go_wp2_with (go_at_call 79; refine (zAW _ _ hs).mono ?_; rintro e w' ⟨⟨v,rfl,hv⟩,hx⟩; obtain rfl:=hx.symm; obtain rfl:v=false:=(by cases v; rfl; exact yP (hv.1 rfl) (zA HN)); clear hv)
  go_ret
  exact ⟨zJ (zA HR).symm,rfl⟩
 by_cases h6:t.size<=6
 case neg=>
  have Q:(6:Int)<(t.size:Int):=by omega
  have HR:=zB (show zG5 t = -1 by
   unfold zG5 zDX
   simp [h6])
  have HN:=zB hn
  have X:=hs
  unfold maxLen at X
  clear hn
  go_enter Tryz.func55,Tryz.ntmps55
  go_wp2_with (go_at_call 79; refine (zAW _ _ hs).mono ?_; rintro e w' ⟨⟨v,rfl,hv⟩,hx⟩; obtain rfl:=hx.symm; obtain rfl:v=true:=(by cases v; exact (hv.2 (zA HN)); rfl); clear hv)
  go_ret
  exact ⟨zJ (zA HR).symm,rfl⟩
 have Q:(t.size:Int)<=6:=by omega
 have H:∀ i,i<t.size->48<=(bt t i).toNat/\(bt t i).toNat<=57:=fun i hi=>(zCj _).1 (hn.2 i hi)
 have K:∀ k,k<=t.size->Zy t k<1000000:=fun k hk=>by
  have h:=zGR t H k hk
  have h2:10 ^ k<=10 ^ 6:=Nat.pow_le_pow_right (by decide) (by omega)
  omega
 have HR:=zB (show zG5 t=(Zy t t.size:Int) by
  unfold zG5
  rw [yO]
  rw [zCd]
  exact ⟨hn.1,h6,H⟩)
 have HD:=zB H
 have HV:=zB K
 have HN:=zB hn
 clear hn H K
 go_enter Tryz.func55,Tryz.ntmps55
 go_wp2_with (go_at_call 79; refine (zAW _ _ hs).mono ?_; rintro e w' ⟨⟨v,rfl,hv⟩,hx⟩; obtain rfl:=hx.symm; obtain rfl:v=true:=(by cases v; exact (hv.2 (zA HN)); rfl); clear hv)
 go_loop [3,4] (fun x i=>∃ k:Nat,k<=t.size/\i = .int .i64 (k:Int)/\x = .int .i64 (Zy t k:Int)) (fun _ i=>t.size-(intOf i).toNat)
 case atStart=>exact ⟨0,yj _,rfl,rfl⟩
 case round=>
  obtain ⟨k,hk,rfl,rfl⟩:=hrel
  by_cases q:k<t.size
  ·have y:(k:Int)<(t.size:Int):=by omega
   have h1:=(zA HV) k hk
   obtain ⟨d1,d2⟩:=(zA HD) k q
   have hb:=ZP q
   rw [<- hb] at d1 d2
   have HB:=zB hb
   have d1I:(48:Int)<=(t[k].toNat:Int):=by omega
   have d2I:(t[k].toNat:Int)<=57:=by omega
   have j:(Zy t k:Int)<1000000:=by omega
   have Y:(0:Int)<=(Zy t k:Int):=by omega
   clear hb
   go_wp2
   refine ⟨⟨k+1,by omega,by go_num,?_⟩,by simp [intOf]; omega⟩
   simp only [Zy]
   rw [<- zA HB]
   go_num
  ·have HK:=zB (show k=t.size by omega)
   go_wp2
   go_ret
   exact ⟨zJ (by rw [zA HR,zA HK]),rfl⟩
end Go.Proofs.YtgbkgkdpdfdokaaGreatDoor
